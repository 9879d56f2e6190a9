/- A part. -/
import Derived.Test.YtnapepbdohidgaaGreatDoorQL16
set_option maxHeartbeats 4000000
set_option maxRecDepth 100000
open Go renaming Value->Wx
namespace Go.Proofs.Qw
section
open Go.Conc Go.ConcX Go.ConcX.Gen Go.RowKit
theorem kW:∀ (l:List ItD)(i:Nat)(a:i<l.length),(an l)[i * 3]?=some (.int .i64 l[i].kind)/\(an l)[i * 3+1]?=some (.string l[i].text)/\(an l)[i * 3+2]?=some (.int .i64 l[i].ver)
 | [],i,a=>by simp at a
 |z::l,0,a=>by simp [an]
 |z::l,i+1,a=>by
  have ih:=kW l i (by simpa using a);have e:an (z::l)=[.int .i64 z.kind,.string z.text,.int .i64 z.ver]++an l:=by simp [an]
  have b:∀j,(an (z::l))[(i+1) * 3+j]?=(an l)[i * 3+j]?:=fun j=>by
   rw [e,aR (by simp;omega)];congr 1;simp;omega
  simp only [List.getElem_cons_succ];exact ⟨(b 0).trans ih.1,(b 1).trans ih.2.1,(b 2).trans ih.2.2⟩
structure j3 (w:World)(v:Wx)(its:List ItD):Prop where
 form:∃a cap,v=.slice a its.length cap/\(its≠[]->∃g,a=some ⟨g,0,none⟩/\∀j,j<its.length * 3->w.cell? ⟨g,j,none⟩=(an its)[j]?)
theorem bO.its {A:Nat->Prop}{w:World}{v:Wx}{its:List ItD}(h:bO A w v its.length (an its)):j3 w v its:=by
 obtain ⟨a,cap,rfl,-,hx⟩:=h;refine ⟨a,cap,rfl,fun hne=>?_⟩;obtain ⟨g,rfl,-,-,hc⟩:=hx (by
  cases its with
  |nil=>exact absurd rfl hne
  |cons i r=>simp [an])
 exact ⟨g,rfl,fun j b=>hc j (by rw [eb];exact b)⟩
theorem j3.left {w w':World}{v:Wx}{its:List ItD}(h:j3 w v its)(hl:au w w'):j3 w' v its:=by
 obtain ⟨a,cap,rfl,hx⟩:=h.form;refine ⟨a,cap,rfl,fun hne=>?_⟩;obtain ⟨g,rfl,hc⟩:=hx hne;refine ⟨g,rfl,fun j b=>?_⟩;have:=hc j b;rw [<-this];have hlt:j<(an its).length:=by rw [eb];exact b
 rw [eL hlt] at this;exact (hl.cell this).trans this.symm
theorem ws {w:World}{a:Nat}{v:Wx}{its:List ItD}(h:w.ownsRow a 41 3 v its.length (an its)):j3 w v its:=by
 rcases h.2 with ⟨rfl,h0⟩|⟨g,cap,cur,rfl,hbg,hg,hnc,hcm,hcs,htake⟩
 .exact ⟨none,0,by rw [h0],fun hne=>absurd (List.length_eq_zero_iff.1 h0) hne⟩
 .exact ⟨_,cap,rfl,fun _=>⟨g,rfl,fun j b=>h.cellAt j b⟩⟩
@[simp] theorem G6:Yq.prog.stoodInHeld 41=false:=by kernel_rfl
end
section
open Go.RowKit
theorem Eh (p x y:List UInt8):p++x<p++y↔x<y:=by
 induction p with
 |nil=>simp
 |cons a p ih=>simp [ih]
theorem sK (n:Nat):∀ (f:List UInt8->List Ver)(bs:List UInt8),(cI n f bs).Pairwise fun a b=>a.1<b.1:=by
 induction n with
 |zero=>intro f bs;simp [cI]
 |succ n ih=>
  intro f bs;have hk:∀b,∀x∈cI n (fun k=>f (b::k)) (bs++[b]),∃r,x.1=bs++(b::r):=fun b x hx=>by
   obtain ⟨r,hr⟩:=(sa n _ _ x hx).1;exact ⟨r,by rw [<-hr];simp⟩
  rw [cI,List.pairwise_append];refine ⟨?_,?_,?_⟩
  .split<;>simp
  .have hs:=ji;generalize yT=l at hs;induction l with
   |nil=>simp
   |cons b l d=>
    obtain ⟨h1,h2⟩:=List.pairwise_cons.1 hs;rw [List.flatMap_cons,List.pairwise_append];refine ⟨ih _ _,d h2,fun x hx y hy=>?_⟩;obtain ⟨c,hc,hy⟩:=List.mem_flatMap.1 hy;obtain ⟨r,hr⟩:=hk b x hx;obtain ⟨r',e⟩:=hk c y hy;rw [hr,e,Eh,List.cons_lt_cons_iff];exact .inl (h1 c hc)
  .intro x hx y hy;obtain ⟨c,-,hy⟩:=List.mem_flatMap.1 hy;obtain ⟨r,hr⟩:=hk c y hy;split at hx
   .simp at hx
   .simp only [List.mem_singleton] at hx;subst hx;rw [hr];have:=(Eh bs [] (c::r)).2 (by simp);simpa using this
theorem sL (f:List UInt8->List Ver)(p:List UInt8):(cD f p).Pairwise fun a b=>a.1<b.1:=sK _ _ _
theorem ju:∀ (c k x:List UInt8),c <+:k->¬x<c->x<k->c <+:x
 | [],_,x,_,_,_=>List.nil_prefix
 |a::c,k,x,h,h1,h2=>by
  obtain ⟨r,rfl⟩:=h;cases x with
  |nil=>exact absurd (by simp) h1
  |cons b x=>
   rw [List.cons_append,List.cons_lt_cons_iff] at h2;rw [List.cons_lt_cons_iff] at h1;rcases h2 with h2|⟨rfl,h2⟩
   .exact absurd (.inl h2) h1
   .have:=ju c (c++r) x (List.prefix_append _ _) (fun e=>h1 (.inr ⟨rfl,e⟩)) h2;exact List.cons_prefix_cons.2 ⟨rfl,this⟩
theorem Bb (d u r:List UInt8)(h:d.length<=u.length):d.isPrefixOf (u++r)=d.isPrefixOf u:=by
 rw [Bool.eq_iff_iff,List.isPrefixOf_iff_prefix,List.isPrefixOf_iff_prefix];constructor
 .intro hp;exact List.prefix_of_prefix_length_le hp (List.prefix_append u r) h
 .intro hp;exact hp.trans (List.prefix_append u r)
theorem iw {d:List UInt8}(hd:d≠[]):∀ (s:List UInt8)(i:Nat),dj d s=some i->i+d.length<=s.length
 | [],i,h=>by simp [dj,hd] at h
 |b::r,i,h=>by
  rw [dj] at h;split at h
  .rename_i hp;cases h;have:=(List.isPrefixOf_iff_prefix.1 hp).length_le;omega
  .cases hs:dj d r with
   |none=>simp [hs] at h
   |some j=>
    have:=iw hd r j hs;simp [hs] at h;simp only [lC];omega
theorem sM {d:List UInt8}(hd:d≠[])(r r':List UInt8):∀ (u:List UInt8)(i:Nat),u.length=i+d.length->dj d (u++r)=some i->dj d (u++r')=some i
 | [],i,hl,h=>by
  have:0<d.length:=List.length_pos_iff.2 hd;simp only [lN] at hl;omega
 |b::u,i,hl,h=>by
  have hle:d.length<=(b::u).length:=by omega
  rw [List.cons_append,dj] at h ⊢;rw [<-List.cons_append,Bb d _ _ hle] at h ⊢;by_cases hp:d.isPrefixOf (b::u)=true
  .rw [if_pos hp] at h ⊢;exact h
  .rw [if_neg hp] at h ⊢;cases hs:dj d (u++r) with
   |none=>simp [hs] at h
   |some j=>
    simp [hs] at h;have:=sM hd r r' u j (by simp only [lC] at hl;omega) hs;rw [this];simp [h]
theorem o9 {q:Qy}{k c x:List UInt8}(h:aP q k=some c)(hx:c <+:x):aP q x=some c:=by
 unfold aP at h ⊢;by_cases h0:q.d.size=0
 .simp [h0] at h
 .rw [if_neg h0] at h ⊢;have hd:q.d.data.toList≠[]:=fun e=>h0 (by simpa using congrArg List.length e)
  have hds:q.d.data.toList.length=q.d.size:=by simp
  cases hs:dj q.d.data.toList (k.drop q.p.size) with
  |none=>simp [hs] at h
  |some i=>
   simp only [hs,Option.map_some,oI] at h;have hl:=iw hd _ i hs;rw [lD,hds] at hl;have hpos:0<q.d.size:=by omega
   have hcl:c.length=q.p.size+i+q.d.size:=by rw [<-h,tL];omega
   obtain ⟨r,rfl⟩:=hx;have hk:k=c++k.drop (q.p.size+i+q.d.size):=by rw [<-h];exact (List.take_append_drop _ _).symm
   have e1:k.drop q.p.size=c.drop q.p.size++k.drop (q.p.size+i+q.d.size):=by
    conv=>lhs;rw [hk]
    rw [List.drop_append_of_le_length (by omega)]
   have e2:(c++r).drop q.p.size=c.drop q.p.size++r:=List.drop_append_of_le_length (by omega);rw [e1] at hs;rw [e2,sM hd _ r (c.drop q.p.size) i (by rw [lD,hds];omega) hs];simp only [Option.map_some,oI];rw [List.take_append_of_le_length (by omega),tO (by omega)]
theorem iP {q:Qy}{k c:List UInt8}(h:aP q k=some c):c <+:k:=by
 unfold aP at h;split at h
 .cases h
 .cases hs:dj q.d.data.toList (k.drop q.p.size) with
  |none=>simp [hs] at h
  |some i=>
   simp only [hs,Option.map_some,oI] at h;rw [<-h];exact List.take_prefix _ _
def txt (x:ItD):List UInt8:=x.text.data.toList
theorem pa:∀ {c k:List UInt8},c <+:k->¬k<c
 | [],k,_=>by simp
 |a::c,k,h=>by
  obtain ⟨r,rfl⟩:=h;rw [List.cons_append,List.cons_lt_cons_iff];rintro (h|⟨-,h⟩)
  .exact absurd h (by simp)
  .exact pa (List.prefix_append c r) h
theorem G7 {a b:List UInt8}(h:¬a<b)(hne:a≠b):b<a:=
 Classical.byContradiction fun h2=>hne (List.le_antisymm (List.not_lt.1 h2) (List.not_lt.1 h))
theorem Ei {c k x:List UInt8}(h:c <+:k)(hk:k<x):c<x:=by
 by_cases e:c=k
 .rw [e];exact hk
 .exact List.lt_trans (G7 (pa h) (fun h=>e h.symm)) hk
end
section
open Go.Conc Go.ConcX Go.ConcX.Gen Go.RowKit
theorem Bc (n:Nat):∀ (f:List UInt8->List Ver)(bs k:List UInt8),k.length<n->f k≠[]->(bs++k,f k)∈cI n f bs:=by
 induction n with
 |zero=>intro f bs k hk;omega
 |succ n ih=>
  intro f bs k hk hf;rw [cI,List.mem_append];cases k with
  |nil=>left;simp [hf]
  |cons b k=>
   right
   refine List.mem_flatMap.2 ⟨b,mJ b,?_⟩;have:=ih (fun k=>f (b::k)) (bs++[b]) k (by simpa using hk) hf;simpa using this
theorem wu (n pg:Int):dM n pg≠⟨#[]⟩:=by
 intro h;have:=congrArg (fun b=>b.data.size) h;simp [dM] at this
def sA:ByteArray:=⟨#[97]⟩
def LsA.all (x:LsA):List ItD:=bD x.q (cD x.f x.q.p.data.toList)
theorem pd (l:Lst)(p i:Nat)(hs:l.size=p)(hp:p<=20)(a:i<=1000):∀ (its:List ItD)(k:Nat),k+its.length<=2000->dW l ((i:Int)+1) k its=(its.take ((i+1) * p-k)).drop (i * p-k)
 | [],k,_=>by simp [dW]
 |x::r,k,h=>by
  have hb:(i+1) * p<=20020:=lT (Nat.mul_le_mul (show i+1<=1001 by omega) hp) (by omega);have e0:(i+1) * p=i * p+p:=by rw [Nat.add_mul,Nat.one_mul]
  have e1:IntKind.i64.wrap (((i:Int)+1) * l.size)=((i+1) * p:Nat):=by
   rw [hs,wrap_small _ (by rw [<-Int.natCast_one,<-Int.natCast_add,<-Int.natCast_mul];omega) (by rw [<-Int.natCast_one,<-Int.natCast_add,<-Int.natCast_mul];omega)];rw [Int.natCast_mul,Int.natCast_add];rfl
  have e2:IntKind.i64.wrap (IntKind.i64.wrap (((i:Int)+1) * l.size)-l.size)=(i * p:Nat):=by
   rw [e1,hs,wrap_small _ (by omega) (by omega)];omega
  simp only [lC] at h;have ih:=pd l p i hs hp a r (k+1) (by omega);rw [dW,ih];have hin:gO l ((i:Int)+1) ((k:Int)+1)=decide (i * p<=k/\k<(i+1) * p):=by
   unfold gO;rw [e2,e1,Bool.decide_and];congr 1
   .exact decide_eq_decide.2 (by omega)
   .exact decide_eq_decide.2 (by omega)
  rw [hin];by_cases h1:k<(i+1) * p
  .have e3:(i+1) * p-k=((i+1) * p-(k+1))+1:=by omega
   rw [e3,List.take_succ_cons];by_cases h2:i * p<=k
   .rw [decide_eq_true ⟨h2,h1⟩,if_pos rfl,show i * p-k=0 by omega,show i * p-(k+1)=0 by omega];rfl
   .rw [decide_eq_false (fun h=>h2 h.1),if_neg (by simp),show i * p-k=(i * p-(k+1))+1 by omega];rfl
  .rw [decide_eq_false (fun h=>h1 h.2),if_neg (by simp),show (i+1) * p-k=0 by omega,show (i+1) * p-(k+1)=0 by omega];simp
section
variable {x:LsA} {p i:Nat}
theorem LsA.page_cut (hs:x.size=p)(hp:p<=20)(a:i<=1000)(hl:x.all.length<=1000):x.page ((i:Int)+1)=(x.all.take ((i+1) * p)).drop (i * p):=
 pd (x.lst none) p i hs hp a x.all 0 (by omega)
theorem LsA.tok_cut (hs:x.size=p)(hp:p<=20)(hi:i<=1000):x.tok ((i:Int)+1)=if (i+1) * p<x.all.length then dM x.num ((i:Int)+2) else ⟨#[]⟩:=by
 have hb:(i+1) * p<=20020:=lT (Nat.mul_le_mul (show i+1<=1001 by omega) hp) (by omega);have e1:IntKind.i64.wrap (((i:Int)+1) * x.size)=((i+1) * p:Nat):=by
  rw [hs,wrap_small _ (by rw [<-Int.natCast_one,<-Int.natCast_add,<-Int.natCast_mul];omega) (by rw [<-Int.natCast_one,<-Int.natCast_add,<-Int.natCast_mul];omega)];rw [Int.natCast_mul,Int.natCast_add];rfl
 have e2:IntKind.i64.wrap ((i:Int)+1+1)=(i:Int)+2:=by rw [wrap_small _ (by omega) (by omega)];omega
 show Da (x.lst none) _ x.all.length=_;unfold Da;show (if IntKind.i64.wrap (((i:Int)+1) * x.size)<(x.all.length:Int) then dM x.num (IntKind.i64.wrap ((i:Int)+1+1)) else _)=_;rw [e1,e2];by_cases h:(i+1) * p<x.all.length
 .rw [if_pos h,if_pos (by omega)]
 .rw [if_neg h,if_neg (by omega)]
end
theorem iQ (u:Nat)(h:¬u<10):Lib.decDigits u=Lib.decDigits (u / 10)++[UInt8.ofNat (48+u % 10)]:=by rw [Lib.decDigits,dif_neg h]
theorem Ej (u:Nat):Lib.decDigits u≠[]:=by
 by_cases h:u<10
 .rw [Lib.decDigits_one h];simp
 .rw [iQ u h];simp
theorem Bd {a b:Nat}(ha:a<10)(hb:b<10)(h:UInt8.ofNat (48+a)=UInt8.ofNat (48+b)):a=b:=by
 have:=congrArg UInt8.toNat h;simp only [UInt8.toNat_ofNat'] at this;omega
theorem Be:∀u v:Nat,Lib.decDigits u=Lib.decDigits v->u=v:=fun u=>by
 induction u using Nat.strongRecOn with
 |ind u ih=>
  intro v h;by_cases a:u<10<;>by_cases hv:v<10
  .rw [Lib.decDigits_one a,Lib.decDigits_one hv] at h;exact Bd a hv (List.cons.inj h).1
  .rw [Lib.decDigits_one a,iQ v hv] at h;have:=congrArg List.length h;have h2:=List.length_pos_iff.2 (Ej (v / 10));simp only [lP,lS] at this;omega
  .rw [Lib.decDigits_one hv,iQ u a] at h;have:=congrArg List.length h;have h2:=List.length_pos_iff.2 (Ej (u / 10));simp only [lP,lS] at this;omega
  .rw [iQ u a,iQ v hv] at h;obtain ⟨h1,h2⟩:=List.append_inj' h rfl;have e1:=ih (u / 10) (by omega) _ h1;have e2:=Bd (by omega) (by omega) (List.cons.inj h2).1;omega
theorem Bf:∀u:Nat,∀x∈Lib.decDigits u,x≠46:=fun u=>by
 induction u using Nat.strongRecOn with
 |ind u ih=>
  have hd:∀a,a<10->UInt8.ofNat (48+a)≠46:=fun a ha e=>by
   have:=congrArg UInt8.toNat e;simp only [UInt8.toNat_ofNat'] at this;have h46:(46:UInt8).toNat=46:=rfl;omega
  intro x hx;by_cases b:u<10
  .rw [Lib.decDigits_one b,List.mem_singleton] at hx;subst hx;exact hd u b
  .rw [iQ u b,List.mem_append,List.mem_singleton] at hx;rcases hx with hx|rfl
   .exact ih (u / 10) (by omega) x hx
   .exact hd _ (by omega)
theorem Bg:∀ (a c b d:List UInt8),(∀x∈a,x≠46)->(∀x∈c,x≠46)->a++46::b=c++46::d->a=c/\b=d
 | [],[],b,d,_,_,h=>⟨rfl,(List.cons.inj h).2⟩
 | [],y::c,b,d,_,hc,h=>absurd (List.cons.inj h).1.symm (hc y (by simp))
 |x::a,[],b,d,ha,_,h=>absurd (List.cons.inj h).1 (ha x (by simp))
 |x::a,y::c,b,d,ha,hc,h=>by
  obtain ⟨h1,h2⟩:=List.cons.inj h;obtain ⟨h3,h4⟩:=Bg a c b d (fun z hz=>ha z (by simp [hz])) (fun z hz=>hc z (by simp [hz])) h2;exact ⟨by rw [h1,h3],h4⟩
theorem Bh {a b c d:Nat}(h:dM a b=dM c d):a=c/\b=d:=by
 unfold dM at h;rw [jV,jV,jV,jV] at h;have e:Lib.decDigits a++46::Lib.decDigits b=Lib.decDigits c++46::Lib.decDigits d:=congrArg (fun b:ByteArray=>b.data.toList) h;obtain ⟨h1,h2⟩:=Bg _ _ _ _ (Bf a) (Bf c) e;exact ⟨Be _ _ h1,Be _ _ h2⟩
structure PlL where
 its:List ItD
 v:Wx
 page:Nat
 fin:Int
 gone:Bool
structure PlT where
 text:ByteArray
 ls:Nat
 pg:Nat
def PlL.isOpen (tm:Int)(l:PlL):Bool:=!l.gone&&decide (tm<l.fin)
def opens (tm:Int)(P:List PlL):List (PlL×Nat):=P.zipIdx.filter fun z=>z.1.isOpen tm
def LsA.key (x:LsA):Int×Int×List ItD×Int:=(x.num,x.left,x.all,x.size)
def GF (tm:Int)(z:PlL×Nat):Int×Int×List ItD×Int:=((z.2:Int)+1,z.1.fin-tm,z.1.its,z.1.page)
structure my (L:Lg)(P:List PlL)(T:List PlT)(tm:Int)(s:Nat):Prop where
 time:L.tm=tm/\0<=tm/\tm<=1000 * s
 begun:L.begun=P.length
 few:P.length<=s/\T.length<=s
 opened:L.opened.map LsA.key=(opens tm P).map (GF tm)
 lists:∀l∈P,1<=l.page/\l.page<=20/\l.its.length<=200/\l.fin<=1000 * s+10/\0<=l.fin
 toks:∀t∈T,t.text=dM ((t.ls+1:Nat):Int) ((t.pg+1:Nat):Int)/\∃l,P[t.ls]?=some l/\t.pg * l.page<l.its.length
 told:∀k n pg,iu k L.told=some (n,pg)->∃t∈T,t.text=k/\n=(t.ls:Int)+1/\pg=(t.pg:Int)+1
 here:∀t∈T,iu t.text L.told≠none
theorem yv (tm:Int)(P:List PlL)(l:PlL):opens tm (P++[l])=opens tm P++if l.isOpen tm then [(l,P.length)] else []:=by
 unfold opens;rw [List.zipIdx_append,List.filter_append];congr 1;simp only [List.zipIdx_cons,List.zipIdx_nil,zA];by_cases h:l.isOpen tm=true<;>simp [h]
theorem Bi (tm:Int)(P:List PlL):(opens tm P).length=(P.filter (PlL.isOpen tm)).length:=by
 have e:P.filter (PlL.isOpen tm)=(opens tm P).map (·.1):=by
  conv=>lhs;rw [<-List.zipIdx_map_fst 0 P]
  rw [List.filter_map];rfl
 rw [e,lM]
theorem my.count {L:Lg}{P:List PlL}{T:List PlT}{tm:Int}{s:Nat}(h:my L P T tm s):(opens tm P).length=L.opened.length:=by
 have:=congrArg List.length h.opened;simpa using this.symm
theorem my.mono {L:Lg}{P:List PlL}{T:List PlT}{tm:Int}{s s':Nat}(h:my L P T tm s)(hs:s<=s'):my L P T tm s':=
 ⟨⟨h.time.1,h.time.2.1,by have:=h.time.2.2;omega⟩,h.begun,⟨by have:=h.few;omega,by have:=h.few;omega⟩,h.opened,fun l hl=>by have:=h.lists l hl;omega,h.toks,h.told,h.here⟩
theorem G8:my ⟨[],0,[],0⟩ [] [] 0 0:=⟨by simp,rfl,by simp,rfl,by simp,by simp,by simp [iu],by simp⟩
theorem my.token {L:Lg}{P:List PlL}{T:List PlT}{tm:Int}{s:Nat}(h:my L P T tm s)(a pg:Nat):∀t∈T,(t.ls=a/\t.pg=pg)↔t.text=dM ((a+1:Nat):Int) ((pg+1:Nat):Int):=fun t ht=>by
 rw [(h.toks t ht).1];constructor
 .rintro ⟨rfl,rfl⟩;rfl
 .intro e;obtain ⟨h1,h2⟩:=Bh e;omega
theorem yw (L:Lg)(f:List UInt8->List Ver)(q:Qy)(n:Int)(its:List ItD)(a:bD q (cD f q.p.data.toList)=its)(hlen:its.length<=1000):
  ((n<1\/20<n)/\ez L f q n=(L,[],⟨#[]⟩,7))\/∃p:Nat,n=(p:Int)/\1<=p/\p<=20/\((its.length<=p/\ez L f q n=(L,its,⟨#[]⟩,0))\/(p<its.length/\3<=L.opened.length/\ez L f q n=(L,[],⟨#[]⟩,8)) \/
   (p<its.length/\L.opened.length<3/\ez L f q n=(⟨L.opened++[gC L f q n],L.begun+1,mt (dM (L.begun+1) 2) (L.begun+1,2) L.told,L.tm⟩,its.take p,dM (L.begun+1) 2,0))):=by
 by_cases h:n<1\/20<n
 .exact .inl ⟨h,by rw [ez,if_pos h]⟩
 .right
  refine ⟨n.toNat,by omega,by omega,by omega,?_⟩;obtain ⟨p,hp⟩:∃p:Nat,n.toNat=p:=⟨_,rfl⟩;rw [hp];have hs:(gC L f q n).size=(p:Int):=by show n=(p:Int);omega
  have ha:(gC L f q n).all=its:=a;have h1:=LsA.tok_cut (x:=gC L f q n) (p:=p) (i:=0) hs (by omega) (by omega);have h2:=LsA.page_cut (x:=gC L f q n) (p:=p) (i:=0) hs (by omega) (by omega) (by rw [ha];exact hlen);rw [ha] at h1 h2;simp only [zA,Nat.one_mul,Nat.zero_mul,List.drop_zero,Int.natCast_zero,Int.zero_add] at h1 h2;have hn:(gC L f q n).num=L.begun+1:=rfl;rw [hn] at h1;rw [ez,if_neg h];by_cases h3:its.length<=p
  .rw [if_neg (show ¬p<its.length by omega)] at h1;rw [tO h3] at h2;exact .inl ⟨h3,by rw [if_pos h1,h2]⟩
  .rw [if_pos (show p<its.length by omega)] at h1;rw [h1,if_neg (wu _ _),h2];by_cases h4:3<=L.opened.length
   .exact .inr (.inl ⟨by omega,h4,by rw [if_pos h4]⟩)
   .exact .inr (.inr ⟨by omega,by omega,by rw [if_neg h4]⟩)
theorem my.push {L:Lg}{P:List PlL}{T:List PlT}{tm:Int}{s:Nat}(h:my L P T tm s)(f:List UInt8->List Ver)(q:Qy)(p:Nat)(its:List ItD)(v:Wx)(a:bD q (cD f q.p.data.toList)=its)(hlen:its.length<=200)(hp:1<=p/\p<=20)(hpl:p<its.length):
  my ⟨L.opened++[gC L f q p],L.begun+1,mt (dM (L.begun+1) 2) (L.begun+1,2) L.told,L.tm⟩ (P++[⟨its,v,p,tm+10,false⟩]) (T++[⟨dM (L.begun+1) 2,P.length,1⟩]) tm (s+1):=by
 have hb:=h.begun;have ht:=h.time;have hf:=h.few;have b:dM (L.begun+1) 2=dM ((P.length+1:Nat):Int) ((1+1:Nat):Int):=by
  rw [hb];rfl
 refine ⟨⟨ht.1,ht.2.1,by omega⟩,by rw [lP];simp only [lS];omega,by rw [lP,lP];simp only [lS];omega,?_,fun l hl=>?_,fun t hx=>?_,fun k n pg e=>?_,fun t hx=>?_⟩
 .have ho:PlL.isOpen tm ⟨its,v,p,tm+10,false⟩=true:=by simp [PlL.isOpen];omega
  rw [yv,if_pos ho,List.map_append,List.map_append,h.opened];congr 1;simp only [List.map_cons,List.map_nil,LsA.key,GF,gC,LsA.all,a,hb];congr 3;omega
 .rcases List.mem_append.1 hl with hl|hl
  .have:=h.lists l hl;omega
  .rw [List.mem_singleton.1 hl];simp only;omega
 .rcases List.mem_append.1 hx with hx|hx
  .obtain ⟨h1,l,h2,h3⟩:=h.toks t hx;exact ⟨h1,l,by rw [aL (List.getElem?_eq_some_iff.1 h2).1];exact h2,h3⟩
  .rw [List.mem_singleton.1 hx];exact ⟨b,_,by rw [aR (lR _),Nat.sub_self];rfl,by simp only;omega⟩
 .simp only [iO] at e;split at e
  .rename_i e1;cases e;exact ⟨⟨dM (L.begun+1) 2,P.length,1⟩,by simp,e1.symm,by simp only;omega,rfl⟩
  .obtain ⟨t,h1,h2⟩:=h.told k n pg e;exact ⟨t,List.mem_append_left _ h1,h2⟩
 .simp only [iO];split
  .simp
  .rename_i e1;rcases List.mem_append.1 hx with hx|hx
   .exact h.here t hx
   .exact absurd (by rw [List.mem_singleton.1 hx]) e1
end
section
open Go.RowKit
def dN (a b:ItD):Prop:=txt a<txt b\/(txt a=txt b/\((a.kind≠2/\b.kind=2)\/((a.kind=2↔b.kind=2)/\b.ver<a.ver)))
theorem nU {a b c:ItD}(h1:dN a b)(h2:dN b c):dN a c:=by
 rcases h1 with h1|⟨e1,h1⟩<;>rcases h2 with h2|⟨e2,h2⟩
 .exact .inl (List.lt_trans h1 h2)
 .exact .inl (e2▸h1)
 .exact .inl (e1▸h2)
 .exact .inr ⟨e1.trans e2,by omega⟩
theorem uO {a b:ItD}(h1:dN a b)(h2:dN b a):False:=by
 rcases h1 with h1|⟨e1,h1⟩<;>rcases h2 with h2|⟨e2,h2⟩
 .exact List.lt_irrefl _ (List.lt_trans h1 h2)
 .rw [e2] at h1;exact List.lt_irrefl _ h1
 .rw [e1] at h2;exact List.lt_irrefl _ h2
 .omega
theorem Bj {α:Type}{r:α->α->Prop}(hr:∀a b,r a b->r b a->False):∀ (l m:List α),l.Pairwise r->m.Pairwise r->(∀x,x∈l↔x∈m)->l=m
 | [],[],_,_,_=>rfl
 | [],b::_,_,_,h=>absurd ((h b).2 (by simp)) (by simp)
 |a::_,[],_,_,h=>absurd ((h a).1 (by simp)) (by simp)
 |a::l,b::m,h1,h2,h=>by
  obtain ⟨h3,h4⟩:=List.pairwise_cons.1 h1;obtain ⟨h5,h6⟩:=List.pairwise_cons.1 h2;have e:a=b:=by
   rcases List.mem_cons.1 ((h a).1 (by simp)) with e|e
   .exact e
   .rcases List.mem_cons.1 ((h b).2 (by simp)) with e2|e2
    .exact e2.symm
    .exact (hr _ _ (h5 a e) (h3 b e2)).elim
  subst e;have hne:∀x,(x∈l->x≠a)/\(x∈m->x≠a):=fun x=>⟨fun hx e=>by subst e;exact hr _ _ (h3 _ hx) (h3 _ hx),fun hx e=>by subst e;exact hr _ _ (h5 _ hx) (h5 _ hx)⟩
  refine congrArg _ (Bj hr l m h4 h6 fun x=>⟨fun hx=>?_,fun hx=>?_⟩)
  .exact ((List.mem_cons.1 ((h x).1 (by simp [hx]))).resolve_left ((hne x).1 hx))
  .exact ((List.mem_cons.1 ((h x).2 (by simp [hx]))).resolve_left ((hne x).2 hx))
def mz (a b:ItD):Bool:=if a.text=b.text then (if decide (a.kind=2)=decide (b.kind=2) then decide (b.ver<a.ver) else decide (b.kind=2)) else decide (txt a<txt b)
theorem FN {a b:ItD}(h:txt a=txt b):a.text=b.text:=by
 unfold txt at h;cases ha:a.text;cases hb:b.text;rw [ha,hb] at h;simp only [ByteArray.mk.injEq];exact Array.toList_inj.1 h
theorem sO (a b:ItD):mz a b=true↔dN a b:=by
 unfold mz dN;by_cases h:a.text=b.text
 .have e:txt a=txt b:=by unfold txt;rw [h]
  rw [if_pos h,e];have c:¬txt b<txt b:=List.lt_irrefl _;by_cases h1:a.kind=2<;>by_cases h2:b.kind=2<;>simp [h1,h2,c]
 .have e:txt a≠txt b:=fun e=>h (FN e)
  rw [if_neg h];simp [e]
def atN (x:ItD)(l:List ItD):Nat->Nat
 | 0=>0
 |i+1=>match l[i]? with
  |some y=>if mz y x then i+1 else atN x l i
  |none=>atN x l i
theorem Ek (x:ItD)(l:List ItD):∀i,atN x l i<=i
 | 0=>lR _
 |i+1=>by
  unfold atN;have:=Ek x l i;split
  .split<;>omega
  .omega
theorem Bk (x:ItD)(l:List ItD)(hs:l.Pairwise dN):∀i,i<=l.length->∀j (h:j<l.length),j<atN x l i->dN l[j] x
 | 0,_,j,_,hj=>absurd hj (by simp [atN])
 |i+1,hi,j,h,hj=>by
  unfold atN at hj;rw [eL (by omega)] at hj;simp only at hj;split at hj
  .rename_i hl;have h1:=(sO _ _).1 hl;by_cases e:j=i
   .subst e;exact h1
   .exact nU (List.pairwise_iff_getElem.1 hs j i h (by omega) (by omega)) h1
  .exact Bk x l hs i (by omega) j h hj
theorem wv (x:ItD)(l:List ItD):∀i,i<=l.length->∀j (h:j<l.length),atN x l i<=j->j<i->¬dN l[j] x
 | 0,_,_,_,_,hj=>absurd hj (by simp)
 |i+1,hi,j,h,h1,hj=>by
  unfold atN at h1;rw [eL (by omega)] at h1;simp only at h1;split at h1
  .omega
  .rename_i hl;by_cases e:j=i
   .subst e;exact fun h2=>hl ((sO _ _).2 h2)
   .exact wv x l i (by omega) j h h1 (by omega)
def BU (a b:ItD):Bool:=decide (a.kind=b.kind)&&decide (a.text=b.text)&&decide (a.ver=b.ver)
theorem qw (a b:ItD):BU a b=true↔a=b:=by
 cases a;cases b;simp [BU,and_assoc]
def aU (l:List ItD)(x:ItD):List ItD:=if l.any (BU · x) then l else l.take (atN x l l.length)++x::l.drop (atN x l l.length)
theorem uP (l:List ItD)(x y:ItD):y∈aU l x↔y=x\/y∈l:=by
 unfold aU;split
 .rename_i h;obtain ⟨z,hz,e⟩:=List.any_eq_true.1 h;rw [qw] at e;subst e;exact ⟨.inr,fun h=>h.elim (fun e=>e▸hz) id⟩
 .have:y∈l↔y∈l.take (atN x l l.length)\/y∈l.drop (atN x l l.length):=by rw [<-List.mem_append,List.take_append_drop]
  rw [this];simp only [List.mem_append,List.mem_cons];constructor
  .rintro (h|h|h)
   .exact .inr (.inl h)
   .exact .inl h
   .exact .inr (.inr h)
  .rintro (h|h|h)
   .exact .inr (.inl h)
   .exact .inl h
   .exact .inr (.inr h)
theorem Bl (l:List ItD)(x:ItD)(hs:l.Pairwise dN)(ht:∀y∈l,y=x\/dN y x\/dN x y):(aU l x).Pairwise dN:=by
 unfold aU;split
 .exact hs
 .rename_i h;have hne:∀y∈l,y≠x:=fun y hy e=>h (List.any_eq_true.2 ⟨y,hy,(qw _ _).2 e⟩)
  have hsp:=hs;rw [<-List.take_append_drop (atN x l l.length) l] at hsp;obtain ⟨h1,h2,h3⟩:=List.pairwise_append.1 hsp;have hlow:∀y∈l.take (atN x l l.length),dN y x:=fun y hy=>by
   obtain ⟨j,d,rfl⟩:=gM hy;rw [tL] at d;rw [List.getElem_take];exact Bk x l hs _ (lR _) j (by omega) (by omega)
  have c:∀y∈l.drop (atN x l l.length),dN x y:=fun y hy=>by
   obtain ⟨j,d,rfl⟩:=gM hy;rw [lD] at d;rw [List.getElem_drop];have hn:=wv x l _ (lR _) (atN x l l.length+j) (by omega) (by omega) (by omega);have hm:l[atN x l l.length+j]'(by omega)∈l:=List.getElem_mem _;rcases ht _ hm with e|e|e
   .exact (hne _ hm e).elim
   .exact (hn e).elim
   .exact e
  refine List.pairwise_append.2 ⟨h1,List.pairwise_cons.2 ⟨c,h2⟩,fun a ha b hb=>?_⟩;rcases List.mem_cons.1 hb with rfl|hb
  .exact hlow a ha
  .exact h3 a ha b hb
def OfK (q:Qy)(k:List UInt8)(h:List Ver)(x:ItD):Prop:=
 fE q k h=true/\((aP q k=none/\x∈bc q.vs k h)\/∃c,aP q k=some c/\x=⟨2,⟨c.toArray⟩,0⟩)
theorem kX {a:Bool}{k:List UInt8}{h:List Ver}{x:ItD}(hx:x∈bc a k h):txt x=k/\x.kind≠2:=by
 unfold bc at hx;split at hx
 .obtain ⟨v,-,rfl⟩:=List.mem_map.1 hx;refine ⟨rfl,?_⟩;show (if v.mark then (4:Int) else 3)≠2;split<;>decide
 .rw [List.mem_singleton] at hx;subst hx;exact ⟨rfl,show (1:Int)≠2 by decide⟩
theorem Bm (d:Bool)(k:List UInt8)(h:List Ver)(hs:h.Pairwise fun a b=>a.num<b.num):(bc d k h).Pairwise dN:=by
 unfold bc;split
 .rw [List.pairwise_map,List.pairwise_reverse];refine hs.imp fun {a b} c=>.inr ⟨rfl,.inr ⟨?_,c⟩⟩
  show (if b.mark then (4:Int) else 3)=2↔(if a.mark then (4:Int) else 3)=2;cases a.mark<;>cases b.mark<;>decide
 .exact List.pairwise_singleton _ _
theorem uQ {q:Qy}{k c:List UInt8}(h:aP q k=some c):c≠[]:=by
 unfold aP at h;split at h
 .cases h
 .rename_i hd;cases hs:dj q.d.data.toList (k.drop q.p.size) with
  |none=>rw [hs] at h;cases h
  |some i=>
   rw [hs] at h;have hlen:=iw (d:=q.d.data.toList) (fun e=>hd (by rw [ByteArray.size,<-lY,e];rfl)) _ i hs;have h1:q.d.data.toList.length=q.d.size:=lY;rw [h1,lD] at hlen;simp only [Option.map_some,oI] at h;subst h;intro e;have:=congrArg List.length e;rw [tL,lN] at this;omega
def GG (q:Qy)(pre:KVs)(st:List ItD×List UInt8):Prop:=
 ∀x,st.1.getLast?=some x->∃kh∈pre,(aP q kh.1=none/\txt x=kh.1)\/(∃c,aP q kh.1=some c/\txt x=c/\st.2=c)
theorem ww {l m:List ItD}(hl:l.Pairwise dN)(hm:m.Pairwise dN)(h:∀x,l.getLast?=some x->∀y∈m,dN x y):(l++m).Pairwise dN:=by
 refine List.pairwise_append.2 ⟨hl,hm,fun a ha b hb=>?_⟩;rcases List.eq_nil_or_concat l with rfl|⟨r,z,rfl⟩
 .simp at ha
 rw [List.concat_eq_append] at ha hl h;have h1:=h z (by simp) b hb;rcases List.mem_append.1 ha with h2|h2
 .exact nU ((List.pairwise_append.1 hl).2.2 a h2 z (by simp)) h1
 .rw [List.mem_singleton] at h2;subst h2;exact h1
theorem Bn (q:Qy):∀ (n:Nat)(pre:KVs),pre.length=n->pre.Pairwise (fun a b=>a.1<b.1)->(∀kh∈pre,kh.2.Pairwise fun a b=>a.num<b.num)->(aD q pre).1.Pairwise dN/\GG q pre (aD q pre):=by
 intro n;induction n with
 |zero=>
  intro pre hl _ _;have:pre=[]:=List.length_eq_zero_iff.1 hl;subst this;exact ⟨List.Pairwise.nil,fun x h=>by simp [aD] at h⟩
 |succ n ih=>
  intro pre hl hs hv;rcases List.eq_nil_or_concat pre with rfl|⟨j,kh,rfl⟩
  .simp at hl
  rw [List.concat_eq_append] at hl hs hv ⊢;obtain ⟨h1,-,h3⟩:=List.pairwise_append.1 hs;have hlt:∀x∈j,x.1<kh.1:=fun x hx=>h3 x hx kh (by simp)
  obtain ⟨hA,i⟩:=ih j (by simp at hl;exact hl) h1 (fun x hx=>hv x (by simp [hx]));rw [lI];generalize aD q j=st at hA i;have d:GG q (j++[kh]) st:=fun x hx=>by
   obtain ⟨y,hy,h⟩:=i x hx;exact ⟨y,by simp [hy],h⟩
  unfold bH;by_cases hw:fE q kh.1 kh.2=true
  .rw [if_pos hw];cases hc:aP q kh.1 with
   |none=>
    simp only;refine ⟨ww hA (Bm _ _ _ (hv kh (by simp))) fun x hx z hz=>?_,fun x hx=>?_⟩
    .refine .inl ?_;rw [(kX hz).1];obtain ⟨y,hy,h⟩:=i x hx;rcases h with ⟨-,e⟩|⟨c,hc',e,-⟩
     .rw [e];exact hlt y hy
     .rw [e];exact Ei (iP hc') (hlt y hy)
    .rw [List.getLast?_append] at hx;cases hg:(bc q.vs kh.1 kh.2).getLast? with
     |none=>
      rw [hg] at hx;simp only [Option.none_or] at hx;exact d x hx
     |some z=>
      rw [hg] at hx;simp only [Option.some_or,oI] at hx;subst hx;exact ⟨kh,by simp,.inl ⟨hc,(kX (List.mem_of_getLast? hg)).1⟩⟩
   |some c=>
    by_cases he:c=st.2
    .simp only [if_pos he];exact ⟨hA,d⟩
    .simp only [if_neg he];refine ⟨ww hA (List.pairwise_singleton _ _) fun x hx z hz=>?_,fun x hx=>?_⟩
     .rw [List.mem_singleton] at hz;subst hz;refine .inl ?_;show txt x<c;obtain ⟨y,hy,h⟩:=i x hx;refine Classical.byContradiction fun hn=>?_
      rcases h with ⟨h0,e⟩|⟨c',hc',e,e2⟩
      .rw [e] at hn;have:=o9 hc (ju c kh.1 y.1 (iP hc) hn (hlt y hy));rw [h0] at this;cases this
      .rw [e] at hn;have k:¬y.1<c:=fun f=>hn (Ei (iP hc') f)
       have:=o9 hc (ju c kh.1 y.1 (iP hc) k (hlt y hy));rw [hc'] at this;cases this;exact he e2.symm
     .simp only [List.getLast?_append,List.getLast?_singleton,Option.some_or,oI] at hx;subst hx;exact ⟨kh,by simp,.inr ⟨c,hc,rfl,rfl⟩⟩
  .rw [if_neg hw];exact ⟨hA,d⟩
theorem sP (q:Qy):∀ (l:KVs)(s:List ItD×List UInt8),(s.2=[]\/⟨2,⟨s.2.toArray⟩,0⟩∈s.1)->∀x,x∈(l.foldl (bH q) s).1↔x∈s.1\/∃kh∈l,OfK q kh.1 kh.2 x
 | [],s,_,x=>by simp
 |kh::l,s,hs,x=>by
  rw [List.foldl_cons];have key:(((bH q s kh).2=[]\/⟨2,⟨(bH q s kh).2.toArray⟩,0⟩∈(bH q s kh).1))/\(x∈(bH q s kh).1↔x∈s.1\/OfK q kh.1 kh.2 x):=by
   unfold bH OfK;by_cases hw:fE q kh.1 kh.2=true
   .rw [if_pos hw];cases hc:aP q kh.1 with
    |none=>
     refine ⟨hs.imp id fun h=>List.mem_append_left _ h,?_⟩;simp [hw]
    |some c=>
     by_cases he:c=s.2
     .simp only [if_pos he];refine ⟨hs,?_⟩;have hne:=uQ hc;have hin:=hs.resolve_left (fun e=>hne (he.trans e));subst he;constructor
      .exact .inl
      .rintro (h|⟨-,h|⟨c',e,rfl⟩⟩)
       .exact h
       .cases h.1
       .cases e;exact hin
     .simp only [if_neg he];refine ⟨.inr (by simp),?_⟩;simp [hw]
   .rw [if_neg hw];exact ⟨hs,by simp [hw]⟩
  rw [sP q l _ key.1 x,key.2];simp only [List.mem_cons,exists_eq_or_imp,or_assoc]
theorem uR (q:Qy)(l:KVs)(x:ItD):x∈bD q l↔∃kh∈l,OfK q kh.1 kh.2 x:=by
 unfold bD aD;rw [sP q l _ (.inl rfl) x];simp
def dX (q:Qy)(l:List ItD)(kh:List UInt8×List Ver):List ItD:=
 if q.p.data.toList.isPrefixOf kh.1&&fE q kh.1 kh.2 then
  match aP q kh.1 with
  |some c=>aU l ⟨2,⟨c.toArray⟩,0⟩
  |none=>(bc q.vs kh.1 kh.2).reverse.foldl aU l
 else l
def eJ (q:Qy)(R:KVs):List ItD:=R.foldl (dX q) []
def Tot (P:ItD->Prop):Prop:=∀x y,P x->P y->x=y\/dN x y\/dN y x
theorem Bo {P:ItD->Prop}(hP:Tot P):∀ (m l:List ItD),l.Pairwise dN->(∀x∈l,P x)->(∀x∈m,P x)->(m.foldl aU l).Pairwise dN/\∀x,x∈m.foldl aU l↔x∈l\/x∈m
 | [],l,h,_,_=>⟨h,fun x=>by simp⟩
 |y::m,l,h,hl,hm=>by
  have hy:=hm y (by simp);obtain ⟨h1,h2⟩:=Bo hP m (aU l y) (Bl l y h fun z hz=>hP z y (hl z hz) hy) (fun x hx=>((uP l y x).1 hx).elim (fun e=>e▸hy) (hl x)) (fun x hx=>hm x (by simp [hx]));refine ⟨h1,fun x=>?_⟩;rw [List.foldl_cons,h2 x,uP,List.mem_cons];constructor
  .rintro ((h|h)|h)
   .exact .inr (.inl h)
   .exact .inl h
   .exact .inr (.inr h)
  .rintro (h|h|h)
   .exact .inl (.inr h)
   .exact .inl (.inl h)
   .exact .inr h
theorem Bp {P:ItD->Prop}(hP:Tot P)(q:Qy)(kh:List UInt8×List Ver)(l:List ItD)(h:l.Pairwise dN)(hl:∀x∈l,P x)(hk:q.p.data.toList <+:kh.1->∀x,OfK q kh.1 kh.2 x->P x):
  (dX q l kh).Pairwise dN/\∀x,x∈dX q l kh↔x∈l\/(q.p.data.toList <+:kh.1/\OfK q kh.1 kh.2 x):=by
 unfold dX;unfold OfK at hk ⊢;by_cases hw:(q.p.data.toList.isPrefixOf kh.1&&fE q kh.1 kh.2)=true
 .rw [if_pos hw];rw [bT,List.isPrefixOf_iff_prefix] at hw;replace hk:=hk hw.1;cases hc:aP q kh.1 with
  |none=>
   rw [hc] at hk;obtain ⟨h1,h2⟩:=Bo hP (bc q.vs kh.1 kh.2).reverse l h hl (fun x hx=>hk x ⟨hw.2,.inl ⟨rfl,List.mem_reverse.1 hx⟩⟩);refine ⟨h1,fun x=>?_⟩;simp only;rw [h2 x,List.mem_reverse];simp [hw]
  |some c=>
   rw [hc] at hk;have hx:=hk _ ⟨hw.2,.inr ⟨c,rfl,rfl⟩⟩;refine ⟨Bl l _ h fun z hz=>hP z _ (hl z hz) hx,fun x=>?_⟩;simp only;rw [uP];simp [hw,Or.comm]
 .rw [if_neg hw];refine ⟨h,fun x=>?_⟩;rw [bT,List.isPrefixOf_iff_prefix] at hw;constructor
  .exact .inl
  .rintro (h|⟨h1,h2,-⟩)
   .exact h
   .exact (hw ⟨h1,h2⟩).elim
theorem Bq {P:ItD->Prop}(hP:Tot P)(q:Qy):∀ (R:KVs)(l:List ItD),l.Pairwise dN->(∀x∈l,P x)->(∀kh∈R,q.p.data.toList <+:kh.1->∀x,OfK q kh.1 kh.2 x->P x) ->
  (R.foldl (dX q) l).Pairwise dN/\∀x,x∈R.foldl (dX q) l↔x∈l\/∃kh∈R,q.p.data.toList <+:kh.1/\OfK q kh.1 kh.2 x
 | [],l,h,_,_=>⟨h,fun x=>by simp⟩
 |kh::R,l,h,hl,hR=>by
  obtain ⟨h1,h2⟩:=Bp hP q kh l h hl (hR kh (by simp));obtain ⟨h3,h4⟩:=Bq hP q R (dX q l kh) h1 (fun x hx=>((h2 x).1 hx).elim (hl x) fun e=>hR kh (by simp) e.1 x e.2) (fun y hy=>hR y (by simp [hy]));refine ⟨h3,fun x=>?_⟩;rw [List.foldl_cons,h4 x,h2 x];simp only [List.mem_cons,exists_eq_or_imp,or_assoc]
def InF (q:Qy)(f:List UInt8->List Ver)(x:ItD):Prop:=∃k,f k≠[]/\OfK q k (f k) x
theorem FO (q:Qy)(f:List UInt8->List Ver)(hf:∀k,(f k).Pairwise fun a b=>a.num<b.num):Tot (InF q f):=fun x y ⟨k,_,hx⟩ ⟨k',_,hy⟩=>by
 by_cases hlt:txt x<txt y
 .exact .inr (.inl (.inl hlt))
 by_cases hgt:txt y<txt x
 .exact .inr (.inr (.inl hgt))
 have he:txt x=txt y:=List.le_antisymm (List.not_lt.1 hgt) (List.not_lt.1 hlt);obtain ⟨-,hx|⟨c,-,rfl⟩⟩:=hx<;>obtain ⟨-,hy|⟨c',-,rfl⟩⟩:=hy
 .have ex:=kX hx.2;have ey:=kX hy.2;have:k=k':=by rw [<-ex.1,<-ey.1,he]
  subst this;have hs:=Bm q.vs k (f k) (hf k);obtain ⟨i,e,rfl⟩:=gM hx.2;obtain ⟨j,d,rfl⟩:=gM hy.2;rcases Nat.lt_trichotomy i j with h|h|h
  .exact .inr (.inl (List.pairwise_iff_getElem.1 hs i j e d h))
  .subst h;exact .inl rfl
  .exact .inr (.inr (List.pairwise_iff_getElem.1 hs j i d e h))
 .exact .inr (.inl (.inr ⟨he,.inl ⟨(kX hx.2).2,rfl⟩⟩))
 .exact .inr (.inr (.inr ⟨he.symm,.inl ⟨(kX hy.2).2,rfl⟩⟩))
 .have:c=c':=he;subst this;exact .inl rfl
theorem Br (f:List UInt8->List Ver)(p:List UInt8)(k:List UInt8)(hk:k.length<=40)(hp:p <+:k)(hf:f k≠[]):(k,f k)∈cD f p:=by
 obtain ⟨r,rfl⟩:=hp;rw [lP] at hk;exact Bc (41-p.length) (fun k=>f (p++k)) p r (by omega) hf
theorem sQ (f:List UInt8->List Ver)(p:List UInt8)(x:List UInt8×List Ver)(hx:x∈cD f p):p <+:x.1/\x.2=f x.1/\x.2≠[]:=by
 obtain ⟨k,h1,h2⟩:=sC _ _ _ x hx;exact ⟨⟨k,h1.symm⟩,by rw [h2,h1],iM _ _ _ x hx⟩
theorem uS (q:Qy)(f:List UInt8->List Ver)(R:KVs)(hf:∀k,(f k).Pairwise fun a b=>a.num<b.num)(hlen:∀k,f k≠[]->k.length<=40)
  (i:∀kh∈R,kh.2=f kh.1/\f kh.1≠[]) (d:∀k,f k≠[]->(k,f k)∈R):eJ q R=bD q (cD f q.p.data.toList):=by
 obtain ⟨h1,h2⟩:=Bq (FO q f hf) q R [] List.Pairwise.nil (fun x hx=>by simp at hx) (fun kh c _ x hx=>⟨kh.1,(i kh c).2,(i kh c).1▸hx⟩);refine Bj (fun _ _=>uO) _ _ h1 (Bn q _ _ rfl (sL f _) fun kh c=>(sQ f _ kh c).2.1▸hf _).1 fun x=>?_
 have e:=uR q (cD f q.p.data.toList) x;unfold bD at e;refine (h2 x).trans (Iff.trans ?_ e.symm);constructor
 .rintro (h|⟨kh,c,hp,h⟩)
  .simp at h
  .obtain ⟨e1,e2⟩:=i kh c;exact ⟨(kh.1,f kh.1),Br f _ kh.1 (hlen _ e2) hp e2,e1▸h⟩
 .rintro ⟨kh,c,h⟩;obtain ⟨h1,h2,h3⟩:=sQ f _ kh c;refine .inr ⟨(kh.1,f kh.1),d _ (h2▸h3),h1,?_⟩;exact h2▸h
end
