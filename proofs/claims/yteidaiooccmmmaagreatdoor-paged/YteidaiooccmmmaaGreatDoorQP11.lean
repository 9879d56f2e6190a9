/- A part. -/
import Derived.Test.YteidaiooccmmmaaGreatDoorQP08
import Derived.Deep.AppendLies
set_option maxHeartbeats 4000000
set_option maxRecDepth 100000
open Go renaming World->Wj,Value->Wx
namespace Go.Proofs.Qw
open Option renaming none->N,some->J
open Bool renaming true->Y,false->Z
open Value renaming int->I,string->U,slice->M,pointer->O,bool->C
open IntKind renaming i64->K
open Obj renaming cells->E
variable {A:St}{W w w' w1:Wj}{B g k s:Nat}{L:Lg}{nx tm:Int}
open Tryz
section
open Go.Conc Go.ConcX Go.ConcX.Gen Go.RowKit
theorem mm:∀ (l:List ItD)(i:Nat)(a:i<l.length),(an l)[i*3]?=J (I K l[i].kind)/\(an l)[i*3+1]?=J (U l[i].text)/\(an l)[i*3+2]?=J (I K l[i].ver)
 | [],i,a=>by simp at a
 |z::l,0,a=>by simp[an]
 |z::l,i+1,a=>by
  have ih:=mm l i (by simpa using a);have e:an (z::l)=[I K z.kind,U z.text,I K z.ver]++an l:=by simp[an]
  have b:∀j,(an (z::l))[(i+1)*3+j]?=(an l)[i*3+j]?:=λj=>by
   rw[e,aR (by simp;omega)];congr 1;simp;omega
  simp only[List.getElem_cons_succ];exact⟨(b 0).trans ih.1,(b 1).trans ih.2.1,(b 2).trans ih.2.2⟩
structure gi (w:Wj)(v:Wx)(its:List ItD):Prop where
 form:∃a cap,v=M a its.length cap/\(its≠[]->∃g,a=J ⟨g,0,N⟩/\∀j,j<its.length*3->w.cell? ⟨g,j,N⟩=(an its)[j]?)
theorem bZ.its{A:Nat->Prop}{v:Wx}{its:List ItD}(h:bZ A w v its.length (an its)):gi w v its:=by
 obtain⟨a,b,rfl,-,f⟩:=h;refine⟨a,b,rfl,λc=>?_⟩;obtain⟨g,rfl,-,-,e⟩:=f (by
  cases its with
  |nil=>exact absurd rfl c
  |cons i r=>simp[an])
 exact⟨g,rfl,λj d=>e j (by rw[eC];exact d)⟩
theorem gi.left{v:Wx}{its:List ItD}(h:gi w v its)(i:au w w'):gi w' v its:=by
 obtain⟨a,b,rfl,k⟩:=h.form;refine⟨a,b,rfl,λd=>?_⟩;obtain⟨g,rfl,f⟩:=k d;refine⟨g,rfl,λj e=>?_⟩;have:=f j e;rw[<-this];have c:j<(an its).length:=by rw[eC];exact e
 rw[eL c]at this;exact(i.cell this).trans this.symm
theorem rC{a:Nat}{v:Wx}{its:List ItD}(h:w.ownsRow a 117 3 v its.length (an its)):gi w v its:=by
 rcases h.2 with⟨rfl,d⟩|⟨g,b,cur,rfl,hbg,hg,hnc,hcm,hcs,htake⟩
 .exact ⟨N,0,by rw[d],λc=>absurd (List.length_eq_zero_iff.1 d) c⟩
 .exact ⟨_,b,rfl,λ_=>⟨g,rfl,λj e=>h.cellAt j e⟩⟩
@[simp] theorem I9:Yq.prog.stoodInHeld 117=false:=by kernel_rfl
end
section
open Go.RowKit
theorem FS(p x y:List UInt8):p++x<p++y↔x<y:=by
 induction p with
 |nil=>simp
 |cons a p ih=>simp[ih]
theorem uj(n:Nat):∀ (f:List UInt8->List Ver)(h:List UInt8),(db n f h).Pairwise λa b=>a.1<b.1:=by
 induction n with
 |zero=>intro f h;simp[db]
 |succ n ih=>
  intro f h;have j:∀b,∀x∈db n (λk=>f (b::k)) (h++[b]),∃r,x.1=h++(b::r):=λb x d=>by
   obtain⟨r,i⟩:=(tK n _ _ x d).1;exact⟨r,by rw[<-i];simp⟩
  rw[db,List.pairwise_append];refine⟨?_,?_,?_⟩
  .split<;>simp
  .have p:=jS;generalize Aw=l at p;induction l with
   |nil=>simp
   |cons b l o=>
    have⟨s,q⟩:=List.pairwise_cons.1 p;rw[List.flatMap_cons,List.pairwise_append];refine⟨ih _ _,o q,λx d y e=>?_⟩;have⟨c,t,e⟩:=List.mem_flatMap.1 e;have⟨r,i⟩:=j b x d;have⟨r',m⟩:=j c y e;rw[i,m,FS,List.cons_lt_cons_iff];exact .inl (s c t)
  .intro x d y e;obtain⟨c,-,e⟩:=List.mem_flatMap.1 e;have⟨r,i⟩:=j c y e;split at d
   .simp at d
   .simp only[List.mem_singleton]at d;subst d;rw[i];have:=(FS h [] (c::r)).2 (by simp);simpa using this
theorem uk(f:List UInt8->List Ver)(p:List UInt8):(cz f p).Pairwise λa b=>a.1<b.1:=uj _ _ _
theorem j3:∀ (c k x:List UInt8),c <+:k->¬x<c->x<k->c <+:x
 | [],_,x,_,_,_=>List.nil_prefix
 |a::c,k,x,h,h1,d=>by
  obtain⟨r,rfl⟩:=h;cases x with
  |nil=>exact absurd (by simp) h1
  |cons b x=>
   rw[List.cons_append,List.cons_lt_cons_iff]at d;rw[List.cons_lt_cons_iff]at h1;rcases d with d|⟨rfl,d⟩
   .exact absurd (.inl d) h1
   .have:=j3 c (c++r) x (List.prefix_append _ _) (λe=>h1 (.inr ⟨rfl,e⟩)) d;exact List.cons_prefix_cons.2 ⟨rfl,this⟩
theorem Cw(d u r:List UInt8)(h:d.length<=u.length):d.isPrefixOf (u++r)=d.isPrefixOf u:=by
 rw[Bool.eq_iff_iff,List.isPrefixOf_iff_prefix,List.isPrefixOf_iff_prefix];constructor
 .intro a;exact List.prefix_of_prefix_length_le a (List.prefix_append u r) h
 .intro a;exact a.trans (List.prefix_append u r)
theorem i8{d:List UInt8}(c:d≠[]):∀ (s:List UInt8)(i:Nat),dx d s=J i->i+d.length<=s.length
 | [],i,h=>by simp[dx,c]at h
 |b::r,i,h=>by
  rw[dx]at h;split at h
  .rename_i e;cases h;have:=(List.isPrefixOf_iff_prefix.1 e).length_le;omega
  .cases a:dx d r with
   |none=>simp[a]at h
   |some j=>
    have:=i8 c r j a;simp[a]at h;simp only[lC];omega
theorem ul{d:List UInt8}(e:d≠[])(r k:List UInt8):∀ (u:List UInt8)(i:Nat),u.length=i+d.length->dx d (u++r)=J i->dx d (u++k)=J i
 | [],i,hl,h=>by
  have:0<d.length:=List.length_pos_iff.2 e;simp only[lN]at hl;omega
 |b::u,i,hl,h=>by
  have c:d.length<=(b::u).length:=by omega
  rw[List.cons_append,dx]at h ⊢;rw[<-List.cons_append,Cw d _ _ c]at h ⊢;by_cases f:d.isPrefixOf (b::u)=Y
  .rw [if_pos f]at h ⊢;exact h
  .rw [if_neg f]at h ⊢;cases a:dx d (u++r)with
   |none=>simp[a]at h
   |some j=>
    simp[a]at h;have:=ul e r k u j (by simp only[lC]at hl;omega) a;rw[this];simp[h]
theorem qj{q:Qy}{k c x:List UInt8}(h:aU q k=J c)(s:c <+:x):aU q x=J c:=by
 unfold aU at h ⊢;by_cases f:q.d.size=0
 .simp [f]at h
 .rw [if_neg f]at h ⊢;have j:q.d.data.toList≠[]:=λe=>f (by simpa using congrArg List.length e)
  have a:q.d.data.toList.length=q.d.size:=by simp
  cases b:dx q.d.data.toList (k.drop q.p.size)with
  |none=>simp[b]at h
  |some i=>
   simp only[b,Option.map_some,oI]at h;have n:=i8 j _ i b;rw[lD,a]at n;have hpos:0<q.d.size:=by omega
   have hcl:c.length=q.p.size+i+q.d.size:=by rw[<-h,tL];omega
   obtain⟨r,rfl⟩:=s;have l:k=c++k.drop (q.p.size+i+q.d.size):=by rw[<-h];exact(List.take_append_drop _ _).symm
   have m:k.drop q.p.size=c.drop q.p.size++k.drop (q.p.size+i+q.d.size):=by
    conv=>lhs;rw[l]
    rw[List.drop_append_of_le_length (by omega)]
   have o:(c++r).drop q.p.size=c.drop q.p.size++r:=List.drop_append_of_le_length (by omega);rw[m]at b;rw[o,ul j _ r (c.drop q.p.size) i (by rw[lD,a];omega) b];simp only[Option.map_some,oI];rw[List.take_append_of_le_length (by omega),tO (by omega)]
theorem ju{q:Qy}{b c:List UInt8}(h:aU q b=J c):c <+:b:=by
 unfold aU at h;split at h
 .cases h
 .cases a:dx q.d.data.toList (b.drop q.p.size)with
  |none=>simp[a]at h
  |some i=>
   simp only[a,Option.map_some,oI]at h;rw[<-h];exact List.take_prefix _ _
def txt(x:ItD):List UInt8:=x.text.data.toList
theorem qk:∀ {c k:List UInt8},c <+:k->¬k<c
 | [],k,_=>by simp
 |a::c,k,h=>by
  obtain⟨r,rfl⟩:=h;rw[List.cons_append,List.cons_lt_cons_iff];rintro(h|⟨-,h⟩)
  .exact absurd h (by simp)
  .exact qk (List.prefix_append c r) h
theorem Ja{a b:List UInt8}(h:¬a<b)(c:a≠b):b<a:=
 Classical.byContradiction λd=>c (List.le_antisymm (List.not_lt.1 d) (List.not_lt.1 h))
theorem FT{c b x:List UInt8}(h:c <+:b)(a:b<x):c<x:=by
 by_cases e:c=b
 .rw [e];exact a
 .exact List.lt_trans (Ja (qk h) (λh=>e h.symm)) a
end
section
open Go.Conc Go.ConcX Go.ConcX.Gen Go.RowKit
theorem Cx(n:Nat):∀ (f:List UInt8->List Ver)(bs k:List UInt8),k.length<n->f k≠[]->(bs++k,f k)∈db n f bs:=by
 induction n with
 |zero=>intro f bs k a;omega
 |succ n ih=>
  intro f bs k a c;rw[db,List.mem_append];cases k with
  |nil=>left;simp[c]
  |cons b k=>
   right
   refine List.mem_flatMap.2 ⟨b,nz b,?_⟩;have:=ih (λk=>f (b::k)) (bs++[b]) k (by simpa using a) c;simpa using this
theorem nG(n a:Int):dM n a≠⟨#[]⟩:=by
 intro h;have:=congrArg (λb=>b.data.size) h;simp[dM]at this
def sA:ByteArray:=⟨#[97]⟩
def LsA.all(x:LsA):List ItD:=bH x.q (cz x.f x.q.p.data.toList)
theorem ql(l:Lst)(p i:Nat)(c:l.size=p)(d:p<=20)(o:i<=1000):∀ (a:List ItD)(k:Nat),k+a.length<=2000->ep l ((i:Int)+1) k a=(a.take ((i+1)*p-k)).drop (i*p-k)
 | [],k,_=>by simp[ep]
 |x::r,k,h=>by
  have hb:(i+1)*p<=20020:=lT (Nat.mul_le_mul (show i+1<=1001 by omega) d) (by omega);have e0:(i+1)*p=i*p+p:=by rw[Nat.add_mul,Nat.one_mul]
  have e:IntKind.i64.wrap (((i:Int)+1)*l.size)=((i+1)*p:Nat):=by
   rw[c,wrap_small _ (by rw[<-Int.natCast_one,<-Int.natCast_add,<-Int.natCast_mul];omega) (by rw[<-Int.natCast_one,<-Int.natCast_add,<-Int.natCast_mul];omega)];rw[Int.natCast_mul,Int.natCast_add];rfl
  have n:IntKind.i64.wrap (IntKind.i64.wrap (((i:Int)+1)*l.size)-l.size)=(i*p:Nat):=by
   rw[e,c,wrap_small _ (by omega) (by omega)];omega
  simp only[lC]at h;have ih:=ql l p i c d o r (k+1) (by omega);rw[ep,ih];have b:iC l ((i:Int)+1) ((k:Int)+1)=decide (i*p<=k/\k<(i+1)*p):=by
   unfold iC;rw[n,e,Bool.decide_and];congr 1
   .exact decide_eq_decide.2 (by omega)
   .exact decide_eq_decide.2 (by omega)
  rw[b];by_cases j:k<(i+1)*p
  .have m:(i+1)*p-k=((i+1)*p-(k+1))+1:=by omega
   rw[m,List.take_succ_cons];by_cases f:i*p<=k
   .rw [decide_eq_true ⟨f,j⟩,if_pos rfl,show i*p-k=0 by omega,show i*p-(k+1)=0 by omega];rfl
   .rw [decide_eq_false (λh=>f h.1),if_neg (by simp),show i*p-k=(i*p-(k+1))+1 by omega];rfl
  .rw [decide_eq_false (λh=>j h.2),if_neg (by simp),show(i+1)*p-k=0 by omega,show(i+1)*p-(k+1)=0 by omega];simp
section
variable {x:LsA} {p i:Nat}
theorem LsA.page_cut(a:x.size=p)(b:p<=20)(c:i<=1000)(hl:x.all.length<=1000):x.page ((i:Int)+1)=(x.all.take ((i+1)*p)).drop (i*p):=
 ql (x.lst N) p i a b c x.all 0 (by omega)
theorem LsA.tok_cut(a:x.size=p)(b:p<=20)(hi:i<=1000):x.tok ((i:Int)+1)=if(i+1)*p<x.all.length then dM x.num ((i:Int)+2)else⟨#[]⟩:=by
 have hb:(i+1)*p<=20020:=lT (Nat.mul_le_mul (show i+1<=1001 by omega) b) (by omega);have d:IntKind.i64.wrap (((i:Int)+1)*x.size)=((i+1)*p:Nat):=by
  rw[a,wrap_small _ (by rw[<-Int.natCast_one,<-Int.natCast_add,<-Int.natCast_mul];omega) (by rw[<-Int.natCast_one,<-Int.natCast_add,<-Int.natCast_mul];omega)];rw[Int.natCast_mul,Int.natCast_add];rfl
 have c:IntKind.i64.wrap ((i:Int)+1+1)=(i:Int)+2:=by rw[wrap_small _ (by omega) (by omega)];omega
 show Ez (x.lst N) _ x.all.length=_;unfold Ez;show(if IntKind.i64.wrap (((i:Int)+1)*x.size)<(x.all.length:Int)then dM x.num (IntKind.i64.wrap ((i:Int)+1+1))else _)=_;rw[d,c];by_cases h:(i+1)*p<x.all.length
 .rw [if_pos h,if_pos (by omega)]
 .rw [if_neg h,if_neg (by omega)]
end
theorem jv(u:Nat)(h:¬u<10):Lib.decDigits u=Lib.decDigits (u/10)++[UInt8.ofNat (48+u%10)]:=by rw[Lib.decDigits,dif_neg h]
theorem FU(u:Nat):Lib.decDigits u≠[]:=by
 by_cases h:u<10
 .rw [Lib.decDigits_one h];simp
 .rw [jv u h];simp
theorem Cy{a:Nat}(ha:a<10)(hb:k<10)(h:UInt8.ofNat (48+a)=UInt8.ofNat (48+k)):a=k:=by
 have:=congrArg UInt8.toNat h;simp only[UInt8.toNat_ofNat']at this;omega
theorem Cz:∀u v:Nat,Lib.decDigits u=Lib.decDigits v->u=v:=λu=>by
 induction u using Nat.strongRecOn with
 |ind u ih=>
  intro v h;by_cases b:u<10<;>by_cases a:v<10
  .rw [Lib.decDigits_one b,Lib.decDigits_one a]at h;exact Cy b a (List.cons.inj h).1
  .rw [Lib.decDigits_one b,jv v a]at h;have:=congrArg List.length h;have c:=List.length_pos_iff.2 (FU (v/10));simp only[lP,lS]at this;omega
  .rw [Lib.decDigits_one a,jv u b]at h;have:=congrArg List.length h;have c:=List.length_pos_iff.2 (FU (u/10));simp only[lP,lS]at this;omega
  .rw [jv u b,jv v a]at h;have⟨d,c⟩:=List.append_inj' h rfl;have e1:=ih (u/10) (by omega) _ d;have e2:=Cy (by omega) (by omega) (List.cons.inj c).1;omega
theorem CA:∀u:Nat,∀x∈Lib.decDigits u,x≠46:=λu=>by
 induction u using Nat.strongRecOn with
 |ind u ih=>
  have d:∀a,a<10->UInt8.ofNat (48+a)≠46:=λa ha e=>by
   have:=congrArg UInt8.toNat e;simp only[UInt8.toNat_ofNat']at this;have h46:(46:UInt8).toNat=46:=rfl;omega
  intro x b;by_cases c:u<10
  .rw [Lib.decDigits_one c,List.mem_singleton]at b;subst b;exact d u c
  .rw [jv u c,List.mem_append,List.mem_singleton]at b;rcases b with b|rfl
   .exact ih (u/10) (by omega) x b
   .exact d _ (by omega)
theorem CB:∀ (a c b d:List UInt8),(∀x∈a,x≠46)->(∀x∈c,x≠46)->a++46::b=c++46::d->a=c/\b=d
 | [],[],b,d,_,_,h=>⟨rfl,(List.cons.inj h).2⟩
 | [],y::c,b,d,_,hc,h=>absurd (List.cons.inj h).1.symm (hc y (by simp))
 |x::a,[],b,d,ha,_,h=>absurd (List.cons.inj h).1 (ha x (by simp))
 |x::a,y::c,b,d,ha,hc,h=>by
  have⟨f,j⟩:=List.cons.inj h;have⟨i,k⟩:=CB a c b d (λz e=>ha z (by simp[e])) (λz e=>hc z (by simp[e])) j;exact⟨by rw[f,i],k⟩
theorem um{a:Nat}(h:dM a k=dM B s):a=B/\k=s:=by
 unfold dM at h;rw[kU,kU,kU,kU]at h;have e:Lib.decDigits a++46::Lib.decDigits k=Lib.decDigits B++46::Lib.decDigits s:=congrArg (λk:ByteArray=>k.data.toList) h;obtain⟨f,i⟩:=CB _ _ _ _ (CA a) (CA B) e;exact⟨Cz _ _ f,Cz _ _ i⟩
structure PlL where
 its:List ItD
 v:Wx
 page:Nat
 fin:Int
 gone:Bool
structure PlT where
 text:ByteArray
 ls:Nat
 pg:Nat
def PlL.isOpen(tm:Int)(l:PlL):Bool:=!l.gone&&decide (tm<l.fin)
def opens(tm:Int)(P:List PlL):List (PlL×Nat):=P.zipIdx.filter λz=>z.1.isOpen tm
def LsA.key(x:LsA):Int×Int×List ItD×Int:=(x.num,x.left,x.all,x.size)
def zR(tm:Int)(z:PlL×Nat):Int×Int×List ItD×Int:=((z.2:Int)+1,z.1.fin-tm,z.1.its,z.1.page)
structure eU (L:Lg)(P:List PlL)(T:List PlT)(tm:Int)(s:Nat):Prop where
 time:L.tm=tm/\0<=tm/\tm<=1000*s
 begun:L.begun=P.length
 few:P.length<=s/\T.length<=s
 opened:L.opened.map LsA.key=(opens tm P).map (zR tm)
 lists:∀l∈P,1<=l.page/\l.page<=20/\l.its.length<=200/\l.fin<=1000*s+10/\0<=l.fin
 toks:∀t∈T,t.text=dM ((t.ls+1:Nat):Int) ((t.pg+1:Nat):Int)/\∃l,P[t.ls]?=J l/\t.pg*l.page<l.its.length
 told:∀k n pg,dN k L.told=J (n,pg)->∃t∈T,t.text=k/\n=(t.ls:Int)+1/\pg=(t.pg:Int)+1
 here:∀t∈T,dN t.text L.told≠N
theorem zS(a:Int)(P:List PlL)(l:PlL):opens a (P++[l])=opens a P++if l.isOpen a then[(l,P.length)]else[]:=by
 unfold opens;rw[List.zipIdx_append,List.filter_append];congr 1;simp only[List.zipIdx_cons,List.zipIdx_nil,zA];by_cases h:l.isOpen a=Y<;>simp[h]
theorem un(a:Int)(P:List PlL):(opens a P).length=(P.filter (PlL.isOpen a)).length:=by
 have e:P.filter (PlL.isOpen a)=(opens a P).map (·.1):=by
  conv=>lhs;rw[<-List.zipIdx_map_fst 0 P]
  rw[List.filter_map];rfl
 rw[e,lM]
theorem eU.count{P:List PlL}{T:List PlT}(h:eU L P T tm s):(opens tm P).length=L.opened.length:=by
 have:=congrArg List.length h.opened;simpa using this.symm
theorem eU.mono{P:List PlL}{T:List PlT}{a:Int}{s':Nat}(h:eU L P T a s)(hs:s<=s'):eU L P T a s':=
 ⟨⟨h.time.1,h.time.2.1,by have:=h.time.2.2;omega⟩,h.begun,⟨by have:=h.few;omega,by have:=h.few;omega⟩,h.opened,λl b=>by have:=h.lists l b;omega,h.toks,h.told,h.here⟩
theorem Jb:eU ⟨[],0,[],0⟩ [] [] 0 0:=⟨by simp,rfl,by simp,rfl,by simp,by simp,by simp[dN],by simp⟩
theorem eU.token{P:List PlL}{T:List PlT}{d:Int}(h:eU L P T d s)(b a:Nat):∀t∈T,(t.ls=b/\t.pg=a)↔t.text=dM ((b+1:Nat):Int) ((a+1:Nat):Int):=λt c=>by
 rw[(h.toks t c).1];constructor
 .rintro ⟨rfl,rfl⟩;rfl
 .intro e;have⟨h1,h2⟩:=um e;omega
theorem zT(L:Lg)(f:List UInt8->List Ver)(q:Qy)(n:Int)(a:List ItD)(c:bH q (cz f q.p.data.toList)=a)(e:a.length<=1000):
  ((n<1\/20<n)/\eQ L f q n=(L,[],⟨#[]⟩,7))\/∃p:Nat,n=(p:Int)/\1<=p/\p<=20/\((a.length<=p/\eQ L f q n=(L,a,⟨#[]⟩,0))\/(p<a.length/\3<=L.opened.length/\eQ L f q n=(L,[],⟨#[]⟩,8)) \/
   (p<a.length/\L.opened.length<3/\eQ L f q n=(⟨L.opened++[ip L f q n],L.begun+1,j7 (dM (L.begun+1) 2) (L.begun+1,2) L.told,L.tm⟩,a.take p,dM (L.begun+1) 2,0))):=by
 by_cases h:n<1\/20<n
 .exact .inl ⟨h,by rw[eQ,if_pos h]⟩
 .right
  refine⟨n.toNat,by omega,by omega,by omega,?_⟩;obtain⟨p,o⟩:∃p:Nat,n.toNat=p:=⟨_,rfl⟩;rw[o];have m:(ip L f q n).size=(p:Int):=by show n=(p:Int);omega
  have k:(ip L f q n).all=a:=c;have b:=LsA.tok_cut (x:=ip L f q n) (p:=p) (i:=0) m (by omega) (by omega);have d:=LsA.page_cut (x:=ip L f q n) (p:=p) (i:=0) m (by omega) (by omega) (by rw[k];exact e);rw[k]at b d;simp only[zA,Nat.one_mul,Nat.zero_mul,List.drop_zero,Int.natCast_zero,Int.zero_add]at b d;have r:(ip L f q n).num=L.begun+1:=rfl;rw[r]at b;rw[eQ,if_neg h];by_cases l:a.length<=p
  .rw [if_neg (show¬p<a.length by omega)]at b;rw[tO l]at d;exact .inl ⟨l,by rw[if_pos b,d]⟩
  .rw [if_pos (show p<a.length by omega)]at b;rw[b,if_neg (nG _ _),d];by_cases j:3<=L.opened.length
   .exact .inr (.inl ⟨by omega,j,by rw[if_pos j]⟩)
   .exact .inr (.inr ⟨by omega,by omega,by rw[if_neg j]⟩)
theorem eU.push{P:List PlL}{T:List PlT}{d:Int}(h:eU L P T d s)(f:List UInt8->List Ver)(q:Qy)(p:Nat)(a:List ItD)(v:Wx)(c:bH q (cz f q.p.data.toList)=a)(hlen:a.length<=200)(hp:1<=p/\p<=20)(hpl:p<a.length):
  eU ⟨L.opened++[ip L f q p],L.begun+1,j7 (dM (L.begun+1) 2) (L.begun+1,2) L.told,L.tm⟩ (P++[⟨a,v,p,d+10,Z⟩]) (T++[⟨dM (L.begun+1) 2,P.length,1⟩]) d (s+1):=by
 have x:=h.begun;have u:=h.time;have hf:=h.few;have j:dM (L.begun+1) 2=dM ((P.length+1:Nat):Int) ((1+1:Nat):Int):=by
  rw[x];rfl
 refine⟨⟨u.1,u.2.1,by omega⟩,by rw[lP];simp only[lS];omega,by rw[lP,lP];simp only[lS];omega,?_,λl i=>?_,λt b=>?_,λk n y e=>?_,λt b=>?_⟩
 .have z:PlL.isOpen d ⟨a,v,p,d+10,Z⟩=true:=by simp[PlL.isOpen];omega
  rw[zS,if_pos z,List.map_append,List.map_append,h.opened];congr 1;simp only[List.map_cons,List.map_nil,LsA.key,zR,ip,LsA.all,c,x];congr 3;omega
 .rcases List.mem_append.1 i with i|i
  .have:=h.lists l i;omega
  .rw [List.mem_singleton.1 i];simp only;omega
 .rcases List.mem_append.1 b with b|b
  .have ⟨r,l,m,A⟩:=h.toks t b;exact⟨r,l,by rw[aL (sL m).1];exact m,A⟩
  .rw [List.mem_singleton.1 b];exact⟨j,_,by rw[aR (lR _),Nat.sub_self];rfl,by simp only;omega⟩
 .simp only[fo]at e;split at e
  .rename_i o;cases e;exact⟨⟨dM (L.begun+1) 2,P.length,1⟩,by simp,o.symm,by simp only;omega,rfl⟩
  .have ⟨t,r,m⟩:=h.told k n y e;exact⟨t,List.mem_append_left _ r,m⟩
 .simp only[fo];split
  .simp
  .rename_i o;rcases List.mem_append.1 b with b|b
   .exact h.here t b
   .exact absurd (by rw[List.mem_singleton.1 b]) o
end
section
open Go.RowKit
def d9(a b:ItD):Prop:=txt a<txt b\/(txt a=txt b/\((a.kind≠2/\b.kind=2)\/((a.kind=2↔b.kind=2)/\b.ver<a.ver)))
theorem oR{a b c:ItD}(d:d9 a b)(e:d9 b c):d9 a c:=by
 rcases d with d|⟨h,d⟩<;>rcases e with e|⟨f,e⟩
 .exact .inl (List.lt_trans d e)
 .exact .inl (f▸d)
 .exact .inl (h▸e)
 .exact .inr ⟨h.trans f,by omega⟩
theorem ww{a b:ItD}(c:d9 a b)(d:d9 b a):False:=by
 rcases c with c|⟨f,c⟩<;>rcases d with d|⟨e,d⟩
 .exact List.lt_irrefl _ (List.lt_trans c d)
 .rw [e]at c;exact List.lt_irrefl _ c
 .rw [f]at d;exact List.lt_irrefl _ d
 .omega
theorem CC{j:Type}{r:j->j->Prop}(f:∀a b,r a b->r b a->False):∀ (l m:List j),l.Pairwise r->m.Pairwise r->(∀x,x∈l↔x∈m)->l=m
 | [],[],_,_,_=>rfl
 | [],b::_,_,_,h=>absurd ((h b).2 (by simp)) (by simp)
 |a::_,[],_,_,h=>absurd ((h a).1 (by simp)) (by simp)
 |a::l,b::m,h1,h2,h=>by
  have⟨k,p⟩:=List.pairwise_cons.1 h1;have⟨i,o⟩:=List.pairwise_cons.1 h2;have e:a=b:=by
   rcases List.mem_cons.1 ((h a).1 (by simp))with e|e
   .exact e
   .rcases List.mem_cons.1 ((h b).2 (by simp))with n|n
    .exact n.symm
    .exact (f _ _ (i a e) (k b n)).elim
  subst e;have d:∀x,(x∈l->x≠a)/\(x∈m->x≠a):=λx=>⟨λc e=>by subst e;exact f _ _ (k _ c) (k _ c),λc e=>by subst e;exact f _ _ (i _ c) (i _ c)⟩
  refine congrArg _ (CC f l m p o λx=>⟨λc=>?_,λc=>?_⟩)
  .exact ((List.mem_cons.1 ((h x).1 (by simp[c]))).resolve_left ((d x).1 c))
  .exact ((List.mem_cons.1 ((h x).2 (by simp[c]))).resolve_left ((d x).2 c))
def ni(a b:ItD):Bool:=if a.text=b.text then(if decide (a.kind=2)=decide (b.kind=2)then decide (b.ver<a.ver)else decide (b.kind=2))else decide (txt a<txt b)
theorem Hn{e f:ItD}(h:txt e=txt f):e.text=f.text:=by
 unfold txt at h;cases c:e.text;cases d:f.text;rw[c,d]at h;simp only[ByteArray.mk.injEq];exact Array.toList_inj.1 h
theorem uo(a b:ItD):ni a b=Y↔d9 a b:=by
 unfold ni d9;by_cases h:a.text=b.text
 .have e:txt a=txt b:=by unfold txt;rw[h]
  rw[if_pos h,e];have d:¬txt b<txt b:=List.lt_irrefl _;by_cases c:a.kind=2<;>by_cases f:b.kind=2<;>simp[c,f,d]
 .have e:txt a≠txt b:=λe=>h (Hn e)
  rw[if_neg h];simp[e]
def atN(x:ItD)(l:List ItD):Nat->Nat
 | 0=>0
 |i+1=>match l[i]? with
  |some y=>if ni y x then i+1 else atN x l i
  |none=>atN x l i
theorem FV(x:ItD)(l:List ItD):∀i,atN x l i<=i
 | 0=>lR _
 |i+1=>by
  unfold atN;have:=FV x l i;split
  .split<;>omega
  .omega
theorem CD(x:ItD)(l:List ItD)(b:l.Pairwise d9):∀i,i<=l.length->∀j (h:j<l.length),j<atN x l i->d9 l[j] x
 | 0,_,j,_,hj=>absurd hj (by simp[atN])
 |i+1,hi,j,h,hj=>by
  unfold atN at hj;rw[eL (by omega)]at hj;simp only at hj;split at hj
  .rename_i c;have a:=(uo _ _).1 c;by_cases e:j=i
   .subst e;exact a
   .exact oR (List.pairwise_iff_getElem.1 b j i h (by omega) (by omega)) a
  .exact CD x l b i (by omega) j h hj
theorem xV(x:ItD)(l:List ItD):∀i,i<=l.length->∀j (h:j<l.length),atN x l i<=j->j<i->¬d9 l[j] x
 | 0,_,_,_,_,hj=>absurd hj (by simp)
 |i+1,hi,j,h,h1,hj=>by
  unfold atN at h1;rw[eL (by omega)]at h1;simp only at h1;split at h1
  .omega
  .rename_i a;by_cases e:j=i
   .subst e;exactλb=>a ((uo _ _).2 b)
   .exact xV x l i (by omega) j h h1 (by omega)
def Dm(a b:ItD):Bool:=decide (a.kind=b.kind)&&decide (a.text=b.text)&&decide (a.ver=b.ver)
theorem rD(a b:ItD):Dm a b=Y↔a=b:=by
 cases a;cases b;simp[Dm,and_assoc]
def aZ(l:List ItD)(x:ItD):List ItD:=if l.any (Dm · x)then l else l.take (atN x l l.length)++x::l.drop (atN x l l.length)
theorem wz(l:List ItD)(x y:ItD):y∈aZ l x↔y=x\/y∈l:=by
 unfold aZ;split
 .rename_i h;have⟨z,a,e⟩:=List.any_eq_true.1 h;rw[rD]at e;subst e;exact⟨.inr,λh=>h.elim (λe=>e▸a) id⟩
 .have:y∈l↔y∈l.take (atN x l l.length)\/y∈l.drop (atN x l l.length):=by rw[<-List.mem_append,List.take_append_drop]
  rw[this];simp only[List.mem_append,List.mem_cons];constructor
  .rintro (h|h|h)
   .exact .inr (.inl h)
   .exact .inl h
   .exact .inr (.inr h)
  .rintro (h|h|h)
   .exact .inr (.inl h)
   .exact .inl h
   .exact .inr (.inr h)
theorem CE(l:List ItD)(x:ItD)(o:l.Pairwise d9)(t:∀y∈l,y=x\/d9 y x\/d9 x y):(aZ l x).Pairwise d9:=by
 unfold aZ;split
 .exact o
 .rename_i h;have k:∀y∈l,y≠x:=λy i e=>h (List.any_eq_true.2 ⟨y,i,(rD _ _).2 e⟩)
  have f:=o;rw[<-List.take_append_drop (atN x l l.length) l]at f;have⟨s,r,u⟩:=List.pairwise_append.1 f;have d:∀y∈l.take (atN x l l.length),d9 y x:=λy i=>by
   obtain⟨j,m,rfl⟩:=gM i;rw[tL]at m;rw[List.getElem_take];exact CD x l o _ (lR _) j (by omega) (by omega)
  have c:∀y∈l.drop (atN x l l.length),d9 x y:=λy i=>by
   obtain⟨j,m,rfl⟩:=gM i;rw[lD]at m;rw[List.getElem_drop];have v:=xV x l _ (lR _) (atN x l l.length+j) (by omega) (by omega) (by omega);have p:l[atN x l l.length+j]'(by omega)∈l:=List.getElem_mem _;rcases t _ p with e|e|e
   .exact (k _ p e).elim
   .exact (v e).elim
   .exact e
  refine List.pairwise_append.2 ⟨s,List.pairwise_cons.2 ⟨c,r⟩,λa q b n=>?_⟩;rcases List.mem_cons.1 n with rfl|n
  .exact d a q
  .exact u a q b n
def OfK(q:Qy)(k:List UInt8)(h:List Ver)(x:ItD):Prop:=
 fZ q k h=Y/\((aU q k=N/\x∈bj q.vs k h)\/∃c,aU q k=J c/\x=⟨2,⟨c.toArray⟩,0⟩)
theorem mn{n:Bool}{c:List UInt8}{h:List Ver}{x:ItD}(a:x∈bj n c h):txt x=c/\x.kind≠2:=by
 unfold bj at a;split at a
 .obtain ⟨v,-,rfl⟩:=List.mem_map.1 a;refine⟨rfl,?_⟩;show(if v.mark then(4:Int)else 3)≠2;split<;>decide
 .rw [List.mem_singleton]at a;subst a;exact⟨rfl,show(1:Int)≠2 by decide⟩
theorem CF(e:Bool)(k:List UInt8)(h:List Ver)(d:h.Pairwise λa b=>a.num<b.num):(bj e k h).Pairwise d9:=by
 unfold bj;split
 .rw [List.pairwise_map,List.pairwise_reverse];refine d.imp fun{a b} c=>.inr ⟨rfl,.inr ⟨?_,c⟩⟩
  show(if b.mark then(4:Int)else 3)=2↔(if a.mark then(4:Int)else 3)=2;cases a.mark<;>cases b.mark<;>decide
 .exact List.pairwise_singleton _ _
theorem wA{q:Qy}{k c:List UInt8}(h:aU q k=J c):c≠[]:=by
 unfold aU at h;split at h
 .cases h
 .rename_i f;cases b:dx q.d.data.toList (k.drop q.p.size)with
  |none=>rw[b]at h;cases h
  |some i=>
   rw[b]at h;have a:=i8 (d:=q.d.data.toList) (λe=>f (by rw[ByteArray.size,<-lY,e];rfl)) _ i b;have j:q.d.data.toList.length=q.d.size:=lY;rw[j,lD]at a;simp only[Option.map_some,oI]at h;subst h;intro e;have:=congrArg List.length e;rw[tL,lN]at this;omega
def IE(q:Qy)(pre:KVs)(st:List ItD×List UInt8):Prop:=
 ∀x,st.1.getLast?=J x->∃kh∈pre,(aU q kh.1=N/\txt x=kh.1)\/(∃c,aU q kh.1=J c/\txt x=c/\st.2=c)
theorem xW{l m:List ItD}(d:l.Pairwise d9)(i:m.Pairwise d9)(h:∀x,l.getLast?=J x->∀y∈m,d9 x y):(l++m).Pairwise d9:=by
 refine List.pairwise_append.2 ⟨d,i,λa e b j=>?_⟩;rcases List.eq_nil_or_concat l with rfl|⟨r,z,rfl⟩
 .simp at e
 rw[List.concat_eq_append]at e d h;have f:=h z (by simp) b j;rcases List.mem_append.1 e with c|c
 .exact oR ((List.pairwise_append.1 d).2.2 a c z (by simp)) f
 .rw [List.mem_singleton]at c;subst c;exact f
theorem CG(q:Qy):∀ (n:Nat)(d:KVs),d.length=n->d.Pairwise (λa b=>a.1<b.1)->(∀i∈d,i.2.Pairwise λa b=>a.num<b.num)->(aE q d).1.Pairwise d9/\IE q d (aE q d):=by
 intro n;induction n with
 |zero=>
  intro d o _ _;have:d=[]:=List.length_eq_zero_iff.1 o;subst this;exact⟨List.Pairwise.nil,λx h=>by simp[aE]at h⟩
 |succ n ih=>
  intro d o L F;rcases List.eq_nil_or_concat d with rfl|⟨A,i,rfl⟩
  .simp at o
  rw[List.concat_eq_append]at o L F ⊢;obtain⟨S,-,R⟩:=List.pairwise_append.1 L;have k:∀x∈A,x.1<i.1:=λx f=>R x f i (by simp)
  have⟨s,u⟩:=ih A (by simp at o;exact o) S (λx f=>F x (by simp[f]));rw[mN];generalize aE q A=P at s u;have j:IE q (A++[i]) P:=λx f=>by
   have⟨y,m,h⟩:=u x f;exact⟨y,by simp[m],h⟩
  unfold bM;by_cases H:fZ q i.1 i.2=Y
  .rw [if_pos H];cases p:aU q i.1 with
   |none=>
    simp only;refine⟨xW s (CF _ _ _ (F i (by simp))) λx f z v=>?_,λx f=>?_⟩
    .refine .inl ?_;rw[(mn v).1];have⟨y,m,h⟩:=u x f;rcases h with⟨-,e⟩|⟨c,l,e,-⟩
     .rw [e];exact k y m
     .rw [e];exact FT (ju l) (k y m)
    .rw [List.getLast?_append]at f;cases B:(bj q.vs i.1 i.2).getLast? with
     |none=>
      rw[B]at f;simp only[Option.none_or]at f;exact j x f
     |some z=>
      rw[B]at f;simp only[Option.some_or,oI]at f;subst f;exact⟨i,by simp,.inl ⟨p,(mn (List.mem_of_getLast? B)).1⟩⟩
   |some c=>
    by_cases G:c=P.2
    .simp only[if_pos G];exact⟨s,j⟩
    .simp only[if_neg G];refine⟨xW s (List.pairwise_singleton _ _) λx f z v=>?_,λx f=>?_⟩
     .rw [List.mem_singleton]at v;subst v;refine .inl ?_;show txt x<c;have⟨y,m,h⟩:=u x f;refine Classical.byContradiction λt=>?_
      rcases h with⟨Q,e⟩|⟨c',l,e,T⟩
      .rw [e]at t;have:=qj p (j3 c i.1 y.1 (ju p) t (k y m));rw[Q]at this;cases this
      .rw [e]at t;have D:¬y.1<c:=λr=>t (FT (ju l) r)
       have:=qj p (j3 c i.1 y.1 (ju p) D (k y m));rw[l]at this;cases this;exact G T.symm
     .simp only[List.getLast?_append,List.getLast?_singleton,Option.some_or,oI]at f;subst f;exact⟨i,by simp,.inr ⟨c,p,rfl,rfl⟩⟩
  .rw [if_neg H];exact⟨s,j⟩
theorem up(q:Qy):∀ (l:KVs)(s:List ItD×List UInt8),(s.2=[]\/⟨2,⟨s.2.toArray⟩,0⟩∈s.1)->∀x,x∈(l.foldl (bM q) s).1↔x∈s.1\/∃kh∈l,OfK q kh.1 kh.2 x
 | [],s,_,x=>by simp
 |kh::l,s,hs,x=>by
  rw[List.foldl_cons];have a:(((bM q s kh).2=[]\/⟨2,⟨(bM q s kh).2.toArray⟩,0⟩∈(bM q s kh).1))/\(x∈(bM q s kh).1↔x∈s.1\/OfK q kh.1 kh.2 x):=by
   unfold bM OfK;by_cases b:fZ q kh.1 kh.2=Y
   .rw [if_pos b];cases j:aU q kh.1 with
    |none=>
     refine⟨hs.imp id λh=>List.mem_append_left _ h,?_⟩;simp[b]
    |some c=>
     by_cases d:c=s.2
     .simp only[if_pos d];refine⟨hs,?_⟩;have i:=wA j;have f:=hs.resolve_left (λe=>i (d.trans e));subst d;constructor
      .exact .inl
      .rintro (h|⟨-,h|⟨c',e,rfl⟩⟩)
       .exact h
       .cases h.1
       .cases e;exact f
     .simp only[if_neg d];refine⟨.inr (by simp),?_⟩;simp[b]
   .rw [if_neg b];exact⟨hs,by simp[b]⟩
  rw[up q l _ a.1 x,a.2];simp only[List.mem_cons,exists_eq_or_imp,or_assoc]
theorem wB(q:Qy)(l:KVs)(x:ItD):x∈bH q l↔∃kh∈l,OfK q kh.1 kh.2 x:=by
 unfold bH aE;rw[up q l _ (.inl rfl) x];simp
def eq(q:Qy)(l:List ItD)(kh:List UInt8×List Ver):List ItD:=
 if q.p.data.toList.isPrefixOf kh.1&&fZ q kh.1 kh.2 then
  match aU q kh.1 with
  |some c=>aZ l ⟨2,⟨c.toArray⟩,0⟩
  |none=>(bj q.vs kh.1 kh.2).reverse.foldl aZ l
 else l
def fe(q:Qy)(R:KVs):List ItD:=R.foldl (eq q) []
def Tot(P:ItD->Prop):Prop:=∀x y,P x->P y->x=y\/d9 x y\/d9 y x
theorem CH{P:ItD->Prop}(b:Tot P):∀ (m l:List ItD),l.Pairwise d9->(∀x∈l,P x)->(∀x∈m,P x)->(m.foldl aZ l).Pairwise d9/\∀x,x∈m.foldl aZ l↔x∈l\/x∈m
 | [],l,h,_,_=>⟨h,λx=>by simp⟩
 |y::m,l,h,hl,hm=>by
  have c:=hm y (by simp);have⟨d,f⟩:=CH b m (aZ l y) (CE l y h λz i=>b z y (hl z i) c) (λx a=>((wz l y x).1 a).elim (λe=>e▸c) (hl x)) (λx a=>hm x (by simp[a]));refine⟨d,λx=>?_⟩;rw[List.foldl_cons,f x,wz,List.mem_cons];constructor
  .rintro ((h|h)|h)
   .exact .inr (.inl h)
   .exact .inl h
   .exact .inr (.inr h)
  .rintro (h|h|h)
   .exact .inl (.inr h)
   .exact .inl (.inl h)
   .exact .inr h
theorem CI{P:ItD->Prop}(j:Tot P)(q:Qy)(a:List UInt8×List Ver)(l:List ItD)(h:l.Pairwise d9)(k:∀x∈l,P x)(d:q.p.data.toList <+:a.1->∀x,OfK q a.1 a.2 x->P x):
  (eq q l a).Pairwise d9/\∀x,x∈eq q l a↔x∈l\/(q.p.data.toList <+:a.1/\OfK q a.1 a.2 x):=by
 unfold eq;unfold OfK at d ⊢;by_cases b:(q.p.data.toList.isPrefixOf a.1&&fZ q a.1 a.2)=Y
 .rw [if_pos b];rw[bT,List.isPrefixOf_iff_prefix]at b;replace d:=d b.1;cases m:aU q a.1 with
  |none=>
   rw[m]at d;have⟨f,e⟩:=CH j (bj q.vs a.1 a.2).reverse l h k (λx i=>d x ⟨b.2,.inl ⟨rfl,List.mem_reverse.1 i⟩⟩);refine⟨f,λx=>?_⟩;simp only;rw[e x,List.mem_reverse];simp[b]
  |some c=>
   rw[m]at d;have i:=d _ ⟨b.2,.inr ⟨c,rfl,rfl⟩⟩;refine⟨CE l _ h λz n=>j z _ (k z n) i,λx=>?_⟩;simp only;rw[wz];simp[b,Or.comm]
 .rw [if_neg b];refine⟨h,λx=>?_⟩;rw[bT,List.isPrefixOf_iff_prefix]at b;constructor
  .exact .inl
  .rintro (h|⟨f,e,-⟩)
   .exact h
   .exact (b ⟨f,e⟩).elim
theorem CJ{P:ItD->Prop}(a:Tot P)(q:Qy):∀ (R:KVs)(l:List ItD),l.Pairwise d9->(∀x∈l,P x)->(∀kh∈R,q.p.data.toList <+:kh.1->∀x,OfK q kh.1 kh.2 x->P x) ->
  (R.foldl (eq q) l).Pairwise d9/\∀x,x∈R.foldl (eq q) l↔x∈l\/∃kh∈R,q.p.data.toList <+:kh.1/\OfK q kh.1 kh.2 x
 | [],l,h,_,_=>⟨h,λx=>by simp⟩
 |kh::R,l,h,hl,hR=>by
  have⟨c,b⟩:=CI a q kh l h hl (hR kh (by simp));have⟨d,f⟩:=CJ a q R (eq q l kh) c (λx j=>((b x).1 j).elim (hl x) λe=>hR kh (by simp) e.1 x e.2) (λy i=>hR y (by simp[i]));refine⟨d,λx=>?_⟩;rw[List.foldl_cons,f x,b x];simp only[List.mem_cons,exists_eq_or_imp,or_assoc]
def InF(q:Qy)(f:List UInt8->List Ver)(x:ItD):Prop:=∃k,f k≠[]/\OfK q k (f k) x
theorem Ho(q:Qy)(f:List UInt8->List Ver)(t:∀k,(f k).Pairwise λa b=>a.num<b.num):Tot (InF q f):=λx y ⟨k,_,m⟩ ⟨z,_,l⟩=>by
 by_cases e:txt x<txt y
 .exact .inr (.inl (.inl e))
 by_cases d:txt y<txt x
 .exact .inr (.inr (.inl d))
 have n:txt x=txt y:=List.le_antisymm (List.not_lt.1 d) (List.not_lt.1 e);obtain⟨-,m|⟨c,-,rfl⟩⟩:=m<;>obtain⟨-,l|⟨v,-,rfl⟩⟩:=l
 .have s:=mn m.2;have u:=mn l.2;have:k=z:=by rw[<-s.1,<-u.1,n]
  subst this;have p:=CF q.vs k (f k) (t k);obtain⟨i,r,rfl⟩:=gM m.2;obtain⟨j,o,rfl⟩:=gM l.2;rcases Nat.lt_trichotomy i j with h|h|h
  .exact .inr (.inl (List.pairwise_iff_getElem.1 p i j r o h))
  .subst h;exact .inl rfl
  .exact .inr (.inr (List.pairwise_iff_getElem.1 p j i o r h))
 .exact .inr (.inl (.inr ⟨n,.inl ⟨(mn m.2).2,rfl⟩⟩))
 .exact .inr (.inr (.inr ⟨n.symm,.inl ⟨(mn l.2).2,rfl⟩⟩))
 .have:c=v:=n;subst this;exact .inl rfl
theorem CK(f:List UInt8->List Ver)(p k:List UInt8)(b:k.length<=40)(a:p <+:k)(c:f k≠[]):(k,f k)∈cz f p:=by
 obtain⟨r,rfl⟩:=a;rw[lP]at b;exact Cx (41-p.length) (λk=>f (p++k)) p r (by omega) c
theorem uq(f:List UInt8->List Ver)(p:List UInt8)(x:List UInt8×List Ver)(b:x∈cz f p):p <+:x.1/\x.2=f x.1/\x.2≠[]:=by
 obtain⟨k,a,c⟩:=ub _ _ _ x b;exact⟨⟨k,a.symm⟩,by rw[c,a],jo _ _ _ x b⟩
theorem wC(q:Qy)(f:List UInt8->List Ver)(R:KVs)(r:∀k,(f k).Pairwise λa b=>a.num<b.num)(j:∀k,f k≠[]->k.length<=40)
  (m:∀c∈R,c.2=f c.1/\f c.1≠[]) (i:∀k,f k≠[]->(k,f k)∈R):fe q R=bH q (cz f q.p.data.toList):=by
 obtain⟨n,l⟩:=CJ (Ho q f r) q R [] List.Pairwise.nil (λx o=>by simp at o) (λc d _ x o=>⟨c.1,(m c d).2,(m c d).1▸o⟩);refine CC (λ_ _=>ww) _ _ n (CG q _ _ rfl (uk f _) λc d=>(uq f _ c d).2.1▸r _).1 λx=>?_
 have e:=wB q (cz f q.p.data.toList) x;unfold bH at e;refine(l x).trans (Iff.trans ?_ e.symm);constructor
 .rintro (h|⟨c,d,t,h⟩)
  .simp at h
  .have ⟨u,s⟩:=m c d;exact⟨(c.1,f c.1),CK f _ c.1 (j _ s) t s,u▸h⟩
 .rintro ⟨c,d,h⟩;obtain⟨n,l,v⟩:=uq f _ c d;refine .inr ⟨(c.1,f c.1),i _ (l▸v),n,?_⟩;exact l▸h
theorem eF(c:Int)(w:Wj):Calls Yq.prog 30 #[I K c] w λe a=>e=.returned (aD ⟨c,0,⟨#[]⟩⟩)/\Below w.heap.size w a:=by
 go_enter (Yq.nq func30),ntmps30;go_wp2;exact bodyPost_ret (v:=aD ⟨c,0,⟨#[]⟩⟩) (by simp[aD,results,results30,go_sem]) rfl ⟨rfl,(bR _ _).alloc (lR _) _⟩
def jy(x:Ax)(a:Option Addr)(c:Nat):Wx:=.agg #[I K x.code,I K x.ver,U x.body,M a 0 c,U ⟨#[]⟩]
theorem eM(x:Ax)(a:Option Addr)(c:Nat)(w:Wj):Calls Yq.prog 26 #[jy x a c,aD x] w λe b=>e=.returned (C Y)/\Below w.heap.size w b:=by
 have z0:(x.code==x.code)=true:=by simp
 have z1:(x.ver==x.ver)=true:=by simp
 unfold aD jy;go_enter (Yq.nq func26),ntmps26;go_wp2;go_ret;exact⟨rfl,((bR _ _).alloc (lR _) _).alloc (by simp) _⟩
structure bD where
 key:ByteArray
 h:List Ver
 v:Wx
def aB(R:List bD):List Wx:=R.flatMap λe=>[U e.key,e.v]
theorem ja(R:List bD):(aB R).length=R.length*2:=fO 2 _ (λ_=>rfl) R
structure ax (B:Nat)(w:Wj)(k:Nat)(sl:Wx)(R:List bD)(nx tm:Int):Prop where
 cells:aW w k sl (I K nx) (I K tm)
 row:w.ownsRow B 140 2 sl R.length (aB R)
 vers:∀e∈R,w.ownsRow B 130 3 e.v e.h.length (aq e.h)
 apart:sl.ownBlock≠J k
 apartV:∀e∈R,e.v.ownBlock≠J k
 apartE:∀e∈R,e.v.ownBlock≠sl.ownBlock
 pw:R.Pairwise (λa b=>a.v.ownBlock≠b.v.ownBlock)
theorem ax.ent{c:Wx}{R:List bD}{e:Int}(h:ax B w k c R tm e)(i:Nat)(b:i<R.length):
  ∃g a,c=M (J ⟨g,0,N⟩) R.length a/\B<=g/\g<w.heap.size/\w.cell? ⟨g,i*2,N⟩=J (U R[i].key)/\w.cell? ⟨g,i*2+1,N⟩=J R[i].v:=by
 obtain⟨g,a,rfl,d,f,h3⟩:=cW h.row (by omega);refine⟨g,a,rfl,d,f,?_,?_⟩
 .have:=h.row.cellAt (i*2+0) (by omega);rw[aB,ce 2 _ (λ_=>rfl) R i 0 b (by omega)]at this;simpa using this
 .have:=h.row.cellAt (i*2+1) (by omega);rw[aB,ce 2 _ (λ_=>rfl) R i 1 b (by omega)]at this;simpa using this
theorem ur(a:ByteArray):(a.toList==a.toList)=true:=by simp
theorem us{o b:ByteArray}(h:o≠b):(o.toList==b.toList)=false:=by
 rw[ByteArray.toList_eq,ByteArray.toList_eq];have:o.data.toList≠b.data.toList:=λe=>h (by cases o;cases b;simp only[ByteArray.mk.injEq];exact Array.toList_inj.1 e)
 simpa using this
def ut(R:List bD)(key:ByteArray)(w:Wj)(e:Ending)(w':Wj):Prop:=
 w=w'/\((∃ (i:Nat) (h:i<R.length),R[i].key=key/\e=.returned (I K i))\/((∀x∈R,x.key≠key)/\e=.returned (I K (-1))))
theorem jb(B k:Nat)(v:Wx)(R:List bD)(r o:Int)(a:ByteArray)(w:Wj)(H:ax B w k v R r o)(hn:R.length<=1000):
  Calls Yq.prog 82 #[O (J ⟨k,0,N⟩),U a] w (ut R a w):=by
 obtain⟨s,u,rfl,-⟩:=az H.row;have c0:=H.cells.c0;have HH:Hid (ax B w k (M s R.length u) R r o):=H;clear H;unfold ut;go_enter (Yq.nq func82),ntmps82;go_wp2_with fail
 go_loopw [5] (λs4 wr=>∃i:Nat,i<=R.length/\s4=I K i/\(∀j (h:j<R.length),j<i->R[j].key≠a)/\wr=w) (λs4 _=>R.length-(intOf s4).toNat)
 case atStart=>exact⟨0,Nat.zero_le _,rfl,λj h d=>absurd d (by omega),rfl⟩
 case round=>
  obtain⟨i,hin,rfl,e,rfl⟩:=hrel;have f:Hid (∀j (h:j<R.length),j<i->R[j].key≠a):=e;clear e;by_cases b:i<R.length
  .skip
   obtain⟨g,cap,y,-,-,m,p⟩:=HH.out.ent i b;cases y;have hii:(i:Int)<(R.length:Int):=by omega
   by_cases c:R[i].key=a
   .have HE:Hid (R[i].key=a):=c;rw[c]at m;clear c p;have n:=ur a;go_wp2_with fail
    go_ret;exact⟨rfl,Or.inl ⟨i,b,HE.out,rfl⟩⟩
   .have HE:Hid (R[i].key≠a):=c;have n:=us c;generalize R[i].key=kk at m n;clear p c;go_wp2_with fail
    refine⟨⟨i+1,b,by go_num,λj d hji=>?_,trivial⟩,by simp[intOf];omega⟩;rcases Nat.lt_or_ge j i with q|q
    .exact f.out j d q
    .have:j=i:=by omega
     subst this;exact HE.out
  .have l:i=R.length:=by omega
   subst l;go_wp2;go_ret;refine⟨rfl,Or.inr ⟨λx t=>?_,rfl⟩⟩;obtain⟨j,d,rfl⟩:=gM t;exact f.out j d d
def totR(R:List bD):Nat:=(R.map (·.h.length)).sum
theorem uu(R:List bD)(i:Nat)(h:i<R.length):totR (R.take (i+1))=totR (R.take i)+R[i].h.length:=by
 unfold totR;rw[tS h,List.map_append,List.sum_append];simp
theorem gQ(R:List bD)(i:Nat):totR R=totR (R.take i)+totR (R.drop i):=by
 unfold totR
 conv=>lhs;rw[<-List.take_append_drop i R]
 rw[List.map_append,List.sum_append]
theorem gl(R:List bD)(h:∀e∈R,e.h≠[]):R.length<=totR R:=by
 induction R with
 |nil=>simp[totR]
 |cons a r ih=>
  have h1:=ih (λe b=>h e (List.mem_cons_of_mem _ b));have h2:=List.length_pos_iff.2 (h a (List.mem_cons_self ..));simp only[totR,List.map_cons,List.sum_cons,lC]at *;omega
theorem mo(B k:Nat)(q:Wx)(R:List bD)(n j:Int)(w:Wj)(H:ax B w k q R n j)(hlt:R.length<=totR R)(hn:totR R<=1000):
  Calls Yq.prog 63 #[O (J ⟨k,0,N⟩)] w λe r=>e=.returned (I K (totR R:Int))/\w=r:=by
 obtain⟨v,p,rfl,-⟩:=az H.row;have c0:=H.cells.c0;have HH:Hid (ax B w k (M v R.length p) R n j):=H;clear H;go_enter (Yq.nq func63),ntmps63;go_wp2_with fail
 go_loopw [3,4] (λs3 s4 wr=>∃i:Nat,i<=R.length/\s3=I K (totR (R.take i):Int)/\s4=I K i/\wr=w) (λ_ s4 _=>R.length-(intOf s4).toNat)
 case atStart=>exact⟨0,Nat.zero_le _,rfl,rfl,rfl⟩
 case round=>
  obtain⟨i,hin,rfl,rfl,rfl⟩:=hrel;have hts:=gQ R i;by_cases a:i<R.length
  .skip
   obtain⟨g,cap,u,-,-,o,s⟩:=HH.out.ent i a;obtain⟨vb,vd,d,-⟩:=az (HH.out.vers R[i] (List.getElem_mem a));rw[d]at s;cases u;have c:=gQ R (i+1);have b:=uu R i a;rw[b]at c;have HT:Hid (totR (R.take (i+1))=totR (R.take i)+R[i].h.length):=b;clear d b o;have hii:(i:Int)<(R.length:Int):=by omega
   generalize R[i].h.length=m at *;generalize totR (R.take i)=t at *;go_wp2_with fail
   refine⟨⟨i+1,a,by rw[HT.out];go_num,by go_num,trivial⟩,by simp[intOf];omega⟩
  .have f:i=R.length:=by omega
   subst f;have HT:Hid (R.take R.length=R):=List.take_length;go_wp2;go_ret;exact⟨qr (congrArg (λl=>(totR l:Int)) HT.out),rfl⟩
theorem aW.grown{x v z:Wx}{row:Option Nat}(h:aW w k x v z)(c:w.grownBy w' row)(a:row≠J k):aW w' k x v z:=
 ⟨c.cell h.c0 (λe=>a e.symm),c.cell h.c1 (λe=>a e.symm),c.cell h.c2 (λe=>a e.symm),λj=>(bG c ⟨k,j,N⟩ h.lt (λe=>a e.symm)).trans (h.fz j)⟩
theorem ax.grown{a:Wx}{R:List bD}{c:Int}{row:Option Nat}(H:ax B w k a R tm c)(b:w.grownBy w' row)(i:row≠J k)(h:a.ownBlock=N\/a.ownBlock≠row)(j:∀e∈R,e.v.ownBlock=N\/e.v.ownBlock≠row):
  ax B w' k a R tm c:=
 ⟨H.cells.grown b i,H.row.kept b h,λe d=>(H.vers e d).kept b (j e d),H.apart,H.apartV,H.apartE,H.pw⟩
theorem none_or(o:Option Nat):o=N\/o≠none:=by cases o<;>simp
theorem ax.below{v:Wx}{R:List bD}{d:Int}(H:ax B w k v R d tm)(c:Below w.heap.size w w'):ax B w' k v R d tm:=
 H.grown (aS c N) (by simp) (none_or _) (λ_ _=>none_or _)
theorem ax.alloc{v:Wx}{R:List bD}{d:Int}(H:ax B w k v R d tm)(o:Obj):ax B (w.alloc o) k v R d tm:=
 H.below ((bR _ _).alloc (lR _) _)
theorem ax.lt{v:Wx}{R:List bD}{d:Int}(H:ax B w k v R tm d):k<w.heap.size:=H.cells.lt
theorem cF(w:Wj)(k o:Nat)(v:Wx):w.grownBy (w.setCell ⟨k,o,N⟩ v) (J k):=dC (World.grownBy.refl w _) _ _
theorem ax.set1{v:Wx}{R:List bD}{d:Int}(H:ax B w k v R d tm)(a:Int):ax B (w.setCell ⟨k,1,N⟩ (I K a)) k v R a tm:=
 ⟨H.cells.set1 _,H.row.kept (cF w k 1 _) (Or.inr H.apart),λe b=>(H.vers e b).kept (cF w k 1 _) (Or.inr (H.apartV e b)),H.apart,H.apartV,H.apartE,H.pw⟩
theorem rE{e:TypeId}{a:Nat}{v:Wx}{b:List Wx}(h:w.ownsRow B e a v k b)(c:0<k):v.ownBlock≠none:=by
 obtain⟨g,cap,rfl,-⟩:=cW h c;simp[Value.ownBlock]
theorem ax.put0{o sl':Wx}{R R':List bD}{s:Int}(H:ax B w k o R tm s)(r:w.grownBy w' o.ownBlock)(x:w'.ownsRow B 140 2 sl' R'.length (aB R'))(n:sl'.ownBlock=J g)
  (i:o.ownBlock=J g\/w.heap.size<=g) (p:∀e∈R',(e∈R)\/(e.h=[]/\e.v=M N 0 0)) (m:R'.Pairwise (λa b=>a.v.ownBlock≠b.v.ownBlock)):
  ax B (w'.setCell ⟨k,0,N⟩ sl') k sl' R' tm s:=by
 have hk:=H.lt;have j:g≠k:=by
  rcases i with h|h
  .intro e;subst e;exact H.apart h
  .omega
 have u:∀e∈R,e.v.ownBlock≠J g:=λe d=>by
  rcases i with h|h
  .rw [<-h];exact H.apartE e d
  .intro y;have:=(H.vers e d).lt g y;omega
 have c:=cF w' k 0 sl';refine⟨(H.cells.grown r (λe=>H.apart e)).set0 _,x.kept c (Or.inr (by rw[n];simpa using j)),?_,by rw[n];simpa using j,?_,?_,m⟩
 .intro e d;rcases p e d with h|⟨q,f⟩
  .exact ((H.vers e h).kept r (Or.inr (H.apartE e h))).kept c (Or.inr (H.apartV e h))
  .rw [q,f];exact World.ownsRow_nil _ _ _ _
 .intro e d;rcases p e d with h|⟨q,f⟩
  .exact H.apartV e h
  .rw [f];simp[Value.ownBlock]
 .intro e d;rw[n];rcases p e d with h|⟨q,f⟩
  .exact u e h
  .rw [f];simp[Value.ownBlock]
theorem uv(R:List bD)(i:Nat)(c:i<R.length)(h:List Ver)(v:Wx):(aB R).set (i*2+1) v=aB (R.set i ⟨R[i].key,h,v⟩):=by
 have a:R=R.take i++R[i]::R.drop (i+1):=by simp
 have f:(R.take i).length=i:=by rw[tL];omega
 have d:(aB (R.take i)).length=i*2:=by rw[ja,f]
 have e:aB R=aB (R.take i)++([U R[i].key,R[i].v]++aB (R.drop (i+1))):=
  (congrArg aB a).trans (by unfold aB;rw[List.flatMap_append,List.flatMap_cons])
 have b:R.set i ⟨R[i].key,h,v⟩=R.take i++⟨R[i].key,h,v⟩::R.drop (i+1):=by
  rw[List.set_eq_take_append_cons_drop,if_pos c]
 rw[b,e,List.set_append_right _ _ (by omega),d,Nat.add_sub_cancel_left];simp[aB]
theorem IF{R:List bD}{i:Nat}(_hi:i<R.length){x:bD}(l:R.Pairwise (λa b=>a.v.ownBlock≠b.v.ownBlock))(m:∀j (hj:j<R.length),j≠i->R[j].v.ownBlock≠x.v.ownBlock):(R.set i x).Pairwise (λa b=>a.v.ownBlock≠b.v.ownBlock):=by
 rw[List.pairwise_iff_getElem]at l ⊢;intro a b h f d;rw[List.length_set]at h f;rw[List.getElem_set,List.getElem_set];by_cases k:i=a
 .have c:¬i=b:=by omega
  rw[if_pos k,if_neg c];exactλe=>m b f (by omega) e.symm
 .rw [if_neg k];by_cases c:i=b
  .rw [if_pos c];exact m a h (by omega)
  .rw [if_neg c];exact l a b h f d
theorem ax.putV{x y:Nat}{R:List bD}{i:Nat}(H:ax B w k (M (J ⟨x,0,N⟩) R.length y) R nx tm)(A:i<R.length){v':Wx}{h':List Ver}{m:Option Nat}(S:w.grownBy w' m)(n:m=N\/m=R[i].v.ownBlock)
  (ho:w'.ownsRow B 130 3 v' h'.length (aq h')) (hv:v'.ownBlock=N\/v'.ownBlock=R[i].v.ownBlock\/∃g,v'.ownBlock=J g/\w.heap.size<=g) (u:∀j (a:j<R.length),j≠i->R[j].h≠[]):
  ax B (w'.setCell ⟨x,i*2+1,N⟩ v') k (M (J ⟨x,0,N⟩) R.length y) (R.set i ⟨R[i].key,h',v'⟩) nx tm:=by
 have hk:=H.lt;have f:R[i]∈R:=List.getElem_mem A;have G:=H.row.lt x rfl;have T:m≠J k:=by
  rcases n with h|h
  .rw [h];simp
  .rw [h];exact H.apartV _ f
 have V:m≠J x:=by
  rcases n with h|h
  .rw [h];simp
  .rw [h];exact H.apartE _ f
 have p:∀b,b<w.heap.size->R[i].v.ownBlock≠J b->v'.ownBlock≠J b:=by
  intro b F hn;rcases hv with h|h|⟨g,h,hgg⟩
  .rw [h];simp
  .rw [h];exact hn
  .rw [h];simp;omega
 have Q:v'.ownBlock≠J k:=p k hk (H.apartV _ f);have D:v'.ownBlock≠J x:=p x G.2 (H.apartE _ f);have r:=H.pw;rw[List.pairwise_iff_getElem]at r;have o:∀j (a:j<R.length),j≠i->R[j].v.ownBlock≠R[i].v.ownBlock:=λj a c=>by
  rcases Nat.lt_or_gt_of_ne c with h|h
  .exact r j i a A h
  .exact λe=>r i j A a h e.symm
 have q:∀j (a:j<R.length),j≠i->R[j].v.ownBlock≠v'.ownBlock:=λj a c=>by
  cases F:R[j].v.ownBlock with
  |none=>exact absurd F (rE (H.vers _ (List.getElem_mem a)) (List.length_pos_iff.2 (u j a c)))
  |some b=>
   have P:=(H.vers _ (List.getElem_mem a)).lt b F;exactλe=>p b P.2 (λe2=>o j a c (by rw[F,e2])) e.symm
 have X:=(H.row.kept S (Or.inr (λe=>V e.symm))).stored (i*2+1) v';have l:=X.2;have hc:=(H.cells.grown S T).grown l (λe=>H.apart (by simpa[Value.ownBlock]using e));have d:∀e∈R.set i ⟨R[i].key,h',v'⟩,e=⟨R[i].key,h',v'⟩\/∃j,∃a:j<R.length,j≠i/\e=R[j]:=λe t=>by
  obtain⟨j,a,rfl⟩:=gM t;rw[List.length_set]at a;rw[List.getElem_set];by_cases s:i=j
  .rw [if_pos s];exact Or.inl rfl
  .rw [if_neg s];exact Or.inr ⟨j,a,λe=>s e.symm,rfl⟩
 refine⟨hc,?_,?_,H.apart,?_,?_,IF A H.pw q⟩
 .rw [List.length_set,<-uv R i A h' v'];exact X.1
 .intro e t;rcases d e t with rfl|⟨j,a,c,rfl⟩
  .exact ho.kept l (Or.inr D)
  .have z:=List.getElem_mem a;refine((H.vers _ z).kept S ?_).kept l (Or.inr (H.apartE _ z));rcases n with h|h
   .rw [h];exact none_or _
   .rw [h];exact Or.inr (o j a c)
 .intro e t;rcases d e t with rfl|⟨j,a,c,rfl⟩
  .exact Q
  .exact H.apartV _ (List.getElem_mem a)
 .intro e t;rcases d e t with rfl|⟨j,a,c,rfl⟩
  .exact D
  .exact H.apartE _ (List.getElem_mem a)
structure Sim (st:St)(R:List bD)(nx:Int):Prop where
 next:nx=st.last+1
 full:∀e∈R,e.h≠[]
 keys:R.Pairwise (λa b=>a.key≠b.key)
 here:∀e∈R,st.f e.key.data.toList=e.h
 gone:∀k,(∀e∈R,e.key.data.toList≠k)->st.f k=[]
 count:st.count=(totR R:Int)
 lim:totR R<=200
structure bu (w w':Wj)(k:Nat)(sl:Wx)(R:List bD):Prop where
 os:w'.os=w.os
 tape:w'.tape=w.tape
 output:w'.output=w.output
 size:w.heap.size<=w'.heap.size
 block:∀b,b<w.heap.size->b≠k->sl.ownBlock≠J b->(∀e∈R,e.v.ownBlock≠J b)->w'.heap[b]?=w.heap[b]?
 cells:∀j,3<=j->w'.cell? ⟨k,j,N⟩=w.cell? ⟨k,j,N⟩
 frozen:∀j,w'.frozen? ⟨k,j,N⟩=w.frozen? ⟨k,j,N⟩
def bQ(B k:Nat)(d:St)(a:Ax)(w:Wj)(sl:Wx)(R:List bD)(tm:Int)(e:Ending)(w':Wj):Prop:=
 e=.returned (aD a)/\∃c R' b,ax B w' k c R' b tm/\Sim d R' b/\bu w w' k sl R
theorem bI(d:k<w.heap.size)(a:Below w.heap.size w w')(e:Wx)(R:List bD):bu w w' k e R:=
 ⟨a.os,a.tape,a.output,a.size,λb h _ _ _=>a.block b h,λ_ _=>cB (a.block k d),λ_=>fB (a.block k d)⟩
theorem zU(w:Wj)(k o:Nat)(v:Wx)(ho:o<3)(a:Wx)(R:List bD):bu w (w.setCell ⟨k,o,N⟩ v) k a R:=
 ⟨rfl,rfl,rfl,by simp[World.setCell],λb _ h _ _=>bS _ _ _ _ h,λj hj=>cO w ⟨k,o,N⟩ ⟨k,j,N⟩ v (λe=>by have:=congrArg Addr.off e;simp only at this;omega),λj=>by simp⟩
theorem bu.below{i:Wj}{v:Wx}{R:List bD}(h:bu w w' k v R)(a:Below w'.heap.size w' i)(d:k<w'.heap.size):bu w i k v R:=
 ⟨a.os.trans h.os,a.tape.trans h.tape,a.output.trans h.output,lT h.size a.size,λb f m o n=>(a.block b (lL f h.size)).trans (h.block b f m o n),
  λj l=>(cB (a.block k d)).trans (h.cells j l),λj=>(fB (a.block k d)).trans (h.frozen j)⟩
theorem bu.step{w f q:Wj}{k:Nat}{i:Wx}{R:List bD}{a:Option Nat}(h:bu w f k i R)(c:f.grownBy q a)(t:∀b,b<w.heap.size->a=J b->i.ownBlock=J b\/∃e∈R,e.v.ownBlock=J b)(n:k<f.heap.size)(d:a≠J k):bu w q k i R:=by
 refine⟨c.os.trans h.os,c.tape.trans h.tape,c.output.trans h.output,lT h.size c.size,λb l s p o=>?_,
  λj r=>(cB (c.block k n (λe=>d e.symm))).trans (h.cells j r),λj=>(fB (c.block k n (λe=>d e.symm))).trans (h.frozen j)⟩
 refine(c.block b (lL l h.size) (λe=>?_)).trans (h.block b l s p o);rcases t b l e.symm with m|⟨x,u,m⟩
 .exact p m
 .exact o x u m
theorem jw(w:Wj)(x:Nat)(a b c d e:Wx):w.grownBy (((((w.setCell ⟨x,0,N⟩ a).setCell ⟨x,1,N⟩ b).setCell ⟨x,2,N⟩ c).setCell ⟨x,3,N⟩ d).setCell ⟨x,4,N⟩ e) (J x):=
 dC (dC (dC (dC (cF w x 0 a) _ _) _ _) _ _) _ _
theorem dz(A C:List bD):totR (A++C)=totR A+totR C:=by unfold totR;rw[List.map_append,List.sum_append]
theorem xX(R:List bD)(i:Nat)(b:i<R.length)(x:bD):totR (R.set i x)+R[i].h.length=totR R+x.h.length:=by
 have a:R=R.take i++([R[i]]++R.drop (i+1)):=by simp
 have c:R.set i x=R.take i++([x]++R.drop (i+1)):=by rw[List.set_eq_take_append_cons_drop,if_pos b];rfl
 have d:=congrArg totR a;rw[c,dz,dz,d,dz,dz];simp only[totR,List.map_cons,List.map_nil,List.sum_cons,List.sum_nil];omega
theorem mq{R:List bD}{i:Nat}{x e:bD}(c:e∈R.set i x):e=x\/∃j,∃b:j<R.length,j≠i/\e=R[j]:=by
 obtain⟨j,b,rfl⟩:=gM c;rw[List.length_set]at b;rw[List.getElem_set];by_cases a:i=j
 .rw [if_pos a];exact Or.inl rfl
 .rw [if_neg a];exact Or.inr ⟨j,b,λe=>a e.symm,rfl⟩
theorem qm{R:List bD}{i:Nat}{x:bD}(a:i<R.length):x∈R.set i x:=List.mem_iff_getElem.2 ⟨i,by rw[List.length_set];exact a,by rw[List.getElem_set,if_pos rfl]⟩
theorem qn{R:List bD}{i:Nat}{x:bD}(b:k<R.length)(a:k≠i):R[k]∈R.set i x:=List.mem_iff_getElem.2 ⟨k,by rw[List.length_set];exact b,by rw[List.getElem_set,if_neg (λe=>a e.symm)]⟩
theorem jc{o b:ByteArray}(h:o.data.toList=b.data.toList):o=b:=by cases o;cases b;simp only[ByteArray.mk.injEq];exact Array.toList_inj.1 h
theorem Sim.other{R:List bD}(S:Sim A R tm){i j:Nat}(d:i<R.length)(c:j<R.length)(b:j≠i):R[j].key≠R[i].key:=by
 have a:=S.keys;rw[List.pairwise_iff_getElem]at a;rcases Nat.lt_or_gt_of_ne b with h|h
 .exact a j i c d h
 .exact λe=>a i j d c h e.symm
theorem Sim.addFound{c:St}{R:List bD}(S:Sim c R tm){i:Nat}(m:i<R.length){o:ByteArray}(s:R[i].key=o)(r:ByteArray)(t:Bool)(v:Wx)(hc:¬200<=c.count):Sim (cJ c o r t) (R.set i ⟨R[i].key,R[i].h++[⟨c.last+1,r,t⟩],v⟩) (c.last+1+1):=by
 subst s;have D:=xX R i m ⟨R[i].key,R[i].h++[⟨c.last+1,r,t⟩],v⟩;simp only[lP,lC,lN]at D;have hcnt:=S.count;refine⟨rfl,?_,?_,?_,?_,?_,by omega⟩
 .intro e p;rcases mq p with rfl|⟨j,n,-,rfl⟩
  .simp
  .exact S.full _ (List.getElem_mem n)
 .rw [List.pairwise_iff_getElem];intro a b A z y;rw[List.length_set]at A z;rw[List.getElem_set,List.getElem_set];by_cases q:i=a
  .have l:¬i=b:=by omega
   rw[if_pos q,if_neg l];exactλe=>S.other m z (by omega) e.symm
  .rw [if_neg q];by_cases l:i=b
   .rw [if_pos l];exact S.other m A (by omega)
   .rw [if_neg l];have B:=S.keys;rw[List.pairwise_iff_getElem]at B;exact B a b A z y
 .intro e p;rcases mq p with rfl|⟨j,n,d,rfl⟩
  .simp [cJ,upd,S.here _ (List.getElem_mem m)]
  .have u:R[j].key.data.toList≠R[i].key.data.toList:=λe=>S.other m n d (jc e)
   simp[cJ,upd,u,S.here _ (List.getElem_mem n)]
 .intro k s;have q:=s _ (qm (x:=⟨R[i].key,R[i].h++[⟨c.last+1,r,t⟩],v⟩) m);have l:c.f k=[]:=S.gone k (λe p=>by
   obtain⟨j,n,rfl⟩:=gM p;by_cases d:j=i
   .subst d;exact q
   .exact s _ (qn n d))
  simp only[cJ,upd];rw[if_neg (λe=>q e.symm)];exact l
 .show c.count+1=_;omega
theorem Sim.addNew{R:List bD}(S:Sim A R tm){c:ByteArray}(n:∀x∈R,x.key≠c)(l:ByteArray)(m:Bool)(v:Wx)(hc:¬200<=A.count):Sim (cJ A c l m) (R++[⟨c,[⟨A.last+1,l,m⟩],v⟩]) (A.last+1+1):=by
 have ht:totR (R++[⟨c,[⟨A.last+1,l,m⟩],v⟩])=totR R+1:=by rw[dz];rfl
 have hcnt:=S.count;have j:∀e∈R,e.key.data.toList≠c.data.toList:=λe i h=>n e i (jc h)
 refine⟨rfl,?_,?_,?_,?_,?_,by omega⟩
 .intro e i;rcases List.mem_append.1 i with h|h
  .exact S.full _ h
  .simp only[List.mem_cons,List.not_mem_nil,or_false]at h;subst h;simp
 .rw [List.pairwise_append];refine⟨S.keys,List.pairwise_singleton _ _,λa p b o=>?_⟩;simp only[List.mem_cons,List.not_mem_nil,or_false]at o;subst o;exact n a p
 .intro e i;rcases List.mem_append.1 i with h|h
  .simp [cJ,upd,j e h,S.here _ h]
  .simp only[List.mem_cons,List.not_mem_nil,or_false]at h;subst h;have:A.f c.data.toList=[]:=S.gone _ j;simp[cJ,upd,this]
 .intro k h;have r:=h ⟨c,[⟨A.last+1,l,m⟩],v⟩ (by simp);have q:A.f k=[]:=S.gone k (λe i=>h e (List.mem_append_left _ i));simp only[cJ,upd];rw[if_neg (λe=>r e.symm)];exact q
 .show A.count+1=_;omega
theorem Yq.infoREnt:(Yq.prog.info? 140).map (λi=>(i.zero,i.size,i.bytes))=J (J (.agg #[U ⟨#[]⟩,M N 0 0]),2,40):=by kernel_rfl
theorem Yq.infoRver:(Yq.prog.info? 130).map (λi=>(i.zero,i.size,i.bytes))=J (J (.agg #[I K 0,U ⟨#[]⟩,C Z]),3,32):=by kernel_rfl
structure jG (x:Nat)(W:Wj):Prop where
 c0:W.cell? ⟨x,0,N⟩=J (I K 0)
 c1:W.cell? ⟨x,1,N⟩=J (I K 0)
 c2:W.cell? ⟨x,2,N⟩=J (U ⟨#[]⟩)
 c3:W.cell? ⟨x,3,N⟩=J (M N 0 0)
 c4:W.cell? ⟨x,4,N⟩=J (U ⟨#[]⟩)
 fz:∀j,W.frozen? ⟨x,j,N⟩=Z
theorem jG.lt{x:Nat}(h:jG x W):x<W.heap.size:=bC W ⟨x,0,N⟩ h.c0
theorem Fc(w:Wj)(x:Nat)(a:w.heap.size=x)(T:TypeId):jG x (w.alloc (E #[I K 0,I K 0,U ⟨#[]⟩,M N 0 0,U ⟨#[]⟩] T)):=by
 subst a;exact⟨by rw[cA (w:=w) _ _ w.heap.size 0 rfl];rfl,by rw[cA (w:=w) _ _ w.heap.size 1 rfl];rfl,by rw[cA (w:=w) _ _ w.heap.size 2 rfl];rfl,by rw[cA (w:=w) _ _ w.heap.size 3 rfl];rfl,by rw[cA (w:=w) _ _ w.heap.size 4 rfl];rfl,λj=>World.frozen?_alloc_at (w:=w) _ _ w.heap.size j rfl⟩
theorem jG.on{x:Nat}(h:jG x W)(a:Below W.heap.size W w1):jG x w1:=
 ⟨ah a h.c0,ah a h.c1,ah a h.c2,ah a h.c3,ah a h.c4,λj=>(a.frozen (p:=⟨x,j,N⟩) h.lt).trans (h.fz j)⟩
theorem jG.grown{x:Nat}{row:Option Nat}(h:jG x W)(b:W.grownBy w1 row)(a:row≠J x):jG x w1:=
 ⟨b.cell h.c0 (λe=>a e.symm),b.cell h.c1 (λe=>a e.symm),b.cell h.c2 (λe=>a e.symm),b.cell h.c3 (λe=>a e.symm),b.cell h.c4 (λe=>a e.symm),λj=>(bG b ⟨x,j,N⟩ h.lt (λe=>a e.symm)).trans (h.fz j)⟩
theorem dH{i:Wj}{x:Nat}(h:Below B w i)(f:B<=x)(a b c d e:Wx):Below B w (((((i.setCell ⟨x,0,N⟩ a).setCell ⟨x,1,N⟩ b).setCell ⟨x,2,N⟩ c).setCell ⟨x,3,N⟩ d).setCell ⟨x,4,N⟩ e):=
 ((((h.setCell f _).setCell f _).setCell f _).setCell f _).setCell f _
theorem CL(B k:Nat)(c:Wx)(R:List bD)(b h:Int)(f:St)(i:ByteArray)(r:Int)(m:ByteArray)(q:Bool)(w:Wj)(H:ax B w k c R b h)(S:Sim f R b)(hfull:200<=f.count):
  Calls Yq.prog 56 #[O (J ⟨k,0,N⟩),U i,.agg #[I K r,U m,C q]] w (bQ B k f ⟨4,0,⟨#[]⟩⟩ w c R h):=by
 have d:=gl R S.full;have hlim:=S.lim;have hc:=S.count;have j:=H.lt;have HH:Hid (ax B w k c R b h/\Sim f R b):=⟨H,S⟩;clear H S;have ht:(200:Int)<=(totR R:Int):=by omega
 unfold bQ;go_enter (Yq.nq func56),ntmps56;go_wp2_with fail
 refine(mo B k c R b h _ ((HH.out.1.alloc _).alloc _) d (by omega)).mono ?_;rintro e w1 ⟨rfl,rfl⟩;go_wp2_with fail
 refine(eF 4 _).mono ?_;rintro e p ⟨rfl,l⟩;have o:Below w.heap.size w p:=(((bR _ w).alloc (lR _) _).alloc (by simp) _).trans (l.mono (by simp;omega));have HB:Hid (Below w.heap.size w p):=o;have RA:=(Fc (w.alloc (E #[I K r,U m,C q] 130)) (w.heap.size+1) (by simp) 46).on l;obtain⟨t,z,s,u,y,a⟩:=RA;have g0:=a 0;have g1:=a 1;have g2:=a 2;have g3:=a 3;have g4:=a 4;clear o l a;unfold aD;go_wp2;refine bodyPost_ret (v:=aD ⟨4,0,⟨#[]⟩⟩) (by simp[results,results56,go_sem,aD,t,z,s,u,y]) rfl ⟨rfl,?_⟩;have n:=dH HB.out (x:=w.heap.size+1) (by omega) (I K 4) (I K 0) (U ⟨#[]⟩) (M N 0 0) (U ⟨#[]⟩);exact⟨c,R,b,HH.out.1.below n,HH.out.2,bI j n _ _⟩
theorem ax.notRow{j:Wx}{R:List bD}{p:Int}(H:ax B w k j R p tm){x:Nat}{T:TypeId}(h:∃a z,w.heap[x]?=J (E a T z))(n:T≠140)(m:T≠130):
  j.ownBlock≠J x/\∀e∈R,e.v.ownBlock≠J x:=by
 obtain⟨a,z,h⟩:=h;constructor
 .obtain ⟨-,⟨rfl,-⟩|⟨g,f,b,rfl,-,i,-⟩⟩:=H.row
  .simp [Value.ownBlock]
  .intro e;simp only[Value.ownBlock,oI]at e;subst e;rw[i]at h;simp only[oI,Obj.cells.injEq]at h;exact n h.2.1.symm
 .intro o c;obtain⟨-,⟨d,-⟩|⟨g,f,b,d,-,i,-⟩⟩:=H.vers o c
  .rw [d];simp[Value.ownBlock]
  .rw [d];intro e;simp only[Value.ownBlock,oI]at e;subst e;rw[i]at h;simp only[oI,Obj.cells.injEq]at h;exact m h.2.1.symm
theorem ax.old{j:Wx}{R:List bD}{b:Int}(H:ax B w k j R tm b){x:Nat}(h:w.heap.size<=x):x≠k/\j.ownBlock≠J x/\∀e∈R,e.v.ownBlock≠J x:=
 ⟨by have:=H.lt;omega,λe=>by have:=(H.row.lt x e).2;omega,λe c d=>by have:=((H.vers e c).lt x d).2;omega⟩
theorem bu.after{i:Wj}{v:Wx}{R:List bD}(a:Below w.heap.size w w')(e:k<w.heap.size)(c:bu w' i k v R):bu w i k v R:=
 ⟨c.os.trans a.os,c.tape.trans a.tape,c.output.trans a.output,lT a.size c.size,λb h m o n=>(c.block b (lL h a.size) m o n).trans (a.block b h),
  λj l=>(c.cells j l).trans (cB (a.block k e)),λj=>(c.frozen j).trans (fB (a.block k e))⟩
theorem jG.frame{x:Nat}{d:Wx}{R:List bD}(h:jG x W)(f:bu W w1 k d R)(c:x≠k/\d.ownBlock≠J x/\∀e∈R,e.v.ownBlock≠J x):jG x w1:=by
 have b:=f.block x h.lt c.1 c.2.1 c.2.2;exact⟨(cB b).trans h.c0,(cB b).trans h.c1,(cB b).trans h.c2,(cB b).trans h.c3,(cB b).trans h.c4,λj=>(fB (a:=⟨x,j,N⟩) b).trans (h.fz j)⟩
theorem FW{x:Nat}{p j:Wx}{R R':List bD}{i o:Int}(H:ax B w k p R tm o)(D:Below w.heap.size w w')(G:w.heap.size<=x)(q:x<w'.heap.size)(n:∃l z,w'.heap[x]?=J (E l 46 z))(H':ax B W k j R' i o)(F:bu w' W k p R)(a b c d e:Wx):
  ax B (((((W.setCell ⟨x,0,N⟩ a).setCell ⟨x,1,N⟩ b).setCell ⟨x,2,N⟩ c).setCell ⟨x,3,N⟩ d).setCell ⟨x,4,N⟩ e) k j R' i o /\
  bu w (((((W.setCell ⟨x,0,N⟩ a).setCell ⟨x,1,N⟩ b).setCell ⟨x,2,N⟩ c).setCell ⟨x,3,N⟩ d).setCell ⟨x,4,N⟩ e) k p R:=by
 have⟨r,L,u⟩:=H.old G;have m:W.heap[x]?=w'.heap[x]?:=F.block x q r L u;have t:=H'.notRow (x:=x) (T:=46) (by rw[m];exact n) (by decide) (by decide);have s:=jw W x a b c d e;refine⟨H'.grown s (by simpa using r) (Or.inr t.1) (λy A=>Or.inr (t.2 y A)),(bu.after D H.lt F).step s (λb' h1 v=>?_) H'.lt (by simpa using r)⟩;simp only[oI]at v;omega
def Mid(B k:Nat)(tm:Int)(st:St)(key d:ByteArray)(f:Bool)(w:Wj)(sl:Wx)(R:List bD)(c:Wj)(i:Nat):Prop:=
 ∃a R1,∃hi:i<R1.length,ax B c k a R1 (st.last+1+1) tm/\(∀j (hj:j<R1.length),j≠i->R1[j].h≠[])/\R1.length<=1000/\R1[i].h.length<=1000/\jG (w.heap.size+1) c /\
  aW c w.heap.size (I K (st.last+1)) (U d) (C f)/\bu w c k sl R/\w.heap.size+2<=c.heap.size /\
  (∀l,Sim (cJ st key d f) (R1.set i ⟨R1[i].key,R1[i].h++[⟨st.last+1,d,f⟩],l⟩) (st.last+1+1)) /\
  (∀b,b<w.heap.size+2->a.ownBlock=J b->b<w.heap.size/\sl.ownBlock=J b)/\(∀e∈R1,∀b,e.v.ownBlock=J b->b<w.heap.size/\∃e'∈R,e'.v.ownBlock=J b)
theorem qo{c:Wx}{R:List bD}(h:bu w w' k c R)(v:Wx)(_hk:k<w'.heap.size):bu w (w'.setCell ⟨k,0,N⟩ v) k c R:=
 ⟨h.os,h.tape,h.output,by simpa[World.setCell]using h.size,λb f d i m=>(bS _ _ _ _ d).trans (h.block b f d i m),
  λj l=>(cO w' ⟨k,0,N⟩ ⟨k,j,N⟩ v (λe=>by have:=congrArg Addr.off e;simp only at this;omega)).trans (h.cells j l),λj=>(by simp:(w'.setCell ⟨k,0,N⟩ v).frozen? ⟨k,j,N⟩=w'.frozen? ⟨k,j,N⟩).trans (h.frozen j)⟩
theorem uw(R:List bD)(i:Nat)(a:i<R.length):R[i].h.length<=totR R:=by
 have h1:=gQ R i;have h2:=gQ R (i+1);have h3:=uu R i a;omega
theorem Fd{p:Int}{a h:ByteArray}{m:Bool}{v:Wx}{R:List bD}(H:ax B w k v R p tm)(S:Sim A R p)(t:¬200<=A.count){i:Nat}(n:i<R.length)(q:R[i].key=a)
  (X:ax B w' k v R (A.last+1+1) tm/\jG (w.heap.size+1) w'/\aW w' w.heap.size (I K (A.last+1)) (U h) (C m)/\bu w w' k v R/\w'.heap.size=w.heap.size+2):Mid B k tm A a h m w v R w' i:=by
 have h1:=gl R S.full;have h2:=S.lim;have h3:=uw R i n;refine⟨v,R,n,X.1,λj r _=>S.full _ (List.getElem_mem r),by omega,by omega,X.2.1,X.2.2.1,X.2.2.2.1,by omega,λs=>S.addFound n q h m s t,λb _ d=>⟨(H.row.lt b d).2,d⟩,λe o b d=>⟨((H.vers e o).lt b d).2,e,o,d⟩⟩
theorem IG{c Q:ByteArray}{P:Bool}{i:Wx}{R:List bD}(H:ax B w k i R nx tm)(S:Sim A R nx)(hc:¬200<=A.count)(G:∀x∈R,x.key≠c)
  (X:ax B w' k i R (A.last+1+1) tm/\jG (w.heap.size+1) w'/\aW w' w.heap.size (I K (A.last+1)) (U Q) (C P)/\bu w w' k i R/\w'.heap.size=w.heap.size+2) (o:Obj)  {m:Nat}
  (ho:W.ownsRow B 140 2 (M (J ⟨g,0,N⟩) (R.length+1) m) (R.length+1) (aB R++[U c,M N 0 0])) (f:(w'.alloc o).grownBy W i.ownBlock) (z:i.ownBlock=J g\/g=w'.heap.size+1):
  Mid B k tm A c Q P w i R (W.setCell ⟨k,0,N⟩ (M (J ⟨g,0,N⟩) (R.length+1) m)) R.length:=by
 obtain⟨X1,X2,X3,X4,X5⟩:=X;have h1:=gl R S.full;have h2:=S.lim;have hk:=H.lt;have aa:=X1.lt;have T:aB (R++[⟨c,[],M N 0 0⟩])=aB R++[U c,M N 0 0]:=by unfold aB;rw[List.flatMap_append];rfl
 have d:(R++[⟨c,[],M N 0 0⟩]:List bD).length=R.length+1:=by simp
 have l:∀ (h:R.length<(R++[⟨c,[],M N 0 0⟩]:List bD).length),(R++[⟨c,[],M N 0 0⟩]:List bD)[R.length]=⟨c,[],M N 0 0⟩:=λh=>by simp
 have q:∀b,i.ownBlock=J b->b<w.heap.size:=λb n=>(H.row.lt b n).2
 have u:i.ownBlock≠J k:=H.apart;have hA:=X1.alloc o;have L:(R++[⟨c,[],M N 0 0⟩]:List bD).Pairwise (λa b=>a.v.ownBlock≠b.v.ownBlock):=by
  rw[List.pairwise_append];refine⟨X1.pw,List.pairwise_singleton _ _,λa ha b n=>?_⟩;simp only[List.mem_cons,List.not_mem_nil,or_false]at n;subst n;exact rE (X1.vers a ha) (List.length_pos_iff.2 (S.full a ha))
 have V:i.ownBlock=J g\/(w'.alloc o).heap.size<=g:=by
  rcases z with h|h
  .exact Or.inl h
  .exact Or.inr (by simp;omega)
 have F:=hA.put0 (g:=g) (sl':=M (J ⟨g,0,N⟩) (R.length+1) m) (R':=R++[⟨c,[],M N 0 0⟩]) f (by rw[d,T];exact ho) rfl V
  (λe r=>by
   rcases List.mem_append.1 r with h|h
   .exact Or.inl h
   .simp only[List.mem_cons,List.not_mem_nil,or_false]at h;subst h;exact Or.inr ⟨rfl,rfl⟩) L
 have t:=cF W k 0 (M (J ⟨g,0,N⟩) (R.length+1) m);have p:Below w'.heap.size w' (w'.alloc o):=(bR _ _).alloc (lR _) _;have D:i.ownBlock≠J (w.heap.size+1):=λe=>by have:=q _ e;omega
 have y:i.ownBlock≠J w.heap.size:=λe=>by have:=q _ e;omega
 have hsz3:=f.size;have hsza:(w'.alloc o).heap.size=w'.heap.size+1:=by simp
 have hszs:(W.setCell ⟨k,0,N⟩ (M (J ⟨g,0,N⟩) (R.length+1) m)).heap.size=W.heap.size:=by simp[World.setCell]
 refine⟨_,_,by rw[d];omega,F,?_,by rw[d];omega,by rw[l];simp,?_,?_,?_,by omega,?_,?_,?_⟩
 .intro j hj hji;rw[d]at hj;rw[List.getElem_append_left (by omega)];exact S.full _ (List.getElem_mem _)
 .exact ((X2.on p).grown f D).grown t (by simp;omega)
 .exact ((X3.on p).grown f y).grown t (by simp;omega)
 .refine qo (((X4.below p aa).step f (λb _ h=>Or.inl h) (by omega) u)) _ (by omega)
 .intro v';rw[l,List.set_append_right _ _ (lR _),Nat.sub_self];exact S.addNew G Q P v' hc
 .intro b n r;simp only[Value.ownBlock,oI]at r;rcases z with h|h
  .exact ⟨q b (by rw[h,r]),by rw[h,r]⟩
  .omega
 .intro e r b n;rcases List.mem_append.1 r with h|h
  .exact ⟨((H.vers e h).lt b n).2,e,h,n⟩
  .simp only[List.mem_cons,List.not_mem_nil,or_false]at h;subst h;simp[Value.ownBlock]at n
def Put(B k:Nat)(tm:Int)(d:St)(a ver:Int)(f:ByteArray)(h:Bool)(w:Wj)(sl:Wx)(R:List bD)(c:Wj):Prop:=
 ∃b R',ax B c k b R' a tm/\Sim d R' a/\bu w c k sl R/\jG (w.heap.size+1) c/\aW c w.heap.size (I K ver) (U f) (C h)/\w.heap.size+2<=c.heap.size/\b.ownBlock≠J (w.heap.size+1)/\(∀e∈R',e.v.ownBlock≠J (w.heap.size+1))
theorem II{r:St}{F t:ByteArray}{A:Bool}{Q:Wx}{R R1:List bD}{z p i:Nat}{H:Option Addr}{L:Nat}(T:i<R1.length)
  (c:ax B w' k (M (J ⟨z,0,N⟩) R1.length s) R1 (r.last+1+1) tm/\jG (w.heap.size+1) w'/\aW w' w.heap.size (I K (r.last+1)) (U t) (C A)/\bu w w' k Q R/\R1[i].v=M H R1[i].h.length L)
  (a:(∀j (X:j<R1.length),j≠i->R1[j].h≠[])/\(∀v',Sim (cJ r F t A) (R1.set i ⟨R1[i].key,R1[i].h++[⟨r.last+1,t,A⟩],v'⟩) (r.last+1+1))/\(∀b,b<w.heap.size+2->(Value.slice (J ⟨z,0,N⟩) R1.length s).ownBlock=J b->b<w.heap.size/\Q.ownBlock=J b)/\(∀e∈R1,∀b,e.v.ownBlock=J b->b<w.heap.size/\∃e'∈R,e'.v.ownBlock=J b)/\w.heap.size+2<=w'.heap.size) (o:Obj)
  (ho:W.ownsRow B 130 3 (M (J ⟨g,0,N⟩) (R1[i].h.length+1) p) (R1[i].h.length+1) (aq R1[i].h++[I K (r.last+1),U t,C A])) (d:(w'.alloc o).grownBy W (Value.slice H R1[i].h.length L).ownBlock) (q:(Value.slice H R1[i].h.length L).ownBlock=J g\/g=w'.heap.size+1):
  Put B k tm (cJ r F t A) (r.last+1+1) (r.last+1) t A w Q R (W.setCell ⟨z,i*2+1,N⟩ (M (J ⟨g,0,N⟩) (R1[i].h.length+1) p)):=by
 obtain⟨Y1,Y2,Y3,Y4,Y5⟩:=c;obtain⟨Z1,Z2,Z3,Z4,Z5⟩:=a;rw[<-Y5]at d q;have m:R1[i]∈R1:=List.getElem_mem T;have P:=Y1.lt;have hA:=Y1.alloc o;have x:Below w'.heap.size w' (w'.alloc o):=(bR _ _).alloc (lR _) _;have hsza:(w'.alloc o).heap.size=w'.heap.size+1:=by simp
 have n:∀b,w.heap.size<=b->R1[i].v.ownBlock≠J b:=λb u e=>by have:=(Z4 _ m b e).1;omega
 have l:∀b,w.heap.size<=b->b<w.heap.size+2->z≠b:=λb h1 h2 e=>by have:=(Z3 b h2 (by rw[<-e];rfl)).1;omega
 have hsz3:=d.size;have hszs:(W.setCell ⟨z,i*2+1,N⟩ (M (J ⟨g,0,N⟩) (R1[i].h.length+1) p)).heap.size=W.heap.size:=by simp[World.setCell]
 have y:=cF W z (i*2+1) (M (J ⟨g,0,N⟩) (R1[i].h.length+1) p);have G:=hA.putV (v':=M (J ⟨g,0,N⟩) (R1[i].h.length+1) p) (h':=R1[i].h++[⟨r.last+1,t,A⟩]) T d (Or.inr rfl) (by rw[kJ];simpa using ho)
  (q.elim (λh=>Or.inr (Or.inl h.symm)) λh=>Or.inr (Or.inr ⟨g,rfl,by omega⟩)) Z1
 have S:z≠k:=λe=>Y1.apart (by rw[<-e];rfl)
 refine⟨_,_,G,Z2 _,?_,((Y2.on x).grown d (n _ (by omega))).grown y (by simpa using l _ (by omega) (by omega)),((Y3.on x).grown d (n _ (by omega))).grown y (by simpa using l _ (by omega) (by omega)),by omega,by simpa[Value.ownBlock]using l _ (by omega) (by omega),?_⟩
 .refine ((Y4.below x P).step d (λb u e=>Or.inr (Z4 _ m b e).2) (by omega) (Y1.apartV _ m)).step y (λb u e=>Or.inl ?_) (by omega) (by simpa using S);exact(Z3 b (by omega) e).2
 .intro e he;rcases mq he with rfl|⟨j,X,-,rfl⟩
  .intro u;simp only[Value.ownBlock,oI]at u;rcases q with h|h
   .exact n (w.heap.size+1) (by omega) (by rw[h,u])
   .omega
  .intro u;have:=(Z4 _ (List.getElem_mem X) _ u).1;omega
end
