/- A part. -/
import Derived.Test.YtnapepbdohidgaaGreatDoorQS31
import Derived.Sort.Walk0
set_option maxHeartbeats 4000000
set_option maxRecDepth 100000
open Go renaming World->Wz
namespace Go.Proofs.Qw
section
open Go
open Go.Conc Go.ConcX Go.ConcX.Gen Go.RowKit
def sO:Qy:=⟨false,⟨#[]⟩,⟨#[]⟩,⟨#[]⟩⟩
theorem xN (l:List (List UInt8×List Ver))(h:∀x∈l,iG sO x.1 x.2=true):∀s,(l.foldl (bJ sO) s).1=s.1++l.map fun x=>⟨1,⟨x.1.toArray⟩,(iF x.2).num⟩:=by
 induction l with
 |nil=>intro s;simp
 |cons a r ih=>
  intro s;rw [List.foldl_cons,ih (fun x hx=>h x (by simp [hx]))];have e:bJ sO s a=(s.1++[⟨1,⟨a.1.toArray⟩,(iF a.2).num⟩],s.2):=by
   have e2:bf sO a.1=none:=rfl;rw [bJ,if_pos (h a (by simp)),e2];rfl
  rw [e];simp
theorem uy (l:List (List UInt8×List Ver))(h:∀x∈l,iG sO x.1 x.2=true):bF sO l=l.map fun x=>⟨1,⟨x.1.toArray⟩,(iF x.2).num⟩:=by
 rw [bF,aw,xN l h,List.nil_append]
theorem Av (b:UInt8)(k:List UInt8)(v:Ver)(hv:v.mark=false):iG sO (b::k) [v]=true:=by
 have e:(⟨(b::k).toArray⟩:ByteArray).toList=b::k:=by rw [ByteArray.toList_eq]
 have e0:(⟨#[]⟩:ByteArray).toList=[]:=by rw [ByteArray.toList_eq]
 simp [iG,lH,sO,e,e0,iF,hv,Op.bytesLess]
theorem Cw (n:Nat)(f:List UInt8->List Ver)(bs:List UInt8)(v:Ver)(h0:f []=[v])(hno:∀c k,f (c::k)=[]):cx (n+1) f bs=[(bs,[v])]:=by
 rw [j9 n f bs [] .nil (fun c _ k=>hno c k),h0];rfl
theorem Cx (n:Nat)(f:List UInt8->List Ver)(bs:List UInt8)(ks:List (UInt8×Ver))(hs:ks.Pairwise fun a b=>a.1<b.1)(h0:f []=[])(h1:∀x∈ks,f [x.1]=[x.2]/\∀c k,f (x.1::c::k)=[])(hno:∀c,(∀v,(c,v) ∉ ks)->∀k,f (c::k)=[]):cx (n+2) f bs=ks.map fun x=>(bs++[x.1],[x.2]):=by
 rw [j9 (n+1) f bs (ks.map fun x=>(x.1,none)) (by rw [List.pairwise_map];exact hs) (fun c hc k=>hno c (fun v hv=>hc none (List.mem_map.2 ⟨_,hv,rfl⟩)) k),h0];simp only [List.isEmpty_nil,if_true,List.nil_append,List.flatMap_map];have:∀l:List (UInt8×Ver),(∀x∈l,f [x.1]=[x.2]/\∀c k,f (x.1::c::k)=[])->(l.flatMap fun x=>cx (n+1) (fun k=>f (x.1::k)) (bs++[x.1]))=l.map fun x=>(bs++[x.1],[x.2]):=by
  intro l;induction l with
  |nil=>intro _;rfl
  |cons a r ih=>
   intro h;obtain ⟨h1,h2⟩:=h a (by simp);rw [List.flatMap_cons,ih (fun x hx=>h x (by simp [hx])),Cw n (fun k=>f (a.1::k)) (bs++[a.1]) a.2 h1 h2];rfl
 exact this ks h1
def sB:ByteArray:=⟨#[98]⟩
def sA:ByteArray:=⟨#[97]⟩
def noB:ByteArray:=⟨#[]⟩
theorem sk (d:Dk)(key body:ByteArray)(hk:aY key=true)(hb:body.size<=100)(hc:d.st.count<200):ip d ⟨1,key,body,noB,noB,0,0⟩=⟨dB d.st key body false,d.L,d.al++[⟨0,d.st.last+1,⟨#[]⟩,[],⟨#[]⟩⟩]⟩:=by
 have h1:¬100<body.size:=by omega
 have h2:¬200<=d.st.count:=by omega
 simp [ip,stepA,aL,hk,h1,h2]
theorem Cy:bF sO (bI (dB (dB st0 sB ⟨#[120]⟩ false) sA ⟨#[121]⟩ false).f [])=[⟨1,sA,2⟩,⟨1,sB,1⟩]:=by
 have hf:bI (dB (dB st0 sB ⟨#[120]⟩ false) sA ⟨#[121]⟩ false).f []=[([97],[⟨2,⟨#[121]⟩,false⟩]),([98],[⟨1,⟨#[120]⟩,false⟩])]:=by
  show cx (39+2) _ []=_;rw [Cx 39 _ [] [(97,⟨2,⟨#[121]⟩,false⟩),(98,⟨1,⟨#[120]⟩,false⟩)] (by simp)]
  .rfl
  .simp [dB,upd,st0,sA,sB]
  .intro x hx;simp at hx;rcases hx with rfl|rfl<;>simp [dB,upd,st0,sA,sB]
  .intro c hc k;have h1:c≠97:=fun e=>hc ⟨2,⟨#[121]⟩,false⟩ (by rw [e];simp)
   have h2:c≠98:=fun e=>hc ⟨1,⟨#[120]⟩,false⟩ (by rw [e];simp)
   simp [dB,upd,st0,sA,sB,h1,h2]
 rw [hf,uy]
 .rfl
 .intro x hx;simp at hx;rcases hx with rfl|rfl<;>exact Av _ _ _ rfl
def kf (k:Nat):List UInt8->List Ver
 | [a,b]=>if a=107/\97<=b.toNat/\b.toNat<97+k then [⟨((b.toNat-96:Nat):Int),⟨#[]⟩,false⟩] else []
 |_=>[]
theorem oP:∀ (l:List ItD)(i:Nat)(hi:i<l.length),(ax l)[i * 3]?=some (.int .i64 l[i].kind)/\(ax l)[i * 3+1]?=some (.string l[i].text)/\(ax l)[i * 3+2]?=some (.int .i64 l[i].ver)
 | [],i,hi=>by simp at hi
 |z::l,0,hi=>by simp [ax]
 |z::l,i+1,hi=>by
  have ih:=oP l i (by simpa using hi);have e:ax (z::l)=[.int .i64 z.kind,.string z.text,.int .i64 z.ver]++ax l:=by simp [ax]
  have hh:∀j,(ax (z::l))[(i+1) * 3+j]?=(ax l)[i * 3+j]?:=fun j=>by
   rw [e,aR (by simp;omega)];congr 1;simp;omega
  simp only [List.getElem_cons_succ];exact ⟨(hh 0).trans ih.1,(hh 1).trans ih.2.1,(hh 2).trans ih.2.2⟩
structure nT (w:Wz)(v:Value)(its:List ItD):Prop where
 form:∃a cap,v=.slice a its.length cap/\(its≠[]->∃g,a=some ⟨g,0,none⟩/\∀j,j<its.length * 3->w.cell? ⟨g,j,none⟩=(ax its)[j]?)
theorem bH.its {A:Nat->Prop}{w:Wz}{v:Value}{its:List ItD}(h:bH A w v its.length (ax its)):nT w v its:=by
 obtain ⟨a,cap,rfl,-,hx⟩:=h;refine ⟨a,cap,rfl,fun hne=>?_⟩;obtain ⟨g,rfl,-,-,hc⟩:=hx (by
  cases its with
  |nil=>exact absurd rfl hne
  |cons i r=>simp [ax])
 exact ⟨g,rfl,fun j hj=>hc j (by rw [ng];exact hj)⟩
theorem nT.left {w w':Wz}{v:Value}{its:List ItD}(h:nT w v its)(hl:aj w w'):nT w' v its:=by
 obtain ⟨a,cap,rfl,hx⟩:=h.form;refine ⟨a,cap,rfl,fun hne=>?_⟩;obtain ⟨g,rfl,hc⟩:=hx hne;refine ⟨g,rfl,fun j hj=>?_⟩;have:=hc j hj;rw [<-this];have hlt:j<(ax its).length:=by rw [ng];exact hj
 rw [eL hlt] at this;exact (hl.cell this).trans this.symm
@[simp] theorem FF:Yq.prog.stoodInHeld 41=false:=by kernel_rfl
def LsA.all (x:LsA):List ItD:=bF x.q (bI x.f x.q.p.data.toList)
theorem oQ (l:Lst)(p i:Nat)(hs:l.size=p)(hp:p<=20)(hi:i<=1000):∀ (its:List ItD)(k:Nat),k+its.length<=2000->dL l ((i:Int)+1) k its=(its.take ((i+1) * p-k)).drop (i * p-k)
 | [],k,_=>by simp [dL]
 |x::r,k,h=>by
  have hb:(i+1) * p<=20020:=lT (Nat.mul_le_mul (show i+1<=1001 by omega) hp) (by omega);have e0:(i+1) * p=i * p+p:=by rw [Nat.add_mul,Nat.one_mul]
  have e1:IntKind.i64.wrap (((i:Int)+1) * l.size)=((i+1) * p:Nat):=by
   rw [hs,wrap_small _ (by rw [<-Int.natCast_one,<-Int.natCast_add,<-Int.natCast_mul];omega) (by rw [<-Int.natCast_one,<-Int.natCast_add,<-Int.natCast_mul];omega)];rw [Int.natCast_mul,Int.natCast_add];rfl
  have e2:IntKind.i64.wrap (IntKind.i64.wrap (((i:Int)+1) * l.size)-l.size)=(i * p:Nat):=by
   rw [e1,hs,wrap_small _ (by omega) (by omega)];omega
  simp only [lC] at h;have ih:=oQ l p i hs hp hi r (k+1) (by omega);rw [dL,ih];have hin:gC l ((i:Int)+1) ((k:Int)+1)=decide (i * p<=k/\k<(i+1) * p):=by
   unfold gC;rw [e2,e1,Bool.decide_and];congr 1
   .exact decide_eq_decide.2 (by omega)
   .exact decide_eq_decide.2 (by omega)
  rw [hin];by_cases h1:k<(i+1) * p
  .have e3:(i+1) * p-k=((i+1) * p-(k+1))+1:=by omega
   rw [e3,List.take_succ_cons];by_cases h2:i * p<=k
   .rw [decide_eq_true ⟨h2,h1⟩,if_pos rfl,show i * p-k=0 by omega,show i * p-(k+1)=0 by omega];rfl
   .rw [decide_eq_false (fun h=>h2 h.1),if_neg (by simp),show i * p-k=(i * p-(k+1))+1 by omega];rfl
  .rw [decide_eq_false (fun h=>h1 h.2),if_neg (by simp),show (i+1) * p-k=0 by omega,show (i+1) * p-(k+1)=0 by omega];simp
section
variable {x:LsA} {p i:Nat}
theorem LsA.page_cut (hs:x.size=p)(hp:p<=20)(hi:i<=1000)(hl:x.all.length<=1000):x.page ((i:Int)+1)=(x.all.take ((i+1) * p)).drop (i * p):=
 oQ (x.lst none) p i hs hp hi x.all 0 (by omega)
end
end
section
open Go
open Go.RowKit
theorem CX (p x y:List UInt8):p++x<p++y↔x<y:=by
 induction p with
 |nil=>simp
 |cons a p ih=>simp [ih]
theorem sp (n:Nat):∀ (f:List UInt8->List Ver)(bs:List UInt8),(cx n f bs).Pairwise fun a b=>a.1<b.1:=by
 induction n with
 |zero=>intro f bs;simp [cx]
 |succ n ih=>
  intro f bs;have hk:∀b,∀x∈cx n (fun k=>f (b::k)) (bs++[b]),∃r,x.1=bs++(b::r):=fun b x hx=>by
   obtain ⟨r,hr⟩:=(rK n _ _ x hx).1;exact ⟨r,by rw [<-hr];simp⟩
  rw [cx,List.pairwise_append];refine ⟨?_,?_,?_⟩
  .split<;>simp
  .have hs:=i8;generalize xZ=l at hs;induction l with
   |nil=>simp
   |cons b l ihl=>
    obtain ⟨h1,h2⟩:=List.pairwise_cons.1 hs;rw [List.flatMap_cons,List.pairwise_append];refine ⟨ih _ _,ihl h2,fun x hx y hy=>?_⟩;obtain ⟨c,hc,hy⟩:=List.mem_flatMap.1 hy;obtain ⟨r,hr⟩:=hk b x hx;obtain ⟨r',hr'⟩:=hk c y hy;rw [hr,hr',CX,List.cons_lt_cons_iff];exact .inl (h1 c hc)
  .intro x hx y hy;obtain ⟨c,-,hy⟩:=List.mem_flatMap.1 hy;obtain ⟨r,hr⟩:=hk c y hy;split at hx
   .simp at hx
   .simp only [List.mem_singleton] at hx;subst hx;rw [hr];have:=(CX bs [] (c::r)).2 (by simp);simpa using this
theorem ss (f:List UInt8->List Ver)(p:List UInt8):(bI f p).Pairwise fun a b=>a.1<b.1:=sp _ _ _
theorem jk:∀ (c k x:List UInt8),c <+:k->¬x<c->x<k->c <+:x
 | [],_,x,_,_,_=>List.nil_prefix
 |a::c,k,x,h,h1,h2=>by
  obtain ⟨r,rfl⟩:=h;cases x with
  |nil=>exact absurd (by simp) h1
  |cons b x=>
   rw [List.cons_append,List.cons_lt_cons_iff] at h2;rw [List.cons_lt_cons_iff] at h1;rcases h2 with h2|⟨rfl,h2⟩
   .exact absurd (.inl h2) h1
   .have:=jk c (c++r) x (List.prefix_append _ _) (fun e=>h1 (.inr ⟨rfl,e⟩)) h2;exact List.cons_prefix_cons.2 ⟨rfl,this⟩
theorem Aw (d u r:List UInt8)(h:d.length<=u.length):d.isPrefixOf (u++r)=d.isPrefixOf u:=by
 rw [Bool.eq_iff_iff,List.isPrefixOf_iff_prefix,List.isPrefixOf_iff_prefix];constructor
 .intro hp;exact List.prefix_of_prefix_length_le hp (List.prefix_append u r) h
 .intro hp;exact hp.trans (List.prefix_append u r)
theorem jN {d:List UInt8}(hd:d≠[]):∀ (s:List UInt8)(i:Nat),dg d s=some i->i+d.length<=s.length
 | [],i,h=>by simp [dg,hd] at h
 |b::r,i,h=>by
  rw [dg] at h;split at h
  .rename_i hp;cases h;have:=(List.isPrefixOf_iff_prefix.1 hp).length_le;omega
  .cases hs:dg d r with
   |none=>simp [hs] at h
   |some j=>
    have:=jN hd r j hs;simp [hs] at h;simp only [lC];omega
theorem su {d:List UInt8}(hd:d≠[])(r r':List UInt8):∀ (u:List UInt8)(i:Nat),u.length=i+d.length->dg d (u++r)=some i->dg d (u++r')=some i
 | [],i,hl,h=>by
  have:0<d.length:=List.length_pos_iff.2 hd;simp only [lN] at hl;omega
 |b::u,i,hl,h=>by
  have hle:d.length<=(b::u).length:=by omega
  rw [List.cons_append,dg] at h ⊢;rw [<-List.cons_append,Aw d _ _ hle] at h ⊢;by_cases hp:d.isPrefixOf (b::u)=true
  .rw [if_pos hp] at h ⊢;exact h
  .rw [if_neg hp] at h ⊢;cases hs:dg d (u++r) with
   |none=>simp [hs] at h
   |some j=>
    simp [hs] at h;have:=su hd r r' u j (by simp only [lC] at hl;omega) hs;rw [this];simp [h]
theorem kH {q:Qy}{k c x:List UInt8}(h:bf q k=some c)(hx:c <+:x):bf q x=some c:=by
 unfold bf at h ⊢;by_cases h0:q.d.size=0
 .simp [h0] at h
 .rw [if_neg h0] at h ⊢;have hd:q.d.data.toList≠[]:=fun e=>h0 (by simpa using congrArg List.length e)
  have hds:q.d.data.toList.length=q.d.size:=by simp
  cases hs:dg q.d.data.toList (k.drop q.p.size) with
  |none=>simp [hs] at h
  |some i=>
   simp only [hs,Option.map_some,oI] at h;have hl:=jN hd _ i hs;rw [lD,hds] at hl;have hpos:0<q.d.size:=by omega
   have hcl:c.length=q.p.size+i+q.d.size:=by rw [<-h,tL];omega
   obtain ⟨r,rfl⟩:=hx;have hk:k=c++k.drop (q.p.size+i+q.d.size):=by rw [<-h];exact (List.take_append_drop _ _).symm
   have e1:k.drop q.p.size=c.drop q.p.size++k.drop (q.p.size+i+q.d.size):=by
    conv=>lhs;rw [hk]
    rw [List.drop_append_of_le_length (by omega)]
   have e2:(c++r).drop q.p.size=c.drop q.p.size++r:=List.drop_append_of_le_length (by omega);rw [e1] at hs;rw [e2,su hd _ r (c.drop q.p.size) i (by rw [lD,hds];omega) hs];simp only [Option.map_some,oI];rw [List.take_append_of_le_length (by omega),tO (by omega)]
theorem fU {q:Qy}{k c:List UInt8}(h:bf q k=some c):c <+:k:=by
 unfold bf at h;split at h
 .cases h
 .cases hs:dg q.d.data.toList (k.drop q.p.size) with
  |none=>simp [hs] at h
  |some i=>
   simp only [hs,Option.map_some,oI] at h;rw [<-h];exact List.take_prefix _ _
def txt (x:ItD):List UInt8:=x.text.data.toList
def Asc (l:List ItD):Prop:=∀i (h:i+1<l.length),txt l[i]<txt l[i+1]
theorem Asc.snoc {l:List ItD}{y:ItD}(h:Asc l)(hy:∀x,l.getLast?=some x->txt x<txt y):Asc (l++[y]):=fun i hi=>by
 simp only [lP,lS] at hi;by_cases hl:i+1<l.length
 .rw [List.getElem_append_left (by omega),List.getElem_append_left hl];exact h i hl
 .have e:i+1=l.length:=by omega
  rw [List.getElem_append_left (by omega),List.getElem_append_right (by omega)];simp only [List.getElem_singleton];refine hy _ ?_;have e2:l.length-1=i:=by omega
  rw [List.getLast?_eq_getElem?,e2];exact eL _
theorem oR:∀ {c k:List UInt8},c <+:k->¬k<c
 | [],k,_=>by simp
 |a::c,k,h=>by
  obtain ⟨r,rfl⟩:=h;rw [List.cons_append,List.cons_lt_cons_iff];rintro (h|⟨-,h⟩)
  .exact absurd h (by simp)
  .exact oR (List.prefix_append c r) h
theorem FG {a b:List UInt8}(h:¬a<b)(hne:a≠b):b<a:=
 Classical.byContradiction fun h2=>hne (List.le_antisymm (List.not_lt.1 h2) (List.not_lt.1 h))
theorem CY {c k x:List UInt8}(h:c <+:k)(hk:k<x):c<x:=by
 by_cases e:c=k
 .rw [e];exact hk
 .exact List.lt_trans (FG (oR h) (fun h=>e h.symm)) hk
def Fe (q:Qy)(pre:KVs)(st:List ItD×List UInt8):Prop:=
 ∀x,st.1.getLast?=some x->∃kh∈pre,(bf q kh.1=none/\x.kind=1/\txt x=kh.1/\x.ver=(iF kh.2).num/\iG q kh.1 kh.2=true)\/(∃c,bf q kh.1=some c/\x.kind=2/\txt x=c/\st.2=c/\x.ver=0)
theorem Ax (q:Qy)(hv:q.vs=false):∀ (n:Nat)(pre:KVs),pre.length=n->pre.Pairwise (fun a b=>a.1<b.1)->Asc (aw q pre).1/\Fe q pre (aw q pre):=by
 intro n;induction n with
 |zero=>
  intro pre hl _;have:pre=[]:=List.length_eq_zero_iff.1 hl;subst this;exact ⟨fun i h=>by simp [aw] at h,fun x h=>by simp [aw] at h⟩
 |succ n ih=>
  intro pre hl hs;rcases List.eq_nil_or_concat pre with rfl|⟨pr,kh,rfl⟩
  .simp at hl
  rw [List.concat_eq_append] at hl hs ⊢;obtain ⟨h1,-,h3⟩:=List.pairwise_append.1 hs;have hlt:∀x∈pr,x.1<kh.1:=fun x hx=>h3 x hx kh (by simp)
  obtain ⟨hA,hL⟩:=ih pr (by simp at hl;exact hl) h1;rw [lh];generalize aw q pr=st at hA hL;have hmore:Fe q (pr++[kh]) st:=fun x hx=>by
   obtain ⟨y,hy,h⟩:=hL x hx;exact ⟨y,by simp [hy],h⟩
  unfold bJ;by_cases hw:iG q kh.1 kh.2=true
  .rw [if_pos hw];cases hc:bf q kh.1 with
   |none=>
    simp only [dv,hv];refine ⟨hA.snoc fun x hx=>?_,fun x hx=>?_⟩
    .show txt x<kh.1;obtain ⟨y,hy,h⟩:=hL x hx;rcases h with ⟨-,-,e,-⟩|⟨c,hc',-,e,-⟩
     .rw [e];exact hlt y hy
     .rw [e];exact CY (fU hc') (hlt y hy)
    .simp only [Bool.false_eq_true,if_false,List.getLast?_append,List.getLast?_singleton,Option.some_or,oI] at hx;subst hx;exact ⟨kh,by simp,.inl ⟨hc,rfl,rfl,rfl,hw⟩⟩
   |some c=>
    by_cases he:c=st.2
    .simp only [if_pos he];exact ⟨hA,hmore⟩
    .simp only [if_neg he];refine ⟨hA.snoc fun x hx=>?_,fun x hx=>?_⟩
     .show txt x<c;obtain ⟨y,hy,h⟩:=hL x hx;refine Classical.byContradiction fun hn=>?_
      rcases h with ⟨h0,-,e,-⟩|⟨c',hc',-,e,e2,-⟩
      .rw [e] at hn;have:=kH hc (jk c kh.1 y.1 (fU hc) hn (hlt y hy));rw [h0] at this;cases this
      .rw [e] at hn;have hny:¬y.1<c:=fun hlt'=>hn (CY (fU hc') hlt')
       have:=kH hc (jk c kh.1 y.1 (fU hc) hny (hlt y hy));rw [hc'] at this;cases this;exact he e2.symm
     .simp only [List.getLast?_append,List.getLast?_singleton,Option.some_or,oI] at hx;subst hx;exact ⟨kh,by simp,.inr ⟨c,hc,rfl,rfl,rfl,rfl⟩⟩
  .rw [if_neg hw];exact ⟨hA,hmore⟩
theorem uz (q:Qy)(hv:q.vs=false)(f:List UInt8->List Ver)(p:List UInt8):Asc (bF q (bI f p)):=(Ax q hv _ _ rfl (ss f p)).1
def FH (q:Qy)(l:KVs)(x:ItD):Prop:=
 ∃kh∈l,iG q kh.1 kh.2=true/\((bf q kh.1=none/\x=⟨1,⟨kh.1.toArray⟩,(iF kh.2).num⟩)\/(∃c,bf q kh.1=some c/\x=⟨2,⟨c.toArray⟩,0⟩))
theorem sw (q:Qy)(hv:q.vs=false):∀ (l:KVs)(s:List ItD×List UInt8),∀x∈(l.foldl (bJ q) s).1,x∈s.1\/FH q l x
 | [],s,x,h=>.inl h
 |kh::l,s,x,h=>by
  rw [List.foldl_cons] at h;rcases sw q hv l _ x h with h1|⟨y,hy,h2⟩
  .unfold bJ at h1;by_cases hw:iG q kh.1 kh.2=true
   .rw [if_pos hw] at h1;cases hc:bf q kh.1 with
    |none=>
     rw [hc] at h1;simp only [dv,hv,Bool.false_eq_true,if_false,List.mem_append,List.mem_singleton] at h1;rcases h1 with h1|h1
     .exact .inl h1
     .exact .inr ⟨kh,by simp,hw,.inl ⟨hc,h1⟩⟩
    |some c=>
     rw [hc] at h1;simp only at h1;split at h1
     .exact .inl h1
     .simp only [List.mem_append,List.mem_singleton] at h1;rcases h1 with h1|h1
      .exact .inl h1
      .exact .inr ⟨kh,by simp,hw,.inr ⟨c,hc,h1⟩⟩
   .rw [if_neg hw] at h1;exact .inl h1
  .exact .inr ⟨y,by simp [hy],h2⟩
theorem xO (q:Qy)(hv:q.vs=false)(l:KVs):∀x∈bF q l,FH q l x:=fun x hx=>by
 rcases sw q hv l ([],[]) x hx with h|h
 .simp at h
 .exact h
theorem Ay {q:Qy}{k c:List UInt8}(h:bf q k=some c):∃i,dg q.d.data.toList (k.drop q.p.size)=some i/\c.length=q.p.size+i+q.d.size/\q.d.size≠0/\q.p.size+i+q.d.size<=k.length:=by
 unfold bf at h;split at h
 .cases h
 .rename_i h0;have hd:q.d.data.toList≠[]:=fun e=>h0 (by simpa using congrArg List.length e)
  cases hs:dg q.d.data.toList (k.drop q.p.size) with
  |none=>simp [hs] at h
  |some i=>
   simp only [hs,Option.map_some,oI] at h;have hl:=jN hd _ i hs;have hds:q.d.data.toList.length=q.d.size:=by simp
   rw [lD,hds] at hl;exact ⟨i,rfl,by rw [<-h,tL];omega,h0,by omega⟩
def qj (p d af:ByteArray)(n:Int):OpD:=⟨6,p,⟨#[]⟩,d,af,n,0⟩
def iI (t:ByteArray):OpD:=⟨2,t,⟨#[]⟩,⟨#[]⟩,⟨#[]⟩,0,0⟩
theorem Az (s:List OpD)(p d af:ByteArray)(n:Int):(cZ (s++[qj p d af n])).al[s.length]?=some (uv (d7 (cZ s).L (cZ s).st.f ⟨false,p,d,af⟩ n)):=by
 rw [r8];show ((cZ s).al++[_])[s.length]?=_;rw [aR (by rw [iE];exact lR _),iE,Nat.sub_self];rfl
theorem vF (L:Lg)(f:List UInt8->List Ver)(q:Qy)(m:Nat)(h1:1<=m)(h2:m<=20)(hl:(bF q (bI f q.p.data.toList)).length<=1000):
  ((d7 L f q m).2.2.2=8/\(d7 L f q m).2.1=[])\/((d7 L f q m).2.2.2=0/\(d7 L f q m).2.1=(bF q (bI f q.p.data.toList)).take m):=by
 have hp:(iH L f q m).page 1=(bF q (bI f q.p.data.toList)).take m:=by
  have:=LsA.page_cut (x:=iH L f q m) (p:=m) (i:=0) rfl h2 (by omega) hl;simpa [LsA.all,iH] using this
 unfold d7;rw [if_neg (by omega)];split
 .exact .inr ⟨rfl,hp⟩
 .split
  .exact .inl ⟨rfl,rfl⟩
  .exact .inr ⟨rfl,hp⟩
def AK (s p d:List UInt8):Option Nat:=if d=[] then none else (dg d (s.drop p.length)).map (p.length+·)
def Ff (st:St)(p d af:ByteArray)(x:ItD):Prop:=
 p.data.toList <+:txt x/\x.text.size<=40/\((x.kind=1/\AK (txt x) p.data.toList d.data.toList=none/\lH af x.text=true/\(aL st (iI x.text)).2.code=0/\(aL st (iI x.text)).2.ver=x.ver)\/(x.kind=2/\(∃j:Nat,AK (txt x) p.data.toList d.data.toList=some j/\j+d.size=x.text.size)/\x.ver=0))
theorem En {af:ByteArray}{k:List UInt8}(h:lH af ⟨k.toArray⟩=true):k≠[]:=by
 rintro rfl;have e0:(⟨#[]⟩:ByteArray).toList=[]:=by rw [ByteArray.toList_eq]
 have e:(⟨([]:List UInt8).toArray⟩:ByteArray).toList=[]:=e0;rw [lH,e] at h;cases hl:af.toList with
 |nil=>rw [hl] at h;simp [Op.bytesLess] at h
 |cons b r=>rw [hl] at h;simp [Op.bytesLess] at h
theorem FI {st:St}{p d af:ByteArray}{x:ItD}(h:FH ⟨false,p,d,af⟩ (bI st.f p.data.toList) x):Ff st p d af x:=by
 obtain ⟨kh,hm,hw,h⟩:=h;obtain ⟨hp,hlen⟩:=nk hm;have hps:p.data.toList.length=p.size:=by simp
 have hds:d.data.toList.length=d.size:=by simp
 rcases h with ⟨hc,rfl⟩|⟨c,hc,rfl⟩
 .have et:txt ⟨1,⟨kh.1.toArray⟩,(iF kh.2).num⟩=kh.1:=rfl;have hw':=hw;simp only [iG,bT,Bool.false_or,Bool.not_eq_true'] at hw;have hne:=En hw.1;have hsz:(⟨kh.1.toArray⟩:ByteArray).size=kh.1.length:=rfl;refine ⟨by rw [et];exact hp,by rw [hsz];exact hlen,.inl ⟨rfl,?_,hw.1,?_⟩⟩
  .rw [et];unfold AK;split
   .rfl
   .rename_i h0;unfold bf at hc;rw [if_neg (fun e=>h0 (List.length_eq_zero_iff.1 (by rw [hds];exact e)))] at hc;rw [hps];rw [Option.map_eq_none_iff] at hc ⊢;exact hc
  .obtain ⟨k,hk,hv⟩:=r4 _ _ _ kh hm;have hv:kh.2=st.f kh.1:=by rw [hv,hk]
   have hs:=fR _ _ _ kh hm;have hkey:aY ⟨kh.1.toArray⟩=true:=decide_eq_true (by
    have:0<kh.1.length:=List.length_pos_iff.2 hne;rw [hsz];omega)
   have hg:(st.f kh.1).getLast?=some (iF kh.2):=by
    rw [<-hv];unfold iF;cases hl:kh.2.getLast? with
    |none=>rw [List.getLast?_eq_none_iff] at hl;exact absurd hl hs
    |some v=>rfl
   have hg':(st.f (iI ⟨kh.1.toArray⟩).key.data.toList).getLast?=some (iF kh.2):=hg;have e:(aL st (iI ⟨kh.1.toArray⟩)).2=⟨0,(iF kh.2).num,(iF kh.2).body⟩:=by
    unfold aL;rw [if_neg (by simp [iI]),if_pos (show (iI _).kind=2 from rfl),if_neg (by show ¬aY ⟨kh.1.toArray⟩=false;rw [hkey];simp),hg'];simp only [hw.2,Bool.false_eq_true,if_false]
   rw [e];exact ⟨rfl,rfl⟩
 .have et:txt ⟨2,⟨c.toArray⟩,0⟩=c:=rfl;have hsz:(⟨c.toArray⟩:ByteArray).size=c.length:=rfl;have hpre:=fU hc;have hcc:=kH hc (List.prefix_refl c);obtain ⟨j,hj,hl,hd0,-⟩:=Ay hcc;simp only at hj hl hd0;refine ⟨?_,?_,.inr ⟨rfl,⟨p.size+j,?_,?_⟩,rfl⟩⟩
  .rw [et];exact List.prefix_of_prefix_length_le hp hpre (by rw [hps];omega)
  .rw [hsz];exact lT hpre.length_le hlen
  .rw [et,AK,if_neg (fun e=>hd0 (by rw [<-hds,e];rfl)),hps,hj];rfl
  .rw [hsz,hl]
theorem Asc.take {l:List ItD}(h:Asc l)(m:Nat):Asc (l.take m):=fun i hi=>by
 rw [tL] at hi;rw [List.getElem_take,List.getElem_take];exact h i (by omega)
theorem Cz {st:St}{p d af:ByteArray}(m:Nat):Asc ((bF ⟨false,p,d,af⟩ (bI st.f p.data.toList)).take m)/\∀x∈(bF ⟨false,p,d,af⟩ (bI st.f p.data.toList)).take m,Ff st p d af x:=
 ⟨(uz _ rfl _ _).take m,fun x hx=>FI (xO _ rfl _ x (List.mem_of_mem_take hx))⟩
theorem Fg (st:St)(t:ByteArray):(aL st (iI t)).1=st:=by
 unfold aL;rw [if_neg (by simp [iI]),if_pos (show (iI _).kind=2 from rfl)];split
 .rfl
 .split
  .rfl
  .split<;>rfl
theorem nJ (st:St):∀l:List ByteArray,je st (l.map iI)=l.map fun t=>(aL st (iI t)).2
 | []=>rfl
 |t::l=>by rw [List.map_cons,je,Fg,nJ st l];rfl
theorem CA (s:List OpD)(l:List ByteArray)(i:Nat)(hi:i<l.length):(cZ (s++l.map iI)).al[s.length+i]?=some (toL (aL (cZ s).st (iI l[i])).2):=by
 rw [Cv s _ (fun o ho=>by obtain ⟨t,-,rfl⟩:=List.mem_map.1 ho;simp [iI]),nJ,aR (by rw [iE];omega),iE,Nat.add_sub_cancel_left,List.map_map,List.getElem?_map,eL hi];rfl
theorem AA (a b:ByteArray):Op.bytesLess a.toList b.toList=decide (a.data.toList<b.data.toList):=by rw [Proofs.bytesLess_eq,ByteArray.toList_eq,ByteArray.toList_eq]
theorem Eo (c:Int)(m:Nat)(h1:-9223372036854775808<=c)(h2:c<=9223372036854775807)(hm:0<m)(hm2:m<=9223372036854775807):
  ∃k:Nat,k<m/\∀w,Calls Yq.prog 21 #[.int .i64 c,.int .i64 m] w fun e w'=>e=.returned (.int .i64 k)/\w'=w:=by
 have hm0:((m:Int)==0)=false:=by simp;omega
 by_cases hc:c<0
 .have e:-((c+1).tmod (m:Int))=(((-(c+1)) % (m:Int)).toNat:Int):=by
   rw [<-Int.neg_tmod,Int.tmod_eq_emod_of_nonneg (by omega)];have:=Int.emod_nonneg (-(c+1)) (b:=(m:Int)) (by omega);omega
  have hk:((-(c+1)) % (m:Int)).toNat<m:=by
   have h3:=Int.emod_nonneg (-(c+1)) (b:=(m:Int)) (by omega);have h4:=Int.emod_lt_of_pos (-(c+1)) (b:=(m:Int)) (by omega);omega
  refine ⟨_,hk,fun w=>?_⟩;have HE:Hid (-((c+1).tmod (m:Int))=(((-(c+1)) % (m:Int)).toNat:Int)):=e;clear e hk;go_enter (Yq.nq Tryz.func21),Tryz.ntmps21;go_wp2;go_ret;exact ⟨jQ HE.out,rfl⟩
 .obtain ⟨k,hk,e⟩:∃k:Nat,k<m/\c % (m:Int)=k:=by
   have h3:=Int.emod_nonneg c (b:=(m:Int)) (by omega);have h4:=Int.emod_lt_of_pos c (b:=(m:Int)) (by omega);exact ⟨(c % (m:Int)).toNat,by omega,by omega⟩
  refine ⟨k,hk,fun w=>?_⟩;have HE:Hid (c % (m:Int)=k):=e;clear e hk;go_enter (Yq.nq Tryz.func21),Tryz.ntmps21;go_wp2;go_ret;exact ⟨jQ HE.out,rfl⟩
theorem xP (s t:ByteArray)(w:Wz)(h:t.data.toList <+:s.data.toList):Calls Yq.prog 24 #[.string s,.string t] w fun e w'=>e=.returned (.bool true)/\w'=w:=by
 have hts:t.data.toList.length=t.size:=by simp
 have hss:s.data.toList.length=s.size:=by simp
 have hle:t.size<=s.size:=by have:=h.length_le;omega
 have he:(s.extract 0 t.size).toList=t.toList:=by
  rw [ByteArray.toList_eq,ByteArray.toList_eq,Lib.extract_data,List.drop_zero,<-hts];exact (List.prefix_iff_eq_take.1 h).symm
 have hle':(t.size:Int)<=s.size:=by omega
 clear h hts hss;go_enter (Yq.nq Tryz.func24),Tryz.ntmps24;go_wp2;go_ret;exact ⟨rfl,rfl⟩
def CB (s p d:ByteArray):Int:=match AK s.data.toList p.data.toList d.data.toList with
 |none=>-1
 |some j=>j
theorem xQ {d s:List UInt8}(hd:d≠[])(h:s.length<d.length):dg d s=none:=by
 cases hs:dg d s with
 |none=>rfl
 |some i=>have:=jN hd s i hs;omega
theorem xR (s p d:ByteArray)(w:Wz)(hs:s.size<=1000)(hp:p.size<=1000)(hd:d.size<=140737488351232):Calls Yq.prog 25 #[.string s,.string p,.string d] w fun e w'=>e=.returned (.int .i64 (CB s p d))/\w'=w:=by
 have hps:p.data.toList.length=p.size:=by simp
 have hds:d.data.toList.length=d.size:=by simp
 have hss:s.data.toList.length=s.size:=by simp
 by_cases h0:d=⟨#[]⟩
 .subst h0;have e:CB s p ⟨#[]⟩=-1:=rfl;rw [e];go_enter (Yq.nq Tryz.func25),Tryz.ntmps25;go_wp2;go_ret;exact ⟨rfl,rfl⟩
 .have hz:=Aq h0;have hdl:d.data.toList≠[]:=fun e=>h0 (ByteArray.ext (Array.toList_inj.1 e))
  have HB:Hid (AK s.data.toList p.data.toList d.data.toList=(dg d.data.toList (s.data.toList.drop p.size)).map (p.size+·)):=by
   show AK _ _ _=_;unfold AK;rw [if_neg hdl,hps]
  have HD:Hid (d.data.toList≠[]):=hdl;have HI:Hid (∀x,AK s.data.toList p.data.toList d.data.toList=x->CB s p d=match x with|none=>-1|some j=>(j:Int)):=fun x hx=>by subst hx;rfl
  generalize CB s p d=bi at *;generalize AK s.data.toList p.data.toList d.data.toList=bl at *;clear hdl h0;go_enter (Yq.nq Tryz.func25),Tryz.ntmps25;go_wp2_with fail
  go_loopw [7] (fun s7 wr=>∃i:Nat,i<=p.size+s.size/\s7=.int .i64 i/\wr=w/\bl=(dg d.data.toList (s.data.toList.drop i)).map (i+·)) (fun s7 _=>p.size+s.size-(intOf s7).toNat)
  case atStart=>exact ⟨p.size,by omega,rfl,rfl,HB.out⟩
  case round=>
   obtain ⟨i,hi,rfl,rfl,hbl⟩:=hrel;have HBL:Hid (bl=(dg d.data.toList (s.data.toList.drop i)).map (i+·)):=hbl;clear hbl HB;have hdp:0<d.size:=by have:=List.length_pos_iff.2 HD.out;omega
   by_cases hlt:i+d.size<=s.size
   .have hlt':(i:Int)+d.size<=s.size:=by omega
    have hil:i<s.data.toList.length:=by omega
    have hsub:dg d.data.toList (s.data.toList.drop i)=if d.data.toList.isPrefixOf (s.data.toList.drop i) then some 0 else (dg d.data.toList (s.data.toList.drop (i+1))).map (·+1):=by
     rw [List.drop_eq_getElem_cons hil,dg]
    have hex:(s.extract i (i+d.size)).toList=(s.data.toList.drop i).take d.size:=by
     rw [ByteArray.toList_eq,Lib.extract_data,Nat.add_sub_cancel_left]
    by_cases hE:d.data.toList.isPrefixOf (s.data.toList.drop i)=true
    .have he:(s.extract i (i+d.size)).toList=d.toList:=by
      rw [hex,ByteArray.toList_eq,<-hds];exact (List.prefix_iff_eq_take.1 (List.isPrefixOf_iff_prefix.1 hE)).symm
     have hbi:bi=i:=by
      have:=HI.out _ HBL.out;rw [hsub,if_pos hE] at this;exact this
     have HBI:Hid (bi=i):=hbi;clear hsub hex hE hbi;go_wp2;go_ret;exact ⟨jQ HBI.out.symm,rfl⟩
    .have he:¬(s.extract i (i+d.size)).toList=d.toList:=fun e=>hE (by
      rw [hex,ByteArray.toList_eq,<-hds] at e;exact List.isPrefixOf_iff_prefix.2 (List.prefix_iff_eq_take.2 e.symm))
     have he2:((s.extract i (i+d.size)).toList==d.toList)=false:=by simpa using he
     have hnx:bl=(dg d.data.toList (s.data.toList.drop (i+1))).map (i+1+·):=by
      rw [HBL.out,hsub,if_neg hE,Option.map_map];congr 1;funext j;show i+(j+1)=i+1+j;omega
     have HNX:Hid (bl=(dg d.data.toList (s.data.toList.drop (i+1))).map (i+1+·)):=hnx;clear hsub hex hE hnx;go_wp2_with fail
     exact ⟨⟨i+1,by omega,by go_num,trivial,HNX.out⟩,by simp [intOf];omega⟩
   .have hlt':¬(i:Int)+d.size<=s.size:=by omega
    have hbi:bi=-1:=by
     have:=HI.out _ HBL.out;rw [xQ HD.out (by rw [lD];omega)] at this;exact this
    have HBI:Hid (bi=-1):=hbi;clear hbi;go_wp2;go_ret;exact ⟨jQ HBI.out.symm,rfl⟩
end
section
open Go
open Go.Conc Go.ConcX Go.ConcX.Gen Go.RowKit
def fq:List OpD:=[⟨1,sB,⟨#[120]⟩,noB,noB,0,0⟩,⟨1,sA,⟨#[121]⟩,noB,noB,0,0⟩,⟨6,noB,noB,noB,noB,5,0⟩,⟨6,noB,noB,noB,noB,0,0⟩]
theorem xS:∃a0 a1 a2 a3:jl,(cZ fq).al=[a0,a1,a2,a3]/\a2.items=[⟨1,sA,2⟩,⟨1,sB,1⟩]/\a3.code=7:=by
 obtain ⟨s,hs⟩:∃s,s=dB (dB st0 sB ⟨#[120]⟩ false) sA ⟨#[121]⟩ false:=⟨_,rfl⟩;have hits:=Cy;rw [<-hs] at hits;have hq:sO.p.data.toList=[]:=rfl;have hb:(d7 dk0.L s.f sO 5).2.1=[⟨1,sA,2⟩,⟨1,sB,1⟩]:=by
  rcases vF dk0.L s.f sO 5 (by omega) (by omega) (by rw [hq,hits];simp) with ⟨h,-⟩|⟨-,h⟩
  .exfalso
   revert h
   unfold d7;rw [if_neg (by omega)];split
   .simp
   .rw [if_neg (by simp [dk0])];simp
  .rw [hq,hits] at h;exact h
 have e5:∀al,ip ⟨s,dk0.L,al⟩ ⟨6,noB,noB,noB,noB,5,0⟩=⟨s,(d7 dk0.L s.f sO 5).1,al++[uv (d7 dk0.L s.f sO 5)]⟩:=fun al=>by simp [ip,stepA,sO,noB]
 have e0:∀d:Dk,ip d ⟨6,noB,noB,noB,noB,0,0⟩=⟨d.st,d.L,d.al++[⟨7,0,⟨#[]⟩,[],⟨#[]⟩⟩]⟩:=fun d=>by simp [ip,stepA,d7,uv]
 unfold fq cZ;simp only [List.foldl_cons,List.foldl_nil];rw [sk dk0 sB _ (by decide) (by decide) (by decide),sk _ sA _ (by decide) (by decide) (by decide)];simp only [dk0,List.nil_append] at e5 ⊢;rw [<-hs,e5,e0];simp only [dk0] at hb;generalize d7 _ s.f sO 5=R at hb;exact ⟨_,_,_,_,rfl,hb,rfl⟩
theorem AB:Sized fq:=by
 intro o ho;simp only [fq,List.mem_cons,List.not_mem_nil,or_false] at ho;rcases ho with rfl|rfl|rfl|rfl<;>exact ⟨by simp only [maxLen];decide,by simp only [maxLen];decide⟩
theorem AC:∀o∈fq,o.kind≠12:=fun o ho=>by
 simp only [fq,List.mem_cons,List.not_mem_nil,or_false] at ho;rcases ho with rfl|rfl|rfl|rfl<;>simp
theorem CC (n:Int)(w:Wz):(Instr.build 31 #[(0,.int .i64 6),(5,.int .i64 n)]).run Yq.prog w=.ok (.agg #[.int .i64 6,.string ⟨#[]⟩,.string ⟨#[]⟩,.string ⟨#[]⟩,.string ⟨#[]⟩,.int .i64 n,.int .i64 0]) w:=by kernel_rfl
theorem CD (w:Wz):(Instr.build 31 #[(0,.int .i64 6)]).run Yq.prog w=.ok (.agg #[.int .i64 6,.string ⟨#[]⟩,.string ⟨#[]⟩,.string ⟨#[]⟩,.string ⟨#[]⟩,.int .i64 0,.int .i64 0]) w:=by kernel_rfl
theorem FJ (w:Wz):(Op.equalIn 10000 41 (.agg #[.int .i64 1,.string ⟨#[97]⟩,.int .i64 2]) (.agg #[.int .i64 1,.string ⟨#[97]⟩,.int .i64 2])).run Yq.prog w=.ok true w:=by kernel_rfl
theorem uA {G:Wz->Prop}{N:Nat}(hAns:Fd G N)(h4:4<=N)(hN:N<2199023255540)(w:Wz)(hG:∀w',aj w w'->G w'):Calls Yq.prog 23 #[] w fun e w'=>(e=.returned (.bool true)/\aj w w')\/Stop sg e w':=by
 have HR:Hid (∀W:Wz,aj w W->Calls Yq.prog 18 #[.slice (some ⟨W.heap.size,0,none⟩) 4 4] (W.alloc (.cells (fq.flatMap aK).toArray 31)) fun e w'=>Fc fq 4 (W.alloc (.cells (fq.flatMap aK).toArray 31)) e w'\/Stop sg e w'):=fun W hlW=>
  Au hAns _ fq _ (fun w' h=>hG w' ((hlW.alloc _).trans h)) (up W fq _ _ rfl 4 rfl AB (by simp [fq])) (by simp [fq]) (by simp [fq];omega) hN AC
 have hb1:=CC;have hb2:=CD;have hb3:=FJ;clear hAns hG;go_enter (Yq.nq Tryz.func23),Tryz.ntmps23;go_wp2_with fail
 refine (ux _ _ _ w).mono ?_;rintro e w1 ⟨rfl,b1⟩;go_wp2_with fail
 refine (ux _ _ _ w1).mono ?_;rintro e w2 ⟨rfl,b2⟩;replace b2:=b1.trans (b2.mono b1.size);clear b1;go_wp2_with fail
 refine (HR.out w2 (.below b2)).mono ?_;rintro e w8 (⟨g,A,zs,rfl,hal,hown,hrows,hl,-⟩|hst)
 .have HB:Hid (aj w w8):=((aj.below b2).alloc _).trans hl;obtain ⟨a0,a1,a2,a3,e1,i2,c3⟩:=xS;rw [e1] at hal;obtain ⟨v0,zs1,rfl,hal1⟩:=fp hal;obtain ⟨v1,zs2,rfl,hal2⟩:=fp hal1;obtain ⟨v2,zs3,rfl,hal3⟩:=fp hal2;obtain ⟨v3,zs4,rfl,hal4⟩:=fp hal3;have hz:zs4=[]:=List.map_eq_nil_iff.1 hal4;subst hz;have hr2:=hrows (a2,v2) (by simp);simp only [i2] at hr2;obtain ⟨pa,cap2,rfl,-,hx2⟩:=hr2;obtain ⟨g2,rfl,-,-,hc2⟩:=hx2 (by simp [ax]);have d0:=hc2 0 (by simp [ax]);have d1:=hc2 1 (by simp [ax]);have d2:=hc2 2 (by simp [ax]);have d4:=hc2 4 (by simp [ax]);have hc:=hown;have k13:=hc 13 (by omega);have k15:=hc 15 (by omega);simp only [cC,ax,sB,sA,lC,lN,Nat.reduceAdd,List.flatMap_cons,List.flatMap_nil,List.cons_append,List.nil_append,List.append_nil,gS,gZ,c3] at k13 k15 d0 d1 d2 d4;clear hown hc hrows hl hal hal1 hal2 hal3 hal4 e1 hc2 hx2 HR b2;go_wp2;go_ret;exact .inl ⟨rfl,HB.out⟩
 .obtain ⟨x,y,r,rfl,hst⟩:=hst;exact ⟨rfl,.inr ⟨x,y,r,rfl,hst⟩⟩
theorem CE (a:Option Addr)(cap:Nat)(w:Wz):Calls Yq.prog 18 #[.slice a 0 cap] w fun e w'=>(∃g,e=.returned (.slice (some ⟨g,0,none⟩) 0 0))/\aj w w':=by
 obtain ⟨i0,hi0,hz0,hz1,hz2⟩:=info_parts Yq.infoAns;go_enter (Yq.nq Tryz.func18),Tryz.ntmps18;go_wp2_with (at_make;refine wpList_make_own _ rfl _ _ 27 rfl w.heap.size 36 i0 _ 5 (Yq.u Tryz.underlying27) hi0 hz0 hz1 _ _ _ 0 rfl rfl (by omega) ?qb1 ?qb2 ?qb3 ?_)
 case qb1=>rw [hz2];omega
 case qb2=>simp only [maxLen];omega
 case qb3=>simp
 intro w1 hown1 hgrow1;have HB:Hid (aj w w1):=.below ⟨hgrow1.os,hgrow1.tape,hgrow1.output,hgrow1.size,fun k hk=>hgrow1.block k hk (by simp)⟩;clear hown1 hgrow1;go_wp2_with fail
 go_loopw [13] (fun s13 wr=>s13=.int .i64 0/\wr=w1.alloc (.cells #[.pointer none,.int .i64 0,.int .i64 0,.int .u64 0,.slice none 0 0,.int .i64 0,.map none,.slice a 0 cap,.slice (some ⟨w.heap.size,0,none⟩) 0 0] 65)) (fun _ _=>0)
 case atStart=>exact ⟨rfl,rfl⟩
 case round=>
  obtain ⟨rfl,rfl⟩:=hrel;go_wp2;go_ret;exact ⟨⟨_,rfl⟩,HB.out.alloc _⟩
end
