/- A part. -/
import Derived.Test.YteidaiooccmmmaaGreatDoorQP16
set_option maxHeartbeats 4000000
set_option maxRecDepth 100000
open Go renaming World->Wj,Value->Wx,TypeId->Ww
namespace Go.Proofs.Qw
open Option renaming none->N,some->J
open Bool renaming true->Y,false->Z
open Value renaming int->I,string->U,slice->M,pointer->O,bool->C
open IntKind renaming i64->K
open Obj renaming cells->E
variable {b g n:Nat}{e:Ww}{A F c v x4 y:Wx}{xs:List Wx}{R:List bD}{i tm:Int}
open Tryz
section
open Go.RowKit
def dU(P:List PlL):List Wx:=P.flatMap λl=>[l.v,I K l.page,I K l.fin,C l.gone]
def fW(T:List PlT):List Wx:=T.flatMap λt=>[U t.text,I K t.ls,I K t.pg]
theorem rL(P:List PlL)(l:PlL):dU (P++[l])=dU P++[l.v,I K l.page,I K l.fin,C l.gone]:=by simp[dU]
theorem rM(T:List PlT)(t:PlT):fW (T++[t])=fW T++[U t.text,I K t.ls,I K t.pg]:=by simp[fW]
structure aF (B:Nat)(w:Wj)(k:Nat)(P:List PlL)(T:List PlT)(vL vT:Wx):Prop where
 c3:w.cell? ⟨k,3,N⟩=J vL
 c4:w.cell? ⟨k,4,N⟩=J vT
 fz:∀j,w.frozen? ⟨k,j,N⟩=Z
 rowL:w.ownsRow B 134 4 vL P.length (dU P)
 rowT:w.ownsRow B 137 3 vT T.length (fW T)
 its:∀l∈P,w.ownsRow B 117 3 l.v l.its.length (an l.its)
 kL:vL.ownBlock≠J k
 kT:vT.ownBlock≠J k
 kI:∀l∈P,l.v.ownBlock≠J k
def TyB(w:Wj)(b:Nat)(T:Ww):Prop:=∃a z,w.heap[b]?=J (E a T z)
theorem je{w:Wj}{B a:Nat}(h:w.ownsRow B e a v n xs)(b:v.ownBlock=J g):TyB w g e:=by
 obtain⟨-,⟨rfl,-⟩|⟨g',cap,cur,rfl,-,d,-⟩⟩:=h
 .simp [Value.ownBlock]at b
 .simp only[Value.ownBlock,oI]at b;subst b;exact⟨_,_,d⟩
theorem TyB.ne{w:Wj}{T:Ww}(h:TyB w b T)(d:TyB w b e):T=e:=by
 obtain⟨c,z,h⟩:=h;obtain⟨c',z',d⟩:=d;rw[h]at d;simp only[oI,Obj.cells.injEq]at d;exact d.2.1
theorem dY{w w':Wj}{B a:Nat}(h:w.ownsRow B e a v n xs)(l:∀g,v.ownBlock=J g->w'.heap[g]?=w.heap[g]?):w'.ownsRow B e a v n xs:=by
 obtain⟨d,f|⟨g,c,b,rfl,k,i,j⟩⟩:=h
 .exact ⟨d,Or.inl f⟩
 .exact ⟨d,Or.inr ⟨g,c,b,rfl,k,(l g rfl).trans i,j⟩⟩
section
variable {B k:Nat} {w w':Wj} {P:List PlL} {T:List PlT} {vL vT:Wx}
theorem aF.keep(h:aF B w k P T vL vT)(m:w'.cell? ⟨k,3,N⟩=w.cell? ⟨k,3,N⟩)(i:w'.cell? ⟨k,4,N⟩=w.cell? ⟨k,4,N⟩)(f:∀j,w'.frozen? ⟨k,j,N⟩=w.frozen? ⟨k,j,N⟩)
  (d:∀g a,g≠k->TyB w g a->a=134\/a=137\/a=117->w'.heap[g]?=w.heap[g]?):aF B w' k P T vL vT:=
 ⟨m.trans h.c3,i.trans h.c4,λj=>(f j).trans (h.fz j),dY h.rowL λg b=>d g _ (λe=>h.kL (e▸b)) (je h.rowL b) (.inl rfl),dY h.rowT λg b=>d g _ (λe=>h.kT (e▸b)) (je h.rowT b) (.inr (.inl rfl)),λl c=>dY (h.its l c) λg b=>d g _ (λe=>h.kI l c (e▸b)) (je (h.its l c) b) (.inr (.inr rfl)),h.kL,h.kT,h.kI⟩
theorem aF.lt(h:aF B w k P T vL vT):k<w.heap.size:=bC w _ h.c3
theorem TyB.lt(h:TyB w b e):b<w.heap.size:=by obtain⟨c,z,h⟩:=h;exact(eS h).1
theorem aF.below(h:aF B w k P T vL vT)(a:Below w.heap.size w w'):aF B w' k P T vL vT:=
 h.keep (cB (a.block k h.lt)) (cB (a.block k h.lt)) (λ_=>fB (a.block k h.lt)) λg _ _ b _=>a.block g b.lt
theorem aF.frame(h:aF B w k P T vL vT)(H:ax B w k c R tm i)(F:bu w w' k c R):aF B w' k P T vL vT:=
 h.keep (F.cells 3 (by omega)) (F.cells 4 (by omega)) F.frozen λg a b d e=>by
  have f:=H.notRow d (by rcases e with rfl|rfl|rfl<;>decide) (by rcases e with rfl|rfl|rfl<;>decide);exact F.block g d.lt b f.1 f.2
structure PFr (B k:Nat)(w w':Wj):Prop where
 os:w'.os=w.os
 tape:w'.tape=w.tape
 output:w'.output=w.output
 size:w.heap.size<=w'.heap.size
 low:∀b,b<B->b<w.heap.size->w'.heap[b]?=w.heap[b]?
 ans:∀g,g≠k->TyB w g 46->w'.heap[g]?=w.heap[g]?
 cells:∀j,6<=j->w'.cell? ⟨k,j,N⟩=w.cell? ⟨k,j,N⟩
 frozen:∀j,w'.frozen? ⟨k,j,N⟩=w.frozen? ⟨k,j,N⟩
theorem PFr.refl:PFr B k w w:=⟨rfl,rfl,rfl,lR _,λ_ _ _=>rfl,λ_ _ _=>rfl,λ_ _=>rfl,λ_=>rfl⟩
theorem TyB.same{U:Ww}(h:TyB w b U)(e:w'.heap[b]?=w.heap[b]?):TyB w' b U:=by
 obtain⟨c,z,h⟩:=h;exact⟨c,z,e.trans h⟩
theorem PFr.trans{w'':Wj}(h:PFr B k w w')(a:PFr B k w' w''):PFr B k w w'':=
 ⟨a.os.trans h.os,a.tape.trans h.tape,a.output.trans h.output,lT h.size a.size,λb c d=>(a.low b c (lL d h.size)).trans (h.low b c d),λg c d=>(a.ans g c (d.same (h.ans g c d))).trans (h.ans g c d),λj e=>(a.cells j e).trans (h.cells j e),λj=>(a.frozen j).trans (h.frozen j)⟩
theorem PFr.below(c:k<w.heap.size)(a:Below w.heap.size w w'):PFr B k w w':=
 ⟨a.os,a.tape,a.output,a.size,λb _ h=>a.block b h,λg _ h=>a.block g h.lt,λ_ _=>cB (a.block k c),λ_=>fB (a.block k c)⟩
theorem PFr.grown{row:Option Nat}(j:k<w.heap.size)(c:w.grownBy w' row)(d:row≠J k)(m:∀b,row=J b->B<=b)(i:∀b,row=J b->∃a,TyB w b a/\a≠46):PFr B k w w':=
 ⟨c.os,c.tape,c.output,c.size,λb l f=>c.block b f (λe=>by have:=m b e.symm;omega),λg _ h=>c.block g h.lt (λe=>by have⟨a,l,f⟩:=i g e.symm;exact f (l.ne h)),λ_ _=>cB (c.block k j (λe=>d e.symm)),λ_=>fB (c.block k j (λe=>d e.symm))⟩
theorem PFr.set(hk:B<=k)(j:Nat)(hj:j<6)(v:Wx):PFr B k w (w.setCell ⟨k,j,N⟩ v):=
 ⟨rfl,rfl,rfl,by simp,λb h1 _=>bS _ _ _ _ (show b≠k by omega),λg a _=>bS _ _ _ _ a,λi hi=>cO w ⟨k,j,N⟩ ⟨k,i,N⟩ v (λe=>by have:=congrArg Addr.off e;simp only at this;omega),λi=>by simp⟩
theorem PFr.ofR{d:Int}(hk:B<=k)(H:ax B w k v R tm d)(F:bu w w' k v R):PFr B k w w':=
 ⟨F.os,F.tape,F.output,F.size,λb h1 i=>F.block b i (by omega) (λe=>by have:=(H.row.lt b e).1;omega) (λx m e=>by have:=((H.vers x m).lt b e).1;omega),λg f h=>by
  have c:=H.notRow h (by decide) (by decide);exact F.block g h.lt f c.1 c.2,λj hj=>F.cells j (by omega),F.frozen⟩
theorem PFr.to(h:PFr B k w w'){W:Wj}(c:Below B W w)(hs:B<=w.heap.size):Below B W w':=
 ⟨h.os.trans c.os,h.tape.trans c.tape,h.output.trans c.output,lT c.size h.size,λb a=>(h.low b a (by omega)).trans (c.block b a)⟩
theorem Hr{d z:Wx}(h:aW w b c d z)(o:Nat)(v:Wx)(ho:3<=o):aW (w.setCell ⟨b,o,N⟩ v) b c d z:=by
 have a:∀j,j<3->(w.setCell ⟨b,o,N⟩ v).cell? ⟨b,j,N⟩=w.cell? ⟨b,j,N⟩:=λj hj=>cO w ⟨b,o,N⟩ ⟨b,j,N⟩ v (λe=>by have:=congrArg Addr.off e;simp only at this;omega)
 exact⟨(a 0 (by omega)).trans h.c0,(a 1 (by omega)).trans h.c1,(a 2 (by omega)).trans h.c2,λj=>fs (h.fz j)⟩
theorem ax.far(H:ax B w k c R i tm)(o:Nat)(v:Wx)(d:3<=o):ax B (w.setCell ⟨k,o,N⟩ v) k c R i tm:=
 ⟨Hr H.cells o v d,H.row.kept (cF w k o v) (Or.inr H.apart),λe b=>(H.vers e b).kept (cF w k o v) (Or.inr (H.apartV e b)),H.apart,H.apartV,H.apartE,H.pw⟩
theorem ax.other{c:Option Nat}{a:Ww}(H:ax B w k v R i tm)(p:w.grownBy w' c)(f:c≠J k)(d:∀b,c=J b->TyB w b a)(o:a≠140)(m:a≠130):ax B w' k v R i tm:=by
 refine H.grown p f ?_ λe l=>?_
 all_goals
  cases n:c with
  |none=>exact none_or _
  |some b=>
   have j:=H.notRow (d b n) o m;first|exact Or.inr j.1|exact Or.inr (j.2 e l)
theorem j4{c:Nat}{a:Ww}{f:Option Nat}(h:w.ownsRow B e c v n xs)(k:w.grownBy w' f)(i:∀b,f=J b->TyB w b a)(j:a≠e):w'.ownsRow B e c v n xs:=
 dY h λg d=>k.block g (h.lt g d).2 λl=>j ((i g l.symm).ne (je h d))
theorem jf{a:Nat}(h:w.ownsRow B e a v n xs)(c:v.ownBlock≠J k)(j:Nat)(u:Wx):(w.setCell ⟨k,j,N⟩ u).ownsRow B e a v n xs:=
 dY h λg b=>bS _ _ _ _ λe=>c (by rw[b];exact congrArg J e)
theorem yb{a:Nat}(hji:b≠a)(u:Wx)(h:w.cell? ⟨k,a,N⟩=J v):(w.setCell ⟨k,b,N⟩ u).cell? ⟨k,a,N⟩=J v:=
 (cO w ⟨k,b,N⟩ ⟨k,a,N⟩ u (λe=>by have:=congrArg Addr.off e;simp only at this;omega)).trans h
theorem aF.pushT{x:Int}{W m:Wj}{a:Nat}{t:PlT}(c:aF B w k P T vL vT)(H:ax B w k y R tm x)(s:B<=k)(q:Below w.heap.size w W)
  (A:m.ownsRow B 137 3 (M (J ⟨g,0,N⟩) (T.length+1) a) (T.length+1) (fW T++[U t.text,I K t.ls,I K t.pg])) (f:W.grownBy m vT.ownBlock) (r:vT.ownBlock=J g\/w.heap.size<=g):
  ax B (m.setCell ⟨k,4,N⟩ (M (J ⟨g,0,N⟩) (T.length+1) a)) k y R tm x/\aF B (m.setCell ⟨k,4,N⟩ (M (J ⟨g,0,N⟩) (T.length+1) a)) k P (T++[t]) vL (M (J ⟨g,0,N⟩) (T.length+1) a)/\PFr B k w (m.setCell ⟨k,4,N⟩ (M (J ⟨g,0,N⟩) (T.length+1) a)):=by
 have D:=c.lt;have u:g≠k:=by
  rcases r with h|h
  .intro e;exact c.kT (e▸h)
  .omega
 have P1:=c.below q;have i:=P1.lt;have d:∀b,vT.ownBlock=J b->TyB W b 137:=λb n=>je P1.rowT n
 have o:(Value.slice (J ⟨g,0,N⟩) (T.length+1) a).ownBlock≠J k:=by simpa[Value.ownBlock]using u
 refine⟨((H.below q).other f c.kT d (by decide) (by decide)).far 4 _ (by omega),⟨yb (by omega) _ (f.cell P1.c3 (λe=>c.kT e.symm)),cs (f.cell P1.c4 (λe=>c.kT e.symm)),λj=>fs ((bG f ⟨k,j,N⟩ i (λe=>c.kT e.symm)).trans (P1.fz j)),jf (j4 P1.rowL f d (by decide)) c.kL 4 _,?_,λl v=>jf (j4 (P1.its l v) f d (by decide)) (c.kI l v) 4 _,c.kL,o,c.kI⟩,((PFr.below D q).trans (PFr.grown i f c.kT (λb n=>(P1.rowT.lt b n).1) λb n=>⟨_,d b n,by decide⟩)).trans (PFr.set s 4 (by omega) _)⟩;rw[rM,lP,lS];exact jf A o 4 _
theorem aF.pushL{z:Int}{W m:Wj}{a:Nat}{l:PlL}(c:aF B w k P T vL vT)(H:ax B w k A R tm z)(u:B<=k)(r:Below w.heap.size w W)(F:W.ownsRow B 117 3 l.v l.its.length (an l.its))(o:l.v.ownBlock≠J k)
  (G:m.ownsRow B 134 4 (M (J ⟨g,0,N⟩) (P.length+1) a) (P.length+1) (dU P++[l.v,I K l.page,I K l.fin,C l.gone])) (f:W.grownBy m vL.ownBlock) (s:vL.ownBlock=J g\/w.heap.size<=g):
  ax B (m.setCell ⟨k,3,N⟩ (M (J ⟨g,0,N⟩) (P.length+1) a)) k A R tm z/\aF B (m.setCell ⟨k,3,N⟩ (M (J ⟨g,0,N⟩) (P.length+1) a)) k (P++[l]) T (M (J ⟨g,0,N⟩) (P.length+1) a) vT/\PFr B k w (m.setCell ⟨k,3,N⟩ (M (J ⟨g,0,N⟩) (P.length+1) a)):=by
 have L:=c.lt;have y:g≠k:=by
  rcases s with h|h
  .intro e;exact c.kL (e▸h)
  .omega
 have P1:=c.below r;have i:=P1.lt;have d:∀b,vL.ownBlock=J b->TyB W b 134:=λb n=>je P1.rowL n
 have p:(Value.slice (J ⟨g,0,N⟩) (P.length+1) a).ownBlock≠J k:=by simpa[Value.ownBlock]using y
 refine⟨((H.below r).other f c.kL d (by decide) (by decide)).far 3 _ (by omega),⟨cs (f.cell P1.c3 (λe=>c.kL e.symm)),yb (by omega) _ (f.cell P1.c4 (λe=>c.kL e.symm)),λj=>fs ((bG f ⟨k,j,N⟩ i (λe=>c.kL e.symm)).trans (P1.fz j)),?_,jf (j4 P1.rowT f d (by decide)) c.kT 3 _,λx t=>?_,p,c.kT,λx t=>?_⟩,((PFr.below L r).trans (PFr.grown i f c.kL (λb n=>(P1.rowL.lt b n).1) λb n=>⟨_,d b n,by decide⟩)).trans (PFr.set u 3 (by omega) _)⟩
 .rw [rL,lP,lS];exact jf G p 3 _
 .rcases List.mem_append.1 t with h|h
  .exact jf (j4 (P1.its x h) f d (by decide)) (c.kI x h) 3 _
  .rw [List.mem_singleton.1 h];exact jf (j4 F f d (by decide)) o 3 _
 .rcases List.mem_append.1 t with h|h
  .exact c.kI x h
  .rw [List.mem_singleton.1 h];exact o
theorem C0(h:w.ownsRow B 134 4 vL P.length (dU P))(i:Nat)(d:i<P.length):∃g a,vL=M (J ⟨g,0,N⟩) P.length a/\B<=g/\g<w.heap.size/\w.cell? ⟨g,i*4,N⟩=J P[i].v/\w.cell? ⟨g,i*4+1,N⟩=J (I K P[i].page)/\w.cell? ⟨g,i*4+2,N⟩=J (I K P[i].fin)/\w.cell? ⟨g,i*4+3,N⟩=J (C P[i].gone):=by
 obtain⟨g,a,rfl,c,f,h3⟩:=cW h (by omega);have b:∀j,j<4->w.cell? ⟨g,i*4+j,N⟩=[P[i].v,I K P[i].page,I K P[i].fin,C P[i].gone][j]?:=λj e=>by
  have:=h.cellAt (i*4+j) (by omega);rw[dU,ce 4 _ (λ_=>rfl) P i j d e]at this;exact this
 exact⟨g,a,rfl,c,f,b 0 (by omega),b 1 (by omega),b 2 (by omega),b 3 (by omega)⟩
theorem FY(h:w.ownsRow B 137 3 vT T.length (fW T))(i:Nat)(d:i<T.length):∃g a,vT=M (J ⟨g,0,N⟩) T.length a/\B<=g/\g<w.heap.size/\w.cell? ⟨g,i*3,N⟩=J (U T[i].text)/\w.cell? ⟨g,i*3+1,N⟩=J (I K T[i].ls)/\w.cell? ⟨g,i*3+2,N⟩=J (I K T[i].pg):=by
 obtain⟨g,a,rfl,c,f,h3⟩:=cW h (by omega);have b:∀j,j<3->w.cell? ⟨g,i*3+j,N⟩=[U T[i].text,I K T[i].ls,I K T[i].pg][j]?:=λj e=>by
  have:=h.cellAt (i*3+j) (by omega);rw[fW,ce 3 _ (λ_=>rfl) T i j d e]at this;exact this
 exact⟨g,a,rfl,c,f,b 0 (by omega),b 1 (by omega),b 2 (by omega)⟩
def setFin(P:List PlL)(i:Nat)(x:Int):List PlL:=match P[i]? with
 |some l=>P.set i {l with fin:=x}
 |none=>P
theorem fE(a:b<P.length)(x:Int):setFin P b x=P.set b {P[b]with fin:=x}:=by
 unfold setFin;rw[eL a]
theorem aF.setFin{D:Int}{t i:Nat}(c:aF B w k P T (M (J ⟨g,0,N⟩) P.length t) vT)(H:ax B w k F R tm D)(s:i<P.length)(x:Int):
  ax B (w.setCell ⟨g,i*4+2,N⟩ (I K x)) k F R tm D/\aF B (w.setCell ⟨g,i*4+2,N⟩ (I K x)) k (setFin P i x) T (M (J ⟨g,0,N⟩) P.length t) vT/\PFr B k w (w.setCell ⟨g,i*4+2,N⟩ (I K x)):=by
 have A:=c.lt;have⟨S,o⟩:=c.rowL.stored (i*4+2) (I K x);have d:∀b,J g=J b->TyB w b 134:=λb q=>je c.rowL (by rw[<-q];rfl)
 have f:J g≠J k:=c.kL;have G:∀j,(w.setCell ⟨g,i*4+2,N⟩ (I K x)).cell? ⟨k,j,N⟩=w.cell? ⟨k,j,N⟩:=λj=>cB (a:=⟨k,j,N⟩) (o.block k A (λe=>f e.symm))
 have r:dU (Go.Proofs.Qw.setFin P i x)=(dU P).set (i*4+2) (I K x):=by
  rw[fE s];exact ru 4 _ (λ_=>rfl) P i 2 _ _ (by omega) s rfl
 have u:(Go.Proofs.Qw.setFin P i x).length=P.length:=by rw[fE s,List.length_set]
 have m:∀l∈Go.Proofs.Qw.setFin P i x,∃p∈P,l.v=p.v/\l.its=p.its:=λl n=>by
  rw[fE s]at n;rcases List.mem_or_eq_of_mem_set n with h|rfl
  .exact ⟨l,h,rfl,rfl⟩
  .exact ⟨P[i],List.getElem_mem s,rfl,rfl⟩
 refine⟨H.other o f d (by decide) (by decide),⟨(G 3).trans c.c3,(G 4).trans c.c4,λj=>(fB (a:=⟨k,j,N⟩) (o.block k A (λe=>f e.symm))).trans (c.fz j),?_,j4 c.rowT o d (by decide),λl n=>?_,c.kL,c.kT,λl n=>?_⟩,PFr.grown A o f (λb q=>(c.rowL.lt b (by rw[<-q];rfl)).1) λb q=>⟨_,d b q,by decide⟩⟩
 .rw [r,u];exact S
 .have ⟨p,y,z,Q⟩:=m l n;rw[z,Q];exact j4 (c.its p y) o d (by decide)
 .obtain ⟨p,y,z,-⟩:=m l n;rw[z];exact c.kI p y
end
theorem j5{B k:Nat}{d vL vT:Wx}{b:Int}{P:List PlL}{T:List PlT}(w:Wj)(H:ax B w k d R tm b)(a:aF B w k P T vL vT)(i:Nat)(f:i<P.length):
  Calls Yq.prog 62 #[O (J ⟨k,0,N⟩),I K i] w λe w'=>e=.returned (C (P[i].isOpen b))/\Below w.heap.size w w':=by
 obtain⟨g,cap,rfl,-,hg,-,-,e2,e3⟩:=C0 a.rowL i f;have c2:=H.cells.c2;have c3:=a.c3;have hii:(i:Int)<(P.length:Int):=by omega
 clear H a;unfold PlL.isOpen;generalize P[i].gone=c at *;generalize P[i].fin=fn at *;cases c
 .go_enter (Yq.nq func62),ntmps62;go_wp2_with fail
  go_quiet (fail)
  go_wp2_with fail
  go_ret;exact⟨rfl,below_drewN (bR _ _) _⟩
 .go_enter (Yq.nq func62),ntmps62;go_wp2_with fail
  go_quiet (fail)
  go_wp2_with fail
  go_ret;exact⟨rfl,below_drewN (bR _ _) _⟩
theorem C3(a:Int)(P:List PlL)(i:Nat)(h:i<P.length):((P.take (i+1)).filter (PlL.isOpen a)).length=((P.take i).filter (PlL.isOpen a)).length+if P[i].isOpen a then 1 else 0:=by
 rw[tS h,List.filter_append,lP];congr 1;by_cases b:P[i].isOpen a=Y<;>simp[b]
theorem C4{B k:Nat}{vL vT:Wx}{a:Int}{P:List PlL}{T:List PlT}(w:Wj)(H:ax B w k v R tm a)(f:aF B w k P T vL vT)(hn:P.length<=2199023255340):
  Calls Yq.prog 59 #[O (J ⟨k,0,N⟩)] w λe w'=>e=.returned (I K ((P.filter (PlL.isOpen a)).length:Int))/\Below w.heap.size w w':=by
 obtain⟨r,q,rfl,-⟩:=az f.rowL;have s:=f.c3;have HH:Hid (ax B w k v R tm a/\aF B w k P T (M r P.length q) vT):=⟨H,f⟩;clear H f;go_enter (Yq.nq func59),ntmps59;go_wp2_with fail
 go_loopw [3,4] (λs3 s4 wr=>∃i:Nat,i<=P.length/\s3=I K (((P.take i).filter (PlL.isOpen a)).length:Int)/\s4=I K i/\Below w.heap.size w wr) (λ_ s4 _=>P.length-(intOf s4).toNat)
 case atStart=>exact⟨0,Nat.zero_le _,rfl,rfl,bR _ _⟩
 case round=>
  obtain⟨i,hin,rfl,rfl,c⟩:=hrel;have c3':=ah c s;have HB:Hid (Below w.heap.size w wr):=c;have hle:((P.take i).filter (PlL.isOpen a)).length<=i:=lT (List.length_filter_le _ _) (by rw[tL];omega);by_cases b:i<P.length
  .have hii:(i:Int)<(P.length:Int):=by omega
   have HC:=j5 wr (HH.out.1.below c) (HH.out.2.below c) i b;have HT:Hid (((P.take (i+1)).filter (PlL.isOpen a)).length=((P.take i).filter (PlL.isOpen a)).length+if P[i].isOpen a then 1 else 0):=C3 a P i b;generalize P[i].isOpen a=t at *;generalize((P.take i).filter (PlL.isOpen a)).length=m at *;clear c;go_wp2_with fail
   refine HC.mono ?_;rintro e p ⟨rfl,n⟩;have d:Hid (Below w.heap.size w p):=HB.out.trans (n.mono HB.out.size);clear HC n;cases t
   .go_wp2_with fail
    refine⟨⟨i+1,b,by rw[HT.out];go_num,by go_num,d.out⟩,by simp[intOf];omega⟩
   .go_wp2_with fail
    refine⟨⟨i+1,b,by rw[HT.out];go_num,by go_num,d.out⟩,by simp[intOf];omega⟩
  .have h:i=P.length:=by omega
   subst h;have HT:Hid (P.take P.length=P):=List.take_length;go_wp2_with fail
   go_ret;exact⟨qr (congrArg (λl=>((List.filter (PlL.isOpen a) l).length:Int)) HT.out),HB.out⟩
theorem Yq.infoRtok:(Yq.prog.info? 137).map (λi=>(i.zero,i.size,i.bytes))=J (J (.agg #[U ⟨#[]⟩,I K 0,I K 0]),3,32):=by kernel_rfl
theorem Yq.infoRlst:(Yq.prog.info? 134).map (λi=>(i.zero,i.size,i.bytes))=J (J (.agg #[M N 0 0,I K 0,I K 0,C Z]),4,48):=by kernel_rfl
theorem yc(w:Wj)(a b c:Wx)(T:Ww):∀j u,[a,b,c][j]?=J u->(w.alloc (E #[a,b,c] T)).cell? ((⟨w.heap.size,0,N⟩:Addr).add j)=J u:=by
 intro j u d;rw[Addr.add_lit,zA,cA (w:=w) _ _ w.heap.size j rfl];rw[<-d,<-gT]
theorem Ah{B k:Nat}{vL vT:Wx}{nx:Int}{P:List PlL}{T:List PlT}(w:Wj)(H:ax B w k A R nx tm)(n:aF B w k P T vL vT)(z:B<=k)(hn:T.length<=2199023255340)(a:ByteArray)(f j:Nat)(s:a≠⟨#[]⟩)(hT:∀t∈T,(t.ls=f/\t.pg=j)↔t.text=a):
  Calls Yq.prog 85 #[O (J ⟨k,0,N⟩),U a,I K f,I K j] w λe w'=>e=.returned (C Y)/\∃v,ax B w' k A R nx tm/\aF B w' k P (T++[⟨a,f,j⟩]) vL v/\PFr B k w w':=by
 have⟨i0,ac,x,F,L⟩:=info_parts Yq.infoRtok;obtain⟨p,q,rfl,-⟩:=az n.rowT;have c4:=n.c4;have hz:=jt s;have HH:Hid (ax B w k A R nx tm/\aF B w k P T vL (M p T.length q)/\B<=k/\∀t∈T,(t.ls=f/\t.pg=j)↔t.text=a):=⟨H,n,z,hT⟩;have hkw:=n.lt;clear H n hT;go_enter (Yq.nq func85),ntmps85;go_wp2_with fail
 go_loopw [9] (λs9 wr=>∃i:Nat,i<=T.length/\s9=I K i/\Below w.heap.size w wr) (λs9 _=>T.length-(intOf s9).toNat)
 case atStart=>exact⟨0,Nat.zero_le _,rfl,bR _ _⟩
 case round=>
  obtain⟨i,hin,rfl,b⟩:=hrel;have c4':=ah b c4;have HB:Hid (Below w.heap.size w wr):=b;by_cases d:i<T.length
  .have hii:(i:Int)<(T.length:Int):=by omega
   obtain⟨g,D,he,-,-,r,e1,G⟩:=FY HH.out.2.1.rowT i d;cases he;replace r:=ah b r;replace e1:=ah b e1;replace G:=ah b G;have m:=HH.out.2.2.2 _ (List.getElem_mem d);have HA:Hid (∀X:Obj,Below w.heap.size w (wr.alloc X)):=λX=>b.alloc b.size _
   generalize T[i]=t at *;obtain⟨tt,tl,tp⟩:=t;simp only at r e1 G m;clear b;by_cases o:tt=a
   .obtain ⟨rfl,rfl⟩:=m.2 o;subst o;have hs:=ur tt;clear m;go_wp2_with fail
    exact⟨⟨i+1,d,by go_num,HA.out _⟩,by simp[intOf];omega⟩
   .have hs:=us o;by_cases Q:tl=f
    .have hp:¬tp=j:=λe=>o (m.1 ⟨Q,e⟩)
     subst Q;have hp':((tp:Int)==(j:Int))=false:=by simp;omega
     clear m hp;go_wp2_with fail
     exact⟨⟨i+1,d,by go_num,HA.out _⟩,by simp[intOf];omega⟩
    .have hl':((tl:Int)==(f:Int))=false:=by simp;omega
     clear m Q;go_wp2_with fail
     exact⟨⟨i+1,d,by go_num,HA.out _⟩,by simp[intOf];omega⟩
  .have aa:i=T.length:=by omega
   subst aa;have V:Hid (∀X:Obj,(wr.alloc X).ownsRow B 137 3 (M p T.length q) T.length (fW T)):=λX=>(HH.out.2.1.below b).rowT.alloc X
   have HX:Hid (∀ (X:Obj),Below w.heap.size w (wr.alloc X)):=λX=>b.alloc b.size _
   have hBw:B<=wr.heap.size:=by have:=b.size;have:=HH.out.2.2.1;omega
   have hsz:=b.size;have ab:Hid (∀ (X:Obj) (l:Wj),(wr.alloc X).grownBy l (Value.slice p T.length q).ownBlock->l.cell? ⟨k,4,N⟩=J (M p T.length q)/\l.frozen? ⟨k,4,N⟩=Z):=λX l c=>by
    have P1:=HH.out.2.1.below (HX.out X);exact⟨c.cell P1.c4 (λe=>P1.kT e.symm),(bG c ⟨k,4,N⟩ P1.lt (λe=>P1.kT e.symm)).trans (P1.fz 4)⟩
   clear b;go_wp2_with (at_builtin;go_loud (refine wpList_append_lies _ rfl _ _ 53 rfl B 137 i0 _ 3 32 (Yq.u underlying53) ac x F L rfl (by decide) _ T.length _ rfl (V.out _) ⟨wr.heap.size,0,N⟩ 1 1 [U a,I K f,I K j] rfl rfl (yc wr _ _ _ _) (by simp[Value.oneCell']) (by omega) (by simp only[maxLen];omega) (by omega) (by simp;omega) (wr.heap.size+1) (by simp) ?_;intro g D l y c S hlt3;obtain⟨y0,y1⟩:=ab.out _ l c))
   go_ret;refine⟨rfl,_,HH.out.2.1.pushT (t:=⟨a,f,j⟩) HH.out.1 HH.out.2.2.1 (HX.out _) y c ?_⟩;rcases S with h|h
   .exact .inl h
   .exact .inr (by omega)
def Ht(b:Wx)(a:ByteArray):Wx:=.agg #[I K 0,I K 0,U ⟨#[]⟩,b,U a]
structure cy (w:Wj)(b:Nat)(x0 x1 x2 x3 x4:Wx):Prop where
 c0:w.cell? ⟨b,0,N⟩=J x0
 c1:w.cell? ⟨b,1,N⟩=J x1
 c2:w.cell? ⟨b,2,N⟩=J x2
 c3:w.cell? ⟨b,3,N⟩=J x3
 c4:w.cell? ⟨b,4,N⟩=J x4
theorem cy.block{w w':Wj}{a d:Wx}(h:cy w b a d c v x4)(e:w'.heap[b]?=w.heap[b]?):cy w' b a d c v x4:=
 ⟨(cB e).trans h.c0,(cB e).trans h.c1,(cB e).trans h.c2,(cB e).trans h.c3,(cB e).trans h.c4⟩
theorem cy.on{w w':Wj}{e d:Wx}(h:cy w b v c e d x4)(f:Below w.heap.size w w'):cy w' b v c e d x4:=
 h.block (f.block b (bC w _ h.c0))
theorem jx(w:Wj)(a c b d x4:Wx)(T:Ww):cy (w.alloc (E #[a,c,b,d,x4] T)) w.heap.size a c b d x4:=
 ⟨by rw[cA (w:=w) _ _ w.heap.size 0 rfl];rfl,by rw[cA (w:=w) _ _ w.heap.size 1 rfl];rfl,by rw[cA (w:=w) _ _ w.heap.size 2 rfl];rfl,by rw[cA (w:=w) _ _ w.heap.size 3 rfl];rfl,by rw[cA (w:=w) _ _ w.heap.size 4 rfl];rfl⟩
theorem oS(w:Wj)(d:Int)(e c a b:ByteArray)(h f:Int)(i k m l x4:Wx):∃W,(w.alloc (E #[I K d,U e,U c,U a,U b,I K h,I K f] 30)).alloc (E #[i,k,m,l,x4] 46)=W/\Below w.heap.size w W/\(∀j,W.cell? ⟨w.heap.size,j,N⟩=(#[I K d,U e,U c,U a,U b,I K h,I K f]:Array Wx)[j]?)/\cy W (w.heap.size+1) i k m l x4:=by
 refine⟨_,rfl,((bR _ w).alloc (lR _) _).alloc (by simp) _,λj=>?_,?_⟩
 .rw [cB (bA _ _ _ (by simp))];exact cA (w:=w) _ _ w.heap.size j rfl
 .have:=jx (w.alloc (E #[I K d,U e,U c,U a,U b,I K h,I K f] 30)) i k m l x4 46
  rwa [show(w.alloc (E #[I K d,U e,U c,U a,U b,I K h,I K f] 30)).heap.size=w.heap.size+1 by simp]at this
def C5(B k:Nat)(sl:Wx)(R:List bD)(nx tm:Int)(P:List PlL)(T:List PlT)(w:Wj)(e:Ending)(w':Wj):Prop:=
 e=.returned (C Y)/\∃vL vT,ax B w' k sl R nx tm/\aF B w' k P T vL vT/\PFr B k w w'
theorem Ft{w:Wj}{B k:Nat}{d:List ItD}(h:w.ownsRow B 117 3 (M (J ⟨g,0,N⟩) d.length k) d.length (an d))(a b:Nat)(i:a<=b)(hb:b<=d.length)(c:Nat):Je w (M (J ⟨g,a*3,N⟩) (b-a) c) ((d.take b).drop a):=by
 have f:((d.take b).drop a).length=b-a:=by rw[lD,tL];omega
 refine⟨_,c,by rw[f],λ_=>⟨g,a*3,rfl,λj l=>?_⟩⟩;rw[f]at l;have o:=h.cellAt (a*3+j) (by omega);rw[o];have m:an d=an (d.take a)++(an ((d.take b).drop a)++an (d.drop b)):=by
  have e:d=d.take a++((d.take b).drop a++d.drop b):=by
   conv=>lhs;rw[<-List.take_append_drop b d,<-List.take_append_drop a (d.take b)]
   rw[List.take_take,Nat.min_eq_left i,pA]
  conv=>lhs;rw[e]
  unfold an;rw[List.flatMap_append,List.flatMap_append]
 have n:(an (d.take a)).length=a*3:=by rw[eC,tL,Nat.min_eq_left (by omega)]
 rw[m,aR (by omega),n,Nat.add_sub_cancel_left,aL (by rw[eC,f];exact l)]
theorem qq{B k:Nat}{V vL vT:Wx}{m:Int}{P:List PlL}{T:List PlT}(w:Wj)(H:ax B w k V R tm m)(G:aF B w k P T vL vT)(a0:B<=k)(hn:P.length<=2199023255340/\T.length<=2199023255340)(htm:0<=m/\m<=1000000000000000000)(i s:Nat)(hi:i<P.length)
  (hl:1<=P[i].page/\P[i].page<=20/\P[i].its.length<=200/\s*P[i].page<P[i].its.length) (A:Wx) (b:ByteArray) (hI:∀w',PFr B k w w'->gi w' A ((P[i].its.take ((s+1)*P[i].page)).drop (s*P[i].page)))
  (f:if(s+1)*P[i].page<P[i].its.length then b≠⟨#[]⟩/\∀t∈T,(t.ls=i/\t.pg=s+1)↔t.text=b else b=⟨#[]⟩):
  Calls Yq.prog 61 #[O (J ⟨k,0,N⟩),Ht A b,I K i,I K s] w (C5 B k V R tm m (setFin P i (m+10)) (if(s+1)*P[i].page<P[i].its.length then T++[⟨b,i,s+1⟩]else T) w):=by
 obtain⟨o,r,rfl,-,a1,e0,e1,e2,e3⟩:=C0 G.rowL i hi;have q:=G.its _ (List.getElem_mem hi);have a5:=G.kI _ (List.getElem_mem hi);have al:setFin P i (m+10)=P.set i {P[i]with fin:=m+10}:=fE hi _;have L:=λW (hb:Below w.heap.size w W)=>(G.below hb).setFin (H.below hb) hi (m+10)
 have c2:=H.cells.c2;have c3:=G.c3;have a8:=G.lt;have hii:(i:Int)<(P.length:Int):=by omega
 have hgk:o≠k:=λe=>G.kL (by rw[e];rfl)
 have bi:w.frozen? ⟨o,i*4+2,N⟩=false:=by
  rcases G.rowL.2 with⟨h,-⟩|⟨g,bb,a2,h,-,hb,-⟩
  .cases h
  .cases h;unfold World.frozen?;rw[hb];simp
 generalize P[i]=l at *;obtain⟨a,v,n,Q,x⟩:=l;simp only at hl hI f q a5 e0 e1 e2 e3;obtain⟨a7,hl2,hl3,a4⟩:=hl;obtain⟨y,d,rfl,-,hgI,-⟩:=cW q (by omega);have hcap:a.length<=d:=by
  rcases q.2 with⟨h,-⟩|⟨g,bb,a2,h,-,-,h1,-⟩
  .cases h
  .cases h;exact h1
 have hpn:s<=200:=by
  have:s*1<=s*n:=Nat.mul_le_mul_left _ a7;omega
 obtain⟨j,X⟩:∃j,s*n=j:=⟨_,rfl⟩;have af:(s+1)*n=j+n:=by rw[Nat.add_mul,Nat.one_mul,X]
 have hfrI:(s:Int)*(n:Int)=(j:Int):=by rw[<-X,Int.natCast_mul]
 simp only[X,af]at hI f a4 ⊢;have HI:Hid (∀w',PFr B k w w'->gi w' A ((a.take (j+n)).drop j)):=hI;have HR:Hid (w.ownsRow B 117 3 (M (J ⟨y,0,N⟩) a.length d) a.length (an a)):=q;have ab:Hid (if j+n<a.length then b≠⟨#[]⟩/\∀t∈T,(t.ls=i/\t.pg=s+1)↔t.text=b else b=⟨#[]⟩):=f;have ac:Hid (B<=k/\T.length<=2199023255340):=⟨a0,hn.2⟩;have L:Hid (∀W,Below w.heap.size w W->ax B (W.setCell ⟨o,i*4+2,N⟩ (I K (m+10))) k V R tm m/\aF B (W.setCell ⟨o,i*4+2,N⟩ (I K (m+10))) k (setFin P i (m+10)) T (M (J ⟨o,0,N⟩) P.length r) vT/\PFr B k W (W.setCell ⟨o,i*4+2,N⟩ (I K (m+10)))):=L;generalize setFin P i (m+10)=P' at *;obtain⟨z,av⟩:∃z:Nat,(j+n<=a.length/\z=j+n)\/(a.length<j+n/\z=a.length):=by
  by_cases h:j+n<=a.length
  .exact ⟨_,.inl ⟨h,rfl⟩⟩
  .exact ⟨_,.inr ⟨by omega,rfl⟩⟩
 have F:Hid ((j+n<=a.length/\z=j+n)\/(a.length<j+n/\z=a.length)):=av;have a3:y≠o:=λe=>by
  subst e;exact absurd ((je G.rowL (g:=y) rfl).ne (je q (g:=y) rfl)) (by decide)
 clear hI f q H G al;unfold Ht C5;go_enter (Yq.nq func61),ntmps61
 go_upto_if 32 with fail
 have HW:Hid (Below w.heap.size w ((w.alloc (E #[I K 0,I K 0,U ⟨#[]⟩,A,U b] 46)).alloc (E #[M (J ⟨y,0,N⟩) a.length d,I K n,I K Q,C x] 134))/\cy ((w.alloc (E #[I K 0,I K 0,U ⟨#[]⟩,A,U b] 46)).alloc (E #[M (J ⟨y,0,N⟩) a.length d,I K n,I K Q,C x] 134)) w.heap.size (I K 0) (I K 0) (U ⟨#[]⟩) A (U b)/\((w.alloc (E #[I K 0,I K 0,U ⟨#[]⟩,A,U b] 46)).alloc (E #[M (J ⟨y,0,N⟩) a.length d,I K n,I K Q,C x] 134)).cell? ⟨w.heap.size+1,0,N⟩=J (M (J ⟨y,0,N⟩) a.length d)):=
  ⟨((bR _ w).alloc (lR _) _).alloc (by simp) _,(jx w _ _ _ _ _ 46).on ((bR _ _).alloc (lR _) _),by rw[cA (w:=w.alloc _) _ _ (w.heap.size+1) 0 (by simp)];rfl⟩
 have u0:=HW.out.2.2;generalize((w.alloc (E #[I K 0,I K 0,U ⟨#[]⟩,A,U b] 46)).alloc (E #[M (J ⟨y,0,N⟩) a.length d,I K n,I K Q,C x] 134))=W at *
 go_cut [11] (λs11 u=>s11=I K z/\u=W)
 case first=>
  rcases F.out with⟨h1,rfl⟩|⟨h1,rfl⟩
  .have be:¬(a.length:Int)<(j:Int)+n:=by omega
   go_wp2_with fail
   go_meet
   case rel=>exact⟨by go_num,rfl⟩
  .have be:(a.length:Int)<(j:Int)+n:=by omega
   go_wp2_with fail
   go_meet
   case rel=>exact⟨rfl,rfl⟩
 case rest=>
 obtain⟨rfl,rfl⟩:=hcut;have c2':=ah HW.out.1 c2;have c3':=ah HW.out.1 c3;have e2':=ah HW.out.1 e2;have hfz':wc.frozen? ⟨o,i*4+2,N⟩=false:=(HW.out.1.frozen (p:=⟨o,i*4+2,N⟩) a1).trans bi
 go_upto_region 6 with fail
 go_cut [46] (λ_ u=>ax B u k V R tm m/\aF B u k P' T (M (J ⟨o,0,N⟩) P.length r) vT/\PFr B k w u/\cy u w.heap.size (I K 0) (I K 0) (U ⟨#[]⟩) A (U b)/\u.cell? ⟨w.heap.size+1,0,N⟩=J (M (J ⟨y,0,N⟩) a.length d)/\u.ownsRow B 117 3 (M (J ⟨y,0,N⟩) a.length d) a.length (an a))
 case first=>
  go_region
  all_goals
   go_wp2_with fail
   go_meet
   case rel=>
    have⟨X1,X2,X3⟩:=L.out wc HW.out.1;have hd:Below (wc.setCell ⟨o,i*4+2,N⟩ (I K (m+10))).heap.size (wc.setCell ⟨o,i*4+2,N⟩ (I K (m+10))) (wc.setCell ⟨o,i*4+2,N⟩ (I K (m+10))).drew:=(bR _ _).drew;have hx:(wc.setCell ⟨o,i*4+2,N⟩ (I K (m+10))).drew.heap[w.heap.size]?=wc.heap[w.heap.size]?:=bS _ _ _ _ (show w.heap.size≠o by omega);have bd:(wc.setCell ⟨o,i*4+2,N⟩ (I K (m+10))).drew.heap[w.heap.size+1]?=wc.heap[w.heap.size+1]?:=bS _ _ _ _ (show w.heap.size+1≠o by omega);refine⟨X1.below hd,X2.below hd,((PFr.below a8 HW.out.1).trans X3).trans (PFr.below X2.lt hd),HW.out.2.1.block hx,(cB bd).trans u0,?_⟩;refine dY (HR.out.kept (aS HW.out.1 N) (none_or _)) λg hg=>?_
    have a9:y=g:=by simpa[Value.ownBlock]using hg
    subst a9;exact bS _ _ _ _ a3
 case rest=>
 obtain⟨X1,X2,X3,⟨q0,q1,q2,q3,q4⟩,u0,hr⟩:=hcut;have HX:Hid (ax B wc k V R tm m/\aF B wc k P' T (M (J ⟨o,0,N⟩) P.length r) vT/\PFr B k w wc):=⟨X1,X2,X3⟩;have a6:j<z/\z<=a.length:=by rcases F.out with h|h<;>omega
 have f:(a.take z).drop j=(a.take (j+n)).drop j:=by
  rcases F.out with⟨h,rfl⟩|⟨h,rfl⟩
  .rfl
  .rw [List.take_length,tO (by omega)]
 have HS:=λc=>mr A (M (J ⟨y,j*3,N⟩) (z-j) c) ((a.take z).drop j) wc.drew (by rw[f];exact(HI.out wc X3).left ⟨rfl,lR _,λ_ _=>rfl⟩) (Ft (w:=wc.drew) ⟨hr.1,hr.2⟩ j z (by omega) a6.2 c) (by rw[lD,tL];omega)
 have hQ:Hid (cy wc w.heap.size (I K 0) (I K 0) (U ⟨#[]⟩) A (U b)):=⟨q0,q1,q2,q3,q4⟩;clear X1 X2 X3 hr f
 go_upto_region 7 with fail
 go_cut [12] (λs12 u=>s12=C Y/\ax B u k V R tm m/\aF B u k P' T (M (J ⟨o,0,N⟩) P.length r) vT/\PFr B k w u/\cy u w.heap.size (I K 0) (I K 0) (U ⟨#[]⟩) A (U b)/\u.cell? ⟨w.heap.size+1,0,N⟩=J (M (J ⟨y,0,N⟩) a.length d))
 case first=>
  go_region_with (go_at_call 60;refine(HS _).mono ?_;rintro e w2 ⟨rfl,b2⟩;have D:Hid (Below wc.heap.size wc w2):=((bR _ wc).drew).trans b2;clear b2)
  all_goals
   go_wp2_with fail
   go_meet
   case rel=>exact⟨rfl,HX.out.1.below D.out,HX.out.2.1.below D.out,HX.out.2.2.trans (PFr.below HX.out.1.lt D.out),hQ.out.on D.out,ah D.out u0⟩
 case rest=>
 clear HS hQ HX u0 q0 q1 q2 q3 q4 L;obtain⟨rfl,X1,X2,X3,⟨q0,q1,q2,q3,q4⟩,u0⟩:=hcut;have HX:Hid (ax B wc k V R tm m/\aF B wc k P' T (M (J ⟨o,0,N⟩) P.length r) vT/\PFr B k w wc):=⟨X1,X2,X3⟩;clear X1 X2 X3;by_cases ad:j+n<a.length
 .have f:=ab.out;rw[if_pos ad]at f;have ap:((z:Int)==(a.length:Int))=false:=by
   simp only[beq_eq_false_iff_ne,ne_eq];rcases F.out with h|h<;>omega
  have aa:=Ah wc HX.out.1 HX.out.2.1 ac.out.1 ac.out.2 b i (s+1) f.1 f.2;rw[Int.natCast_add]at aa;clear f;go_wp2_with fail
  refine aa.mono ?_;rintro e w3 ⟨rfl,ar,Y1,Y2,Y3⟩;have HY:Hid (ax B w3 k V R tm m/\aF B w3 k P' (T++[⟨b,i,s+1⟩]) (M (J ⟨o,0,N⟩) P.length r) ar/\PFr B k w w3):=⟨Y1,Y2,HX.out.2.2.trans Y3⟩;clear Y1 Y2 Y3 aa;go_wp2_with fail
  go_ret;exact⟨rfl,HY.out.1,⟨_,_,HY.out.2.1⟩,HY.out.2.2⟩
 .have f:=ab.out;rw[if_neg ad]at f;subst f;have ap:((z:Int)==(a.length:Int))=true:=by
   simp only[beq_iff_eq];rcases F.out with h|h<;>omega
  go_wp2_with fail
  go_ret;exact⟨rfl,HX.out.1,⟨_,_,HX.out.2.1⟩,HX.out.2.2⟩
end
