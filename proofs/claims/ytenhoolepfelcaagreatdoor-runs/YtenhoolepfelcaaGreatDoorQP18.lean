/- A part. -/
import Derived.Test.YtenhoolepfelcaaGreatDoorQP16
set_option maxHeartbeats 4000000
set_option maxRecDepth 100000
open _root_ renaming Int->dT,congrArg->ey,ByteArray->eV,Option->eW
open Go.Value renaming ownBlock->gI,slice->gL
open List renaming getElem_mem->g6,take_append_drop->jp,take_length->kr,mem_append->lj
open Go renaming World->Wj,Value->Wx,TypeId->Ww
namespace Go.Proofs.Qw
open _root_ renaming rfl->Q
open _root_ renaming Nat->H,List->S
open Option renaming none->N,some->J
open Bool renaming true->Y,false->Z
open Value renaming int->I,string->U,slice->M,pointer->O,bool->C,agg->Qa
open IntKind renaming i64->K
open Obj renaming cells->E
open Ending renaming returned->Nm
open Or renaming inl->Qc,inr->Qd
variable {W w w'':Wj}{B b g i k n:H}{a e:Ww}{A c d u v x4 z:Wx}{xs:S Wx}{T:S PlT}{R R':S bg}{P:S PlL}
open Tryz
section
open Go.RowKit
def dU(P:S PlL):S Wx:=P.flatMap λl=>[l.v,I K l.Mz,I K l.fin,C l.gone]
def gV(T:S PlT):S Wx:=T.flatMap λt=>[U t.text,I K t.ls,I K t.pg]
theorem ub P l:dU (P++[l])=dU P++[l.v,I K l.Mz,I K l.fin,C l.gone]:=by simp[dU]
theorem ud T t:gV (T++[t])=gV T++[U t.text,I K t.ls,I K t.pg]:=by simp[gV]
structure aD (B:H)(w:Wj)(k:H)(P:S PlL)(T:S PlT)(vL vT:Wx):Prop where
 c3:w.cell? ⟨k,3,N⟩=J vL
 c4:w.cell? ⟨k,4,N⟩=J vT
 fz:∀j,w.frozen? ⟨k,j,N⟩=Z
 MR:w.ownsRow B 134 4 vL P.length (dU P)
 Nv:w.ownsRow B 137 3 vT T.length (gV T)
 Mt:∀l∈P,w.ownsRow B 117 3 l.v l.Mt.length (aq l.Mt)
 kL:vL.ownBlock≠J k
 kT:vT.ownBlock≠J k
 kI:∀l∈P,l.v.ownBlock≠J k
def TyB(w:Wj)(b:H)(T:Ww):Prop:=∃a z,w.heap[b]?=J (E a T z)
theorem fA(h:w.ownsRow B e i v n xs)(b:v.ownBlock=J g):TyB w g e:=by
 obtain⟨-,⟨rfl,-⟩|⟨g',cap,cur,rfl,-,d,-⟩⟩:=h;simp[gI]at b;simp[gI]at b;subst b;exact⟨_,_,d⟩
theorem TyB.ne{T}(h:TyB w b T)(d:TyB w b e):T=e:=by
 obtain⟨c,z,h⟩:=h;obtain⟨c',z',d⟩:=d
 grind
theorem bI{w':Wj}{a:H}(h:w.ownsRow B e a v n xs)(l:∀g,v.ownBlock=J g->w'.heap[g]?=w.heap[g]?):w'.ownsRow B e a v n xs:=by
 obtain⟨d,f|⟨g,c,b,rfl,k,i,j⟩⟩:=h;exact⟨d,Or.inl f⟩;exact⟨d,Or.inr ⟨g,c,b,Q,k,(l g Q).t i,j⟩⟩
section
variable {B k:Nat} {w w':Wj} {P:List PlL} {T:List PlT} {vL vT:Wx}
theorem aD.Mr(h:aD B w k P T vL vT)(m:w'.cell? ⟨k,3,N⟩=w.cell? ⟨k,3,N⟩)(i:w'.cell? ⟨k,4,N⟩=w.cell? ⟨k,4,N⟩)(f:∀j,w'.frozen? ⟨k,j,N⟩=w.frozen? ⟨k,j,N⟩)
  (d:∀g a,g≠k->TyB w g a->a=134\/a=137\/a=117->w'.heap[g]?=w.heap[g]?):aD B w' k P T vL vT:=
 ⟨m.t h.c3,i.t h.c4,λj=>(f j).t (h.fz j),bI h.MR λg b=>d g _ (λe=>h.kL (e▸b)) (fA h.MR b) (Qc Q),bI h.Nv λg b=>d g _ (λe=>h.kT (e▸b)) (fA h.Nv b) (Qd (Qc Q)),λl c=>bI (h.Mt l c) λg b=>d g _ (λe=>h.kI l c (e▸b)) (fA (h.Mt l c) b) (Qd (Qd Q)),h.kL,h.kT,h.kI⟩
theorem aD.lt(h:aD B w k P T vL vT):k<w.heap.size:=bC w _ h.c3
theorem TyB.lt(h:TyB w b e):b<w.heap.size:=by obtain⟨c,z,h⟩:=h;exact(eS h).1
theorem aD.below(h:aD B w k P T vL vT)(a:Below w.heap.size w w'):aD B w' k P T vL vT:=
 h.Mr (cB (a.block k h.lt)) (cB (a.block k h.lt)) (λ_=>fB (a.block k h.lt)) λg _ _ b _=>a.block g b.lt
theorem aD.frame{tm q:dT}(h:aD B w k P T vL vT)(a:aA B w k v R tm q)(F:bm w w' k v R d R'):aD B w' k P T vL vT:=
 h.Mr (F.cells 3 (by omega)) (F.cells 4 (by omega)) F.frozen λg b c f i=>by
  have j:=a.Nx f (by rcases i with rfl|rfl|rfl<;>decide) (by rcases i with rfl|rfl|rfl<;>decide);exact F.block g f.lt c j.1 j.2
structure PFw (B k:H)(w w':Wj):Prop where
 os:w'.os=w.os
 tape:w'.tape=w.tape
 output:w'.output=w.output
 size:w.heap.size<=w'.heap.size
 low:∀b,b<B->b<w.heap.size->w'.heap[b]?=w.heap[b]?
 OO:∀g,g≠k->TyB w g 46->w'.heap[g]?=w.heap[g]?
 cells:∀j,6<=j->w'.cell? ⟨k,j,N⟩=w.cell? ⟨k,j,N⟩
 frozen:∀j,w'.frozen? ⟨k,j,N⟩=w.frozen? ⟨k,j,N⟩
structure PFr (B k:H)(Lv:H->Prop)(w w':Wj):Prop extends PFw B k w w' where
 c5:w'.cell? ⟨k,5,N⟩=w.cell? ⟨k,5,N⟩
 MV:∀g U,g≠k->TyB w g U->(U=88\/(U=140\/U=130)/\¬Lv g)->w'.heap[g]?=w.heap[g]?
section
variable {Lv:Nat->Prop}
theorem PFr.refl:PFr B k Lv w w:=⟨⟨Q,Q,Q,lR _,λ_ _ _=>Q,λ_ _ _=>Q,λ_ _=>Q,λ_=>Q⟩,Q,λ_ _ _ _ _=>Q⟩
theorem TyB.same{U}(h:TyB w b U)(e:w'.heap[b]?=w.heap[b]?):TyB w' b U:=by
 obtain⟨c,z,h⟩:=h;exact⟨c,z,e.t h⟩
theorem PFr.t(h:PFr B k Lv w w')(c:PFr B k Lv w' w''):PFr B k Lv w w'':=
 ⟨⟨c.os.t h.os,c.tape.t h.tape,c.output.t h.output,lT h.size c.size,λb e d=>(c.low b e (lL d h.size)).t (h.low b e d),λg e d=>(c.OO g e (d.same (h.OO g e d))).t (h.OO g e d),λj i=>(c.cells j i).t (h.cells j i),λj=>(c.frozen j).t (h.frozen j)⟩,c.c5.t h.c5,λg a e d f=>(c.MV g a e (d.same (h.MV g a e d f)) f).t (h.MV g a e d f)⟩
theorem PFr.below(c:k<w.heap.size)(a:Below w.heap.size w w'):PFr B k Lv w w':=
 ⟨⟨a.os,a.tape,a.output,a.size,λb _ h=>a.block b h,λg _ h=>a.block g h.lt,λ_ _=>cB (a.block k c),λ_=>fB (a.block k c)⟩,cB (a.block k c),λg _ _ h _=>a.block g h.lt⟩
theorem PFr.grown{row:eW H}(l:k<w.heap.size)(c:w.grownBy w' row)(f:row≠J k)(q:∀b,row=J b->B<=b)(i:∀b,row=J b->∃a,TyB w b a/\a≠46/\a≠88/\a≠140/\a≠130):PFr B k Lv w w':=
 ⟨⟨c.os,c.tape,c.output,c.size,λb j m=>c.block b m (λe=>by have:=q b e.s;omega),λg _ h=>c.block g h.lt (λe=>by have⟨a,j,m⟩:=i g e.s;exact m.1 (j.ne h)),λ_ _=>cB (c.block k l (λe=>f e.s)),λ_=>fB (c.block k l (λe=>f e.s))⟩,cB (c.block k l (λe=>f e.s)),λg a _ h d=>c.block g h.lt λe=>by
  obtain⟨V,j,-,o,p,n⟩:=i g e.s;have:=j.ne h;subst this;rcases d with d|⟨d|d,-⟩
  .exact o d
  .exact p d
  .exact n d⟩
theorem PFr.set(hk:B<=k)j(hj:j<5)v:PFr B k Lv w (w.setCell ⟨k,j,N⟩ v):=
 ⟨⟨Q,Q,Q,by simp,λb h1 _=>bS _ _ _ _ (show b≠k by omega),λg a _=>bS _ _ _ _ a,λi hi=>cO w ⟨k,j,N⟩ ⟨k,i,N⟩ v (λe=>by have:=ey Addr.off e;simp only at this;omega),λi=>by simp⟩,cO w ⟨k,j,N⟩ ⟨k,5,N⟩ v (λe=>by have:=ey Addr.off e;simp only at this;omega),λg _ a _ _=>bS _ _ _ _ a⟩
end
theorem PFr.ofR{l}{q tm:dT}(hk:B<=k)(a:aA B w k v R q tm)(F:bm w w' k v R l R'):PFr B k (RwB v R) w w':=
 ⟨⟨F.os,F.tape,F.output,F.size,λb h1 o=>F.block b o (by omega) (λe=>by have:=(a.row.lt b e).1;omega) (λx m e=>by have:=((a.MC x m).lt b e).1;omega),λg f h=>by
  have d:=a.Nx h (by decide) (by decide);exact F.block g h.lt f d.1 d.2,λj hj=>F.cells j (by omega),F.frozen⟩,F.cells 5 (by omega),λg c f h p=>by
  rcases p with rfl|⟨-,d⟩
  .have d:=a.Nx h (by decide) (by decide);exact F.block g h.lt f d.1 d.2
  .exact F.block g h.lt f (λe=>d (Qc e)) λx m e=>d (Qd ⟨x,m,e⟩)⟩
theorem PFw.to(h:PFw B k w w')(c:Below B W w)(hs:B<=w.heap.size):Below B W w':=
 ⟨h.os.t c.os,h.tape.t c.tape,h.output.t c.output,lT c.size h.size,λb a=>(h.low b a (by omega)).t (c.block b a)⟩
theorem KB(h:aY w b d c z)o v(ho:3<=o):aY (w.setCell ⟨b,o,N⟩ v) b d c z:=by
 have a:∀j,j<3->(w.setCell ⟨b,o,N⟩ v).cell? ⟨b,j,N⟩=w.cell? ⟨b,j,N⟩:=λj hj=>cO w ⟨b,o,N⟩ ⟨b,j,N⟩ v (λe=>by have:=ey Addr.off e;simp only at this;omega)
 exact⟨(a 0 (by omega)).t h.c0,(a 1 (by omega)).t h.c1,(a 2 (by omega)).t h.c2,λj=>fs (h.fz j)⟩
theorem aA.MV{q tm:dT}(a:aA B w k d R q tm)o v(f:3<=o):aA B (w.setCell ⟨k,o,N⟩ v) k d R q tm:=
 ⟨KB a.cells o v f,a.row.kept (bz w k o v) (Or.inr a.apart),λe b=>(a.MC e b).kept (bz w k o v) (Or.inr (a.MD e b)),a.apart,a.MD,a.MF,a.pw⟩
theorem aA.other{j tm:dT}{d:eW H}(c:aA B w k v R j tm)(o:w.grownBy w' d)(h:d≠J k)(f:∀b,d=J b->TyB w b a)(n:a≠140)(l:a≠130):aA B w' k v R j tm:=by
 refine c.grown o h ?_ λe he=>?_
 all_goals
  cases m:d with
  |none=>exact dX _
  |some b=>
   have hn:=c.Nx (f b m) n l
   grind
theorem ly{c}{f:eW H}(h:w.ownsRow B e c v n xs)(k:w.grownBy w' f)(i:∀b,f=J b->TyB w b a)(j:a≠e):w'.ownsRow B e c v n xs:=
 bI h λg d=>k.block g (h.lt g d).2 λl=>j ((i g l.s).ne (fA h d))
theorem iY(h:w.ownsRow B e i v n xs)(c:v.ownBlock≠J k)j u:(w.setCell ⟨k,j,N⟩ u).ownsRow B e i v n xs:=
 bI h λg b=>bS _ _ _ _ λe=>c (by rw[b];exact ey J e)
theorem Av(hji:b≠i)u(h:w.cell? ⟨k,i,N⟩=J v):(w.setCell ⟨k,b,N⟩ u).cell? ⟨k,i,N⟩=J v:=
 (cO w ⟨k,b,N⟩ ⟨k,i,N⟩ u (λe=>by have:=ey Addr.off e;simp only at this;omega)).t h
theorem aD.Pt{tm A:dT}{n}{c}{t}(d:aD B w k P T vL vT)(a:aA B w k v R tm A)(x:B<=k)(r:Below w.heap.size w W)
  (F:n.ownsRow B 137 3 (M (J ⟨g,0,N⟩) (T.length+1) c) (T.length+1) (gV T++[U t.text,I K t.ls,I K t.pg])) (i:W.grownBy n vT.ownBlock) (u:vT.ownBlock=J g\/w.heap.size<=g):
  aA B (n.setCell ⟨k,4,N⟩ (M (J ⟨g,0,N⟩) (T.length+1) c)) k v R tm A/\aD B (n.setCell ⟨k,4,N⟩ (M (J ⟨g,0,N⟩) (T.length+1) c)) k P (T++[t]) vL (M (J ⟨g,0,N⟩) (T.length+1) c)/\PFr B k (RwB v R) w (n.setCell ⟨k,4,N⟩ (M (J ⟨g,0,N⟩) (T.length+1) c)):=by
 have G:=d.lt;have y:g≠k:=by
  rcases u with h|h;intro e;exact d.kT (e▸h);omega
 have P1:=d.below r;have m:=P1.lt;have f:∀b,vT.ownBlock=J b->TyB W b 137:=λb o=>fA P1.Nv o
 have p:(gL (J ⟨g,0,N⟩) (T.length+1) c).ownBlock≠J k:=by simpa[gI]using y
 refine⟨((a.below r).other i d.kT f (by decide) (by decide)).MV 4 _ (by omega),⟨Av (by omega) _ (i.cell P1.c3 (λe=>d.kT e.s)),cs (i.cell P1.c4 (λe=>d.kT e.s)),λj=>fs ((bj i ⟨k,j,N⟩ m (λe=>d.kT e.s)).t (P1.fz j)),iY (ly P1.MR i f (by decide)) d.kL 4 _,?_,λl z=>iY (ly (P1.Mt l z) i f (by decide)) (d.kI l z) 4 _,d.kL,p,d.kI⟩,((PFr.below G r).t (PFr.grown m i d.kT (λb o=>(P1.Nv.lt b o).1) λb o=>⟨_,f b o,by decide⟩)).t (PFr.set x 4 (by omega) _)⟩;rw[ud,lP,lS];exact iY F p 4 _
theorem aD.PD{tm G:dT}{n}{c}{l}(d:aD B w k P T vL vT)(a:aA B w k z R tm G)(A:B<=k)(r:Below w.heap.size w W)(V:W.ownsRow B 117 3 l.v l.Mt.length (aq l.Mt))(D:l.v.ownBlock≠J k)
  (X:n.ownsRow B 134 4 (M (J ⟨g,0,N⟩) (P.length+1) c) (P.length+1) (dU P++[l.v,I K l.Mz,I K l.fin,C l.gone])) (i:W.grownBy n vL.ownBlock) (u:vL.ownBlock=J g\/w.heap.size<=g):
  aA B (n.setCell ⟨k,3,N⟩ (M (J ⟨g,0,N⟩) (P.length+1) c)) k z R tm G/\aD B (n.setCell ⟨k,3,N⟩ (M (J ⟨g,0,N⟩) (P.length+1) c)) k (P++[l]) T (M (J ⟨g,0,N⟩) (P.length+1) c) vT/\PFr B k (RwB z R) w (n.setCell ⟨k,3,N⟩ (M (J ⟨g,0,N⟩) (P.length+1) c)):=by
 have hk:=d.lt;have F:g≠k:=by
  rcases u with h|h;intro e;exact d.kL (e▸h);omega
 have P1:=d.below r;have m:=P1.lt;have f:∀b,vL.ownBlock=J b->TyB W b 134:=λb o=>fA P1.MR o
 have p:(gL (J ⟨g,0,N⟩) (P.length+1) c).ownBlock≠J k:=by simpa[gI]using F
 refine⟨((a.below r).other i d.kL f (by decide) (by decide)).MV 3 _ (by omega),⟨cs (i.cell P1.c3 (λe=>d.kL e.s)),Av (by omega) _ (i.cell P1.c4 (λe=>d.kL e.s)),λj=>fs ((bj i ⟨k,j,N⟩ m (λe=>d.kL e.s)).t (P1.fz j)),?_,iY (ly P1.Nv i f (by decide)) d.kT 3 _,λx y=>?_,p,d.kT,λx y=>?_⟩,((PFr.below hk r).t (PFr.grown m i d.kL (λb o=>(P1.MR.lt b o).1) λb o=>⟨_,f b o,by decide⟩)).t (PFr.set A 3 (by omega) _)⟩;rw[ub,lP,lS];exact iY X p 3 _;rcases lj.1 y with h|h;exact iY (ly (P1.Mt x h) i f (by decide)) (d.kI x h) 3 _;rw[List.mem_singleton.1 h];exact iY (ly V i f (by decide)) D 3 _;rcases lj.1 y with h|h;exact d.kI x h
 grind
theorem Aw(h:w.ownsRow B 134 4 vL P.length (dU P))(i:H)(c:i<P.length):∃g a,vL=M (J ⟨g,0,N⟩) P.length a/\B<=g/\g<w.heap.size/\w.cell? ⟨g,i*4,N⟩=J P[i].v/\w.cell? ⟨g,i*4+1,N⟩=J (I K P[i].Mz)/\w.cell? ⟨g,i*4+2,N⟩=J (I K P[i].fin)/\w.cell? ⟨g,i*4+3,N⟩=J (C P[i].gone):=by
 obtain⟨g,a,rfl,h1,h2,h3⟩:=cq h (by omega);have hx:∀j,j<4->w.cell? ⟨g,i*4+j,N⟩=[P[i].v,I K P[i].Mz,I K P[i].fin,C P[i].gone][j]?:=λj b=>by
  have:=h.cellAt (i*4+j) (by omega);rw[dU,bE 4 _ (λ_=>Q) P i j c b]at this;exact this
 simp_all
theorem IW(h:w.ownsRow B 137 3 vT T.length (gV T))(i:H)(c:i<T.length):∃g a,vT=M (J ⟨g,0,N⟩) T.length a/\B<=g/\g<w.heap.size/\w.cell? ⟨g,i*3,N⟩=J (U T[i].text)/\w.cell? ⟨g,i*3+1,N⟩=J (I K T[i].ls)/\w.cell? ⟨g,i*3+2,N⟩=J (I K T[i].pg):=by
 obtain⟨g,a,rfl,h1,h2,h3⟩:=cq h (by omega);have hx:∀j,j<3->w.cell? ⟨g,i*3+j,N⟩=[U T[i].text,I K T[i].ls,I K T[i].pg][j]?:=λj b=>by
  have:=h.cellAt (i*3+j) (by omega);rw[gV,bE 3 _ (λ_=>Q) T i j c b]at this;exact this
 simp_all
def ME(P:S PlL)(i:H)(x:dT):S PlL:=match P[i]? with
 |some l=>P.set i {l with fin:=x}
 |none=>P
theorem jP(hi:i<P.length)(x:dT):ME P i x=P.set i {P[i]with fin:=x}:=by
 unfold ME
 grind
theorem aD.PC{tm D:dT}{q j:H}{d:PlL}(f:aD B w k P T (M (J ⟨g,0,N⟩) P.length q) vT)(c:aA B w k A R tm D)(X:i<P.length)(hj:j<4)(hv:d.v=P[i].v/\d.Mt=P[i].Mt)(V:[d.v,I K d.Mz,I K d.fin,C d.gone]=[P[i].v,I K P[i].Mz,I K P[i].fin,C P[i].gone].set j u):
  aA B (w.setCell ⟨g,i*4+j,N⟩ u) k A R tm D/\aD B (w.setCell ⟨g,i*4+j,N⟩ u) k (P.set i d) T (M (J ⟨g,0,N⟩) P.length q) vT/\PFr B k (RwB A R) w (w.setCell ⟨g,i*4+j,N⟩ u):=by
 have z:=f.lt;have⟨h1,o⟩:=f.MR.stored (i*4+j) u;have h:∀b,J g=J b->TyB w b 134:=λb p=>fA f.MR (by rw[<-p];rfl)
 have m:=f.kL;have F:=λL=>cB (a:=⟨k,L,N⟩) (o.block k z (λe=>m e.s))
 have hset:dU (P.set i d)=(dU P).set (i*4+j) u:=tI 4 _ (λ_=>Q) P i j _ _ hj X V;have n:∀l∈P.set i d,∃d∈P,l.v=d.v/\l.Mt=d.Mt:=λl r=>by
  grind
 refine⟨c.other o m h (by decide) (by decide),⟨(F 3).t f.c3,(F 4).t f.c4,λj=>(fB (a:=⟨k,j,N⟩) (o.block k z (λe=>m e.s))).t (f.fz j),?_,ly f.Nv o h (by decide),λl r=>?_,f.kL,f.kT,λl r=>?_⟩,PFr.grown z o m (λb p=>(f.MR.lt b (by rw[<-p];rfl)).1) λb p=>⟨_,h b p,by decide⟩⟩
 grind
 have⟨d,x,y,h4⟩:=n l r;rw[y,h4];exact ly (f.Mt d x) o h (by decide);obtain⟨d,x,y,-⟩:=n l r;rw[y];exact f.kI d x
theorem aD.ME{tm q:dT}(h:aD B w k P T (M (J ⟨g,0,N⟩) P.length b) vT)(a:aA B w k c R tm q)(e:i<P.length)(x:dT):
  aA B (w.setCell ⟨g,i*4+2,N⟩ (I K x)) k c R tm q/\aD B (w.setCell ⟨g,i*4+2,N⟩ (I K x)) k (ME P i x) T (M (J ⟨g,0,N⟩) P.length b) vT/\PFr B k (RwB c R) w (w.setCell ⟨g,i*4+2,N⟩ (I K x)):=by
 rw[jP e];exact h.PC a e (by omega) ⟨Q,Q⟩ Q
structure SvE where
 at_:H
 sl:Wx
 R:S bg
 nx:dT
 tm:dT
def fp(Z:S SvE):S Wx:=Z.flatMap λz=>[I K z.at_,z.sl,I K z.nx,I K z.tm]
structure dh (B:H)(w:Wj)(k:H)(Z:S SvE)(Lv:H->Prop):Prop where
 row:∃vS,w.cell? ⟨k,5,N⟩=J vS/\w.ownsRow B 88 4 vS Z.length (fp Z)/\vS.ownBlock≠J k
 Od:∀z∈Z,w.ownsRow B 140 2 z.sl z.R.length (aB z.R)
 MG:∀z∈Z,∀e∈z.R,w.ownsRow B 130 3 e.v e.h.length (aw e.h)
 MV:∀z∈Z,∀b,RwB z.sl z.R b->b≠k/\¬Lv b
section
variable {Z:List SvE} {Lv Lv':Nat->Prop}
theorem dh.lt(h:dh B w k Z Lv){z}(c:z∈Z)(a:RwB z.sl z.R b):b<w.heap.size:=by
 rcases a with a|⟨e,d,a⟩;exact((h.Od z c).lt b a).2;exact((h.MG z c e d).lt b a).2
theorem dh.O0(h:dh B w k Z Lv)(p:w'.cell? ⟨k,5,N⟩=w.cell? ⟨k,5,N⟩)(MV:∀g a,g≠k->TyB w g a->(a=88\/(a=140\/a=130)/\¬Lv g)->w'.heap[g]?=w.heap[g]?)(m:∀b,b<w.heap.size->Lv' b->Lv b):dh B w' k Z Lv':=by
 have⟨q,o,j,l⟩:=h.row;refine⟨⟨q,p.t o,bI j λg d=>MV g _ (λe=>l (e▸d)) (fA j d) (Qc Q),l⟩,λz c=>bI (h.Od z c) λg d=>?_,λz c e f=>bI (h.MG z c e f) λg d=>?_,λz c b i=>⟨(h.MV z c b i).1,λn=>(h.MV z c b i).2 (m b (h.lt c i) n)⟩⟩;have:=h.MV z c g (Qc d);exact MV g _ this.1 (fA (h.Od z c) d) (Qd ⟨Qc Q,this.2⟩);have:=h.MV z c g (Qd ⟨e,f,d⟩);exact MV g _ this.1 (fA (h.MG z c e f) d) (Qd ⟨Qd Q,this.2⟩)
theorem dh.Mr(h:dh B w k Z Lv)(F:PFr B k Lv w w')(a:∀b,b<w.heap.size->Lv' b->Lv b):dh B w' k Z Lv':=h.O0 F.c5 F.MV a
end
end
theorem lA{vL vT:Wx}{tm q:dT}(w:Wj)(a:aA B w k v R tm q)(b:aD B w k P T vL vT)(i:H)(h:i<P.length):
  Calls Yq.prog 62 #[O (J ⟨k,0,N⟩),I K i] w λe w'=>e=Nm (C (P[i].Mw q))/\Below w.heap.size w w':=by
 obtain⟨g,cap,rfl,-,hg,-,-,e2,e3⟩:=Aw b.MR i h;have c2:=a.cells.c2;have c3:=b.c3;have hii:(i:dT)<(P.length:dT):=by omega
 clear a b;unfold PlL.Mw;generalize P[i].gone=d at *;generalize P[i].fin=fn at *;cases d
 .go_enter (Yq.nq func62),ntmps62;go_wp2_with fail
  go_quiet (fail)
  go_wp2_with fail
  go_ret;exact⟨Q,below_drewN (bR _ _) _⟩
 .go_enter (Yq.nq func62),ntmps62;go_wp2_with fail
  go_quiet (fail)
  go_wp2_with fail
  go_ret;exact⟨Q,below_drewN (bR _ _) _⟩
theorem E6(a:dT)(P:S PlL)(i:H)(h:i<P.length):((P.take (i+1)).filter (PlL.Mw a)).length=((P.take i).filter (PlL.Mw a)).length+if P[i].Mw a then 1 else 0:=by
 rw[tS h,List.filter_append,lP]
 grind
theorem E7{n vL vT}{q tm:dT}w(a:aA B w k n R q tm)(h:aD B w k P T vL vT)(hn:P.length<=2199023255340):
  Calls Yq.prog 59 #[O (J ⟨k,0,N⟩)] w λe w'=>e=Nm (I K ((P.filter (PlL.Mw tm)).length:dT))/\Below w.heap.size w w':=by
 obtain⟨u,s,rfl,-⟩:=az h.MR;have v:=h.c3;have HH:Hid (aA B w k n R q tm/\aD B w k P T (M u P.length s) vT):=⟨a,h⟩;clear a h;go_enter (Yq.nq func59),ntmps59;go_wp2_with fail
 go_loopw [3,4] (λs3 s4 wr=>∃i:H,i<=P.length/\s3=I K (((P.take i).filter (PlL.Mw tm)).length:dT)/\s4=I K i/\Below w.heap.size w wr) (λ_ s4 _=>P.length-(intOf s4).toNat)
 case atStart=>exact⟨0,Nat.zero_le _,Q,Q,bR _ _⟩
 case round=>
  obtain⟨i,hin,rfl,rfl,d⟩:=hrel;have c3':=ag d v;have HB:Hid (Below w.heap.size w wr):=d;have hle:((P.take i).filter (PlL.Mw tm)).length<=i:=lT (List.length_filter_le _ _) (by rw[tL];omega);by_cases c:i<P.length
  .have hii:(i:dT)<(P.length:dT):=by omega
   have HC:=lA wr (HH.o.1.below d) (HH.o.2.below d) i c;have HT:Hid (((P.take (i+1)).filter (PlL.Mw tm)).length=((P.take i).filter (PlL.Mw tm)).length+if P[i].Mw tm then 1 else 0):=E6 tm P i c;generalize P[i].Mw tm=x at *;generalize((P.take i).filter (PlL.Mw tm)).length=m at *;clear d;go_wp2_with fail
   refine HC.m ?_;rintro e r ⟨rfl,p⟩;have f:Hid (Below w.heap.size w r):=HB.o.t (p.m HB.o.size);clear HC p;cases x
   .go_wp2_with fail
    refine⟨⟨i+1,c,by rw[HT.o];go_num,by go_num,f.o⟩,by simp[intOf];omega⟩
   .go_wp2_with fail
    refine⟨⟨i+1,c,by rw[HT.o];go_num,by go_num,f.o⟩,by simp[intOf];omega⟩
  .have j:i=P.length:=by omega
   subst j;have HT:Hid (P.take P.length=P):=kr;go_wp2_with fail
   go_ret;exact⟨si (ey (λl=>((List.filter (PlL.Mw tm) l).length:dT)) HT.o),HB.o⟩
theorem Yq.OE:(Yq.prog.info? 137).map (λi=>(i.zero,i.size,i.bytes))=J (J (Qa #[U ⟨#[]⟩,I K 0,I K 0]),3,32):=by kernel_rfl
theorem Yq.Ou:(Yq.prog.info? 134).map (λi=>(i.zero,i.size,i.bytes))=J (J (Qa #[M N 0 0,I K 0,I K 0,C Z]),4,48):=by kernel_rfl
theorem Ax(w:Wj)(a b c:Wx)(T:Ww):∀j u,[a,b,c][j]?=J u->(w.alloc (E #[a,b,c] T)).cell? ((⟨w.heap.size,0,N⟩:Addr).add j)=J u:=by
 intro j u hj;rw[Addr.add_lit,zA,cA (w:=w) _ _ w.heap.size j Q]
 grind
theorem Cg{r vL vT}{nx tm:dT}w(a:aA B w k r R nx tm)(p:aD B w k P T vL vT)(G:B<=k)(hn:T.length<=2199023255340)(b:eV)j l(z:b≠⟨#[]⟩)(hT:∀t∈T,(t.ls=j/\t.pg=l)↔t.text=b):
  Calls Yq.prog 85 #[O (J ⟨k,0,N⟩),U b,I K j,I K l] w λe w'=>e=Nm (C Y)/\∃A,aA B w' k r R nx tm/\aD B w' k P (T++[⟨b,j,l⟩]) vL A/\PFr B k (RwB r R) w w':=by
 have⟨i0,ai,D,V,aa⟩:=info_parts Yq.OE;obtain⟨v,x,rfl,-⟩:=az p.Nv;have c4:=p.c4;have hz:=iD z;have HH:Hid (aA B w k r R nx tm/\aD B w k P T vL (M v T.length x)/\B<=k/\∀t∈T,(t.ls=j/\t.pg=l)↔t.text=b):=⟨a,p,G,hT⟩;have hkw:=p.lt;clear a p hT;go_enter (Yq.nq func85),ntmps85;go_wp2_with fail
 go_loopw [9] (λs9 wr=>∃i:H,i<=T.length/\s9=I K i/\Below w.heap.size w wr) (λs9 _=>T.length-(intOf s9).toNat)
 case atStart=>exact⟨0,Nat.zero_le _,Q,bR _ _⟩
 case round=>
  obtain⟨i,hin,rfl,c⟩:=hrel;have c4':=ag c c4;have HB:Hid (Below w.heap.size w wr):=c;by_cases f:i<T.length
  .have hii:(i:dT)<(T.length:dT):=by omega
   obtain⟨g,L,he,-,-,y,e1,e2⟩:=IW HH.o.2.1.Nv i f;cases he;replace y:=ag c y;replace e1:=ag c e1;replace e2:=ag c e2;have n:=HH.o.2.2.2 _ (g6 f);have HA:Hid (∀X:Obj,Below w.heap.size w (wr.alloc X)):=λX=>c.alloc c.size _
   generalize T[i]=t at *;obtain⟨tt,tl,tp⟩:=t;simp only at y e1 e2 n;clear c;by_cases q:tt=b
   .obtain ⟨rfl,rfl⟩:=n.2 q;subst q;have hs:=wH tt;clear n;go_wp2_with fail
    exact⟨⟨i+1,f,by go_num,HA.o _⟩,by simp[intOf];omega⟩
   .have hs:=wI q;by_cases hl:tl=j
    .have hp:¬tp=l:=λe=>q (n.1 ⟨hl,e⟩)
     subst hl;have hp':((tp:dT)==(l:dT))=false:=by simp;omega
     clear n hp;go_wp2_with fail
     exact⟨⟨i+1,f,by go_num,HA.o _⟩,by simp[intOf];omega⟩
    .have hl':((tl:dT)==(j:dT))=false:=by simp;omega
     clear n hl;go_wp2_with fail
     exact⟨⟨i+1,f,by go_num,HA.o _⟩,by simp[intOf];omega⟩
  .have ad:i=T.length:=by omega
   subst ad;have ac:Hid (∀X:Obj,(wr.alloc X).ownsRow B 137 3 (M v T.length x) T.length (gV T)):=λX=>(HH.o.2.1.below c).Nv.alloc X
   have HX:Hid (∀ (X:Obj),Below w.heap.size w (wr.alloc X)):=λX=>c.alloc c.size _
   have hBw:B<=wr.heap.size:=by have:=c.size;have:=HH.o.2.2.1;omega
   have hsz:=c.size;have af:Hid (∀ (X:Obj) (m:Wj),(wr.alloc X).grownBy m (gL v T.length x).ownBlock->m.cell? ⟨k,4,N⟩=J (M v T.length x)/\m.frozen? ⟨k,4,N⟩=Z):=λX m d=>by
    have P1:=HH.o.2.1.below (HX.o X);exact⟨d.cell P1.c4 (λe=>P1.kT e.s),(bj d ⟨k,4,N⟩ P1.lt (λe=>P1.kT e.s)).t (P1.fz 4)⟩
   clear c;go_wp2_with (at_builtin;go_loud (refine wpList_append_lies _ Q _ _ 53 Q B 137 i0 _ 3 32 (Yq.u underlying53) ai D V aa Q (by decide) _ T.length _ Q (ac.o _) ⟨wr.heap.size,0,N⟩ 1 1 [U b,I K j,I K l] Q Q (Ax wr _ _ _ _) (by simp[Value.oneCell']) (by omega) (by simp only[maxLen];omega) (by omega) (by simp;omega) (wr.heap.size+1) (by simp) ?_;intro g L m F d ab hlt3;obtain⟨y0,y1⟩:=af.o _ m d))
   go_ret;refine⟨Q,_,HH.o.2.1.Pt (t:=⟨b,j,l⟩) HH.o.1 HH.o.2.2.1 (HX.o _) F d ?_⟩;rcases ab with h|h
   .exact Qc h
   .exact Qd (by omega)
def KC(b:Wx)(a:eV):Wx:=Qa #[I K 0,I K 0,U ⟨#[]⟩,b,U a]
structure cz (w:Wj)(b:H)(x0 x1 x2 x3 x4:Wx):Prop where
 c0:w.cell? ⟨b,0,N⟩=J x0
 c1:w.cell? ⟨b,1,N⟩=J x1
 c2:w.cell? ⟨b,2,N⟩=J x2
 c3:w.cell? ⟨b,3,N⟩=J x3
 c4:w.cell? ⟨b,4,N⟩=J x4
theorem cz.block{w'}{a}(h:cz w b a d c v x4)(e:w'.heap[b]?=w.heap[b]?):cz w' b a d c v x4:=
 ⟨(cB e).t h.c0,(cB e).t h.c1,(cB e).t h.c2,(cB e).t h.c3,(cB e).t h.c4⟩
theorem cz.on{w'}{e}(h:cz w b v c e d x4)(f:Below w.heap.size w w'):cz w' b v c e d x4:=
 h.block (f.block b (bC w _ h.c0))
theorem kn(w:Wj)(a c b d x4:Wx)(T:Ww):cz (w.alloc (E #[a,c,b,d,x4] T)) w.heap.size a c b d x4:=
 ⟨by rw[cA (w:=w) _ _ w.heap.size 0 Q];rfl,by rw[cA (w:=w) _ _ w.heap.size 1 Q];rfl,by rw[cA (w:=w) _ _ w.heap.size 2 Q];rfl,by rw[cA (w:=w) _ _ w.heap.size 3 Q];rfl,by rw[cA (w:=w) _ _ w.heap.size 4 Q];rfl⟩
theorem jQ w(c:dT)(d b m a:eV)(h e:dT)f i l k x4:∃W,(w.alloc (E #[I K c,U d,U b,U m,U a,I K h,I K e] 30)).alloc (E #[f,i,l,k,x4] 46)=W/\Below w.heap.size w W/\(∀j,W.cell? ⟨w.heap.size,j,N⟩=(#[I K c,U d,U b,U m,U a,I K h,I K e]:Array Wx)[j]?)/\cz W (w.heap.size+1) f i l k x4:=by
 refine⟨_,Q,((bR _ w).alloc (lR _) _).alloc (by simp) _,λj=>?_,?_⟩
 .simp_all
 .have:=kn (w.alloc (E #[I K c,U d,U b,U m,U a,I K h,I K e] 30)) f i l k x4 46
  simp_all
def E8(B k:H)(sl:Wx)(R:S bg)(nx tm:dT)(P:S PlL)(T:S PlT)(w:Wj)(e:Ending)(w':Wj):Prop:=
 e=Nm (C Y)/\∃vL vT,aA B w' k sl R nx tm/\aD B w' k P T vL vT/\PFr B k (RwB sl R) w w'
theorem Ii{Mt}(h:w.ownsRow B 117 3 (M (J ⟨g,0,N⟩) Mt.length n) Mt.length (aq Mt))a b(hab:a<=b)(hb:b<=Mt.length)c:L3 w (M (J ⟨g,a*3,N⟩) (b-a) c) ((Mt.take b).drop a):=by
 have f:((Mt.take b).drop a).length=b-a:=by grind
 refine⟨_,c,by rw[f],λ_=>⟨g,a*3,Q,λj i=>?_⟩⟩;rw[f]at i;have k:=h.cellAt (a*3+j) (by omega);rw[k];have l:aq Mt=aq (Mt.take a)++(aq ((Mt.take b).drop a)++aq (Mt.drop b)):=by
  have e:Mt=Mt.take a++((Mt.take b).drop a++Mt.drop b):=by
   conv=>lhs;rw[<-jp b Mt,<-jp a (Mt.take b)]
   grind
  unfold aq
  grind
 have m:(aq (Mt.take a)).length=a*3:=by rw[ff,tL,Nat.min_eq_left (by omega)]
 rw[l,List.getElem?_append_right (by omega),m,Nat.add_sub_cancel_left,List.getElem?_append_left (by rw[ff,f];exact i)]
theorem rY{y vL vT:Wx}{tm n:dT}(w:Wj)(a:aA B w k y R tm n)(X:aD B w k P T vL vT)(a1:B<=k)(hn:P.length<=2199023255340/\T.length<=2199023255340)(htm:0<=n/\n<=1000000000000000000)(i x:H)(hi:i<P.length)
  (hl:1<=P[i].Mz/\P[i].Mz<=20/\P[i].Mt.length<=200/\x*P[i].Mz<P[i].Mt.length) (G:Wx) (b:eV) (hI:∀w',PFr B k (RwB y R) w w'->g8 w' G ((P[i].Mt.take ((x+1)*P[i].Mz)).drop (x*P[i].Mz)))
  (f:if(x+1)*P[i].Mz<P[i].Mt.length then b≠⟨#[]⟩/\∀t∈T,(t.ls=i/\t.pg=x+1)↔t.text=b else b=⟨#[]⟩):
  Calls Yq.prog 61 #[O (J ⟨k,0,N⟩),KC G b,I K i,I K x] w (E8 B k y R tm n (ME P i (n+10)) (if(x+1)*P[i].Mz<P[i].Mt.length then T++[⟨b,i,x+1⟩]else T) w):=by
 obtain⟨r,u,rfl,-,a2,e0,e1,e2,e3⟩:=Aw X.MR i hi;have s:=X.Mt _ (g6 hi);have a6:=X.kI _ (g6 hi);have ap:ME P i (n+10)=P.set i {P[i]with fin:=n+10}:=jP hi _;have aa:=λW (hb:Below w.heap.size w W)=>(X.below hb).ME (a.below hb) hi (n+10)
 have c2:=a.cells.c2;have c3:=X.c3;have a9:=X.lt;have hii:(i:dT)<(P.length:dT):=by omega
 have hgk:r≠k:=λe=>X.kL (by rw[e];rfl)
 have bk:w.frozen? ⟨r,i*4+2,N⟩=false:=by
  rcases X.MR.2 with⟨h,-⟩|⟨g,bd,a3,h,-,hb,-⟩
  .cases h
  .cases h;unfold World.frozen?;rw[hb];simp
 generalize P[i]=l at *;obtain⟨Mt,v,q,ab,A⟩:=l;simp only at hl hI f s a6 e0 e1 e2 e3;obtain⟨a8,hl2,hl3,a5⟩:=hl;obtain⟨D,d,rfl,-,hgI,-⟩:=cq s (by omega);have hcap:Mt.length<=d:=by
  rcases s.2 with⟨h,-⟩|⟨g,bd,a3,h,-,-,h1,-⟩
  .cases h
  .cases h;exact h1
 have hpn:x<=200:=by
  have:x*1<=x*q:=Nat.mul_le_mul_left _ a8;omega
 obtain⟨j,ac⟩:∃j,x*q=j:=⟨_,Q⟩;have al:(x+1)*q=j+q:=by rw[Nat.add_mul,Nat.one_mul,ac]
 have hfrI:(x:dT)*(q:dT)=(j:dT):=by rw[<-ac,Int.natCast_mul]
 simp only[ac,al]at hI f a5 ⊢;have HI:Hid (∀w',PFr B k (RwB y R) w w'->g8 w' G ((Mt.take (j+q)).drop j)):=hI;have HR:Hid (w.ownsRow B 117 3 (M (J ⟨D,0,N⟩) Mt.length d) Mt.length (aq Mt)):=s;have af:Hid (if j+q<Mt.length then b≠⟨#[]⟩/\∀t∈T,(t.ls=i/\t.pg=x+1)↔t.text=b else b=⟨#[]⟩):=f;have ai:Hid (B<=k/\T.length<=2199023255340):=⟨a1,hn.2⟩;have aa:Hid (∀W,Below w.heap.size w W->aA B (W.setCell ⟨r,i*4+2,N⟩ (I K (n+10))) k y R tm n/\aD B (W.setCell ⟨r,i*4+2,N⟩ (I K (n+10))) k (ME P i (n+10)) T (M (J ⟨r,0,N⟩) P.length u) vT/\PFr B k (RwB y R) W (W.setCell ⟨r,i*4+2,N⟩ (I K (n+10)))):=aa;generalize ME P i (n+10)=P' at *;obtain⟨F,a0⟩:∃F:H,(j+q<=Mt.length/\F=j+q)\/(Mt.length<j+q/\F=Mt.length):=by
  by_cases h:j+q<=Mt.length
  .exact ⟨_,Qc ⟨h,Q⟩⟩
  .exact ⟨_,Qd ⟨by omega,Q⟩⟩
 have V:Hid ((j+q<=Mt.length/\F=j+q)\/(Mt.length<j+q/\F=Mt.length)):=a0;have a4:D≠r:=λe=>by
  subst e;exact absurd ((fA X.MR (g:=D) Q).ne (fA s (g:=D) Q)) (by decide)
 clear hI f s a X ap;unfold KC E8;go_enter (Yq.nq func61),ntmps61
 go_upto_if 32 with fail
 have HW:Hid (Below w.heap.size w ((w.alloc (E #[I K 0,I K 0,U ⟨#[]⟩,G,U b] 46)).alloc (E #[M (J ⟨D,0,N⟩) Mt.length d,I K q,I K ab,C A] 134))/\cz ((w.alloc (E #[I K 0,I K 0,U ⟨#[]⟩,G,U b] 46)).alloc (E #[M (J ⟨D,0,N⟩) Mt.length d,I K q,I K ab,C A] 134)) w.heap.size (I K 0) (I K 0) (U ⟨#[]⟩) G (U b)/\((w.alloc (E #[I K 0,I K 0,U ⟨#[]⟩,G,U b] 46)).alloc (E #[M (J ⟨D,0,N⟩) Mt.length d,I K q,I K ab,C A] 134)).cell? ⟨w.heap.size+1,0,N⟩=J (M (J ⟨D,0,N⟩) Mt.length d)):=
  ⟨((bR _ w).alloc (lR _) _).alloc (by simp) _,(kn w _ _ _ _ _ 46).on ((bR _ _).alloc (lR _) _),by rw[cA (w:=w.alloc _) _ _ (w.heap.size+1) 0 (by simp)];rfl⟩
 have u0:=HW.o.2.2;generalize((w.alloc (E #[I K 0,I K 0,U ⟨#[]⟩,G,U b] 46)).alloc (E #[M (J ⟨D,0,N⟩) Mt.length d,I K q,I K ab,C A] 134))=W at *
 go_cut [11] (λs11 z=>s11=I K F/\z=W)
 case first=>
  rcases V.o with⟨h1,rfl⟩|⟨h1,rfl⟩
  .have bi:¬(Mt.length:dT)<(j:dT)+q:=by omega
   go_wp2_with fail
   go_meet
   case rel=>exact⟨by go_num,Q⟩
  .have bi:(Mt.length:dT)<(j:dT)+q:=by omega
   go_wp2_with fail
   go_meet
   case rel=>exact⟨Q,Q⟩
 case rest=>
 obtain⟨rfl,rfl⟩:=hcut;have c2':=ag HW.o.1 c2;have c3':=ag HW.o.1 c3;have e2':=ag HW.o.1 e2;have hfz':wc.frozen? ⟨r,i*4+2,N⟩=false:=(HW.o.1.frozen (p:=⟨r,i*4+2,N⟩) a2).t bk
 go_upto_region 6 with fail
 go_cut [46] (λ_ z=>aA B z k y R tm n/\aD B z k P' T (M (J ⟨r,0,N⟩) P.length u) vT/\PFr B k (RwB y R) w z/\cz z w.heap.size (I K 0) (I K 0) (U ⟨#[]⟩) G (U b)/\z.cell? ⟨w.heap.size+1,0,N⟩=J (M (J ⟨D,0,N⟩) Mt.length d)/\z.ownsRow B 117 3 (M (J ⟨D,0,N⟩) Mt.length d) Mt.length (aq Mt))
 case first=>
  go_region
  all_goals
   go_wp2_with fail
   go_meet
   case rel=>
    have⟨X1,X2,X3⟩:=aa.o wc HW.o.1;have hd:Below (wc.setCell ⟨r,i*4+2,N⟩ (I K (n+10))).heap.size (wc.setCell ⟨r,i*4+2,N⟩ (I K (n+10))) (wc.setCell ⟨r,i*4+2,N⟩ (I K (n+10))).drew:=(bR _ _).drew;have hx:(wc.setCell ⟨r,i*4+2,N⟩ (I K (n+10))).drew.heap[w.heap.size]?=wc.heap[w.heap.size]?:=bS _ _ _ _ (show w.heap.size≠r by omega);have be:(wc.setCell ⟨r,i*4+2,N⟩ (I K (n+10))).drew.heap[w.heap.size+1]?=wc.heap[w.heap.size+1]?:=bS _ _ _ _ (show w.heap.size+1≠r by omega);refine⟨X1.below hd,X2.below hd,((PFr.below a9 HW.o.1).t X3).t (PFr.below X2.lt hd),HW.o.2.1.block hx,(cB be).t u0,?_⟩;refine bI (HR.o.kept (aO HW.o.1 N) (dX _)) λg hg=>?_
    have bb:D=g:=by simpa[gI]using hg
    subst bb;exact bS _ _ _ _ a4
 case rest=>
 obtain⟨X1,X2,X3,⟨q0,q1,q2,q3,q4⟩,u0,hr⟩:=hcut;have HX:Hid (aA B wc k y R tm n/\aD B wc k P' T (M (J ⟨r,0,N⟩) P.length u) vT/\PFr B k (RwB y R) w wc):=⟨X1,X2,X3⟩;have a7:j<F/\F<=Mt.length:=by rcases V.o with h|h<;>omega
 have f:(Mt.take F).drop j=(Mt.take (j+q)).drop j:=by
  rcases V.o with⟨h,rfl⟩|⟨h,rfl⟩
  .rfl
  .rw [kr,tO (by omega)]
 have HS:=λc=>nv G (M (J ⟨D,j*3,N⟩) (F-j) c) ((Mt.take F).drop j) wc.drew (by rw[f];exact(HI.o wc X3).left ⟨Q,lR _,λ_ _=>Q⟩) (Ii (w:=wc.drew) ⟨hr.1,hr.2⟩ j F (by omega) a7.2 c) (by rw[lD,tL];omega)
 have hQ:Hid (cz wc w.heap.size (I K 0) (I K 0) (U ⟨#[]⟩) G (U b)):=⟨q0,q1,q2,q3,q4⟩;clear X1 X2 X3 hr f
 go_upto_region 7 with fail
 go_cut [12] (λs12 z=>s12=C Y/\aA B z k y R tm n/\aD B z k P' T (M (J ⟨r,0,N⟩) P.length u) vT/\PFr B k (RwB y R) w z/\cz z w.heap.size (I K 0) (I K 0) (U ⟨#[]⟩) G (U b)/\z.cell? ⟨w.heap.size+1,0,N⟩=J (M (J ⟨D,0,N⟩) Mt.length d))
 case first=>
  go_region_with (go_at_call 60;refine(HS _).m ?_;rintro e w2 ⟨rfl,b2⟩;have L:Hid (Below wc.heap.size wc w2):=((bR _ wc).drew).t b2;clear b2)
  all_goals
   go_wp2_with fail
   go_meet
   case rel=>exact⟨Q,HX.o.1.below L.o,HX.o.2.1.below L.o,HX.o.2.2.t (PFr.below HX.o.1.lt L.o),hQ.o.on L.o,ag L.o u0⟩
 case rest=>
 clear HS hQ HX u0 q0 q1 q2 q3 q4 aa;obtain⟨rfl,X1,X2,X3,⟨q0,q1,q2,q3,q4⟩,u0⟩:=hcut;have HX:Hid (aA B wc k y R tm n/\aD B wc k P' T (M (J ⟨r,0,N⟩) P.length u) vT/\PFr B k (RwB y R) w wc):=⟨X1,X2,X3⟩;clear X1 X2 X3;by_cases aj:j+q<Mt.length
 .have f:=af.o;rw[if_pos aj]at f;have ar:((F:dT)==(Mt.length:dT))=false:=by
   simp only[beq_eq_false_iff_ne,ne_eq];rcases V.o with h|h<;>omega
  have ad:=Cg wc HX.o.1 HX.o.2.1 ai.o.1 ai.o.2 b i (x+1) f.1 f.2;rw[Int.natCast_add]at ad;clear f;go_wp2_with fail
  refine ad.m ?_;rintro e w3 ⟨rfl,av,Y1,Y2,Y3⟩;have HY:Hid (aA B w3 k y R tm n/\aD B w3 k P' (T++[⟨b,i,x+1⟩]) (M (J ⟨r,0,N⟩) P.length u) av/\PFr B k (RwB y R) w w3):=⟨Y1,Y2,HX.o.2.2.t Y3⟩;clear Y1 Y2 Y3 ad;go_wp2_with fail
  go_ret;exact⟨Q,HY.o.1,⟨_,_,HY.o.2.1⟩,HY.o.2.2⟩
 .have f:=af.o;rw[if_neg aj]at f;subst f;have ar:((F:dT)==(Mt.length:dT))=true:=by
   simp only[beq_iff_eq];rcases V.o with h|h<;>omega
  go_wp2_with fail
  go_ret;exact⟨Q,HX.o.1,⟨_,_,HX.o.2.1⟩,HX.o.2.2⟩
end
