/- A part. -/
import Derived.Test.YthnlbojplkflaaaGreatDoorQP15
set_option maxHeartbeats 4000000
set_option maxRecDepth 100000
open _root_ renaming Int->dT,congrArg->ey,ByteArray->eV,Option->eW,absurd->gI,if_pos->gL
open Go.Value renaming slice->kr,ownBlock->lj,oneCell'->lk
open Prod.mk renaming injEq->nF
open List renaming getElem_mem->n8,take_append_drop->pt,take_length->sq,mem_append->sT
open Nat renaming one_mul->tb,lt_or_ge->tn
open Go.Addr renaming off->uc,add_lit->vf
open Go renaming World->Wj,Value->Wx,TypeId->Ww,Addr->Wu
namespace Go.Proofs.Qw
open _root_ renaming rfl->Q
open _root_ renaming Nat->H,List->S
open Option renaming none->N,some->J
open Bool renaming true->Y,false->Z
open Value renaming int->I,string->U,slice->M,pointer->O,bool->C,agg->Rd
open IntKind renaming i64->K
open Obj renaming cells->E
open Ending renaming returned->Rc
open Or renaming inl->Rf,inr->Rg
variable {W q w w'':Wj}{B a b g i k n s:H}{e:Ww}{A c d u v x4 z:Wx}{xs:S Wx}{T:S PlT}{R R':S bz}{P:S PlL}
open Tryz
section
open Go.RowKit
def d9(P:S PlL):S Wx:=P.flatMap λl=>[l.v,I K l.NI,I K l.fin,C l.gone]
def ix(T:S PlT):S Wx:=T.flatMap λt=>[U t.text,I K t.ls,I K t.pg]
theorem uG P l:d9 (P++[l])=d9 P++[l.v,I K l.NI,I K l.fin,C l.gone]:=by simp[d9]
theorem uH T t:ix (T++[t])=ix T++[U t.text,I K t.ls,I K t.pg]:=by simp[ix]
structure aH (B:H)(w:Wj)(k:H)(P:S PlL)(T:S PlT)(vL vT:Wx):Prop where
 c3:w.cell? ⟨k,3,N⟩=J vL
 c4:w.cell? ⟨k,4,N⟩=J vT
 fz:∀j,w.frozen? ⟨k,j,N⟩=Z
 NZ:w.ownsRow B 141 4 vL P.length (d9 P)
 Ou:w.ownsRow B 144 3 vT T.length (ix T)
 NA:∀l∈P,w.ownsRow B 67 3 l.v l.NA.length (az l.NA)
 kL:vL.ownBlock≠J k
 kT:vT.ownBlock≠J k
 kI:∀l∈P,l.v.ownBlock≠J k
def TyB(w:Wj)(b:H)(T:Ww):Prop:=∃a z,w.heap[b]?=J (E a T z)
theorem fK(h:w.ownsRow B e a v n xs)(b:v.ownBlock=J g):TyB w g e:=by
 obtain⟨-,⟨rfl,-⟩|⟨g',cap,cur,rfl,-,d,-⟩⟩:=h;simp[lj]at b;simp[lj]at b;subst b;exact⟨_,_,d⟩
theorem TyB.ne{T}(h:TyB w b T)(d:TyB w b e):T=e:=by
 obtain⟨c,z,h⟩:=h;obtain⟨c',z',d⟩:=d
 grind
theorem bP{w':Wj}(h:w.ownsRow B e a v n xs)(l:∀g,v.ownBlock=J g->w'.heap[g]?=w.heap[g]?):w'.ownsRow B e a v n xs:=by
 obtain⟨d,f|⟨g,c,b,rfl,k,i,j⟩⟩:=h;exact⟨d,Or.inl f⟩;exact⟨d,Or.inr ⟨g,c,b,Q,k,(l g Q).t i,j⟩⟩
section
variable {B k:Nat} {w w':Wj} {P:List PlL} {T:List PlT} {vL vT:Wx}
theorem aH.Nx(h:aH B w k P T vL vT)(m:w'.cell? ⟨k,3,N⟩=w.cell? ⟨k,3,N⟩)(i:w'.cell? ⟨k,4,N⟩=w.cell? ⟨k,4,N⟩)(f:∀j,w'.frozen? ⟨k,j,N⟩=w.frozen? ⟨k,j,N⟩)
  (d:∀g a,g≠k->TyB w g a->a=141\/a=144\/a=67->w'.heap[g]?=w.heap[g]?):aH B w' k P T vL vT:=
 ⟨m.t h.c3,i.t h.c4,λj=>(f j).t (h.fz j),bP h.NZ λg b=>d g _ (λe=>h.kL (e▸b)) (fK h.NZ b) (Rf Q),bP h.Ou λg b=>d g _ (λe=>h.kT (e▸b)) (fK h.Ou b) (Rg (Rf Q)),λl c=>bP (h.NA l c) λg b=>d g _ (λe=>h.kI l c (e▸b)) (fK (h.NA l c) b) (Rg (Rg Q)),h.kL,h.kT,h.kI⟩
theorem aH.lt(h:aH B w k P T vL vT):k<w.heap.size:=bC w _ h.c3
theorem TyB.lt(h:TyB w b e):b<w.heap.size:=by obtain⟨c,z,h⟩:=h;exact(eS h).1
theorem aH.below(h:aH B w k P T vL vT)(a:Below w.heap.size w w'):aH B w' k P T vL vT:=
 h.Nx (cB (a.block k h.lt)) (cB (a.block k h.lt)) (λ_=>fB (a.block k h.lt)) λg _ _ b _=>a.block g b.lt
theorem aH.frame{tm nx:dT}(h:aH B w k P T vL vT)(a:aD B w k v R tm nx)(F:bU w w' k v R d R'):aH B w' k P T vL vT:=
 h.Nx (F.cells 3 (by omega)) (F.cells 4 (by omega)) F.frozen λg b c f i=>by
  have j:=a.Ow f (by rcases i with rfl|rfl|rfl<;>decide) (by rcases i with rfl|rfl|rfl<;>decide);exact F.block g f.lt c j.1 j.2
structure PFw (B k:H)(w w':Wj):Prop where
 os:w'.os=w.os
 tape:w'.tape=w.tape
 output:w'.output=w.output
 size:w.heap.size<=w'.heap.size
 low:∀b,b<B->b<w.heap.size->w'.heap[b]?=w.heap[b]?
 PU:∀g,g≠k->TyB w g 53->w'.heap[g]?=w.heap[g]?
 cells:∀j,6<=j->w'.cell? ⟨k,j,N⟩=w.cell? ⟨k,j,N⟩
 frozen:∀j,w'.frozen? ⟨k,j,N⟩=w.frozen? ⟨k,j,N⟩
structure PFr (B k:H)(Lv:H->Prop)(w w':Wj):Prop extends PFw B k w w' where
 c5:w'.cell? ⟨k,5,N⟩=w.cell? ⟨k,5,N⟩
 N3:∀g U,g≠k->TyB w g U->(U=98\/(U=147\/U=137)/\¬Lv g)->w'.heap[g]?=w.heap[g]?
section
variable {Lv:Nat->Prop}
theorem PFr.refl:PFr B k Lv w w:=⟨⟨Q,Q,Q,Q0,λ_ _ _=>Q,λ_ _ _=>Q,λ_ _=>Q,λ_=>Q⟩,Q,λ_ _ _ _ _=>Q⟩
theorem TyB.same{U}(h:TyB w b U)(e:w'.heap[b]?=w.heap[b]?):TyB w' b U:=by
 obtain⟨c,z,h⟩:=h;exact⟨c,z,e.t h⟩
theorem PFr.t(h:PFr B k Lv w w')(c:PFr B k Lv w' w''):PFr B k Lv w w'':=
 ⟨⟨c.os.t h.os,c.tape.t h.tape,c.output.t h.output,lT h.size c.size,λb e d=>(c.low b e (lL d h.size)).t (h.low b e d),λg e d=>(c.PU g e (d.same (h.PU g e d))).t (h.PU g e d),λj i=>(c.cells j i).t (h.cells j i),λj=>(c.frozen j).t (h.frozen j)⟩,c.c5.t h.c5,λg a e d f=>(c.N3 g a e (d.same (h.N3 g a e d f)) f).t (h.N3 g a e d f)⟩
theorem PFr.below(c:k<w.heap.size)(a:Below w.heap.size w w'):PFr B k Lv w w':=
 ⟨⟨a.os,a.tape,a.output,a.size,λb _ h=>a.block b h,λg _ h=>a.block g h.lt,λ_ _=>cB (a.block k c),λ_=>fB (a.block k c)⟩,cB (a.block k c),λg _ _ h _=>a.block g h.lt⟩
theorem PFr.grown{row:eW H}(l:k<w.heap.size)(c:w.grownBy w' row)(f:row≠J k)(q:∀b,row=J b->B<=b)(i:∀b,row=J b->∃a,TyB w b a/\a≠53/\a≠98/\a≠147/\a≠137):PFr B k Lv w w':=
 ⟨⟨c.os,c.tape,c.output,c.size,λb j m=>c.block b m (λe=>by have:=q b e.s;omega),λg _ h=>c.block g h.lt (λe=>by have⟨a,j,m⟩:=i g e.s;exact m.1 (j.ne h)),λ_ _=>cB (c.block k l (λe=>f e.s)),λ_=>fB (c.block k l (λe=>f e.s))⟩,cB (c.block k l (λe=>f e.s)),λg a _ h d=>c.block g h.lt λe=>by
  obtain⟨V,j,-,o,p,n⟩:=i g e.s;have:=j.ne h;subst this;rcases d with d|⟨d|d,-⟩
  .exact o d
  .exact p d
  .exact n d⟩
theorem PFr.set(hk:B<=k)j(hj:j<5)v:PFr B k Lv w (w.setCell ⟨k,j,N⟩ v):=
 ⟨⟨Q,Q,Q,by simp,λb h1 _=>Ra (show b≠k by omega),λg a _=>Ra a,λi hi=>cO w ⟨k,j,N⟩ ⟨k,i,N⟩ v (λe=>by have:=ey uc e;simp only at this;omega),λi=>by simp⟩,cO w ⟨k,j,N⟩ ⟨k,5,N⟩ v (λe=>by have:=ey uc e;simp only at this;omega),λg _ a _ _=>Ra a⟩
end
theorem PFr.ofR{l}{tm nx:dT}(hk:B<=k)(a:aD B w k v R tm nx)(F:bU w w' k v R l R'):PFr B k (RwB v R) w w':=
 ⟨⟨F.os,F.tape,F.output,F.size,λb h1 o=>F.block b o (by omega) (λe=>by have:=(a.row.lt b e).1;omega) (λx m e=>by have:=((a.NL x m).lt b e).1;omega),λg f h=>by
  have d:=a.Ow h (by decide) (by decide);exact F.block g h.lt f d.1 d.2,λj hj=>F.cells j (by omega),F.frozen⟩,F.cells 5 (by omega),λg c f h p=>by
  rcases p with rfl|⟨-,d⟩
  .have d:=a.Ow h (by decide) (by decide);exact F.block g h.lt f d.1 d.2
  .exact F.block g h.lt f (λe=>d (Rf e)) λx m e=>d (Rg ⟨x,m,e⟩)⟩
theorem PFw.to(h:PFw B k w w')(c:Below B W w)(hs:B<=w.heap.size):Below B W w':=
 ⟨h.os.t c.os,h.tape.t c.tape,h.output.t c.output,lT c.size h.size,λb a=>(h.low b a (by omega)).t (c.block b a)⟩
theorem Lx(h:bB w b d c z)o v(ho:3<=o):bB (w.setCell ⟨b,o,N⟩ v) b d c z:=by
 have a:∀j,j<3->(w.setCell ⟨b,o,N⟩ v).cell? ⟨b,j,N⟩=w.cell? ⟨b,j,N⟩:=λj hj=>cO w ⟨b,o,N⟩ ⟨b,j,N⟩ v (λe=>by have:=ey uc e;simp only at this;omega)
 exact⟨(a 0 (by omega)).t h.c0,(a 1 (by omega)).t h.c1,(a 2 (by omega)).t h.c2,λj=>fs (h.fz j)⟩
theorem aD.N3{nx tm:dT}(a:aD B w k d R nx tm)o v(f:3<=o):aD B (w.setCell ⟨k,o,N⟩ v) k d R nx tm:=
 ⟨Lx a.cells o v f,a.row.kept (bH w k o v) (Or.inr a.apart),λe b=>(a.NL e b).kept (bH w k o v) (Or.inr (a.NM e b)),a.apart,a.NM,a.NN,a.pw⟩
theorem aD.other{j tm:dT}{d:eW H}{a}(c:aD B w k v R j tm)(o:w.grownBy w' d)(h:d≠J k)(f:∀b,d=J b->TyB w b a)(n:a≠147)(l:a≠137):aD B w' k v R j tm:=by
 refine c.grown o h ?_ λe he=>?_
 all_goals
  cases m:d with
  |none=>exact eh _
  |some b=>
   have hn:=c.Ow (f b m) n l
   grind
theorem mh{c}{a}{f:eW H}(h:w.ownsRow B e c v n xs)(k:w.grownBy w' f)(i:∀b,f=J b->TyB w b a)(j:a≠e):w'.ownsRow B e c v n xs:=
 bP h λg d=>k.block g (h.lt g d).2 λl=>j ((i g l.s).ne (fK h d))
theorem ju(h:w.ownsRow B e a v n xs)(c:v.ownBlock≠J k)j u:(w.setCell ⟨k,j,N⟩ u).ownsRow B e a v n xs:=
 bP h λg b=>Ra λe=>c (by rw[b];exact ey J e)
theorem Bd(hji:b≠i)u(h:w.cell? ⟨k,i,N⟩=J v):(w.setCell ⟨k,b,N⟩ u).cell? ⟨k,i,N⟩=J v:=
 (cO w ⟨k,b,N⟩ ⟨k,i,N⟩ u (λe=>by have:=ey uc e;simp only at this;omega)).t h
theorem aH.QD{tm nx:dT}{c}{t}(d:aH B w k P T vL vT)(a:aD B w k v R tm nx)(x:B<=k)(r:Below w.heap.size w q)
  (F:W.ownsRow B 144 3 (M (J ⟨g,0,N⟩) (T.length+1) c) (T.length+1) (ix T++[U t.text,I K t.ls,I K t.pg])) (i:q.grownBy W vT.ownBlock) (u:vT.ownBlock=J g\/w.heap.size<=g):
  aD B (W.setCell ⟨k,4,N⟩ (M (J ⟨g,0,N⟩) (T.length+1) c)) k v R tm nx/\aH B (W.setCell ⟨k,4,N⟩ (M (J ⟨g,0,N⟩) (T.length+1) c)) k P (T++[t]) vL (M (J ⟨g,0,N⟩) (T.length+1) c)/\PFr B k (RwB v R) w (W.setCell ⟨k,4,N⟩ (M (J ⟨g,0,N⟩) (T.length+1) c)):=by
 have G:=d.lt;have y:g≠k:=by
  rcases u with h|h;intro e;exact d.kT (e▸h);omega
 have P1:=d.below r;have m:=P1.lt;have f:∀b,vT.ownBlock=J b->TyB q b 144:=λb o=>fK P1.Ou o
 have p:(kr (J ⟨g,0,N⟩) (T.length+1) c).ownBlock≠J k:=by simpa[lj]using y
 refine⟨((a.below r).other i d.kT f (by decide) (by decide)).N3 4 _ (by omega),⟨Bd (by omega) _ (i.cell P1.c3 (λe=>d.kT e.s)),cs (i.cell P1.c4 (λe=>d.kT e.s)),λj=>fs ((bD i ⟨k,j,N⟩ m (λe=>d.kT e.s)).t (P1.fz j)),ju (mh P1.NZ i f (by decide)) d.kL 4 _,?_,λl z=>ju (mh (P1.NA l z) i f (by decide)) (d.kI l z) 4 _,d.kL,p,d.kI⟩,((PFr.below G r).t (PFr.grown m i d.kT (λb o=>(P1.Ou.lt b o).1) λb o=>⟨_,f b o,by decide⟩)).t (PFr.set x 4 (by omega) _)⟩;rw[uH,lP,lS];exact ju F p 4 _
theorem aH.QT{tm nx:dT}{c}{l}(d:aH B w k P T vL vT)(a:aD B w k z R tm nx)(A:B<=k)(r:Below w.heap.size w q)(V:q.ownsRow B 67 3 l.v l.NA.length (az l.NA))(D:l.v.ownBlock≠J k)
  (X:W.ownsRow B 141 4 (M (J ⟨g,0,N⟩) (P.length+1) c) (P.length+1) (d9 P++[l.v,I K l.NI,I K l.fin,C l.gone])) (i:q.grownBy W vL.ownBlock) (u:vL.ownBlock=J g\/w.heap.size<=g):
  aD B (W.setCell ⟨k,3,N⟩ (M (J ⟨g,0,N⟩) (P.length+1) c)) k z R tm nx/\aH B (W.setCell ⟨k,3,N⟩ (M (J ⟨g,0,N⟩) (P.length+1) c)) k (P++[l]) T (M (J ⟨g,0,N⟩) (P.length+1) c) vT/\PFr B k (RwB z R) w (W.setCell ⟨k,3,N⟩ (M (J ⟨g,0,N⟩) (P.length+1) c)):=by
 have hk:=d.lt;have F:g≠k:=by
  rcases u with h|h;intro e;exact d.kL (e▸h);omega
 have P1:=d.below r;have m:=P1.lt;have f:∀b,vL.ownBlock=J b->TyB q b 141:=λb o=>fK P1.NZ o
 have p:(kr (J ⟨g,0,N⟩) (P.length+1) c).ownBlock≠J k:=by simpa[lj]using F
 refine⟨((a.below r).other i d.kL f (by decide) (by decide)).N3 3 _ (by omega),⟨cs (i.cell P1.c3 (λe=>d.kL e.s)),Bd (by omega) _ (i.cell P1.c4 (λe=>d.kL e.s)),λj=>fs ((bD i ⟨k,j,N⟩ m (λe=>d.kL e.s)).t (P1.fz j)),?_,ju (mh P1.Ou i f (by decide)) d.kT 3 _,λx y=>?_,p,d.kT,λx y=>?_⟩,((PFr.below hk r).t (PFr.grown m i d.kL (λb o=>(P1.NZ.lt b o).1) λb o=>⟨_,f b o,by decide⟩)).t (PFr.set A 3 (by omega) _)⟩;rw[uG,lP,lS];exact ju X p 3 _;rcases sT.1 y with h|h;exact ju (mh (P1.NA x h) i f (by decide)) (d.kI x h) 3 _;rw[List.mem_singleton.1 h];exact ju (mh V i f (by decide)) D 3 _;rcases sT.1 y with h|h;exact d.kI x h
 grind
theorem Be(h:w.ownsRow B 141 4 vL P.length (d9 P))(i:H)(c:i<P.length):∃g a,vL=M (J ⟨g,0,N⟩) P.length a/\B<=g/\g<w.heap.size/\w.cell? ⟨g,i*4,N⟩=J P[i].v/\w.cell? ⟨g,i*4+1,N⟩=J (I K P[i].NI)/\w.cell? ⟨g,i*4+2,N⟩=J (I K P[i].fin)/\w.cell? ⟨g,i*4+3,N⟩=J (C P[i].gone):=by
 obtain⟨g,a,rfl,h1,h2,h3⟩:=bm h (by omega);have hx:∀j,j<4->w.cell? ⟨g,i*4+j,N⟩=[P[i].v,I K P[i].NI,I K P[i].fin,C P[i].gone][j]?:=λj b=>by
  have:=h.cellAt (i*4+j) (by omega);rw[d9,bL 4 _ (λ_=>Q) P i j c b]at this;exact this
 simp_all
theorem JQ(h:w.ownsRow B 144 3 vT T.length (ix T))(i:H)(c:i<T.length):∃g a,vT=M (J ⟨g,0,N⟩) T.length a/\B<=g/\g<w.heap.size/\w.cell? ⟨g,i*3,N⟩=J (U T[i].text)/\w.cell? ⟨g,i*3+1,N⟩=J (I K T[i].ls)/\w.cell? ⟨g,i*3+2,N⟩=J (I K T[i].pg):=by
 obtain⟨g,a,rfl,h1,h2,h3⟩:=bm h (by omega);have hx:∀j,j<3->w.cell? ⟨g,i*3+j,N⟩=[U T[i].text,I K T[i].ls,I K T[i].pg][j]?:=λj b=>by
  have:=h.cellAt (i*3+j) (by omega);rw[ix,bL 3 _ (λ_=>Q) T i j c b]at this;exact this
 simp_all
def NO(P:S PlL)(i:H)(x:dT):S PlL:=match P[i]? with
 |some l=>P.set i {l with fin:=x}
 |none=>P
theorem km(hi:i<P.length)(x:dT):NO P i x=P.set i {P[i]with fin:=x}:=by
 unfold NO
 grind
theorem aH.QS{tm nx:dT}{q j:H}{d:PlL}(f:aH B w k P T (M (J ⟨g,0,N⟩) P.length q) vT)(c:aD B w k A R tm nx)(X:i<P.length)(hj:j<4)(hv:d.v=P[i].v/\d.NA=P[i].NA)(V:[d.v,I K d.NI,I K d.fin,C d.gone]=[P[i].v,I K P[i].NI,I K P[i].fin,C P[i].gone].set j u):
  aD B (w.setCell ⟨g,i*4+j,N⟩ u) k A R tm nx/\aH B (w.setCell ⟨g,i*4+j,N⟩ u) k (P.set i d) T (M (J ⟨g,0,N⟩) P.length q) vT/\PFr B k (RwB A R) w (w.setCell ⟨g,i*4+j,N⟩ u):=by
 have z:=f.lt;have⟨h1,o⟩:=f.NZ.stored (i*4+j) u;have h:∀b,J g=J b->TyB w b 141:=λb p=>fK f.NZ (by rw[<-p];rfl)
 have m:=f.kL;have F:=λL=>cB (a:=⟨k,L,N⟩) (o.block k z (λe=>m e.s))
 have hset:d9 (P.set i d)=(d9 P).set (i*4+j) u:=ur 4 _ (λ_=>Q) P i j _ _ hj X V;have n:∀l∈P.set i d,∃d∈P,l.v=d.v/\l.NA=d.NA:=λl r=>by
  grind
 refine⟨c.other o m h (by decide) (by decide),⟨(F 3).t f.c3,(F 4).t f.c4,λj=>(fB (a:=⟨k,j,N⟩) (o.block k z (λe=>m e.s))).t (f.fz j),?_,mh f.Ou o h (by decide),λl r=>?_,f.kL,f.kT,λl r=>?_⟩,PFr.grown z o m (λb p=>(f.NZ.lt b (by rw[<-p];rfl)).1) λb p=>⟨_,h b p,by decide⟩⟩
 grind
 have⟨d,x,y,h4⟩:=n l r;rw[y,h4];exact mh (f.NA d x) o h (by decide);obtain⟨d,x,y,-⟩:=n l r;rw[y];exact f.kI d x
theorem aH.NO{tm nx:dT}(h:aH B w k P T (M (J ⟨g,0,N⟩) P.length b) vT)(a:aD B w k c R tm nx)(e:i<P.length)(x:dT):
  aD B (w.setCell ⟨g,i*4+2,N⟩ (I K x)) k c R tm nx/\aH B (w.setCell ⟨g,i*4+2,N⟩ (I K x)) k (NO P i x) T (M (J ⟨g,0,N⟩) P.length b) vT/\PFr B k (RwB c R) w (w.setCell ⟨g,i*4+2,N⟩ (I K x)):=by
 rw[km e];exact h.QS a e (by omega) ⟨Q,Q⟩ Q
structure SvE where
 at_:H
 sl:Wx
 R:S bz
 nx:dT
 tm:dT
def gl(Z:S SvE):S Wx:=Z.flatMap λz=>[I K z.at_,z.sl,I K z.nx,I K z.tm]
structure ec (B:H)(w:Wj)(k:H)(Z:S SvE)(Lv:H->Prop):Prop where
 row:∃vS,w.cell? ⟨k,5,N⟩=J vS/\w.ownsRow B 98 4 vS Z.length (gl Z)/\vS.ownBlock≠J k
 Pc:∀z∈Z,w.ownsRow B 147 2 z.sl z.R.length (aB z.R)
 NP:∀z∈Z,∀e∈z.R,w.ownsRow B 137 3 e.v e.h.length (aA e.h)
 N3:∀z∈Z,∀b,RwB z.sl z.R b->b≠k/\¬Lv b
section
variable {Z:List SvE} {Lv Lv':Nat->Prop}
theorem ec.lt(h:ec B w k Z Lv){z}(c:z∈Z)(a:RwB z.sl z.R b):b<w.heap.size:=by
 rcases a with a|⟨e,d,a⟩;exact((h.Pc z c).lt b a).2;exact((h.NP z c e d).lt b a).2
theorem ec.Qe(h:ec B w k Z Lv)(p:w'.cell? ⟨k,5,N⟩=w.cell? ⟨k,5,N⟩)(N3:∀g a,g≠k->TyB w g a->(a=98\/(a=147\/a=137)/\¬Lv g)->w'.heap[g]?=w.heap[g]?)(m:∀b,b<w.heap.size->Lv' b->Lv b):ec B w' k Z Lv':=by
 have⟨q,o,j,l⟩:=h.row;refine⟨⟨q,p.t o,bP j λg d=>N3 g _ (λe=>l (e▸d)) (fK j d) (Rf Q),l⟩,λz c=>bP (h.Pc z c) λg d=>?_,λz c e f=>bP (h.NP z c e f) λg d=>?_,λz c b i=>⟨(h.N3 z c b i).1,λn=>(h.N3 z c b i).2 (m b (h.lt c i) n)⟩⟩;have:=h.N3 z c g (Rf d);exact N3 g _ this.1 (fK (h.Pc z c) d) (Rg ⟨Rf Q,this.2⟩);have:=h.N3 z c g (Rg ⟨e,f,d⟩);exact N3 g _ this.1 (fK (h.NP z c e f) d) (Rg ⟨Rg Q,this.2⟩)
theorem ec.Nx(h:ec B w k Z Lv)(F:PFr B k Lv w w')(a:∀b,b<w.heap.size->Lv' b->Lv b):ec B w' k Z Lv':=h.Qe F.c5 F.N3 a
end
end
theorem mi{vL vT:Wx}{tm nx:dT}(w:Wj)(a:aD B w k v R tm nx)(b:aH B w k P T vL vT)(i:H)(h:i<P.length):
  Calls Yq.prog 66 #[O (J ⟨k,0,N⟩),I K i] w λe w'=>e=Rc (C (P[i].NF nx))/\Below w.heap.size w w':=by
 obtain⟨g,cap,rfl,-,hg,-,-,e2,e3⟩:=Be b.NZ i h;have c2:=a.cells.c2;have c3:=b.c3;have hii:(i:dT)<(P.length:dT):=by omega
 clear a b;unfold PlL.NF;generalize P[i].gone=d at *;generalize P[i].fin=fn at *;cases d;go_enter (Yq.nq func66),ntmps66;go_wp2_with fail
 go_quiet (fail)
 go_wp2_with fail
 go_ret;exact⟨Q,below_drewN Q9 _⟩;go_enter (Yq.nq func66),ntmps66;go_wp2_with fail
 go_quiet (fail)
 go_wp2_with fail
 go_ret;exact⟨Q,below_drewN Q9 _⟩
theorem F1(a:dT)(P:S PlL)(i:H)(h:i<P.length):((P.take (i+1)).filter (PlL.NF a)).length=((P.take i).filter (PlL.NF a)).length+if P[i].NF a then 1 else 0:=by
 rw[tS h,List.filter_append,lP]
 grind
theorem F2{vL vT}{tm nx:dT}w(a:aD B w k v R tm nx)(h:aH B w k P T vL vT)(hn:P.length<=2199023255340):
  Calls Yq.prog 63 #[O (J ⟨k,0,N⟩)] w λe w'=>e=Rc (I K ((P.filter (PlL.NF nx)).length:dT))/\Below w.heap.size w w':=by
 obtain⟨va,vc,rfl,-⟩:=ao h.NZ;have q:=h.c3;have HH:=bJ a h;clear a h;go_enter (Yq.nq func63),ntmps63;go_wp2_with fail
 go_loopw [3,4] (λs3 s4 wr=>∃i:H,i<=P.length/\s3=I K (((P.take i).filter (PlL.NF nx)).length:dT)/\s4=I K i/\Below w.heap.size w wr) (λ_ s4 _=>P.length-(intOf s4).toNat)
 case atStart=>exact⟨0,Q8,Q,Q,Q9⟩
 case round=>
  obtain⟨i,hin,rfl,rfl,d⟩:=hrel;have c3':=ag d q;have HB:=aq d;have hle:((P.take i).filter (PlL.NF nx)).length<=i:=lT (List.length_filter_le _ _) (by rw[tL];omega);by_cases b:i<P.length
  have hii:(i:dT)<(P.length:dT):=by omega
  have HC:=mi wr (HH.o.1.below d) (HH.o.2.below d) i b;have HT:=aq (F1 nx P i b);generalize P[i].NF nx=s at *;generalize((P.take i).filter (PlL.NF nx)).length=m at *;clear d;go_wp2_with fail
  refine HC.m ?_;rintro e w1 ⟨rfl,n⟩;have f:=aq (HB.o.t (n.m HB.o.size));clear HC n;cases s;go_wp2_with fail
  refine⟨⟨i+1,b,by rw[HT.o];go_num,by go_num,f.o⟩,by simp[intOf];omega⟩;go_wp2_with fail
  refine⟨⟨i+1,b,by rw[HT.o];go_num,by go_num,f.o⟩,by simp[intOf];omega⟩;have j:i=P.length:=by omega
  subst j;have HT:Hid (P.take P.length=P):=sq;go_wp2_with fail
  go_ret;exact⟨tq (ey (λl=>((List.filter (PlL.NF nx) l).length:dT)) HT.o),HB.o⟩
theorem Yq.PI:(Yq.prog.info? 144).map (λi=>(i.zero,i.size,i.bytes))=J (J (Rd #[U ⟨#[]⟩,I K 0,I K 0]),3,32):=by kernel_rfl
theorem Yq.Pv:(Yq.prog.info? 141).map (λi=>(i.zero,i.size,i.bytes))=J (J (Rd #[M N 0 0,I K 0,I K 0,C Z]),4,48):=by kernel_rfl
theorem Bf(w:Wj)(a b c:Wx)(T:Ww):∀j u,[a,b,c][j]?=J u->(w.alloc (E #[a,b,c] T)).cell? ((⟨w.heap.size,0,N⟩:Wu).add j)=J u:=by
 intro j u hj;rw[vf,zA,cA (w:=w) _ _ w.heap.size j Q]
 grind
theorem C5{D vL vT}{nx tm:dT}w(a:aD B w k D R nx tm)(p:aH B w k P T vL vT)(A:B<=k)(hn:T.length<=2199023255340)(b:eV)j l(v:b≠⟨#[]⟩)(hT:∀t∈T,(t.ls=j/\t.pg=l)↔t.text=b):
  Calls Yq.prog 89 #[O (J ⟨k,0,N⟩),U b,I K j,I K l] w λe w'=>e=Rc (C Y)/\∃x,aD B w' k D R nx tm/\aH B w' k P (T++[⟨b,j,l⟩]) vL x/\PFr B k (RwB D R) w w':=by
 have⟨i0,af,y,G,V⟩:=info_parts Yq.PI;obtain⟨va,vc,rfl,-⟩:=ao p.Ou;have c4:=p.c4;have hz:=iZ v;have HH:=ig a p A hT;have hkw:=p.lt;clear a p hT;go_enter (Yq.nq func89),ntmps89;go_wp2_with fail
 go_loopw [9] (λs9 wr=>∃i:H,i<=T.length/\s9=I K i/\Below w.heap.size w wr) (λs9 _=>T.length-(intOf s9).toNat)
 case atStart=>exact⟨0,Q8,Q,Q9⟩
 case round=>
  obtain⟨i,hin,rfl,c⟩:=hrel;have c4':=ag c c4;have HB:=aq c;by_cases f:i<T.length
  .have hii:(i:dT)<(T.length:dT):=by omega
   obtain⟨g,F,he,-,-,r,e1,L⟩:=JQ HH.o.2.1.Ou i f;cases he;replace r:=ag c r;replace e1:=ag c e1;replace L:=ag c L;have n:=HH.o.2.2.2 _ (n8 f);have HA:Hid (∀X:Obj,Below w.heap.size w (wr.alloc X)):=λX=>c.alloc c.size _
   generalize T[i]=t at *;obtain⟨tt,tl,tp⟩:=t;simp only at r e1 L n;clear c;by_cases q:tt=b
   .obtain ⟨rfl,rfl⟩:=n.2 q;subst q;have hs:=xA tt;clear n;go_wp2_with fail
    exact⟨⟨i+1,f,by go_num,HA.o _⟩,by simp[intOf];omega⟩
   have hs:=xB q;by_cases hl:tl=j
   have hp:¬tp=l:=λe=>q (n.1 ⟨hl,e⟩)
   subst hl;have hp':((tp:dT)==(l:dT))=false:=by simp;omega
   clear n hp;go_wp2_with fail
   exact⟨⟨i+1,f,by go_num,HA.o _⟩,by simp[intOf];omega⟩;have hl':((tl:dT)==(j:dT))=false:=by simp;omega
   clear n hl;go_wp2_with fail
   exact⟨⟨i+1,f,by go_num,HA.o _⟩,by simp[intOf];omega⟩
  have ac:i=T.length:=by omega
  subst ac;have ab:Hid (∀X:Obj,(wr.alloc X).ownsRow B 144 3 (M va T.length vc) T.length (ix T)):=λX=>(HH.o.2.1.below c).Ou.alloc X
  have HX:Hid (∀ (X:Obj),Below w.heap.size w (wr.alloc X)):=λX=>c.alloc c.size _
  have hBw:B<=wr.heap.size:=by have:=c.size;have:=HH.o.2.2.1;omega
  have hsz:=c.size;have ad:Hid (∀ (X:Obj) (m:Wj),(wr.alloc X).grownBy m (kr va T.length vc).ownBlock->m.cell? ⟨k,4,N⟩=J (M va T.length vc)/\m.frozen? ⟨k,4,N⟩=Z):=λX m d=>by
   have P1:=HH.o.2.1.below (HX.o X);exact⟨d.cell P1.c4 (λe=>P1.kT e.s),(bD d ⟨k,4,N⟩ P1.lt (λe=>P1.kT e.s)).t (P1.fz 4)⟩
  clear c;go_wp2_with (at_builtin;go_loud (refine wpList_append_lies _ Q _ _ 60 Q B 144 i0 _ 3 32 (Yq.u underlying60) af y G V Q (by decide) _ T.length _ Q (ab.o _) ⟨wr.heap.size,0,N⟩ 1 1 [U b,I K j,I K l] Q Q (Bf wr _ _ _ _) (by simp[lk]) (by omega) (by simp only[maxLen];omega) (by omega) (by simp;omega) (wr.heap.size+1) (by simp) ?_;intro g F m z d aa hlt3;obtain⟨y0,y1⟩:=ad.o _ m d))
  go_ret;refine⟨Q,_,HH.o.2.1.QD (t:=⟨b,j,l⟩) HH.o.1 HH.o.2.2.1 (HX.o _) z d ?_⟩;rcases aa with h|h;exact Rf h;exact Rg (by omega)
def Ly(b:Wx)(a:eV):Wx:=Rd #[I K 0,I K 0,U ⟨#[]⟩,b,U a]
structure cW (w:Wj)(b:H)(x0 x1 x2 x3 x4:Wx):Prop where
 c0:w.cell? ⟨b,0,N⟩=J x0
 c1:w.cell? ⟨b,1,N⟩=J x1
 c2:w.cell? ⟨b,2,N⟩=J x2
 c3:w.cell? ⟨b,3,N⟩=J x3
 c4:w.cell? ⟨b,4,N⟩=J x4
theorem cW.block{w'}{a}(h:cW w b a d c v x4)(e:w'.heap[b]?=w.heap[b]?):cW w' b a d c v x4:=
 ⟨(cB e).t h.c0,(cB e).t h.c1,(cB e).t h.c2,(cB e).t h.c3,(cB e).t h.c4⟩
theorem cW.on{w'}{e}(h:cW w b v c e d x4)(f:Below w.heap.size w w'):cW w' b v c e d x4:=
 h.block (f.block b (bC w _ h.c0))
theorem kU(w:Wj)(a c b d x4:Wx)(T:Ww):cW (w.alloc (E #[a,c,b,d,x4] T)) w.heap.size a c b d x4:=
 ⟨by rw[cA (w:=w) _ _ w.heap.size 0 Q];rfl,by rw[cA (w:=w) _ _ w.heap.size 1 Q];rfl,by rw[cA (w:=w) _ _ w.heap.size 2 Q];rfl,by rw[cA (w:=w) _ _ w.heap.size 3 Q];rfl,by rw[cA (w:=w) _ _ w.heap.size 4 Q];rfl⟩
theorem kn w(c:dT)(d b h a:eV)(i e:dT)f k m l x4:∃W,(w.alloc (E #[I K c,U d,U b,U h,U a,I K i,I K e] 37)).alloc (E #[f,k,m,l,x4] 53)=W/\Below w.heap.size w W/\(∀j,W.cell? ⟨w.heap.size,j,N⟩=(#[I K c,U d,U b,U h,U a,I K i,I K e]:Array Wx)[j]?)/\cW W (w.heap.size+1) f k m l x4:=by
 refine⟨_,Q,((bR _ w).alloc Q0 _).alloc (by simp) _,λj=>?_,?_⟩
 simp_all
 have:=kU (w.alloc (E #[I K c,U d,U b,U h,U a,I K i,I K e] 37)) f k m l x4 53
 simp_all
def F3(B k:H)(sl:Wx)(R:S bz)(nx tm:dT)(P:S PlL)(T:S PlT)(w:Wj)(e:Ending)(w':Wj):Prop:=
 e=Rc (C Y)/\∃vL vT,aD B w' k sl R nx tm/\aH B w' k P T vL vT/\PFr B k (RwB sl R) w w'
theorem Jf{NA}(h:w.ownsRow B 67 3 (M (J ⟨g,0,N⟩) NA.length n) NA.length (az NA))a b(hab:a<=b)(hb:b<=NA.length)c:MZ w (M (J ⟨g,a*3,N⟩) (b-a) c) ((NA.take b).drop a):=by
 have f:((NA.take b).drop a).length=b-a:=by grind
 refine⟨_,c,by rw[f],λ_=>⟨g,a*3,Q,λj i=>?_⟩⟩;rw[f]at i;rw[(h.cellAt (a*3+j) (by omega))];have k:az NA=az (NA.take a)++(az ((NA.take b).drop a)++az (NA.drop b)):=by
  have e:NA=NA.take a++((NA.take b).drop a++NA.drop b):=by
   conv=>lhs;rw[<-pt b NA,<-pt a (NA.take b)]
   grind
  unfold az
  grind
 have l:(az (NA.take a)).length=a*3:=by rw[gV,tL,Nat.min_eq_left (by omega)]
 rw[k,aR (by omega),l,Nat.add_sub_cancel_left,List.getElem?_append_left (by rw[gV,f];exact i)]
theorem sR{sl vL vT:Wx}{nx tm:dT}(w:Wj)(a:aD B w k sl R nx tm)(V:aH B w k P T vL vT)(av:B<=k)(hn:P.length<=2199023255340/\T.length<=2199023255340)(htm:0<=tm/\tm<=1000000000000000000)(i r:H)(hi:i<P.length)
  (hl:1<=P[i].NI/\P[i].NI<=20/\P[i].NA.length<=200/\r*P[i].NI<P[i].NA.length) (G:Wx) (f:eV) (hI:∀w',PFr B k (RwB sl R) w w'->j6 w' G ((P[i].NA.take ((r+1)*P[i].NI)).drop (r*P[i].NI)))
  (b:if(r+1)*P[i].NI<P[i].NA.length then f≠⟨#[]⟩/\∀t∈T,(t.ls=i/\t.pg=r+1)↔t.text=f else f=⟨#[]⟩):
  Calls Yq.prog 65 #[O (J ⟨k,0,N⟩),Ly G f,I K i,I K r] w (F3 B k sl R nx tm (NO P i (tm+10)) (if(r+1)*P[i].NI<P[i].NA.length then T++[⟨f,i,r+1⟩]else T) w):=by
 obtain⟨z,L,rfl,-,a0,e0,e1,e2,e3⟩:=Be V.NZ i hi;have j:=V.NA _ (n8 hi);have a4:=V.kI _ (n8 hi);have al:NO P i (tm+10)=P.set i {P[i]with fin:=tm+10}:=km hi _;have X:=λW (hb:Below w.heap.size w W)=>(V.below hb).NO (a.below hb) hi (tm+10)
 have c2:=a.cells.c2;have c3:=V.c3;have a7:=V.lt;have hii:(i:dT)<(P.length:dT):=by omega
 have hgk:z≠k:=λe=>V.kL (by rw[e];rfl)
 have bd:w.frozen? ⟨z,i*4+2,N⟩=false:=by
  rcases V.NZ.2 with⟨h,-⟩|⟨g,a9,a1,h,-,hb,-⟩
  .cases h
  .cases h;unfold World.frozen?;rw[hb];simp
 generalize P[i]=l at *;obtain⟨NA,v,q,aa,x⟩:=l;simp only at hl hI b j a4 e0 e1 e2 e3;obtain⟨a6,hl2,hl3,a3⟩:=hl;obtain⟨y,d,rfl,-,hgI,-⟩:=bm j (by omega);have hcap:NA.length<=d:=by
  rcases j.2 with⟨h,-⟩|⟨g,a9,a1,h,-,-,h1,-⟩
  .cases h
  .cases h;exact h1
 have hpn:r<=200:=by
  have:r*1<=r*q:=Nat.mul_le_mul_left _ a6;omega
 obtain⟨n,ab⟩:∃n,r*q=n:=⟨_,Q⟩;have aj:(r+1)*q=n+q:=by rw[Nat.add_mul,tb,ab]
 have hfrI:(r:dT)*(q:dT)=(n:dT):=by rw[<-ab,Int.natCast_mul]
 simp only[ab,aj]at hI b a3 ⊢;have HI:=aq hI;have HR:=aq j;have ad:=aq b;have af:=bJ av hn.2;have X:=aq X;generalize NO P i (tm+10)=P' at *;obtain⟨A,ar⟩:∃A:H,(n+q<=NA.length/\A=n+q)\/(NA.length<n+q/\A=NA.length):=by
  by_cases h:n+q<=NA.length
  .exact ⟨_,Rf ⟨h,Q⟩⟩
  .exact ⟨_,Rg ⟨by omega,Q⟩⟩
 have F:=aq ar;have a2:y≠z:=λe=>by
  subst e;exact gI ((fK V.NZ (g:=y) Q).ne (fK j (g:=y) Q)) (by decide)
 clear hI b j a V al;unfold Ly F3;go_enter (Yq.nq func65),ntmps65
 go_upto_if 32 with fail
 have HW:Hid (Below w.heap.size w ((w.alloc (E #[I K 0,I K 0,U ⟨#[]⟩,G,U f] 53)).alloc (E #[M (J ⟨y,0,N⟩) NA.length d,I K q,I K aa,C x] 141))/\cW ((w.alloc (E #[I K 0,I K 0,U ⟨#[]⟩,G,U f] 53)).alloc (E #[M (J ⟨y,0,N⟩) NA.length d,I K q,I K aa,C x] 141)) w.heap.size (I K 0) (I K 0) (U ⟨#[]⟩) G (U f)/\((w.alloc (E #[I K 0,I K 0,U ⟨#[]⟩,G,U f] 53)).alloc (E #[M (J ⟨y,0,N⟩) NA.length d,I K q,I K aa,C x] 141)).cell? ⟨w.heap.size+1,0,N⟩=J (M (J ⟨y,0,N⟩) NA.length d)):=
  ⟨((bR _ w).alloc Q0 _).alloc (by simp) _,(kU w _ _ _ _ _ 53).on ((Q9).alloc Q0 _),by rw[cA (w:=w.alloc _) _ _ (w.heap.size+1) 0 (by simp)];rfl⟩
 have u0:=HW.o.2.2;generalize((w.alloc (E #[I K 0,I K 0,U ⟨#[]⟩,G,U f] 53)).alloc (E #[M (J ⟨y,0,N⟩) NA.length d,I K q,I K aa,C x] 141))=W at *
 go_cut [11] (λs11 u=>s11=I K A/\u=W)
 case first=>
  rcases F.o with⟨h1,rfl⟩|⟨h1,rfl⟩
  .have bb:¬(NA.length:dT)<(n:dT)+q:=by omega
   go_wp2_with fail
   go_meet
   case rel=>exact⟨by go_num,Q⟩
  .have bb:(NA.length:dT)<(n:dT)+q:=by omega
   go_wp2_with fail
   go_meet
   case rel=>exact⟨Q,Q⟩
 case rest=>
 obtain⟨rfl,rfl⟩:=hcut;have c2':=ag HW.o.1 c2;have c3':=ag HW.o.1 c3;have e2':=ag HW.o.1 e2;have hfz':wc.frozen? ⟨z,i*4+2,N⟩=false:=(HW.o.1.frozen (p:=⟨z,i*4+2,N⟩) a0).t bd
 go_upto_region 6 with fail
 go_cut [46] (λ_ u=>aD B u k sl R nx tm/\aH B u k P' T (M (J ⟨z,0,N⟩) P.length L) vT/\PFr B k (RwB sl R) w u/\cW u w.heap.size (I K 0) (I K 0) (U ⟨#[]⟩) G (U f)/\u.cell? ⟨w.heap.size+1,0,N⟩=J (M (J ⟨y,0,N⟩) NA.length d)/\u.ownsRow B 67 3 (M (J ⟨y,0,N⟩) NA.length d) NA.length (az NA))
 case first=>
  go_region
  all_goals
   go_wp2_with fail
   go_meet
   case rel=>
    have⟨X1,X2,X3⟩:=X.o wc HW.o.1;have hd:Below (wc.setCell ⟨z,i*4+2,N⟩ (I K (tm+10))).heap.size (wc.setCell ⟨z,i*4+2,N⟩ (I K (tm+10))) (wc.setCell ⟨z,i*4+2,N⟩ (I K (tm+10))).drew:=(Q9).drew;refine⟨X1.below hd,X2.below hd,((PFr.below a7 HW.o.1).t X3).t (PFr.below X2.lt hd),HW.o.2.1.block (Ra (show w.heap.size≠z by omega)),(cB (Ra (show w.heap.size+1≠z by omega))).t u0,?_⟩;refine bP (HR.o.kept (aQ HW.o.1 N) (eh _)) λg hg=>?_
    have a8:y=g:=by simpa[lj]using hg
    subst a8;exact Ra a2
 case rest=>
 obtain⟨X1,X2,X3,⟨q0,q1,q2,q3,q4⟩,u0,hr⟩:=hcut;have HX:=eM X1 X2 X3;have a5:n<A/\A<=NA.length:=by rcases F.o with h|h<;>omega
 have b:(NA.take A).drop n=(NA.take (n+q)).drop n:=by
  rcases F.o with⟨h,rfl⟩|⟨h,rfl⟩
  .rfl
  .rw [sq,tO (by omega)]
 have HS:=λc=>nU G (M (J ⟨y,n*3,N⟩) (A-n) c) ((NA.take A).drop n) wc.drew (by rw[b];exact(HI.o wc X3).left ⟨Q,Q0,λ_ _=>Q⟩) (Jf (w:=wc.drew) ⟨hr.1,hr.2⟩ n A (by omega) a5.2 c) (by rw[lD,tL];omega)
 have hQ:Hid (cW wc w.heap.size (I K 0) (I K 0) (U ⟨#[]⟩) G (U f)):=⟨q0,q1,q2,q3,q4⟩;clear X1 X2 X3 hr b
 go_upto_region 7 with fail
 go_cut [12] (λs12 u=>s12=C Y/\aD B u k sl R nx tm/\aH B u k P' T (M (J ⟨z,0,N⟩) P.length L) vT/\PFr B k (RwB sl R) w u/\cW u w.heap.size (I K 0) (I K 0) (U ⟨#[]⟩) G (U f)/\u.cell? ⟨w.heap.size+1,0,N⟩=J (M (J ⟨y,0,N⟩) NA.length d))
 case first=>
  go_region_with (go_at_call 64;refine(HS _).m ?_;rintro e w2 ⟨rfl,b2⟩;have D:Hid (Below wc.heap.size wc w2):=((bR _ wc).drew).t b2;clear b2)
  all_goals
   go_wp2_with fail
   go_meet
   case rel=>exact⟨Q,HX.o.1.below D.o,HX.o.2.1.below D.o,HX.o.2.2.t (PFr.below HX.o.1.lt D.o),hQ.o.on D.o,ag D.o u0⟩
 case rest=>
 clear HS hQ HX u0 q0 q1 q2 q3 q4 X;obtain⟨rfl,X1,X2,X3,⟨q0,q1,q2,q3,q4⟩,u0⟩:=hcut;have HX:Hid (aD B wc k sl R nx tm/\aH B wc k P' T (M (J ⟨z,0,N⟩) P.length L) vT/\PFr B k (RwB sl R) w wc):=⟨X1,X2,X3⟩;clear X1 X2 X3;by_cases ai:n+q<NA.length
 .have b:=ad.o;rw[gL ai]at b;have ap:((A:dT)==(NA.length:dT))=false:=by
   simp only[beq_eq_false_iff_ne,ne_eq];rcases F.o with h|h<;>omega
  have ac:=C5 wc HX.o.1 HX.o.2.1 af.o.1 af.o.2 f i (r+1) b.1 b.2;rw[Int.natCast_add]at ac;clear b;go_wp2_with fail
  refine ac.m ?_;rintro e w3 ⟨rfl,vT',Y1,Y2,Y3⟩;have HY:=eM Y1 Y2 (HX.o.2.2.t Y3);clear Y1 Y2 Y3 ac;go_wp2_with fail
  go_ret;exact⟨Q,HY.o.1,⟨_,_,HY.o.2.1⟩,HY.o.2.2⟩
 .have b:=ad.o;rw[if_neg ai]at b;subst b;have ap:((A:dT)==(NA.length:dT))=true:=by
   simp only[beq_iff_eq];rcases F.o with h|h<;>omega
  go_wp2_with fail
  go_ret;exact⟨Q,HX.o.1,⟨_,_,HX.o.2.1⟩,HX.o.2.2⟩
theorem Lz{b}{tm:dT}(a:Sim b R tm)(m:Inv b s)(d:eR b)q:gi q (R.map oU)=cq q (bV b.f q.p.data.toList)/\(cq q (bV b.f q.p.data.toList)).length<=200:=by
 refine⟨FV a q (λk=>?_) (λk l=>?_),?_⟩;rw[List.pairwise_iff_getElem];intro i j n e c;have:=m.sorted k i j c e;simpa[nums,n,e]using this;rcases tn 40 k.length with h|h;exact gI (d.long k h) l;exact h;have h1:(cq q (bV b.f q.p.data.toList)).length<=fU (bV b.f q.p.data.toList):=mK q _ (ft _ _ _);have h2:=yT q.p.data.toList 41 b.f;have h3:fU (bV b.f q.p.data.toList)=tot (41-q.p.data.toList.length) λk=>b.f (q.p.data.toList++k):=qv _ _ _ _
 have:=d.cnt;have:=d.le;omega
theorem Bg(h:w.ownsRow b e a v n xs)(l:B<=b):w.ownsRow B e a v n xs:=by
 obtain⟨f,i|⟨g,d,c,rfl,k,j⟩⟩:=h;exact⟨f,Rf i⟩;exact⟨f,Rg ⟨g,d,c,Q,lT l k,j⟩⟩
def fh(B k:H)(sl:Wx)(R:S bz)(nx tm:dT)(L':Lg)(s:H)(w:Wj)(e:Ending)(w':Wj):Prop:=
 e=Rc (C Y)/\∃P' T' vL vT,aD B w' k sl R nx tm/\aH B w' k P' T' vL vT/\gh L' P' T' tm (s+1)/\PFr B k (RwB sl R) w w'
theorem fh.mk{B k}{b}{R}{c a:dT}{L'}{s}{w w'}{P'}{T'}{vL vT}(d:aD B w' k b R c a)(f:aH B w' k P' T' vL vT)(e:gh L' P' T' a (s+1))(h:PFr B k (RwB b R) w w'):fh B k b R c a L' s w (Rc (C Y)) w':=⟨Q,P',T',vL,vT,d,f,e,h⟩
theorem sU(w:Wj)(a b c d:Wx)(T:Ww):∀j u,[a,b,c,d][j]?=J u->(w.alloc (E #[a,b,c,d] T)).cell? ((⟨w.heap.size,0,N⟩:Wu).add j)=J u:=by
 intro j u hj;rw[vf,zA,cA (w:=w) _ _ w.heap.size j Q]
 grind
theorem zH{sl vL vT}{nx tm:dT}{st}{L}w(c:aD B w k sl R nx tm)(hP:aH B w k P T vL vT)(bk:B<=k)(a:Sim st R nx)(SL:gh L P T tm s)(hV:Inv st s)(hT:eR st)(hs:s<2199023255300)o vs(ch:(o.kind==6)=!vs)(bv:(o.kind==7)=vs)(hd:o.fe.size<=140737488351232)
  (L':Lg) (pg:S ItD) (al:eV) (cd:dT) (hB:fN L st.f ⟨vs,o.key,o.fe,o.past⟩ o.n=(L',pg,al,cd)) (vi:Wx) (hI:∀w',PFr B k (RwB sl R) w w'->j6 w' vi pg):
  Calls Yq.prog 32 #[O (J ⟨k,0,N⟩),aL o,Rd #[I K cd,I K 0,U ⟨#[]⟩,vi,U al]] w (fh B k sl R nx tm L' s w):=by
 have⟨ap,a1⟩:=Lz a hV hT ⟨vs,o.key,o.fe,o.past⟩;have ar:=SL.count;rw[xu]at ar;have b5:=SL.time;have hfew:=SL.PN;have af:=hP.lt;have hO:=hB;have be:=CQ L st.f ⟨vs,o.key,o.fe,o.past⟩ o.n _ Q (lT a1 (by omega));have bd:Hid (∀W,Below w.heap.size w W->Calls Yq.prog 62 #[O (J ⟨k,0,N⟩),aL o] W λe w'=>∃v,e=Rc v/\w'.ownsRow W.heap.size 67 3 v (cq ⟨vs,o.key,o.fe,o.past⟩ (bV st.f o.key.data.toList)).length (az (cq ⟨vs,o.key,o.fe,o.past⟩ (bV st.f o.key.data.toList)))/\Below W.heap.size W w'):=λW hb=>by
  have:=C4 B k sl R nx tm o vs ch bv W (c.below hb) a.NW a.full (λe he=>?_) hd
  .rw [ap]at this;exact this
  .rcases tn 40 e.key.data.toList.length with h|h
   .exact gI ((hT.long _ h).s.t (a.here e he)).s (a.full e he)
   .simpa using h
 have b9:Hid (∀v,∀p:H,1<=p/\p<=20->p<(cq ⟨vs,o.key,o.fe,o.past⟩ (bV st.f o.key.data.toList)).length->gh ⟨L.opened++[js L st.f ⟨vs,o.key,o.fe,o.past⟩ p],L.begun+1,ml (ff (L.begun+1) 2) (L.begun+1,2) L.told,L.tm⟩ (P++[⟨cq ⟨vs,o.key,o.fe,o.past⟩ (bV st.f o.key.data.toList),v,p,tm+10,Z⟩]) (T++[⟨ff (L.begun+1) 2,P.length,1⟩]) tm (s+1)):=λv p hp bt=>SL.push st.f ⟨vs,o.key,o.fe,o.past⟩ p _ v Q a1 hp bt
 have HH:=gB c hP bk SL hI;have b0:=be;rw[hB]at be;have cp:=aq hB;clear c hP a SL hV hT ap hI hO b0 hB;obtain⟨a6,aj,av,fe,ab,nn,bs⟩:=o;simp only at *;generalize cq ⟨vs,aj,fe,ab⟩ (bV st.f aj.data.toList)=NA at *;unfold aL at bd ⊢;go_enter (Yq.nq func32),ntmps32
 go_upto_region 1 with fail
 have⟨W,hW,z⟩:=kn w a6 aj av fe ab nn bs (I K cd) (I K 0) (U ⟨#[]⟩) vi (U al);rw[hW];have HW:=aq z;have o0:W.cell? ⟨w.heap.size,0,N⟩=J (I K a6):=z.2.1 0;have o1:W.cell? ⟨w.heap.size,1,N⟩=J (U aj):=z.2.1 1;have o2:W.cell? ⟨w.heap.size,2,N⟩=J (U av):=z.2.1 2;have o3:W.cell? ⟨w.heap.size,3,N⟩=J (U fe):=z.2.1 3;have o4:W.cell? ⟨w.heap.size,4,N⟩=J (U ab):=z.2.1 4;have o5:W.cell? ⟨w.heap.size,5,N⟩=J (I K nn):=z.2.1 5;have o6:W.cell? ⟨w.heap.size,6,N⟩=J (I K bs):=z.2.1 6;clear hW z
 go_cut [7] (λs7 wx=>wx.ownsRow w.heap.size 67 3 s7 NA.length (az NA)/\Below w.heap.size w wx/\wx.cell? ⟨w.heap.size,5,N⟩=J (I K nn)/\cW wx (w.heap.size+1) (I K cd) (I K 0) (U ⟨#[]⟩) vi (U al))
 case first=>
  go_region_with (go_at_call 62;refine(bd.o _ HW.o.1.drew).m ?_;rintro e r ⟨v,rfl,bq,D⟩;have i:Hid (r.ownsRow w.heap.size 67 3 v NA.length (az NA)/\Below W.heap.size W r):=⟨Bg bq HW.o.1.size,((bR _ W).drew).t D⟩;clear bq D)
  all_goals
   go_wp2_with fail
   go_meet
   case rel=>exact⟨i.o.1,HW.o.1.t (i.o.2.m HW.o.1.size),ag i.o.2 o5,HW.o.2.2.on i.o.2⟩
 case rest=>
 clear HW bd o0 o1 o2 o3 o4 o5 o6;obtain⟨ad,hb,n5,bl⟩:=hcut;obtain⟨x,y,b6,-⟩:=ao ad;rename_i s7;subst b6;have a7:=F2 wc (HH.o.1.below hb) (HH.o.2.1.below hb) (by omega);rw[ar]at a7;have HR:=ig ad hb n5 bl;clear ad hb n5 bl;go_wp2_with fail
 refine a7.m ?_;rintro e q ⟨rfl,b1⟩;have bp:Below w.heap.size w q:=HR.o.2.1.t (b1.m HR.o.2.1.size);have n5:=ag b1 HR.o.2.2.1;have⟨q0,q1,q2,q3,q4⟩:=HR.o.2.2.2.on b1;have HX:=bJ (HR.o.1.kept (aQ b1 N) (eh _)) bp;clear bp b1 HR a7;rcases be with⟨hn,hE⟩|⟨p,rfl,b8,bw,⟨hl,hE⟩|⟨hl,h3,hE⟩|⟨hl,h3,hE⟩⟩
 .simp only[nF]at hE;obtain⟨rfl,rfl,rfl,rfl⟩:=hE;obtain⟨ia,ic,ai,-⟩:=(HH.o.2.2.2.2 w PFr.refl).form;rw[lN]at ai;subst ai;have HC:Hid (∀r,Below q.drew.heap.size q.drew r->cW r (w.heap.size+1) (I K 7) (I K 0) (U ⟨#[]⟩) (M ia 0 ic) (U ⟨#[]⟩)/\Below w.heap.size w r):=λr D=>by
   have b:Below q.heap.size q r:=((bR _ q).drew).t D;exact⟨cW.on ⟨q0,q1,q2,q3,q4⟩ b,HX.o.2.t (b.m HX.o.2.size)⟩
  have HS:=eB ⟨7,0,⟨#[]⟩⟩ ia ic;have HN:=fx 7;unfold aG ii at HS;unfold aG at HN;rcases hn with hn|hn
  .go_upto_region 4 with fail
   go_region_with (first
    |(go_at_call 34;refine(HN _).m ?_;rintro e r ⟨rfl,D⟩;have⟨⟨d0,d1,d2,d3,d4⟩,G⟩:=HC.o r D;have i:Hid (Below w.heap.size w r):=G;clear D G)
    |(go_at_call 30;refine(HS _).m ?_;rintro e A ⟨rfl,b3⟩))
   all_goals
    go_wp2_with fail
    go_ret;have j:=i.o.t (b3.m i.o.size);exact fh.mk (HH.o.1.below j) (HH.o.2.1.below j) (HH.o.2.2.2.1.m (by omega)) (PFr.below af j)
  .have hn':¬nn<1:=by omega
   go_upto_region 4 with fail
   go_region_with (first
    |(go_at_call 34;refine(HN _).m ?_;rintro e r ⟨rfl,D⟩;have⟨⟨d0,d1,d2,d3,d4⟩,G⟩:=HC.o r D;have i:Hid (Below w.heap.size w r):=G;clear D G)
    |(go_at_call 30;refine(HS _).m ?_;rintro e A ⟨rfl,b3⟩))
   all_goals
    go_wp2_with fail
    go_ret;have j:=i.o.t (b3.m i.o.size);exact fh.mk (HH.o.1.below j) (HH.o.2.1.below j) (HH.o.2.2.2.1.m (by omega)) (PFr.below af j)
 .simp only[nF]at hE;obtain⟨rfl,rfl,rfl,rfl⟩:=hE;have bi:¬(p:dT)<1:=by omega
  have bo:¬(20:dT)<p:=by omega
  have bn:(pg.length:dT)<=p:=by omega
  have HS:=nU vi (M x pg.length y) pg q (HH.o.2.2.2.2 q (PFr.below af HX.o.2)) (po HX.o.1).o (by omega);go_wp2_with fail
  refine HS.m ?_;rintro e r ⟨rfl,D⟩;have j:=HX.o.2.t (D.m HX.o.2.size);have i:=aq j;have⟨d0,d1,d2,d3,d4⟩:=cW.on ⟨q0,q1,q2,q3,q4⟩ D;clear D j HS q0 q1 q2 q3 q4;go_wp2_with fail
  go_ret;exact fh.mk (HH.o.1.below i.o) (HH.o.2.1.below i.o) (HH.o.2.2.2.1.m (by omega)) (PFr.below af i.o)
 .simp only[nF]at hE;obtain⟨rfl,rfl,rfl,rfl⟩:=hE;obtain⟨ia,ic,ai,-⟩:=(HH.o.2.2.2.2 w PFr.refl).form;rw[lN]at ai;subst ai;have HC:Hid (∀r,Below q.drew.heap.size q.drew r->cW r (w.heap.size+1) (I K 8) (I K 0) (U ⟨#[]⟩) (M ia 0 ic) (U ⟨#[]⟩)/\Below w.heap.size w r):=λr D=>by
   have b:Below q.heap.size q r:=((bR _ q).drew).t D;exact⟨cW.on ⟨q0,q1,q2,q3,q4⟩ b,HX.o.2.t (b.m HX.o.2.size)⟩
  have HS:=eB ⟨8,0,⟨#[]⟩⟩ ia ic;have HN:=fx 8;unfold aG ii at HS;unfold aG at HN;have bi:¬(p:dT)<1:=by omega
  have bo:¬(20:dT)<p:=by omega
  have bn:¬(NA.length:dT)<=p:=by omega
  have b4:(3:dT)<=L'.opened.length:=by omega
  go_upto_region 9 with fail
  go_region_with (first
   |(go_at_call 34;refine(HN _).m ?_;rintro e r ⟨rfl,D⟩;have⟨⟨d0,d1,d2,d3,d4⟩,G⟩:=HC.o r D;have i:Hid (Below w.heap.size w r):=G;clear D G)
   |(go_at_call 30;refine(HS _).m ?_;rintro e A ⟨rfl,b3⟩))
  all_goals
   go_wp2_with fail
   go_ret;have j:=i.o.t (b3.m i.o.size);exact fh.mk (HH.o.1.below j) (HH.o.2.1.below j) (HH.o.2.2.2.1.m (by omega)) (PFr.below af j)
 .simp only[nF]at hE;obtain⟨rfl,rfl,rfl,rfl⟩:=hE;have bi:¬(p:dT)<1:=by omega
  have bo:¬(20:dT)<p:=by omega
  have bn:¬(NA.length:dT)<=p:=by omega
  have b4:¬(3:dT)<=L.opened.length:=by omega
  have⟨i0,b7,ca,cc,bx⟩:=info_parts Yq.Pv;obtain⟨va,vc,cl,-⟩:=ao HH.o.2.1.NZ;subst cl;have P1:=HH.o.2.1.below HX.o.2;have c3:=P1.c3;have hBw:B<=q.heap.size:=by have:=HX.o.2.size;omega
  have a0:Hid (∀X:Obj,(q.alloc X).ownsRow B 141 4 (M va P.length vc) P.length (d9 P)):=λX=>P1.NZ.alloc X
  have ck:(q.alloc (E #[M x NA.length y,I K p,I K 0,C Z] 141)).cell? ⟨k,3,N⟩=J (M va P.length vc):=ag ((Q9).alloc Q0 _) c3;have ac:Hid (∀A:Wj,(q.alloc (E #[M x NA.length y,I K p,I K 0,C Z] 141)).grownBy A (kr va P.length vc).ownBlock->A.cell? ⟨k,3,N⟩=J (M va P.length vc)/\A.frozen? ⟨k,3,N⟩=Z):=λA V=>by
   have P2:=P1.below ((Q9).alloc Q0 (E #[M x NA.length y,I K p,I K 0,C Z] 141));exact⟨V.cell P2.c3 (λe=>P2.kL e.s),(bD V ⟨k,3,N⟩ P2.lt (λe=>P2.kL e.s)).t (P2.fz 3)⟩
  have a2:Hid (∀ (g d:H) (A:Wj),A.ownsRow B 141 4 (M (J ⟨g,0,N⟩) (P.length+1) d) (P.length+1) (d9 P++[M x NA.length y,I K p,I K 0,C Z])->(q.alloc (E #[M x NA.length y,I K p,I K 0,C Z] 141)).grownBy A (kr va P.length vc).ownBlock->((kr va P.length vc).ownBlock=J g\/g=q.heap.size+1) ->
    aD B (A.setCell ⟨k,3,N⟩ (M (J ⟨g,0,N⟩) (P.length+1) d)) k sl R nx tm/\aH B (A.setCell ⟨k,3,N⟩ (M (J ⟨g,0,N⟩) (P.length+1) d)) k (P++[⟨NA,M x NA.length y,p,0,Z⟩]) T (M (J ⟨g,0,N⟩) (P.length+1) d) vT/\PFr B k (RwB sl R) w (A.setCell ⟨k,3,N⟩ (M (J ⟨g,0,N⟩) (P.length+1) d)) /\
    cW (A.setCell ⟨k,3,N⟩ (M (J ⟨g,0,N⟩) (P.length+1) d)) (w.heap.size+1) (I K 0) (I K 0) (U ⟨#[]⟩) vi (U (ff (L.begun+1) 2))):=λg d A bb V a8=>by
   have cb:Below w.heap.size w (q.alloc (E #[M x NA.length y,I K p,I K 0,C Z] 141)):=HX.o.2.alloc HX.o.2.size _;have a5:=bC q _ q0;simp only at a5;obtain⟨Y1,Y2,Y3⟩:=HH.o.2.1.QT (l:=⟨NA,M x NA.length y,p,0,Z⟩) HH.o.1 HH.o.2.2.1 cb ((Bg HX.o.1 (by omega)).alloc _) (λe=>by have:=(HX.o.1.lt k e).1;omega) bb V (by
    rcases a8 with h|h
    .exact Rf h
    .exact Rg (by have:=HX.o.2.size;omega))
   refine⟨Y1,Y2,Y3,cW.block ⟨q0,q1,q2,q3,q4⟩ ?_⟩;refine(Ra (show w.heap.size+1≠k by omega)).t ?_;refine(V.block (w.heap.size+1) (by simp;omega) (λe=>?_)).t (Rb a5);have:=(HH.o.2.1.NZ.lt _ e.s).2;omega
  go_upto_region 10 with fail
  go_cut [17,29,60,76] (λ_ _ _ _ wx=>∃g d,aD B wx k sl R nx tm/\aH B wx k (P++[⟨NA,M x NA.length y,p,0,Z⟩]) T (M (J ⟨g,0,N⟩) (P.length+1) d) vT/\PFr B k (RwB sl R) w wx/\cW wx (w.heap.size+1) (I K 0) (I K 0) (U ⟨#[]⟩) vi (U (ff (L.begun+1) 2)))
  case first=>
   go_region_law (refine step_append_lies _ Q _ _ 59 Q B 141 i0 _ 4 48 (Yq.u underlying59) b7 ca cc bx Q (by decide) (M va P.length vc) P.length (d9 P) (by simp[Act.eval]) (a0.o _) ⟨q.heap.size,0,N⟩ 1 1 [M x NA.length y,I K p,I K 0,C Z] (by simp[Act.eval]) Q (sU q _ _ _ _ _) (by simp[lk]) (by omega) (by simp only[maxLen];omega) (by omega) (by simp;omega) (q.heap.size+1) (by simp) ?_;intro g d A bb F a8 hlt3;have V:(q.alloc (E #[M x NA.length y,I K p,I K 0,C Z] 141)).grownBy A (kr va P.length vc).ownBlock:=⟨F.os,F.tape,F.output,F.size,F.block⟩;have⟨y0,y1⟩:=ac.o A V)
   all_goals
    go_wp2_with fail
    go_meet
    case rel=>exact⟨g,d,a2.o g d A bb V a8⟩
  case rest=>
  clear a2 ac a0 ck c3 q0 q1 q2 q3 q4;obtain⟨g,d,Y1,Y2,Y3,⟨q0,q1,q2,q3,q4⟩⟩:=hcut;have c3:=Y2.c3;have a9:P.length<(P++[(⟨NA,M x NA.length y,p,0,Z⟩:PlL)]).length:=by simp
  have hx:(P++[(⟨NA,M x NA.length y,p,0,Z⟩:PlL)])[P.length]'a9=⟨NA,M x NA.length y,p,0,Z⟩:=by simp
  have a3:ff (L.begun+1) 2=ff ((P.length+1:H):dT) ((1+1:H):dT):=by rw[HH.o.2.2.2.1.begun];rfl
  have aa:=sR wc.drew (Y1.below (Q9).drew) (Y2.below (Q9).drew) bk ⟨by simp;omega,by omega⟩ ⟨b5.2.1,by omega⟩ P.length 0 a9 (by rw[hx];simp only;omega) vi (ff (L.begun+1) 2) (λw' hf=>by
   rw[hx];simp only[zA,tb,Nat.zero_mul,List.drop_zero];exact HH.o.2.2.2.2 w' ((Y3.t (PFr.below Y2.lt (Q9).drew)).t hf)) (by
   rw[hx];simp only[zA,tb];rw[gL hl];exact⟨pq _ _,by rw[a3];exact HH.o.2.2.2.1.token P.length 1⟩)
  rw[hx]at aa;simp only[zA,tb]at aa;rw[gL hl,km a9,hx]at aa;have HY:=aq (Y3.t (PFr.below Y2.lt (Q9).drew));have a4:(P++[(⟨NA,M x NA.length y,p,0,Z⟩:PlL)]).set P.length ⟨NA,M x NA.length y,p,tm+10,Z⟩=P++[⟨NA,M x NA.length y,p,tm+10,Z⟩]:=by
   rw[List.set_append_right _ _ Q0,Nat.sub_self];rfl
  simp only[a4]at aa;have hP1:(P++[(⟨NA,M x NA.length y,p,0,Z⟩:PlL)]).length=P.length+1:=by simp
  clear hx a3 a4 Y1 Y2 Y3;unfold Ly at aa;rw[show((0:H):dT)=0 from Q,<-wrap_small (P.length:dT) (by omega) (by omega)]at aa
  go_upto_region 11 with fail
  go_region_with (go_at_call 65;refine aa.m ?_;rintro e w4 ⟨rfl,cj,cm,Z1,Z2,Z3⟩;have HZ:Hid (aD B w4 k sl R nx tm/\aH B w4 k (P++[⟨NA,M x NA.length y,p,tm+10,Z⟩]) (T++[⟨ff (L.begun+1) 2,P.length,1⟩]) cj cm/\PFr B k (RwB sl R) w w4):=⟨Z1,Z2,HY.o.t Z3⟩;clear Z1 Z2 Z3)
  all_goals
   go_wp2_with fail
   go_ret;exact fh.mk HZ.o.1 HZ.o.2.1 (b9.o _ p ⟨b8,bw⟩ hl) HZ.o.2.2
end
