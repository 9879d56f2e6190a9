/- A part. -/
import Derived.Test.YthnlbojplkflaaaGreatDoorQP11
set_option maxHeartbeats 4000000
set_option maxRecDepth 100000
open Go renaming World->Wj,Value->Wx
namespace Go.Proofs.Qw
open _root_ renaming rfl->Q
open _root_ renaming Nat->H,List->S
open Option renaming none->N,some->J
open Bool renaming true->Y
open Value renaming int->I,string->U,slice->M,pointer->O,bool->C
open IntKind renaming i64->K
open Obj renaming cells->E
open Ending renaming returned->Rc
open Tryz
section
open Go.RowKit
def xI(B k:H)(c:St)(w:Wj)(sl:Wx)(R:S bz)(tm:Int)(e:Ending)(w':Wj):Prop:=
 e=Rc (C Y)/\∃b R' a,aD B w' k b R' a tm/\Sim c R' a/\bU w w' k sl R b R'
theorem zE B k t R nx L p o(x:Do)s u w(b:aD B w k t R nx L)(h:1<=o.kind/\o.kind<=5)
  (HK:∀P,Below w.heap.size w P->Calls Yq.prog 31 #[O (J ⟨k,0,N⟩),aL o] P (cP B k p x P t R L)):
  Calls Yq.prog 12 #[O (J ⟨k,0,N⟩),aL o,ii x s u] w (xI B k p w t R L):=by
 obtain⟨c,n,i,T,l,V,r⟩:=o;obtain⟨G,A,v⟩:=x;simp only at h;have hk:c=1\/c=2\/c=3\/c=4\/c=5:=by omega
 have y:=aq HK;have z:Hid (Below w.heap.size w ((w.alloc (E #[I K c,U n,U i,U T,U l,I K V,I K r] 37)).alloc (E #[I K G,I K A,U v,M s 0 u,U ⟨#[]⟩] 53)).drew):=
  (((bR _ w).alloc Q0 _).alloc (by simp) _).drew
 have HA:Hid (∀f d R',bU ((w.alloc (E #[I K c,U n,U i,U T,U l,I K V,I K r] 37)).alloc (E #[I K G,I K A,U v,M s 0 u,U ⟨#[]⟩] 53)).drew f k t R d R' ->
   (f.cell? ⟨w.heap.size+1,0,N⟩=J (I K G)/\f.cell? ⟨w.heap.size+1,1,N⟩=J (I K A)/\f.cell? ⟨w.heap.size+1,2,N⟩=J (U v)/\f.cell? ⟨w.heap.size+1,3,N⟩=J (M s 0 u)/\f.cell? ⟨w.heap.size+1,4,N⟩=J (U ⟨#[]⟩))/\bU w f k t R d R'):=by
  intro f d R' F;have⟨o1,o2,o3⟩:=b.old (x:=w.heap.size+1) (by omega);have D:∀j,f.cell? ⟨w.heap.size+1,j,N⟩=(#[I K G,I K A,U v,M s 0 u,U ⟨#[]⟩]:Array Wx)[j]?:=λj=>by
   rw[cB (a:=⟨w.heap.size+1,j,N⟩) (F.block (w.heap.size+1) (by simp[World.drew]) o1 o2 o3)];exact cA (w:=w.alloc (E #[I K c,U n,U i,U T,U l,I K V,I K r] 37)) _ _ (w.heap.size+1) j (by simp)
  exact⟨⟨D 0,D 1,D 2,D 3,D 4⟩,bU.after z.o b.lt F⟩
 have HS:=eB ⟨G,A,v⟩ s u;clear b HK h;unfold xI;simp only[aL,aG,ii]at HS ⊢;simp only[aL]at y;rcases hk with rfl|rfl|rfl|rfl|rfl <;>
 .go_enter (Yq.nq func12),ntmps12;go_wp2_with fail
  go_region_with (first
   |(go_at_call 31;refine(y.o _ z.o).m ?_;rintro e f ⟨rfl,d,R',q,H',S',F⟩;have⟨⟨d0,d1,d2,d3,d4⟩,F'⟩:=HA.o f d R' F;have HE:Hid (aD B f k d R' q L/\Sim p R' q/\bU w f k t R d R'):=⟨H',S',F'⟩;clear H' S' F F')
   |(go_at_call 30;refine(HS _).m ?_;rintro e w3 ⟨rfl,X⟩))
  all_goals
   go_wp2;go_ret;exact⟨Q,d,R',q,HE.o.1.below X,HE.o.2.1,HE.o.2.2.below X HE.o.1.lt⟩
theorem zF B k F R G V T o r s w(b:aD B w k F R G V)(c:Sim T R G)(l:o.kind<1\/12<o.kind):
  Calls Yq.prog 12 #[O (J ⟨k,0,N⟩),aL o,ii ⟨1,0,⟨#[]⟩⟩ r s] w (xI B k T w F R V):=by
 obtain⟨d,n,f,z,h,A,p⟩:=o;simp only at l;have b1:(d==1)=false:=by simp;omega
 have b2:(d==2)=false:=by simp;omega
 have P:(d==3)=false:=by simp;omega
 have b4:(d==4)=false:=by simp;omega
 have b5:(d==5)=false:=by simp;omega
 have b6:(d==6)=false:=by simp;omega
 have b7:(d==7)=false:=by simp;omega
 have b8:(d==8)=false:=by simp;omega
 have b9:(d==9)=false:=by simp;omega
 have b10:(d==10)=false:=by simp;omega
 have b11:(d==11)=false:=by simp;omega
 have b12:(d==12)=false:=by simp;omega
 have D:=b.lt;have HH:=bJ b c;have HA:Hid (∀i,Below ((w.alloc (E #[I K d,U n,U f,U z,U h,I K A,I K p] 37)).alloc (E #[I K 1,I K 0,U ⟨#[]⟩,M r 0 s,U ⟨#[]⟩] 53)).drew.heap.size ((w.alloc (E #[I K d,U n,U f,U z,U h,I K A,I K p] 37)).alloc (E #[I K 1,I K 0,U ⟨#[]⟩,M r 0 s,U ⟨#[]⟩] 53)).drew i ->
   (i.cell? ⟨w.heap.size+1,0,N⟩=J (I K 1)/\i.cell? ⟨w.heap.size+1,1,N⟩=J (I K 0)/\i.cell? ⟨w.heap.size+1,2,N⟩=J (U ⟨#[]⟩)/\i.cell? ⟨w.heap.size+1,3,N⟩=J (M r 0 s)/\i.cell? ⟨w.heap.size+1,4,N⟩=J (U ⟨#[]⟩))/\Below w.heap.size w i):=by
  intro i L;have u:Below w.heap.size w ((w.alloc (E #[I K d,U n,U f,U z,U h,I K A,I K p] 37)).alloc (E #[I K 1,I K 0,U ⟨#[]⟩,M r 0 s,U ⟨#[]⟩] 53)).drew:=
   (((bR _ w).alloc Q0 _).alloc (by simp) _).drew
  have y:∀j,i.cell? ⟨w.heap.size+1,j,N⟩=(#[I K 1,I K 0,U ⟨#[]⟩,M r 0 s,U ⟨#[]⟩]:Array Wx)[j]?:=λj=>by
   rw[cB (a:=⟨w.heap.size+1,j,N⟩) (L.block (w.heap.size+1) (by simp[World.drew]))];exact cA (w:=w.alloc (E #[I K d,U n,U f,U z,U h,I K A,I K p] 37)) _ _ (w.heap.size+1) j (by simp)
  exact⟨⟨y 0,y 1,y 2,y 3,y 4⟩,u.t (L.m u.size)⟩
 have HS:=eB ⟨1,0,⟨#[]⟩⟩ r s;have HN:=fx 1;clear b c l;unfold xI;simp only[aL,aG,ii]at HS HN ⊢;go_enter (Yq.nq func12),ntmps12;go_wp2_with fail
 go_region_with (first
  |(go_at_call 34;refine(HN _).m ?_;rintro e i ⟨rfl,v⟩;have⟨⟨d0,d1,d2,d3,d4⟩,q⟩:=HA.o i v;have HE:Hid (Below w.heap.size w i):=q;clear v q)
  |(go_at_call 30;refine(HS _).m ?_;rintro e w3 ⟨rfl,P⟩))
 all_goals
  go_wp2;go_ret;have x:=HE.o.t (P.m HE.o.size);exact⟨Q,F,R,G,HH.o.1.below x,HH.o.2,cw D x _ _⟩
end
