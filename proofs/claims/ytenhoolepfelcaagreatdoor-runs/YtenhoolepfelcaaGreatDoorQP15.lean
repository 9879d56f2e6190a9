/- A part. -/
import Derived.Test.YtenhoolepfelcaaGreatDoorQP11
set_option maxHeartbeats 4000000
set_option maxRecDepth 100000
open Go renaming World->Wj,Value->Wx
namespace Go.Proofs.Qw
open _root_ renaming rfl->Q
open _root_ renaming Nat->H,List->S
open Option renaming none->N,some->J
open Bool renaming true->Y
open Value renaming int->I,string->U,slice->M,pointer->O,bool->C
open IntKind renaming i64->K
open Obj renaming cells->E
open Ending renaming returned->Nm
open Tryz
section
open Go.RowKit
def wP(B k:H)(c:St)(w:Wj)(sl:Wx)(R:S bg)(tm:Int)(e:Ending)(w':Wj):Prop:=
 e=Nm (C Y)/\∃b R' a,aA B w' k b R' a tm/\Sim c R' a/\bm w w' k sl R b R'
theorem yR B k t R nx L p o(x:Cu)v A w(b:aA B w k t R nx L)(l:1<=o.kind/\o.kind<=5)
  (HK:∀r,Below w.heap.size w r->Calls Yq.prog 27 #[O (J ⟨k,0,N⟩),aJ o] r (cy B k p x r t R L)):
  Calls Yq.prog 9 #[O (J ⟨k,0,N⟩),aJ o,gC x v A] w (wP B k p w t R L):=by
 obtain⟨c,n,f,T,h,V,q⟩:=o;obtain⟨z,y,u⟩:=x;simp only at l;have hk:c=1\/c=2\/c=3\/c=4\/c=5:=by omega
 have D:Hid (∀r,Below w.heap.size w r->Calls Yq.prog 27 #[O (J ⟨k,0,N⟩),aJ ⟨c,n,f,T,h,V,q⟩] r (cy B k p ⟨z,y,u⟩ r t R L)):=HK;have X:=b.lt;have G:Hid (Below w.heap.size w ((w.alloc (E #[I K c,U n,U f,U T,U h,I K V,I K q] 30)).alloc (E #[I K z,I K y,U u,M v 0 A,U ⟨#[]⟩] 46)).drew):=
  (((bR _ w).alloc (lR _) _).alloc (by simp) _).drew
 have HA:Hid (∀i d R',bm ((w.alloc (E #[I K c,U n,U f,U T,U h,I K V,I K q] 30)).alloc (E #[I K z,I K y,U u,M v 0 A,U ⟨#[]⟩] 46)).drew i k t R d R' ->
   (i.cell? ⟨w.heap.size+1,0,N⟩=J (I K z)/\i.cell? ⟨w.heap.size+1,1,N⟩=J (I K y)/\i.cell? ⟨w.heap.size+1,2,N⟩=J (U u)/\i.cell? ⟨w.heap.size+1,3,N⟩=J (M v 0 A)/\i.cell? ⟨w.heap.size+1,4,N⟩=J (U ⟨#[]⟩))/\bm w i k t R d R'):=by
  intro i d R' F;have⟨o1,o2,o3⟩:=b.old (x:=w.heap.size+1) (by omega);have hb:=F.block (w.heap.size+1) (by simp[World.drew]) o1 o2 o3;have P:∀j,i.cell? ⟨w.heap.size+1,j,N⟩=(#[I K z,I K y,U u,M v 0 A,U ⟨#[]⟩]:Array Wx)[j]?:=λj=>by
   rw[cB (a:=⟨w.heap.size+1,j,N⟩) hb];exact cA (w:=w.alloc (E #[I K c,U n,U f,U T,U h,I K V,I K q] 30)) _ _ (w.heap.size+1) j (by simp)
  exact⟨⟨P 0,P 1,P 2,P 3,P 4⟩,bm.after G.o X F⟩
 have HS:=em ⟨z,y,u⟩ v A;clear b HK l;unfold wP;simp only[aJ,aG,gC]at HS ⊢;simp only[aJ]at D;rcases hk with rfl|rfl|rfl|rfl|rfl <;>
 .go_enter (Yq.nq func9),ntmps9;go_wp2_with fail
  go_region_with (first
   |(go_at_call 27;refine(D.o _ G.o).m ?_;rintro e i ⟨rfl,d,R',s,H',S',F⟩;have⟨⟨d0,d1,d2,d3,d4⟩,F'⟩:=HA.o i d R' F;have HE:Hid (aA B i k d R' s L/\Sim p R' s/\bm w i k t R d R'):=⟨H',S',F'⟩;clear H' S' F F')
   |(go_at_call 26;refine(HS _).m ?_;rintro e w3 ⟨rfl,b3⟩))
  all_goals
   go_wp2;go_ret;exact⟨Q,d,R',s,HE.o.1.below b3,HE.o.2.1,HE.o.2.2.below b3 HE.o.1.lt⟩
theorem yS B k D R z T P o r s w(b:aA B w k D R z T)(c:Sim P R z)(l:o.kind<1\/12<o.kind):
  Calls Yq.prog 9 #[O (J ⟨k,0,N⟩),aJ o,gC ⟨1,0,⟨#[]⟩⟩ r s] w (wP B k P w D R T):=by
 obtain⟨d,n,f,A,h,F,p⟩:=o;simp only at l;have b1:(d==1)=false:=by simp;omega
 have b2:(d==2)=false:=by simp;omega
 have X:(d==3)=false:=by simp;omega
 have b4:(d==4)=false:=by simp;omega
 have b5:(d==5)=false:=by simp;omega
 have b6:(d==6)=false:=by simp;omega
 have b7:(d==7)=false:=by simp;omega
 have b8:(d==8)=false:=by simp;omega
 have b9:(d==9)=false:=by simp;omega
 have b10:(d==10)=false:=by simp;omega
 have b11:(d==11)=false:=by simp;omega
 have b12:(d==12)=false:=by simp;omega
 have L:=b.lt;have HH:Hid (aA B w k D R z T/\Sim P R z):=⟨b,c⟩;have HA:Hid (∀i,Below ((w.alloc (E #[I K d,U n,U f,U A,U h,I K F,I K p] 30)).alloc (E #[I K 1,I K 0,U ⟨#[]⟩,M r 0 s,U ⟨#[]⟩] 46)).drew.heap.size ((w.alloc (E #[I K d,U n,U f,U A,U h,I K F,I K p] 30)).alloc (E #[I K 1,I K 0,U ⟨#[]⟩,M r 0 s,U ⟨#[]⟩] 46)).drew i ->
   (i.cell? ⟨w.heap.size+1,0,N⟩=J (I K 1)/\i.cell? ⟨w.heap.size+1,1,N⟩=J (I K 0)/\i.cell? ⟨w.heap.size+1,2,N⟩=J (U ⟨#[]⟩)/\i.cell? ⟨w.heap.size+1,3,N⟩=J (M r 0 s)/\i.cell? ⟨w.heap.size+1,4,N⟩=J (U ⟨#[]⟩))/\Below w.heap.size w i):=by
  intro i V;have u:Below w.heap.size w ((w.alloc (E #[I K d,U n,U f,U A,U h,I K F,I K p] 30)).alloc (E #[I K 1,I K 0,U ⟨#[]⟩,M r 0 s,U ⟨#[]⟩] 46)).drew:=
   (((bR _ w).alloc (lR _) _).alloc (by simp) _).drew
  have G:=V.block (w.heap.size+1) (by simp[World.drew]);have y:∀j,i.cell? ⟨w.heap.size+1,j,N⟩=(#[I K 1,I K 0,U ⟨#[]⟩,M r 0 s,U ⟨#[]⟩]:Array Wx)[j]?:=λj=>by
   rw[cB (a:=⟨w.heap.size+1,j,N⟩) G];exact cA (w:=w.alloc (E #[I K d,U n,U f,U A,U h,I K F,I K p] 30)) _ _ (w.heap.size+1) j (by simp)
  exact⟨⟨y 0,y 1,y 2,y 3,y 4⟩,u.t (V.m u.size)⟩
 have HS:=em ⟨1,0,⟨#[]⟩⟩ r s;have HN:=fk 1;clear b c l;unfold wP;simp only[aJ,aG,gC]at HS HN ⊢;go_enter (Yq.nq func9),ntmps9;go_wp2_with fail
 go_region_with (first
  |(go_at_call 30;refine(HN _).m ?_;rintro e i ⟨rfl,v⟩;have⟨⟨d0,d1,d2,d3,d4⟩,q⟩:=HA.o i v;have HE:Hid (Below w.heap.size w i):=q;clear v q)
  |(go_at_call 26;refine(HS _).m ?_;rintro e w3 ⟨rfl,X⟩))
 all_goals
  go_wp2;go_ret;have x:=HE.o.t (X.m HE.o.size);exact⟨Q,D,R,z,HH.o.1.below x,HH.o.2,bX L x _ _⟩
end
