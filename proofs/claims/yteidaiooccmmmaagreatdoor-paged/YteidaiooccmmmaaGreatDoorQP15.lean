/- A part. -/
import Derived.Test.YteidaiooccmmmaaGreatDoorQP11
set_option maxHeartbeats 4000000
set_option maxRecDepth 100000
open Go renaming World->Wj,Value->Wx
namespace Go.Proofs.Qw
open Option renaming none->N,some->J
open Bool renaming true->Y
open Value renaming int->I,string->U,slice->M,pointer->O,bool->C
open IntKind renaming i64->K
open Obj renaming cells->E
open Tryz
section
open Go.RowKit
def uA(B k:Nat)(c:St)(w:Wj)(sl:Wx)(R:List bD)(tm:Int)(e:Ending)(w':Wj):Prop:=
 e=.returned (C Y)/\∃b R' a,ax B w' k b R' a tm/\Sim c R' a/\bu w w' k sl R
theorem wF(B k:Nat)(r:Wx)(R:List bD)(nx D:Int)(m:St)(o:OpD)(x:Ax)(t:Option Addr)(y:Nat)(w:Wj)(H:ax B w k r R nx D)(i:1<=o.kind/\o.kind<=5)
  (HK:∀p,Below w.heap.size w p->Calls Yq.prog 27 #[O (J ⟨k,0,N⟩),aT o] p (bQ B k m x p r R D)):
  Calls Yq.prog 9 #[O (J ⟨k,0,N⟩),aT o,jy x t y] w (uA B k m w r R D):=by
 obtain⟨b,l,d,c,f,P,n⟩:=o;obtain⟨v,u,s⟩:=x;simp only at i;have X:b=1\/b=2\/b=3\/b=4\/b=5:=by omega
 have z:Hid (∀p,Below w.heap.size w p->Calls Yq.prog 27 #[O (J ⟨k,0,N⟩),aT ⟨b,l,d,c,f,P,n⟩] p (bQ B k m ⟨v,u,s⟩ p r R D)):=HK;have Q:=H.lt;have A:Hid (Below w.heap.size w ((w.alloc (E #[I K b,U l,U d,U c,U f,I K P,I K n] 30)).alloc (E #[I K v,I K u,U s,M t 0 y,U ⟨#[]⟩] 46)).drew):=
  (((bR _ w).alloc (lR _) _).alloc (by simp) _).drew
 have HA:Hid (∀h,bu ((w.alloc (E #[I K b,U l,U d,U c,U f,I K P,I K n] 30)).alloc (E #[I K v,I K u,U s,M t 0 y,U ⟨#[]⟩] 46)).drew h k r R ->
   (h.cell? ⟨w.heap.size+1,0,N⟩=J (I K v)/\h.cell? ⟨w.heap.size+1,1,N⟩=J (I K u)/\h.cell? ⟨w.heap.size+1,2,N⟩=J (U s)/\h.cell? ⟨w.heap.size+1,3,N⟩=J (M t 0 y)/\h.cell? ⟨w.heap.size+1,4,N⟩=J (U ⟨#[]⟩))/\bu w h k r R):=by
  intro h F;have⟨o1,o2,T⟩:=H.old (x:=w.heap.size+1) (by omega);have V:=F.block (w.heap.size+1) (by simp[World.drew]) o1 o2 T;have L:∀j,h.cell? ⟨w.heap.size+1,j,N⟩=(#[I K v,I K u,U s,M t 0 y,U ⟨#[]⟩]:Array Wx)[j]?:=λj=>by
   rw[cB (a:=⟨w.heap.size+1,j,N⟩) V];exact cA (w:=w.alloc (E #[I K b,U l,U d,U c,U f,I K P,I K n] 30)) _ _ (w.heap.size+1) j (by simp)
  exact⟨⟨L 0,L 1,L 2,L 3,L 4⟩,bu.after A.out Q F⟩
 have HS:=eM ⟨v,u,s⟩ t y;clear H HK i;unfold uA;simp only[aT,aD,jy]at HS ⊢;simp only[aT]at z;rcases X with rfl|rfl|rfl|rfl|rfl <;>
 .go_enter (Yq.nq func9),ntmps9;go_wp2_with fail
  go_region_with (first
   |(go_at_call 27;refine(z.out _ A.out).mono ?_;rintro e h ⟨rfl,G,R',q,H',S',F⟩;have⟨⟨d0,d1,d2,d3,d4⟩,F'⟩:=HA.out h F;have HE:Hid (ax B h k G R' q D/\Sim m R' q/\bu w h k r R):=⟨H',S',F'⟩;clear H' S' F F')
   |(go_at_call 26;refine(HS _).mono ?_;rintro e w3 ⟨rfl,S⟩))
  all_goals
   go_wp2;go_ret;exact⟨rfl,G,R',q,HE.out.1.below S,HE.out.2.1,HE.out.2.2.below S HE.out.1.lt⟩
theorem wG(B k:Nat)(x:Wx)(R:List bD)(v F:Int)(D:St)(o:OpD)(p:Option Addr)(q:Nat)(w:Wj)(H:ax B w k x R v F)(S:Sim D R v)(i:o.kind<1\/12<o.kind):
  Calls Yq.prog 9 #[O (J ⟨k,0,N⟩),aT o,jy ⟨1,0,⟨#[]⟩⟩ p q] w (uA B k D w x R F):=by
 obtain⟨b,l,d,c,f,y,m⟩:=o;simp only at i;have b1:(b==1)=false:=by simp;omega
 have b2:(b==2)=false:=by simp;omega
 have L:(b==3)=false:=by simp;omega
 have b4:(b==4)=false:=by simp;omega
 have b5:(b==5)=false:=by simp;omega
 have b6:(b==6)=false:=by simp;omega
 have b7:(b==7)=false:=by simp;omega
 have b8:(b==8)=false:=by simp;omega
 have b9:(b==9)=false:=by simp;omega
 have b10:(b==10)=false:=by simp;omega
 have b11:(b==11)=false:=by simp;omega
 have b12:(b==12)=false:=by simp;omega
 have A:=H.lt;have HH:Hid (ax B w k x R v F/\Sim D R v):=⟨H,S⟩;have HA:Hid (∀h,Below ((w.alloc (E #[I K b,U l,U d,U c,U f,I K y,I K m] 30)).alloc (E #[I K 1,I K 0,U ⟨#[]⟩,M p 0 q,U ⟨#[]⟩] 46)).drew.heap.size ((w.alloc (E #[I K b,U l,U d,U c,U f,I K y,I K m] 30)).alloc (E #[I K 1,I K 0,U ⟨#[]⟩,M p 0 q,U ⟨#[]⟩] 46)).drew h ->
   (h.cell? ⟨w.heap.size+1,0,N⟩=J (I K 1)/\h.cell? ⟨w.heap.size+1,1,N⟩=J (I K 0)/\h.cell? ⟨w.heap.size+1,2,N⟩=J (U ⟨#[]⟩)/\h.cell? ⟨w.heap.size+1,3,N⟩=J (M p 0 q)/\h.cell? ⟨w.heap.size+1,4,N⟩=J (U ⟨#[]⟩))/\Below w.heap.size w h):=by
  intro h G;have r:Below w.heap.size w ((w.alloc (E #[I K b,U l,U d,U c,U f,I K y,I K m] 30)).alloc (E #[I K 1,I K 0,U ⟨#[]⟩,M p 0 q,U ⟨#[]⟩] 46)).drew:=
   (((bR _ w).alloc (lR _) _).alloc (by simp) _).drew
  have z:=G.block (w.heap.size+1) (by simp[World.drew]);have u:∀j,h.cell? ⟨w.heap.size+1,j,N⟩=(#[I K 1,I K 0,U ⟨#[]⟩,M p 0 q,U ⟨#[]⟩]:Array Wx)[j]?:=λj=>by
   rw[cB (a:=⟨w.heap.size+1,j,N⟩) z];exact cA (w:=w.alloc (E #[I K b,U l,U d,U c,U f,I K y,I K m] 30)) _ _ (w.heap.size+1) j (by simp)
  exact⟨⟨u 0,u 1,u 2,u 3,u 4⟩,r.trans (G.mono r.size)⟩
 have HS:=eM ⟨1,0,⟨#[]⟩⟩ p q;have HN:=eF 1;clear H S i;unfold uA;simp only[aT,aD,jy]at HS HN ⊢;go_enter (Yq.nq func9),ntmps9;go_wp2_with fail
 go_region_with (first
  |(go_at_call 30;refine(HN _).mono ?_;rintro e h ⟨rfl,s⟩;have⟨⟨d0,d1,d2,d3,d4⟩,n⟩:=HA.out h s;have HE:Hid (Below w.heap.size w h):=n;clear s n)
  |(go_at_call 26;refine(HS _).mono ?_;rintro e w3 ⟨rfl,L⟩))
 all_goals
  go_wp2;go_ret;have t:=HE.out.trans (L.mono HE.out.size);exact⟨rfl,x,R,v,HH.out.1.below t,HH.out.2,bI A t _ _⟩
end
