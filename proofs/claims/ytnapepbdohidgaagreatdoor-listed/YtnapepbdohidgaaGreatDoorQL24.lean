/- A part. -/
import Derived.Test.YtnapepbdohidgaaGreatDoorQL20
set_option maxHeartbeats 4000000
set_option maxRecDepth 100000
open Go renaming World->Wj,Value->Wx
namespace Go.Proofs.Qw
open Tryz
section
open Go.RowKit
def te (B k:Nat)(b:St)(w:Wj)(sl:Wx)(R:List br)(tm:Int)(e:Ending)(w':Wj):Prop:=
 e=.returned (.bool true)/\∃sl' R' a,ax B w' k sl' R' a tm/\Sim b R' a/\bg w w' k sl R
theorem uV (B k:Nat)(sl:Wx)(R:List br)(nx tm:Int)(i:St)(o:OpD)(x:yU)(r:Option Addr)(p:Nat)(w:Wj)(H:ax B w k sl R nx tm)(f:1<=o.kind/\o.kind<=5)
  (HK:∀w1,Below w.heap.size w w1->Calls Yq.prog 52 #[.pointer (some ⟨k,0,none⟩),bh o] w1 (bL B k i x w1 sl R tm)):
  Calls Yq.prog 34 #[.pointer (some ⟨k,0,none⟩),bh o,qx x r p] w (te B k i w sl R tm):=by
 obtain ⟨b,key,body,c,d,u,h⟩:=o;obtain ⟨n,m,q⟩:=x;simp only at f;have hk:b=1\/b=2\/b=3\/b=4\/b=5:=by omega
 have s:Hid (∀w1,Below w.heap.size w w1->Calls Yq.prog 52 #[.pointer (some ⟨k,0,none⟩),bh ⟨b,key,body,c,d,u,h⟩] w1 (bL B k i ⟨n,m,q⟩ w1 sl R tm)):=HK;have hkw:=H.lt;have t:Hid (Below w.heap.size w ((w.alloc (.cells #[.int .i64 b,.string key,.string body,.string c,.string d,.int .i64 u,.int .i64 h] 31)).alloc (.cells #[.int .i64 n,.int .i64 m,.string q,.slice r 0 p,.string ⟨#[]⟩] 36)).drew):=
  (((bR _ w).alloc (lR _) _).alloc (by simp) _).drew
 have HA:Hid (∀w2,bg ((w.alloc (.cells #[.int .i64 b,.string key,.string body,.string c,.string d,.int .i64 u,.int .i64 h] 31)).alloc (.cells #[.int .i64 n,.int .i64 m,.string q,.slice r 0 p,.string ⟨#[]⟩] 36)).drew w2 k sl R ->
   (w2.cell? ⟨w.heap.size+1,0,none⟩=some (.int .i64 n)/\w2.cell? ⟨w.heap.size+1,1,none⟩=some (.int .i64 m)/\w2.cell? ⟨w.heap.size+1,2,none⟩=some (.string q)/\w2.cell? ⟨w.heap.size+1,3,none⟩=some (.slice r 0 p)/\w2.cell? ⟨w.heap.size+1,4,none⟩=some (.string ⟨#[]⟩))/\bg w w2 k sl R):=by
  intro w2 F;obtain ⟨o1,y,o3⟩:=H.old (x:=w.heap.size+1) (by omega);have hb:=F.block (w.heap.size+1) (by simp [World.drew]) o1 y o3;have hc:∀j,w2.cell? ⟨w.heap.size+1,j,none⟩=(#[.int .i64 n,.int .i64 m,.string q,.slice r 0 p,.string ⟨#[]⟩]:Array Wx)[j]?:=fun j=>by
   rw [cB (a:=⟨w.heap.size+1,j,none⟩) hb];exact cA (w:=w.alloc (.cells #[.int .i64 b,.string key,.string body,.string c,.string d,.int .i64 u,.int .i64 h] 31)) _ _ (w.heap.size+1) j (by simp)
  exact ⟨⟨hc 0,hc 1,hc 2,hc 3,hc 4⟩,bg.after t.out hkw F⟩
 have HS:=j4 ⟨n,m,q⟩ r p;clear H HK f;unfold te;simp only [bh,aA,qx] at HS ⊢;simp only [bh] at s;rcases hk with rfl|rfl|rfl|rfl|rfl <;>
 .go_enter (Yq.nq func34),ntmps34;go_wp2_with fail
  go_region_with (first
   |(go_at_call 52;refine (s.out _ t.out).mono ?_;rintro e w2 ⟨rfl,sl',R',l,H',S',F⟩;obtain ⟨⟨d0,d1,d2,d3,d4⟩,F'⟩:=HA.out w2 F;have HE:Hid (ax B w2 k sl' R' l tm/\Sim i R' l/\bg w w2 k sl R):=⟨H',S',F'⟩;clear H' S' F F')
   |(go_at_call 51;refine (HS _).mono ?_;rintro e w3 ⟨rfl,v⟩))
  all_goals
   go_wp2;go_ret;exact ⟨rfl,sl',R',l,HE.out.1.below v,HE.out.2.1,HE.out.2.2.below v HE.out.1.lt⟩
theorem uW (B k:Nat)(sl:Wx)(R:List br)(nx tm:Int)(st:St)(o:OpD)(m:Option Addr)(l:Nat)(w:Wj)(H:ax B w k sl R nx tm)(S:Sim st R nx)(f:o.kind<1\/12<o.kind):
  Calls Yq.prog 34 #[.pointer (some ⟨k,0,none⟩),bh o,qx ⟨1,0,⟨#[]⟩⟩ m l] w (te B k st w sl R tm):=by
 obtain ⟨b,key,body,c,d,p,h⟩:=o;simp only at f;have b1:(b==1)=false:=by simp;omega
 have b2:(b==2)=false:=by simp;omega
 have q:(b==3)=false:=by simp;omega
 have b4:(b==4)=false:=by simp;omega
 have b5:(b==5)=false:=by simp;omega
 have b6:(b==6)=false:=by simp;omega
 have b7:(b==7)=false:=by simp;omega
 have b8:(b==8)=false:=by simp;omega
 have b9:(b==9)=false:=by simp;omega
 have b10:(b==10)=false:=by simp;omega
 have b11:(b==11)=false:=by simp;omega
 have b12:(b==12)=false:=by simp;omega
 have hkw:=H.lt;have HH:Hid (ax B w k sl R nx tm/\Sim st R nx):=⟨H,S⟩;have HA:Hid (∀w2,Below ((w.alloc (.cells #[.int .i64 b,.string key,.string body,.string c,.string d,.int .i64 p,.int .i64 h] 31)).alloc (.cells #[.int .i64 1,.int .i64 0,.string ⟨#[]⟩,.slice m 0 l,.string ⟨#[]⟩] 36)).drew.heap.size ((w.alloc (.cells #[.int .i64 b,.string key,.string body,.string c,.string d,.int .i64 p,.int .i64 h] 31)).alloc (.cells #[.int .i64 1,.int .i64 0,.string ⟨#[]⟩,.slice m 0 l,.string ⟨#[]⟩] 36)).drew w2 ->
   (w2.cell? ⟨w.heap.size+1,0,none⟩=some (.int .i64 1)/\w2.cell? ⟨w.heap.size+1,1,none⟩=some (.int .i64 0)/\w2.cell? ⟨w.heap.size+1,2,none⟩=some (.string ⟨#[]⟩)/\w2.cell? ⟨w.heap.size+1,3,none⟩=some (.slice m 0 l)/\w2.cell? ⟨w.heap.size+1,4,none⟩=some (.string ⟨#[]⟩))/\Below w.heap.size w w2):=by
  intro w2 hb;have n:Below w.heap.size w ((w.alloc (.cells #[.int .i64 b,.string key,.string body,.string c,.string d,.int .i64 p,.int .i64 h] 31)).alloc (.cells #[.int .i64 1,.int .i64 0,.string ⟨#[]⟩,.slice m 0 l,.string ⟨#[]⟩] 36)).drew:=
   (((bR _ w).alloc (lR _) _).alloc (by simp) _).drew
  have hbb:=hb.block (w.heap.size+1) (by simp [World.drew]);have hc:∀j,w2.cell? ⟨w.heap.size+1,j,none⟩=(#[.int .i64 1,.int .i64 0,.string ⟨#[]⟩,.slice m 0 l,.string ⟨#[]⟩]:Array Wx)[j]?:=fun j=>by
   rw [cB (a:=⟨w.heap.size+1,j,none⟩) hbb];exact cA (w:=w.alloc (.cells #[.int .i64 b,.string key,.string body,.string c,.string d,.int .i64 p,.int .i64 h] 31)) _ _ (w.heap.size+1) j (by simp)
  exact ⟨⟨hc 0,hc 1,hc 2,hc 3,hc 4⟩,n.trans (hb.mono n.size)⟩
 have HS:=j4 ⟨1,0,⟨#[]⟩⟩ m l;have HN:=eA 1;clear H S f;unfold te;simp only [bh,aA,qx] at HS HN ⊢;go_enter (Yq.nq func34),ntmps34;go_wp2_with fail
 go_region_with (first
  |(go_at_call 55;refine (HN _).mono ?_;rintro e w2 ⟨rfl,hb2⟩;obtain ⟨⟨d0,d1,d2,d3,d4⟩,i⟩:=HA.out w2 hb2;have HE:Hid (Below w.heap.size w w2):=i;clear hb2 i)
  |(go_at_call 51;refine (HS _).mono ?_;rintro e w3 ⟨rfl,q⟩))
 all_goals
  go_wp2;go_ret;have hbw:=HE.out.trans (q.mono HE.out.size);exact ⟨rfl,sl,R,nx,HH.out.1.below hbw,HH.out.2,ba hkw hbw _ _⟩
end
