/- Contracts of the leaves: cmp.Compare, the two closures that compare. -/
import Derived.Test.YtnapepbdohidgaaGreatDoorRows
import Derived.WalkKit
import Derived.WalkSpells
import Derived.WalkLawsBesides
namespace Go.Proofs.YtnapepbdohidgaaGreatDoor
open Go.RowKit

theorem ret_int {k : IntKind} {a b : Int} (h : a = b) : Ending.returned (.int k a) = .returned (.int k b) := by rw [h]
/-- What cmp.Compare answers. -/
def cmpOf (x y : Int) : Int := if x < y then -1 else if y < x then 1 else 0

set_option maxHeartbeats 400000 in
theorem nanB_any (x : Int) (w : World) : Calls Tryz.prog 153 #[.int .u8 x] w fun e w' => e = .returned (.bool false) ∧ w' = w := by
  go_enter Tryz.func153, Tryz.ntmps153
  go_wp2
  go_ret
  exact ⟨by simp, rfl⟩

set_option maxHeartbeats 400000 in
theorem nanI_any (x : Int) (w : World) : Calls Tryz.prog 126 #[.int .i64 x] w fun e w' => e = .returned (.bool false) ∧ w' = w := by
  go_enter Tryz.func126, Tryz.ntmps126
  go_wp2
  go_ret
  exact ⟨by simp, rfl⟩

set_option maxHeartbeats 400000 in
theorem cmpB_any (x y : Int) (w : World) : Calls Tryz.prog 135 #[.int .u8 x, .int .u8 y] w fun e w' => e = .returned (.int .i64 (cmpOf x y)) ∧ w' = w := by
  go_enter Tryz.func135, Tryz.ntmps135
  go_wp2_with (go_at_call 153; refine (nanB_any _ _).mono ?_; rintro e w' ⟨rfl, rfl⟩)
  all_goals (go_ret; exact ⟨ret_int (by unfold cmpOf; (repeat' split) <;> omega), rfl⟩)

set_option maxHeartbeats 400000 in
theorem cmpI_any (x y : Int) (w : World) : Calls Tryz.prog 104 #[.int .i64 x, .int .i64 y] w fun e w' => e = .returned (.int .i64 (cmpOf x y)) ∧ w' = w := by
  go_enter Tryz.func104, Tryz.ntmps104
  go_wp2_with (go_at_call 126; refine (nanI_any _ _).mono ?_; rintro e w' ⟨rfl, rfl⟩)
  all_goals (go_ret; exact ⟨ret_int (by unfold cmpOf; (repeat' split) <;> omega), rfl⟩)

set_option maxHeartbeats 400000 in
theorem cloK_any (l : Int) (p : Option Addr) (b : Int) (w : World) : Calls Tryz.prog 134 #[.agg #[.int .u8 l, .pointer p], .int .u8 b] w fun e w' => e = .returned (.int .i64 (cmpOf l b)) ∧ w' = w.alloc (.cells #[.int .u8 l, .pointer p] 190) := by
  go_enter Tryz.func134, Tryz.ntmps134
  go_wp2_with (go_at_call 135; refine (cmpB_any _ _ _).mono ?_; rintro e w' ⟨rfl, rfl⟩)
  go_ret
  exact ⟨rfl, rfl⟩

set_option maxHeartbeats 400000 in
theorem cloV_any (n : Int) (s : ByteArray) (m : Bool) (b : Int) (w : World) : Calls Tryz.prog 113 #[.agg #[.int .i64 n, .string s, .bool m], .int .i64 b] w fun e w' => e = .returned (.int .i64 (cmpOf n b)) ∧ w' = w.alloc (.cells #[.int .i64 n, .string s, .bool m] 81) := by
  go_enter Tryz.func113, Tryz.ntmps113
  go_wp2_with (go_at_call 104; refine (cmpI_any _ _ _).mono ?_; rintro e w' ⟨rfl, rfl⟩)
  go_ret
  exact ⟨rfl, rfl⟩

end Go.Proofs.YtnapepbdohidgaaGreatDoor
