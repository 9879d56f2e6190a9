/- Contracts of the leaves: cmp.Compare, the two closures that compare. -/
import Derived.Test.YtkhjgifabandpaaGreatDoorRows
import Derived.WalkKit
import Derived.WalkSpells
import Derived.WalkLawsBesides
namespace Go.Proofs.YtkhjgifabandpaaGreatDoor
open Go.RowKit

theorem ret_int {k : IntKind} {a b : Int} (h : a = b) : Ending.returned (.int k a) = .returned (.int k b) := by rw [h]
/-- What cmp.Compare answers. -/
def cmpOf (x y : Int) : Int := if x < y then -1 else if y < x then 1 else 0

set_option maxHeartbeats 400000 in
theorem nanB_any (x : Int) (w : World) : Calls Tryz.prog 85 #[.int .u8 x] w fun e w' => e = .returned (.bool false) ∧ w' = w := by
  go_enter Tryz.func85, Tryz.ntmps85
  go_wp2
  go_ret
  exact ⟨by simp, rfl⟩

set_option maxHeartbeats 400000 in
theorem nanI_any (x : Int) (w : World) : Calls Tryz.prog 73 #[.int .i64 x] w fun e w' => e = .returned (.bool false) ∧ w' = w := by
  go_enter Tryz.func73, Tryz.ntmps73
  go_wp2
  go_ret
  exact ⟨by simp, rfl⟩

set_option maxHeartbeats 400000 in
theorem cmpB_any (x y : Int) (w : World) : Calls Tryz.prog 77 #[.int .u8 x, .int .u8 y] w fun e w' => e = .returned (.int .i64 (cmpOf x y)) ∧ w' = w := by
  go_enter Tryz.func77, Tryz.ntmps77
  go_wp2_with (go_at_call 85; refine (nanB_any _ _).mono ?_; rintro e w' ⟨rfl, rfl⟩)
  all_goals (go_ret; exact ⟨ret_int (by unfold cmpOf; (repeat' split) <;> omega), rfl⟩)

set_option maxHeartbeats 400000 in
theorem cmpI_any (x y : Int) (w : World) : Calls Tryz.prog 63 #[.int .i64 x, .int .i64 y] w fun e w' => e = .returned (.int .i64 (cmpOf x y)) ∧ w' = w := by
  go_enter Tryz.func63, Tryz.ntmps63
  go_wp2_with (go_at_call 73; refine (nanI_any _ _).mono ?_; rintro e w' ⟨rfl, rfl⟩)
  all_goals (go_ret; exact ⟨ret_int (by unfold cmpOf; (repeat' split) <;> omega), rfl⟩)

set_option maxHeartbeats 400000 in
theorem cloK_any (l : Int) (p : Option Addr) (b : Int) (w : World) : Calls Tryz.prog 76 #[.agg #[.int .u8 l, .pointer p], .int .u8 b] w fun e w' => e = .returned (.int .i64 (cmpOf l b)) ∧ w' = w.alloc (.cells #[.int .u8 l, .pointer p] 144) := by
  go_enter Tryz.func76, Tryz.ntmps76
  go_wp2_with (go_at_call 77; refine (cmpB_any _ _ _).mono ?_; rintro e w' ⟨rfl, rfl⟩)
  go_ret
  exact ⟨rfl, rfl⟩

set_option maxHeartbeats 400000 in
theorem cloV_any (n : Int) (s : ByteArray) (m : Bool) (b : Int) (w : World) : Calls Tryz.prog 62 #[.agg #[.int .i64 n, .string s, .bool m], .int .i64 b] w fun e w' => e = .returned (.int .i64 (cmpOf n b)) ∧ w' = w.alloc (.cells #[.int .i64 n, .string s, .bool m] 60) := by
  go_enter Tryz.func62, Tryz.ntmps62
  go_wp2_with (go_at_call 63; refine (cmpI_any _ _ _).mono ?_; rintro e w' ⟨rfl, rfl⟩)
  go_ret
  exact ⟨rfl, rfl⟩

end Go.Proofs.YtkhjgifabandpaaGreatDoor
