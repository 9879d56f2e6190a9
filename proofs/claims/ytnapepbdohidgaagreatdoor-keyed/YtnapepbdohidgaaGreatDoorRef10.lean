/- shelfref: keyed. -/
import Derived.Test.YtnapepbdohidgaaGreatDoorRef5
import Derived.Test.YtnapepbdohidgaaGreatDoorRef9
import Derived.Test.YtnapepbdohidgaaGreatDoorRefX
namespace Go.Proofs.YtnapepbdohidgaaGreatDoor
open Go.RowKit

theorem radd_any (B k : Nat) (sl : Value) (R : List RefE) (nx tm : Int) (st : St) (s : Nat) (key : ByteArray) (n0 : Int) (bd : ByteArray) (mk : Bool) (w : World) (H : RefAt B w k sl R nx tm) (S : Sim st R nx) (hI : Inv st s) (hs : s < 2199023255552) (hB : B ≤ w.heap.size) :
    Calls Tryz.prog 81 #[.pointer (some ⟨k, 0, none⟩), .string key, .agg #[.int .i64 n0, .string bd, .bool mk]] w (RefPost B k (if 200 ≤ st.count then st else addSt st key bd mk) (if 200 ≤ st.count then ⟨4, 0, ⟨#[]⟩⟩ else ⟨0, st.last + 1, ⟨#[]⟩⟩) w sl R tm) := by
  by_cases h : 200 ≤ st.count
  · rw [if_pos h, if_pos h]; exact radd_full B k sl R nx tm st key n0 bd mk w H S h
  · rw [if_neg h, if_neg h]; exact radd_more B k sl R nx tm st s key n0 bd mk w H S hI hs hB h

theorem rgot_any (B k : Nat) (sl : Value) (R : List RefE) (nx tm : Int) (st : St) (o : OpD) (w : World) (H : RefAt B w k sl R nx tm) (S : Sim st R nx) (hkind : o.kind = 2 ∨ o.kind = 3 ∨ o.kind = 5) (hk : isKeyB o.key = true) (hB : B ≤ w.heap.size) :
    Calls Tryz.prog 82 #[.pointer (some ⟨k, 0, none⟩), opVal o] w (RefPost B k (stepSt st o).1 (stepSt st o).2 w sl R tm) := by
  by_cases hno : ∀ x ∈ R, x.key ≠ o.key
  · exact rgot_none B k sl R nx tm st o w H S hkind hk hno
  · have : ∃ (i : Nat) (h : i < R.length), R[i].key = o.key := by
      rw [Classical.not_forall] at hno
      obtain ⟨x, hx⟩ := hno
      rw [Classical.not_imp, Classical.not_not] at hx
      obtain ⟨i, hi, rfl⟩ := List.getElem_of_mem hx.1
      exact ⟨i, hi, hx.2⟩
    obtain ⟨i, hi, hik⟩ := this
    rcases hkind with h | h | h
    · exact rgot_get B k sl R nx tm st o w H S h hk i hi hik
    · exact rgot_getv B k sl R nx tm st o w H S h hk i hi hik
    · exact rgot_dropv B k sl R nx tm st o w H S h hk i hi hik hB

end Go.Proofs.YtnapepbdohidgaaGreatDoor
