/- shelflaw: runs and Keyed. -/
import Derived.Test.YtnapepbdohidgaaGreatDoorFits
import Derived.Test.YtnapepbdohidgaaGreatDoorTold
import Derived.Test.YtnapepbdohidgaaGreatDoorPlain
namespace Go.Proofs.YtnapepbdohidgaaGreatDoor
open Go.RowKit

set_option maxHeartbeats 2000000 in
set_option maxRecDepth 100000 in
theorem fits_nil (a : Option Addr) (cap ga : Nat) (w : World) :
    Calls Tryz.prog 32 #[.slice a 0 cap, .slice (some ⟨ga, 0, none⟩) 0 0] w fun e w' => e = .returned (.bool true) ∧ Below w.heap.size w w' := by
  go_enter Tryz.func32, Tryz.ntmps32
  go_wp2_with fail
  refine wp_loop_rounds 1 ?_
  rw [rounds_succ]
  go_wp2
  go_ret
  exact ⟨rfl, (Below.refl _ _).alloc (Nat.le_refl _) _⟩

theorem fits_scr (v : Value) (ga bs : Nat) (ops : List OpD) (w : World) (h : ScrAt w v ops) (hn88 : ops.length * 88 ≤ 140737488351232) (hA : w.ownsRow bs 36 5 (.slice (some ⟨ga, 0, none⟩) ops.length ops.length) ops.length (ansCells (runF ops))) (hkind : ∀ o ∈ ops, o.kind ≤ 5 ∨ 12 < o.kind) :
    Calls Tryz.prog 32 #[v, .slice (some ⟨ga, 0, none⟩) ops.length ops.length] w fun e w' => e = .returned (.bool true) ∧ Below w.heap.size w w' := by
  obtain ⟨a, cap, rfl, hx⟩ := h.form
  by_cases hne : ops = []
  · subst hne; exact fits_nil a cap ga w
  · obtain ⟨b, off, rfl, hS⟩ := hx hne
    exact fits_any b off cap ga bs ops w hS hn88 hA hkind

theorem tell_kind (ops : List OpD) : ∀ o ∈ ops.map tell, o.kind ≤ 5 ∨ 12 < o.kind := by
  intro o ho
  obtain ⟨x, -, rfl⟩ := List.mem_map.1 ho
  unfold tell
  split
  · exact Or.inl (by show (2 : Int) ≤ 5; omega)
  · omega
theorem tell_plain (ops : List OpD) : Plain (ops.map tell) := fun o ho => by have := tell_kind ops o ho; omega
theorem tell_sized (ops : List OpD) (h : Sized ops) : Sized (ops.map tell) := by
  intro o ho
  obtain ⟨x, hx, rfl⟩ := List.mem_map.1 ho
  unfold tell
  split
  · exact ⟨by simp only [maxLen]; decide, by simp only [maxLen]; decide⟩
  · exact h x hx

set_option maxHeartbeats 2000000 in
set_option maxRecDepth 100000 in
theorem runs_any (a : Option Addr) (n cap : Nat) (ops : List OpD) (w : World) (h : ScrAt w (.slice a n cap) ops) (hn : n * 88 ≤ 140737488351232) :
    Calls Tryz.prog 15 #[.slice a n cap, .int .i64 5] w fun e w' => e = .returned (.bool true) ∧ Below w.heap.size w w' := by
  have hnl : n = ops.length := by
    obtain ⟨a', cap', he, _⟩ := h.form
    cases he; rfl
  have HS : Hid (ScrAt w (.slice a n cap) ops ∧ n = ops.length) := ⟨h, hnl⟩
  clear h hnl
  go_enter Tryz.func15, Tryz.ntmps15
  go_wp2_with fail
  refine (told_any a n cap ops w HS.out.1 hn).mono ?_
  rintro e w1 ⟨v', rfl, hown1, b1⟩
  have hl : (ops.map tell).length = n := by rw [List.length_map]; exact HS.out.2.symm
  have S1 : ScrAt w1 v' (ops.map tell) := scr_of_owns hown1 hl.symm (tell_sized _ HS.out.1.sized) (by rw [hl]; omega)
  obtain ⟨va, vc, rfl, -⟩ := owns_form hown1
  have HR := run_plain _ _ w1 S1 (tell_plain ops)
  have HX : Hid (ScrAt w1 (.slice va n vc) (ops.map tell) ∧ (ops.map tell).length = n ∧ Below w.heap.size w w1) := ⟨S1, hl, b1⟩
  rw [hl] at HR
  clear hown1 S1 hl b1
  go_wp2_with fail
  refine HR.mono ?_
  rintro e w2 ⟨g, rfl, hown2, b2⟩
  have HF := fits_scr _ g w1.heap.size (ops.map tell) w2 (HX.out.1.on b2) (by rw [HX.out.2.1]; exact hn) (by rw [HX.out.2.1]; exact hown2) (tell_kind ops)
  rw [HX.out.2.1] at HF
  have HB : Hid (Below w.heap.size w w2) := HX.out.2.2.trans (b2.mono HX.out.2.2.size)
  clear HR hown2 b2
  go_wp2_with fail
  refine HF.mono ?_
  rintro e w3 ⟨rfl, b3⟩
  go_wp2
  go_ret
  exact ⟨rfl, HB.out.trans (b3.mono HB.out.size)⟩

set_option maxHeartbeats 2000000 in
theorem lkeyed_any (a : Option Addr) (n cap : Nat) (ops : List OpD) (w : World) (h : ScrAt w (.slice a n cap) ops) (hn : n * 88 ≤ 140737488351232) :
    Calls Tryz.prog 3 #[.slice a n cap] w fun e w' => e = .returned (.bool true) ∧ Below w.heap.size w w' := by
  have HR := runs_any a n cap ops w h hn
  clear h
  go_enter Tryz.func3, Tryz.ntmps3
  go_wp2_with fail
  refine HR.mono ?_
  rintro e w1 ⟨rfl, b1⟩
  go_wp2
  go_ret
  exact ⟨rfl, b1⟩

end Go.Proofs.YtnapepbdohidgaaGreatDoor
