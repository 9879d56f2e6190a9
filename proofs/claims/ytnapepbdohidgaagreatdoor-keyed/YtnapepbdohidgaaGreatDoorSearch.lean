/- slices.BinarySearchFunc at the two element types. -/
import Derived.Test.YtnapepbdohidgaaGreatDoorLeaf
namespace Go.Proofs.YtnapepbdohidgaaGreatDoor
open Go.RowKit

theorem bcell {W w1 : World} (hb : Below W.heap.size W w1) : (∀ b o, b < W.heap.size → w1.cell? ⟨b, o, none⟩ = W.cell? ⟨b, o, none⟩) ∧ (∀ b o, b < W.heap.size → w1.frozen? ⟨b, o, none⟩ = W.frozen? ⟨b, o, none⟩) :=
  ⟨fun b o h => hb.cell (p := ⟨b, o, none⟩) h, fun b o h => hb.frozen (p := ⟨b, o, none⟩) h⟩

/-- A cell that was there reads as it did. -/
theorem cellOn {W w1 : World} (hb : Below W.heap.size W w1) {a : Addr} {v : Value} (h : W.cell? a = some v) : w1.cell? a = some v := by
  rw [hb.cell (World.block_lt_of_cell? W a h)]; exact h

theorem cmp_lt (x y : Int) : cmpOf x y < 0 ↔ x < y := by unfold cmpOf; (repeat' split) <;> omega
theorem cmp_eq (x y : Int) : (cmpOf x y == 0) = decide (x = y) := by unfold cmpOf; (repeat' split) <;> simp <;> omega

set_option maxHeartbeats 400000 in
theorem bsK_any (b n cap : Nat) (L : Nat → Int) (p : Nat → Option Addr) (t : Int) (w : World) (hn : n ≤ 2199023255552)
    (hc : ∀ i, i < n → w.cell? ⟨b, i * 2, none⟩ = some (.int .u8 (L i)) ∧ w.cell? ⟨b, i * 2 + 1, none⟩ = some (.pointer (p i)))
    (hs : ∀ i j, i < j → j < n → L i < L j) :
    Calls Tryz.prog 133 #[.slice (some ⟨b, 0, none⟩) n cap, .int .u8 t, .func (.func 134) #[] #[]] w fun e w' => ∃ r : Nat, r ≤ n ∧ (∀ j, j < r → L j < t) ∧ (∀ j, r ≤ j → j < n → t ≤ L j) ∧
      e = .returned (.tuple #[.int .i64 r, .bool (decide (r < n ∧ L r = t))]) ∧ Below w.heap.size w w' := by
  have HS : Hid (∀ i j, i < j → j < n → L i < L j) := hs
  clear hs
  go_enter Tryz.func133, Tryz.ntmps133
  go_wp2
  go_loopw [9, 10, 11] (fun i j _ wr => ∃ x y : Nat, x ≤ y ∧ y ≤ n ∧ i = .int .i64 x ∧ j = .int .i64 y ∧ (∀ k, k < x → L k < t) ∧ (∀ k, y ≤ k → k < n → t ≤ L k) ∧ Below w.heap.size w wr) (fun i j _ _ => (intOf j).toNat - (intOf i).toNat)
  case atStart => exact ⟨0, n, Nat.zero_le _, Nat.le_refl _, rfl, rfl, fun k h => absurd h (Nat.not_lt_zero _), fun k h1 h2 => absurd h2 (by omega), Below.refl _ _⟩
  case round =>
    obtain ⟨x, y, hxy, hyn, rfl, rfl, hlo, hhi, hb⟩ := hrel
    have HL : Hid (∀ k, k < x → L k < t) := hlo
    have HH : Hid (∀ k, y ≤ k → k < n → t ≤ L k) := hhi
    clear hlo hhi
    by_cases hlt : x < y
    · obtain ⟨c0, c1⟩ := hc ((x + y) / 2) (by omega)
      replace c0 := cellOn hb c0
      replace c1 := cellOn hb c1
      by_cases hcm : L ((x + y) / 2) < t
      · have hcm' := (cmp_lt _ _).2 hcm
        go_wp2_with (go_at_call 134; refine (cloK_any _ _ _ _).mono ?_; rintro e w' ⟨rfl, rfl⟩)
        refine ⟨⟨(x + y) / 2 + 1, y, by omega, hyn, by go_num, rfl, fun k hk => ?_, HH.out, hb.alloc hb.size _⟩, by simp [intOf]; omega⟩
        by_cases hk2 : k = (x + y) / 2
        · rw [hk2]; exact hcm
        · have := HS.out k ((x + y) / 2) (by omega) (by omega); omega
      · have hcm' : ¬ cmpOf (L ((x + y) / 2)) t < 0 := fun h => hcm ((cmp_lt _ _).1 h)
        go_wp2_with (go_at_call 134; refine (cloK_any _ _ _ _).mono ?_; rintro e w' ⟨rfl, rfl⟩)
        refine ⟨⟨x, (x + y) / 2, by omega, by omega, rfl, by go_num, HL.out, fun k hk1 hk2 => ?_, hb.alloc hb.size _⟩, by simp [intOf]; omega⟩
        by_cases hk3 : k = (x + y) / 2
        · rw [hk3]; omega
        · have := HS.out ((x + y) / 2) k (by omega) (by omega); omega
    · have hxy2 : x = y := by omega
      subst hxy2
      clear hlt hxy
      by_cases hxn : x < n
      · obtain ⟨c0, c1⟩ := hc x hxn
        replace c0 := cellOn hb c0
        replace c1 := cellOn hb c1
        go_wp2_with (go_at_call 134; refine (cloK_any _ _ _ _).mono ?_; rintro e w' ⟨rfl, rfl⟩)
        go_ret2
        exact ⟨x, hyn, HL.out, HH.out, by simp [hxn, cmp_eq], hb.alloc hb.size _⟩
      · go_wp2
        go_ret2
        exact ⟨x, hyn, HL.out, HH.out, by simp [hxn], hb⟩


set_option maxHeartbeats 400000 in
theorem bsK_none (a : Option Addr) (cap : Nat) (t : Int) (w : World) :
    Calls Tryz.prog 133 #[.slice a 0 cap, .int .u8 t, .func (.func 134) #[] #[]] w fun e w' => e = .returned (.tuple #[.int .i64 0, .bool false]) ∧ w' = w := by
  go_enter Tryz.func133, Tryz.ntmps133
  go_wp2
  refine wp_loop_rounds 1 ?_
  rw [rounds_succ]
  go_wp2
  go_ret2
  exact ⟨rfl, rfl⟩

set_option maxHeartbeats 400000 in
theorem bsV_any (b n cap : Nat) (L : Nat → Int) (S : Nat → ByteArray) (M : Nat → Bool) (t : Int) (w : World) (hn : n ≤ 2199023255552)
    (hc : ∀ i, i < n → w.cell? ⟨b, i * 3, none⟩ = some (.int .i64 (L i)) ∧ w.cell? ⟨b, i * 3 + 1, none⟩ = some (.string (S i)) ∧ w.cell? ⟨b, i * 3 + 2, none⟩ = some (.bool (M i)))
    (hs : ∀ i j, i < j → j < n → L i < L j) :
    Calls Tryz.prog 112 #[.slice (some ⟨b, 0, none⟩) n cap, .int .i64 t, .func (.func 113) #[] #[]] w fun e w' => ∃ r : Nat, r ≤ n ∧ (∀ j, j < r → L j < t) ∧ (∀ j, r ≤ j → j < n → t ≤ L j) ∧
      e = .returned (.tuple #[.int .i64 r, .bool (decide (r < n ∧ L r = t))]) ∧ Below w.heap.size w w' := by
  have HS : Hid (∀ i j, i < j → j < n → L i < L j) := hs
  clear hs
  go_enter Tryz.func112, Tryz.ntmps112
  go_wp2
  go_loopw [9, 10, 11] (fun i j _ wr => ∃ x y : Nat, x ≤ y ∧ y ≤ n ∧ i = .int .i64 x ∧ j = .int .i64 y ∧ (∀ k, k < x → L k < t) ∧ (∀ k, y ≤ k → k < n → t ≤ L k) ∧ Below w.heap.size w wr) (fun i j _ _ => (intOf j).toNat - (intOf i).toNat)
  case atStart => exact ⟨0, n, Nat.zero_le _, Nat.le_refl _, rfl, rfl, fun k h => absurd h (Nat.not_lt_zero _), fun k h1 h2 => absurd h2 (by omega), Below.refl _ _⟩
  case round =>
    obtain ⟨x, y, hxy, hyn, rfl, rfl, hlo, hhi, hb⟩ := hrel
    have HL : Hid (∀ k, k < x → L k < t) := hlo
    have HH : Hid (∀ k, y ≤ k → k < n → t ≤ L k) := hhi
    clear hlo hhi
    by_cases hlt : x < y
    · obtain ⟨c0, c1, c2⟩ := hc ((x + y) / 2) (by omega)
      replace c0 := cellOn hb c0
      replace c1 := cellOn hb c1
      replace c2 := cellOn hb c2
      by_cases hcm : L ((x + y) / 2) < t
      · have hcm' := (cmp_lt _ _).2 hcm
        go_wp2_with (go_at_call 113; refine (cloV_any _ _ _ _ _).mono ?_; rintro e w' ⟨rfl, rfl⟩)
        refine ⟨⟨(x + y) / 2 + 1, y, by omega, hyn, by go_num, rfl, fun k hk => ?_, HH.out, hb.alloc hb.size _⟩, by simp [intOf]; omega⟩
        by_cases hk2 : k = (x + y) / 2
        · rw [hk2]; exact hcm
        · have := HS.out k ((x + y) / 2) (by omega) (by omega); omega
      · have hcm' : ¬ cmpOf (L ((x + y) / 2)) t < 0 := fun h => hcm ((cmp_lt _ _).1 h)
        go_wp2_with (go_at_call 113; refine (cloV_any _ _ _ _ _).mono ?_; rintro e w' ⟨rfl, rfl⟩)
        refine ⟨⟨x, (x + y) / 2, by omega, by omega, rfl, by go_num, HL.out, fun k hk1 hk2 => ?_, hb.alloc hb.size _⟩, by simp [intOf]; omega⟩
        by_cases hk3 : k = (x + y) / 2
        · rw [hk3]; omega
        · have := HS.out ((x + y) / 2) k (by omega) (by omega); omega
    · have hxy2 : x = y := by omega
      subst hxy2
      clear hlt hxy
      by_cases hxn : x < n
      · obtain ⟨c0, c1, c2⟩ := hc x hxn
        replace c0 := cellOn hb c0
        replace c1 := cellOn hb c1
        replace c2 := cellOn hb c2
        go_wp2_with (go_at_call 113; refine (cloV_any _ _ _ _ _).mono ?_; rintro e w' ⟨rfl, rfl⟩)
        go_ret2
        exact ⟨x, hyn, HL.out, HH.out, by simp [hxn, cmp_eq], hb.alloc hb.size _⟩
      · go_wp2
        go_ret2
        exact ⟨x, hyn, HL.out, HH.out, by simp [hxn], hb⟩


set_option maxHeartbeats 400000 in
theorem bsV_none (a : Option Addr) (cap : Nat) (t : Int) (w : World) :
    Calls Tryz.prog 112 #[.slice a 0 cap, .int .i64 t, .func (.func 113) #[] #[]] w fun e w' => e = .returned (.tuple #[.int .i64 0, .bool false]) ∧ w' = w := by
  go_enter Tryz.func112, Tryz.ntmps112
  go_wp2
  refine wp_loop_rounds 1 ?_
  rw [rounds_succ]
  go_wp2
  go_ret2
  exact ⟨rfl, rfl⟩

end Go.Proofs.YtnapepbdohidgaaGreatDoor
