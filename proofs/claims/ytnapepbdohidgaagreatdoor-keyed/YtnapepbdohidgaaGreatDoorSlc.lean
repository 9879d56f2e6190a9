/- slices.Clone at the two element types. -/
import Derived.Test.YtnapepbdohidgaaGreatDoorTreeGet
import Derived.Lib.SliceRun
import Derived.Laws.AppendOwnNone
namespace Go.Proofs.YtnapepbdohidgaaGreatDoor
open Go.RowKit

theorem Tryz.infoKid : (Tryz.prog.info? 190).map (fun i => (i.zero, i.size, i.bytes)) = some (some (.agg #[.int .u8 0, .pointer none]), 2, 16) := by kernel_rfl
theorem Tryz.infoVer : (Tryz.prog.info? 81).map (fun i => (i.zero, i.size, i.bytes)) = some (some (.agg #[.int .i64 0, .string ⟨#[]⟩, .bool false]), 3, 32) := by kernel_rfl

theorem RowAt.src {A : Nat → Prop} {w : World} {v : Value} {n : Nat} {xs : List Value} (h : RowAt A w v n xs) (hl : n = 0 → xs = []) : (v = .slice none 0 0 ∧ n = 0 ∨ ∃ ad cap, v = .slice (some ad) n cap ∧ ∀ j u, xs[j]? = some u → w.cell? (ad.add j) = some u) ∨ (∃ cap, v = .slice none n cap ∧ n ≠ 0 ∧ xs = []) := by
  obtain ⟨a, cap, rfl, h0, hx⟩ := h
  cases a with
  | none =>
    have := h0 rfl
    subst this
    by_cases hn : n = 0
    · subst hn; exact Or.inl (Or.inl ⟨rfl, rfl⟩)
    · refine Or.inr ⟨0, rfl, hn, ?_⟩
      by_cases hxs : xs = []
      · exact hxs
      · obtain ⟨g, ha, _⟩ := hx hxs; cases ha
  | some ad =>
    refine Or.inl (Or.inr ⟨ad, cap, rfl, fun j u hj => ?_⟩)
    have hne : xs ≠ [] := by intro e; subst e; simp at hj
    obtain ⟨g, ha, hA, hg, hc⟩ := hx hne
    cases ha
    have hlt := (List.getElem?_eq_some_iff.1 hj).1
    rw [Addr.add_lit, Nat.zero_add, hc j hlt]; exact hj

set_option maxHeartbeats 1000000 in
theorem cloneK_raw (A : Nat → Prop) (v : Value) (n : Nat) (xs : List Value) (w : World) (h : RowAt A w v n xs) (hl : xs.length = n * 2) (hn : n ≤ 1000) (h1 : ∀ u ∈ xs, u.oneCell' = true) :
    Calls Tryz.prog 132 #[v] w fun e w' => ∃ v', e = .returned v' ∧ w'.ownsRow w.heap.size 190 2 v' n xs ∧ Below w.heap.size w w' := by
  obtain ⟨i0, hi, hz0, hz1, hz2⟩ := info_parts Tryz.infoKid
  have q : ∀ (w : World) (a : Option Addr) (n c n' c' : Nat), (binOp .eql 157 (.slice a n c) (.slice none n' c')).run Tryz.prog w = .ok (.bool a.isNone) w := fun w a n c n' c' => Lib.run_eql_slice_nil w _ _ a n c n' c' Tryz.underlying157
  rcases h.src (fun h => by subst h; exact List.eq_nil_of_length_eq_zero (by omega)) with (⟨rfl, rfl⟩ | ⟨ad, cap, rfl, hc⟩) | ⟨cap, rfl, hn0, rfl⟩
  · have hx : xs = [] := List.eq_nil_of_length_eq_zero (by omega)
    subst hx
    go_enter Tryz.func132, Tryz.ntmps132
    go_wp2
    go_ret
    exact ⟨_, rfl, World.ownsRow_nil _ _ _ _, Below.refl _ _⟩
  · have HC : Hid (∀ j u, xs[j]? = some u → w.cell? (ad.add j) = some u) := hc
    clear hc
    go_enter Tryz.func132, Tryz.ntmps132
    go_wp2_with (at_builtin; refine wpList_append_own _ rfl _ _ 157 rfl w.heap.size 190 i0 _ 2 16 Tryz.underlying157 hi hz0 hz1 hz2 rfl (by decide) _ _ _ rfl (World.ownsRow_made w #[] 0 (Nat.le_refl _) (Nat.zero_le _) (by simp)) ad n cap xs rfl ?qc1 ?qc2 ?qc3 ?qc4 ?qc5 ?qc6 ?_)
    case qc1 => exact hl
    case qc2 =>
      intro j u hj
      exact cellOn ((Below.refl _ _).alloc (Nat.le_refl _) _) (HC.out j u hj)
    case qc3 => exact h1
    case qc4 => rw [Nat.zero_add]; simp only [maxLen]; omega
    case qc5 => rw [Nat.zero_add]; omega
    case qc6 => simp
    intro v' w1 hown hgrow hnil
    go_wp2
    go_ret
    refine ⟨v', rfl, by simpa using hown, ?_⟩
    exact ((Below.refl _ w).alloc (Nat.le_refl _) _).grown hgrow (by simp) (by intro k hk; simp [Value.ownBlock] at hk; omega)
  · simp at hl; omega

set_option maxHeartbeats 1000000 in
theorem cloneV_raw (A : Nat → Prop) (v : Value) (n : Nat) (xs : List Value) (w : World) (h : RowAt A w v n xs) (hl : xs.length = n * 3) (hn : n ≤ 2199023255552) (h1 : ∀ u ∈ xs, u.oneCell' = true) :
    Calls Tryz.prog 96 #[v] w fun e w' => ∃ v', e = .returned v' ∧ w'.ownsRow w.heap.size 81 3 v' n xs ∧ Below w.heap.size w w' := by
  obtain ⟨i0, hi, hz0, hz1, hz2⟩ := info_parts Tryz.infoVer
  have q : ∀ (w : World) (a : Option Addr) (n c n' c' : Nat), (binOp .eql 114 (.slice a n c) (.slice none n' c')).run Tryz.prog w = .ok (.bool a.isNone) w := fun w a n c n' c' => Lib.run_eql_slice_nil w _ _ a n c n' c' Tryz.underlying114
  rcases h.src (fun h => by subst h; exact List.eq_nil_of_length_eq_zero (by omega)) with (⟨rfl, rfl⟩ | ⟨ad, cap, rfl, hc⟩) | ⟨cap, rfl, hn0, rfl⟩
  · have hx : xs = [] := List.eq_nil_of_length_eq_zero (by omega)
    subst hx
    go_enter Tryz.func96, Tryz.ntmps96
    go_wp2
    go_ret
    exact ⟨_, rfl, World.ownsRow_nil _ _ _ _, Below.refl _ _⟩
  · have HC : Hid (∀ j u, xs[j]? = some u → w.cell? (ad.add j) = some u) := hc
    clear hc
    go_enter Tryz.func96, Tryz.ntmps96
    go_wp2_with (at_builtin; refine wpList_append_own _ rfl _ _ 114 rfl w.heap.size 81 i0 _ 3 32 Tryz.underlying114 hi hz0 hz1 hz2 rfl (by decide) _ _ _ rfl (World.ownsRow_made w #[] 0 (Nat.le_refl _) (Nat.zero_le _) (by simp)) ad n cap xs rfl ?qc1 ?qc2 ?qc3 ?qc4 ?qc5 ?qc6 ?_)
    case qc1 => exact hl
    case qc2 =>
      intro j u hj
      exact cellOn ((Below.refl _ _).alloc (Nat.le_refl _) _) (HC.out j u hj)
    case qc3 => exact h1
    case qc4 => rw [Nat.zero_add]; simp only [maxLen]; omega
    case qc5 => rw [Nat.zero_add]; omega
    case qc6 => simp
    intro v' w1 hown hgrow hnil
    go_wp2
    go_ret
    refine ⟨v', rfl, by simpa using hown, ?_⟩
    exact ((Below.refl _ w).alloc (Nat.le_refl _) _).grown hgrow (by simp) (by intro k hk; simp [Value.ownBlock] at hk; omega)
  · simp at hl; omega

theorem verCells_one (h : List Ver) : ∀ u ∈ verCells h, u.oneCell' = true := by
  intro u hu
  simp only [verCells, List.mem_flatMap] at hu
  obtain ⟨v, _, hu⟩ := hu
  simp at hu
  rcases hu with rfl | rfl | rfl <;> rfl
theorem kidCells_one (h : List (UInt8 × Option Addr)) : ∀ u ∈ kidCells h, u.oneCell' = true := by
  intro u hu
  simp only [kidCells, List.mem_flatMap] at hu
  obtain ⟨v, _, hu⟩ := hu
  simp at hu
  rcases hu with rfl | rfl <;> rfl

theorem cloneK_any (A : Nat → Prop) (v : Value) (ks : List (UInt8 × Option Addr)) (w : World) (h : KidsAt A w v ks) (hn : ks.length ≤ 256) :
    Calls Tryz.prog 132 #[v] w fun e w' => ∃ v', e = .returned v' ∧ w'.ownsRow w.heap.size 190 2 v' ks.length (kidCells ks) ∧ Below w.heap.size w w' :=
  cloneK_raw A v _ _ w h (kidCells_len ks) (by omega) (kidCells_one ks)
theorem cloneV_any (A : Nat → Prop) (v : Value) (h : List Ver) (w : World) (hh : HistAt A w v h) (hn : h.length ≤ 2199023255552) :
    Calls Tryz.prog 96 #[v] w fun e w' => ∃ v', e = .returned v' ∧ w'.ownsRow w.heap.size 81 3 v' h.length (verCells h) ∧ Below w.heap.size w w' :=
  cloneV_raw A v _ _ w hh (verCells_len h) hn (verCells_one h)

end Go.Proofs.YtnapepbdohidgaaGreatDoor
