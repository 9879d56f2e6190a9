/- Reading in the tree: find, child, Get. -/
import Derived.Test.YtnapepbdohidgaaGreatDoorRep
namespace Go.Proofs.YtnapepbdohidgaaGreatDoor
open Go.RowKit

/-- Where a label stands among the kids: the place, and whether it is there. -/
structure Place (ks : List (UInt8 × Option Addr)) (c : UInt8) (r : Nat) : Prop where
  le : r ≤ ks.length
  lo : ∀ j (h : j < ks.length), j < r → ks[j].1 < c
  hi : ∀ j (h : j < ks.length), r ≤ j → c ≤ ks[j].1

def isAt (ks : List (UInt8 × Option Addr)) (c : UInt8) (r : Nat) : Bool := (ks[r]?.map (·.1)) == some c

def labs (ks : List (UInt8 × Option Addr)) (i : Nat) : Int := ((ks.getD i (0, none)).1.toNat : Int)
def ptrs (ks : List (UInt8 × Option Addr)) (i : Nat) : Option Addr := (ks.getD i (0, none)).2
theorem labs_eq {ks : List (UInt8 × Option Addr)} {i : Nat} (h : i < ks.length) : labs ks i = (ks[i].1.toNat : Int) := by simp [labs, h]
theorem ptrs_eq {ks : List (UInt8 × Option Addr)} {i : Nat} (h : i < ks.length) : ptrs ks i = ks[i].2 := by simp [ptrs, h]
theorem isAt_eq (ks : List (UInt8 × Option Addr)) (c : UInt8) (r : Nat) : decide (r < ks.length ∧ labs ks r = (c.toNat : Int)) = isAt ks c r := by
  unfold isAt
  by_cases hr : r < ks.length
  · rw [Bool.eq_iff_iff]
    simp only [hr, List.getElem?_eq_getElem, Option.map_some, true_and, labs_eq hr, decide_eq_true_eq, beq_iff_eq, Option.some.injEq]
    exact ⟨fun h => UInt8.toNat_inj.1 (by omega), fun h => by rw [h]⟩
  · simp [hr]

set_option maxHeartbeats 400000 in
theorem nfind_any (A : Nat → Prop) (g : Nat) (kv : Value) (ks : List (UInt8 × Option Addr)) (c : UInt8) (w : World)
    (c2 : w.cell? ⟨g, 2, none⟩ = some kv) (hk : KidsAt A w kv ks) (hs : ks.Pairwise (fun a b => a.1 < b.1)) :
    Calls Tryz.prog 116 #[.pointer (some ⟨g, 0, none⟩), .int .u8 (c.toNat : Int)] w fun e w' => ∃ r : Nat, Place ks c r ∧
      e = .returned (.tuple #[.int .i64 r, .bool (isAt ks c r)]) ∧ Below w.heap.size w w' := by
  by_cases hne : ks = []
  · subst hne
    obtain ⟨a, cap, rfl, -, -⟩ := hk
    go_enter Tryz.func116, Tryz.ntmps116
    go_wp2_with (go_at_call 133; refine (bsK_none _ _ _ _).mono ?_; rintro e w' ⟨rfl, rfl⟩)
    go_ret2
    exact ⟨0, ⟨Nat.le_refl _, fun j h => absurd h (Nat.not_lt_zero _), fun j h => absurd h (Nat.not_lt_zero _)⟩, by simp [isAt], Below.refl _ _⟩
  · obtain ⟨gk, cap, rfl, -, -, hc, -⟩ := hk.cells hne
    have hle := kids_le ks hs
    have hbs : Calls Tryz.prog 133 #[.slice (some ⟨gk, 0, none⟩) ks.length cap, .int .u8 (c.toNat : Int), .func (.func 134) #[] #[]] w fun e w' => ∃ r : Nat, Place ks c r ∧
        e = .returned (.tuple #[.int .i64 r, .bool (isAt ks c r)]) ∧ Below w.heap.size w w' := by
      refine (bsK_any gk ks.length cap (labs ks) (ptrs ks) (c.toNat : Int) w (by omega)
        (fun i hi => by rw [labs_eq hi, ptrs_eq hi]; exact hc i hi) (fun i j hij hj => by rw [labs_eq hj, labs_eq (Nat.lt_trans hij hj)]; exact kids_lt hs i j hij hj)).mono ?_
      rintro e w' ⟨r, h1, h2, h3, rfl, h5⟩
      refine ⟨r, ⟨h1, fun j h hj => ?_, fun j h hj => ?_⟩, by rw [isAt_eq], h5⟩
      · have := h2 j hj; rw [labs_eq h] at this; exact UInt8.lt_iff_toNat_lt.2 (by omega)
      · have := h3 j hj h; rw [labs_eq h] at this; exact UInt8.le_iff_toNat_le.2 (by omega)
    clear hc
    go_enter Tryz.func116, Tryz.ntmps116
    go_wp2_with (go_at_call 133; refine hbs.mono ?_; rintro e w' ⟨r, h1, rfl, h5⟩)
    go_ret2
    exact ⟨r, h1, rfl, h5⟩

theorem Place.mem {ks : List (UInt8 × Option Addr)} {c : UInt8} {r : Nat} (h : isAt ks c r = true) : ∃ hr : r < ks.length, ks[r].1 = c := by
  unfold isAt at h
  by_cases hr : r < ks.length
  · exact ⟨hr, by simpa [hr] using h⟩
  · simp [List.getElem?_eq_none (Nat.le_of_not_lt hr)] at h

theorem Place.nomem {ks : List (UInt8 × Option Addr)} {c : UInt8} {r : Nat} (hp : Place ks c r) (hs : ks.Pairwise (fun a b => a.1 < b.1)) (h : isAt ks c r = false) : ∀ q, (c, q) ∉ ks := by
  intro q hq
  obtain ⟨j, hj, e⟩ := List.getElem_of_mem hq
  by_cases hjr : j < r
  · have := hp.lo j hj hjr; rw [e] at this; have := UInt8.lt_iff_toNat_lt.1 this; simp only at this; omega
  · have hr : r < ks.length := by omega
    have h1 := hp.hi r hr (Nat.le_refl _)
    by_cases hjr2 : j = r
    · subst hjr2; simp [isAt, hj, e] at h
    · have h2 := kids_lt hs r j (by omega) hj
      rw [e] at h2
      have := UInt8.le_iff_toNat_le.1 h1
      simp only at h2
      omega

theorem NodeAt.nil {A : Nat → Prop} {n : Nat} {w : World} {f : List UInt8 → List Ver} (h : ∀ k, f k = []) : NodeAt A n w none f := by
  cases n with
  | zero => exact ⟨rfl, h⟩
  | succ n => exact Or.inl ⟨rfl, h⟩

theorem NodeAt.of_nil {A : Nat → Prop} {n : Nat} {w : World} {f : List UInt8 → List Ver} (h : NodeAt A n w none f) : ∀ k, f k = [] := by
  cases n with
  | zero => exact h.2
  | succ n =>
    rcases h with h | ⟨g, hv, kv, ks, hp, _⟩
    · exact h.2
    · cases hp

set_option maxHeartbeats 400000 in
theorem child_raw (A : Nat → Prop) (g : Nat) (kv : Value) (ks : List (UInt8 × Option Addr)) (c : UInt8) (w : World)
    (c2 : w.cell? ⟨g, 2, none⟩ = some kv) (hk : KidsAt A w kv ks) (hs : ks.Pairwise (fun a b => a.1 < b.1)) :
    Calls Tryz.prog 111 #[.pointer (some ⟨g, 0, none⟩), .int .u8 (c.toNat : Int)] w fun e w' => ∃ q, e = .returned (.pointer q) ∧ ((c, q) ∈ ks ∨ (q = none ∧ ∀ q', (c, q') ∉ ks)) ∧ Below w.heap.size w w' := by
  have hf := nfind_any A g kv ks c w c2 hk hs
  have HS : Hid (ks.Pairwise (fun a b => a.1 < b.1)) := hs
  clear hs
  go_enter Tryz.func111, Tryz.ntmps111
  go_wp2_with fail
  refine hf.mono ?_
  rintro e w' ⟨r, h1, rfl, hb⟩
  by_cases hat : isAt ks c r = true
  · obtain ⟨hr, hrc⟩ := Place.mem hat
    have hne : ks ≠ [] := by intro h; subst h; simp at hr
    obtain ⟨gk, cap, rfl, -, -, hc, -⟩ := hk.cells hne
    obtain ⟨d0, d1⟩ := hc r hr
    have d1' := cellOn hb d1
    have c2' := cellOn hb c2
    have HR : Hid (ks[r].1 = c) := hrc
    clear hc d0 d1 c2 hrc
    go_wp2
    go_ret
    exact ⟨_, rfl, Or.inl (by have := List.getElem_mem hr; rw [← HR.out]; exact this), hb⟩
  · have hat' : isAt ks c r = false := by simpa using hat
    clear hat
    go_wp2
    go_ret
    exact ⟨_, rfl, Or.inr ⟨rfl, h1.nomem HS.out hat'⟩, hb⟩

theorem child_any (A : Nat → Prop) (n : Nat) (a : Addr) (f : List UInt8 → List Ver) (c : UInt8) (w : World) (h : NodeAt A (n + 1) w (some a) f) :
    Calls Tryz.prog 111 #[.pointer (some a), .int .u8 (c.toNat : Int)] w fun e w' => ∃ q, e = .returned (.pointer q) ∧ NodeAt A n w q (fun k => f (c :: k)) ∧ Below w.heap.size w w' := by
  rcases h with h | ⟨g, hv, kv, ks, hp, hA, c0, c1, c2, hh, hks, hs, hch, hno⟩
  · cases h.1
  · cases hp
    refine (child_raw A g kv ks c w c2 hks hs).mono ?_
    rintro e w' ⟨q, he, hq, hb⟩
    refine ⟨q, he, ?_, hb⟩
    rcases hq with hq | ⟨rfl, hq⟩
    · exact hch c q hq
    · exact NodeAt.nil (hno c hq)

end Go.Proofs.YtnapepbdohidgaaGreatDoor
