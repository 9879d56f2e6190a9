/- Plain facts on ordered kids and on keys. -/
import Derived.Test.YtnapepbdohidgaaGreatDoorFresh
namespace Go.Proofs.YtnapepbdohidgaaGreatDoor
open Go.RowKit

theorem flat_take {α : Type} (m : Nat) (g : α → List Value) (hg : ∀ a, (g a).length = m) (l : List α) (i : Nat) : (l.flatMap g).take (i * m) = (l.take i).flatMap g := by
  induction l generalizing i with
  | nil => simp
  | cons a l ih =>
    cases i with
    | zero => simp
    | succ i =>
      rw [List.flatMap_cons, List.take_succ_cons, List.flatMap_cons, List.take_append, hg]
      have e : (i + 1) * m - m = i * m := by rw [Nat.add_mul, Nat.one_mul]; omega
      rw [e, ih, List.take_of_length_le (by rw [hg, Nat.add_mul, Nat.one_mul]; omega)]
theorem flat_drop {α : Type} (m : Nat) (g : α → List Value) (hg : ∀ a, (g a).length = m) (l : List α) (i : Nat) : (l.flatMap g).drop (i * m) = (l.drop i).flatMap g := by
  induction l generalizing i with
  | nil => simp
  | cons a l ih =>
    cases i with
    | zero => simp
    | succ i =>
      rw [List.flatMap_cons, List.drop_succ_cons, List.drop_append, hg]
      have e : (i + 1) * m - m = i * m := by rw [Nat.add_mul, Nat.one_mul]; omega
      rw [e, ih, List.drop_eq_nil_of_le (by rw [hg, Nat.add_mul, Nat.one_mul]; omega), List.nil_append]

theorem kidCells_ins (ks : List (UInt8 × Option Addr)) (r : Nat) (c : UInt8) (q : Option Addr) :
    (kidCells ks).take (r * 2) ++ [.int .u8 (c.toNat : Int), .pointer q] ++ (kidCells ks).drop (r * 2) = kidCells (ks.take r ++ (c, q) :: ks.drop r) := by
  unfold kidCells
  rw [flat_take 2 _ (fun _ => rfl), flat_drop 2 _ (fun _ => rfl)]
  simp
theorem kidCells_del (ks : List (UInt8 × Option Addr)) (r : Nat) : (kidCells ks).take (r * 2) ++ (kidCells ks).drop ((r + 1) * 2) = kidCells (ks.take r ++ ks.drop (r + 1)) := by
  unfold kidCells
  rw [flat_take 2 _ (fun _ => rfl), flat_drop 2 _ (fun _ => rfl)]
  simp
theorem verCells_del (h : List Ver) (r : Nat) : (verCells h).take (r * 3) ++ (verCells h).drop ((r + 1) * 3) = verCells (h.take r ++ h.drop (r + 1)) := by
  unfold verCells
  rw [flat_take 3 _ (fun _ => rfl), flat_drop 3 _ (fun _ => rfl)]
  simp
theorem kidCells_set (ks : List (UInt8 × Option Addr)) (r : Nat) (c : UInt8) (q : Option Addr) (hr : r < ks.length) (hc : ks[r].1 = c) : (kidCells ks).set (r * 2 + 1) (.pointer q) = kidCells (ks.take r ++ (c, q) :: ks.drop (r + 1)) := by
  have e1 : ks = ks.take r ++ ks[r] :: ks.drop (r + 1) := by rw [List.getElem_cons_drop, List.take_append_drop]
  have hl : (kidCells (ks.take r)).length = r * 2 := by rw [kidCells_len, List.length_take, Nat.min_eq_left (by omega)]
  have e2 : kidCells ks = kidCells (ks.take r) ++ (.int .u8 (c.toNat : Int) :: .pointer ks[r].2 :: kidCells (ks.drop (r + 1))) := by
    have e4 : ∀ (A B : List (UInt8 × Option Addr)) (x : UInt8 × Option Addr), kidCells (A ++ x :: B) = kidCells A ++ (.int .u8 (x.1.toNat : Int) :: .pointer x.2 :: kidCells B) := fun A B x => by simp [kidCells]
    conv => lhs; rw [e1]
    rw [e4, hc]
  have e3 : kidCells (ks.take r ++ (c, q) :: ks.drop (r + 1)) = kidCells (ks.take r) ++ (.int .u8 (c.toNat : Int) :: .pointer q :: kidCells (ks.drop (r + 1))) := by simp [kidCells]
  rw [e2, e3, List.set_append_right _ _ (by omega), hl]
  have : r * 2 + 1 - r * 2 = 1 := by omega
  rw [this]; rfl

/-- The kids with the label's place put anew. -/
def putKid (ks : List (UInt8 × Option Addr)) (r : Nat) (c : UInt8) (q : Option Addr) (d : Nat) : List (UInt8 × Option Addr) := ks.take r ++ (c, q) :: ks.drop (r + d)

theorem putKid_sorted {ks : List (UInt8 × Option Addr)} {c : UInt8} {r : Nat} (hs : ks.Pairwise (fun a b => a.1 < b.1)) (hp : Place ks c r) (q : Option Addr) (d : Nat) (hd : d = if isAt ks c r then 1 else 0) : (putKid ks r c q d).Pairwise (fun a b => a.1 < b.1) := by
  unfold putKid
  rw [List.pairwise_append]
  have hlo : ∀ x ∈ ks.take r, x.1 < c := by
    intro x hx
    obtain ⟨j, hj, e⟩ := List.getElem_of_mem hx
    rw [List.length_take] at hj
    rw [List.getElem_take] at e
    rw [← e]; exact hp.lo j (by omega) (by omega)
  have hhi : ∀ x ∈ ks.drop (r + d), c < x.1 := by
    intro x hx
    obtain ⟨j, hj, e⟩ := List.getElem_of_mem hx
    rw [List.length_drop] at hj
    rw [List.getElem_drop] at e
    have h1 := hp.hi (r + d + j) (by omega) (by omega)
    rw [e] at h1
    by_cases hne : c = x.1
    · exfalso
      cases hat : isAt ks c r with
      | true =>
        rw [hat] at hd
        obtain ⟨hr, hrc⟩ := Place.mem hat
        have h2 := kids_lt hs r (r + d + j) (by simp at hd; omega) (by omega)
        rw [hrc, e, hne] at h2; omega
      | false =>
        have := hp.nomem hs hat x.2
        rw [hne] at this
        exact this (List.mem_of_mem_drop hx)
    · have := UInt8.le_iff_toNat_le.1 h1
      have hn : c.toNat ≠ x.1.toNat := fun h => hne (UInt8.toNat_inj.1 h)
      exact UInt8.lt_iff_toNat_lt.2 (by omega)
  refine ⟨hs.sublist (List.take_sublist _ _), ?_, ?_⟩
  · rw [List.pairwise_cons]
    exact ⟨fun x hx => hhi x hx, hs.sublist (List.drop_sublist _ _)⟩
  · intro x hx y hy
    rcases List.mem_cons.1 hy with rfl | hy
    · exact hlo x hx
    · have h1 := UInt8.lt_iff_toNat_lt.1 (hlo x hx)
      have h2 := UInt8.lt_iff_toNat_lt.1 (hhi y hy)
      exact UInt8.lt_iff_toNat_lt.2 (by omega)

/-- In a sorted list a label stands once. -/
theorem sorted_once {ks : List (UInt8 × Option Addr)} (hs : ks.Pairwise (fun a b => a.1 < b.1)) {c : UInt8} {p q : Option Addr} (hp : (c, p) ∈ ks) (hq : (c, q) ∈ ks) : p = q := by
  obtain ⟨i, hi, ei⟩ := List.getElem_of_mem hp
  obtain ⟨j, hj, ej⟩ := List.getElem_of_mem hq
  by_cases hij : i = j
  · subst hij; rw [ei] at ej; cases ej; rfl
  · rcases Nat.lt_or_gt_of_ne hij with h | h
    · have := kids_lt hs i j h hj; rw [ei, ej] at this; simp at this
    · have := kids_lt hs j i h hi; rw [ei, ej] at this; simp at this

theorem putKid_mem {ks : List (UInt8 × Option Addr)} {c : UInt8} {r : Nat} (hs : ks.Pairwise (fun a b => a.1 < b.1)) (hp : Place ks c r) (q : Option Addr) (d : Nat) (hd : d = if isAt ks c r then 1 else 0) (c' : UInt8) (x : Option Addr)
    (hm : (c', x) ∈ putKid ks r c q d) : (c' = c ∧ x = q) ∨ (c' ≠ c ∧ (c', x) ∈ ks) := by
  by_cases hc : c' = c
  · subst hc
    exact Or.inl ⟨rfl, sorted_once (putKid_sorted hs hp q d hd) hm (by unfold putKid; simp)⟩
  · refine Or.inr ⟨hc, ?_⟩
    unfold putKid at hm
    rcases List.mem_append.1 hm with h | h
    · exact List.mem_of_mem_take h
    · rcases List.mem_cons.1 h with h | h
      · cases h; exact absurd rfl hc
      · exact List.mem_of_mem_drop h

theorem putKid_nomem {ks : List (UInt8 × Option Addr)} {c : UInt8} {r : Nat} (_hs : ks.Pairwise (fun a b => a.1 < b.1)) (q : Option Addr) (d : Nat) (hd : d = if isAt ks c r then 1 else 0) (c' : UInt8)
    (hm : ∀ x, (c', x) ∉ putKid ks r c q d) : c' ≠ c ∧ ∀ x, (c', x) ∉ ks := by
  have hc : c' ≠ c := fun e => hm q (by subst e; unfold putKid; simp)
  refine ⟨hc, fun x hx => hm x ?_⟩
  unfold putKid
  cases hat : isAt ks c r with
  | false =>
    rw [hat] at hd
    have : d = 0 := by simpa using hd
    subst this
    rw [Nat.add_zero, List.mem_append, List.mem_cons]
    rw [← List.take_append_drop r ks, List.mem_append] at hx
    exact hx.imp id Or.inr
  | true =>
    rw [hat] at hd
    have : d = 1 := by simpa using hd
    subst this
    obtain ⟨hr, hrc⟩ := Place.mem hat
    have e1 : ks = ks.take r ++ ks[r] :: ks.drop (r + 1) := by rw [List.getElem_cons_drop, List.take_append_drop]
    rw [e1, List.mem_append, List.mem_cons] at hx
    rw [List.mem_append, List.mem_cons]
    rcases hx with h | h | h
    · exact Or.inl h
    · rw [← h] at hrc; exact absurd hrc hc
    · exact Or.inr (Or.inr h)

/-- What each key has, with one key's put anew. -/
def upd (f : List UInt8 → List Ver) (key : List UInt8) (h : List Ver) : List UInt8 → List Ver := fun k => if k = key then h else f k

theorem key_cons (key : ByteArray) (h : 0 < key.size) : key.data.toList = key[0] :: (key.extract 1 key.size).data.toList := by
  have e : (key.extract 1 key.size).data.toList = key.data.toList.drop 1 := by
    simp
    exact List.take_of_length_le (by simp)
  rw [e]
  have hl : 0 < key.data.toList.length := by simpa using h
  exact (List.getElem_cons_drop hl).symm

theorem kids_of_owns {R : Nat → Prop} {w : World} {base : Nat} {v : Value} {ks : List (UInt8 × Option Addr)} {n : Nat} (hn : n = ks.length) (h : w.ownsRow base 190 2 v n (kidCells ks)) (hR : ∀ k, v.ownBlock = some k → R k) : KidsAt R w v ks := by
  subst hn
  rcases h.2 with ⟨rfl, h0⟩ | ⟨g, cap, cur, rfl, hbg, hg, hnc, hcm, hcs, htake⟩
  · have : ks = [] := List.length_eq_zero_iff.1 h0
    subst this
    exact ⟨none, 0, rfl, fun _ => rfl, fun h => absurd rfl h⟩
  · refine ⟨_, cap, rfl, (fun h => by cases h), fun _ => ⟨g, rfl, hR g rfl, (Array.getElem?_eq_some_iff.1 hg).1, fun j hj => ?_⟩⟩
    rw [kidCells_len] at hj
    exact h.cellAt j hj

theorem hist_of_owns {R : Nat → Prop} {w : World} {base : Nat} {v : Value} {h : List Ver} {n : Nat} (hn : n = h.length) (ho : w.ownsRow base 81 3 v n (verCells h)) (hR : ∀ k, v.ownBlock = some k → R k) : HistAt R w v h := by
  subst hn
  rcases ho.2 with ⟨rfl, h0⟩ | ⟨g, cap, cur, rfl, hbg, hg, hnc, hcm, hcs, htake⟩
  · have : h = [] := List.length_eq_zero_iff.1 h0
    subst this
    exact ⟨none, 0, rfl, fun _ => rfl, fun h => absurd rfl h⟩
  · refine ⟨_, cap, rfl, (fun h => by cases h), fun _ => ⟨g, rfl, hR g rfl, (Array.getElem?_eq_some_iff.1 hg).1, fun j hj => ?_⟩⟩
    rw [verCells_len] at hj
    exact ho.cellAt j hj

end Go.Proofs.YtnapepbdohidgaaGreatDoor
