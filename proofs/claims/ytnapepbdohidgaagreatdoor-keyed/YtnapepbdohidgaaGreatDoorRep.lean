/- How a tree of histories lies in memory, told by what each key has. -/
import Derived.Test.YtnapepbdohidgaaGreatDoorSearch
namespace Go.Proofs.YtnapepbdohidgaaGreatDoor
open Go.RowKit

structure Ver where
  num : Int
  body : ByteArray
  mark : Bool

/-- The cells of a history. -/
def verCells (h : List Ver) : List Value := h.flatMap fun v => [.int .i64 v.num, .string v.body, .bool v.mark]
def kidCells (ks : List (UInt8 × Option Addr)) : List Value := ks.flatMap fun k => [.int .u8 (k.1.toNat : Int), .pointer k.2]

/-- A slice whose n elements, of so many cells each, are these cells; its block is one of A's. -/
def RowAt (A : Nat → Prop) (w : World) (v : Value) (n : Nat) (xs : List Value) : Prop :=
  ∃ a cap, v = .slice a n cap ∧ (a = none → cap = 0) ∧ (xs ≠ [] → ∃ g, a = some ⟨g, 0, none⟩ ∧ A g ∧ g < w.heap.size ∧ ∀ j, j < xs.length → w.cell? ⟨g, j, none⟩ = xs[j]?)

def HistAt (A : Nat → Prop) (w : World) (v : Value) (h : List Ver) : Prop := RowAt A w v h.length (verCells h)
def KidsAt (A : Nat → Prop) (w : World) (v : Value) (ks : List (UInt8 × Option Addr)) : Prop := RowAt A w v ks.length (kidCells ks)

/-- The kids of a node, ordered; what each leads to; nothing else begins there. -/
def NodeAt (A : Nat → Prop) : Nat → World → Option Addr → (List UInt8 → List Ver) → Prop
  | 0, _, p, f => p = none ∧ ∀ k, f k = []
  | n + 1, w, p, f => (p = none ∧ ∀ k, f k = []) ∨ ∃ g hv kv ks, p = some ⟨g, 0, none⟩ ∧ A g ∧ w.cell? ⟨g, 0, none⟩ = some (.bool (!(f []).isEmpty)) ∧ w.cell? ⟨g, 1, none⟩ = some hv ∧
      w.cell? ⟨g, 2, none⟩ = some kv ∧ HistAt A w hv (f []) ∧ KidsAt A w kv ks ∧ ks.Pairwise (fun a b => a.1 < b.1) ∧
      (∀ c q, (c, q) ∈ ks → NodeAt A n w q (fun k => f (c :: k))) ∧ (∀ c, (∀ q, (c, q) ∉ ks) → ∀ k, f (c :: k) = [])

theorem RowAt.keep {A A' : Nat → Prop} {w w' : World} {v : Value} {n : Nat} {xs : List Value} (h : RowAt A w v n xs)
    (hk : ∀ b, A b → b < w.heap.size → A' b ∧ w'.heap[b]? = w.heap[b]?) : RowAt A' w' v n xs := by
  obtain ⟨a, cap, hv, ha0, hx⟩ := h
  refine ⟨a, cap, hv, ha0, fun hne => ?_⟩
  obtain ⟨g, ha, hA, hg, hc⟩ := hx hne
  obtain ⟨h1, h2⟩ := hk g hA hg
  refine ⟨g, ha, h1, ?_, fun j hj => ?_⟩
  · have : w'.heap[g]?.isSome := by rw [h2]; simp [hg]
    simpa using this
  · rw [World.cell?_of_block (w := w) (w' := w') (a := ⟨g, j, none⟩) h2]; exact hc j hj

theorem NodeAt.keep {A A' : Nat → Prop} {w w' : World} (hk : ∀ b, A b → b < w.heap.size → A' b ∧ w'.heap[b]? = w.heap[b]?) :
    ∀ (n : Nat) (p : Option Addr) (f : List UInt8 → List Ver), NodeAt A n w p f → NodeAt A' n w' p f := by
  intro n
  induction n with
  | zero => intro p f h; exact h
  | succ n ih =>
    intro p f h
    rcases h with h | ⟨g, hv, kv, ks, hp, hA, c0, c1, c2, hh, hks, hs, hch, hno⟩
    · exact Or.inl h
    · have hg := World.block_lt_of_cell? w _ c0
      obtain ⟨h1, h2⟩ := hk g hA hg
      refine Or.inr ⟨g, hv, kv, ks, hp, h1, ?_, ?_, ?_, hh.keep hk, hks.keep hk, hs, fun c q hq => ih q _ (hch c q hq), hno⟩
      · rw [World.cell?_of_block (w := w) (w' := w') (a := ⟨g, 0, none⟩) h2]; exact c0
      · rw [World.cell?_of_block (w := w) (w' := w') (a := ⟨g, 1, none⟩) h2]; exact c1
      · rw [World.cell?_of_block (w := w) (w' := w') (a := ⟨g, 2, none⟩) h2]; exact c2

theorem keepBelow {A : Nat → Prop} {w w' : World} (hb : Below w.heap.size w w') : ∀ b, A b → b < w.heap.size → A b ∧ w'.heap[b]? = w.heap[b]? :=
  fun b ha hlt => ⟨ha, hb.block b hlt⟩

theorem NodeAt.on {A : Nat → Prop} {w w' : World} {n : Nat} {p : Option Addr} {f : List UInt8 → List Ver} (h : NodeAt A n w p f) (hb : Below w.heap.size w w') : NodeAt A n w' p f :=
  NodeAt.keep (keepBelow hb) n p f h
theorem RowAt.on {A : Nat → Prop} {w w' : World} {v : Value} {n : Nat} {xs : List Value} (h : RowAt A w v n xs) (hb : Below w.heap.size w w') : RowAt A w' v n xs := h.keep (keepBelow hb)

theorem flat_len {α : Type} (m : Nat) (g : α → List Value) (hg : ∀ a, (g a).length = m) (l : List α) : (l.flatMap g).length = l.length * m := by
  induction l with
  | nil => simp
  | cons a l ih => simp [ih, hg]; rw [Nat.add_mul, Nat.one_mul, Nat.add_comm]

theorem flat_get {α : Type} (m : Nat) (g : α → List Value) (hg : ∀ a, (g a).length = m) (l : List α) (i j : Nat) (hi : i < l.length) (hj : j < m) :
    (l.flatMap g)[i * m + j]? = (g l[i])[j]? := by
  induction l generalizing i with
  | nil => simp at hi
  | cons a l ih =>
    rw [List.flatMap_cons]
    cases i with
    | zero => simp only [Nat.zero_mul, Nat.zero_add, List.getElem_cons_zero]; rw [List.getElem?_append_left (by rw [hg]; exact hj)]
    | succ i =>
      rw [List.getElem?_append_right (by rw [hg, Nat.add_mul, Nat.one_mul]; omega), hg]
      have e : (i + 1) * m + j - m = i * m + j := by rw [Nat.add_mul, Nat.one_mul]; omega
      rw [e, ih i (by simpa using hi)]
      rfl

theorem verCells_len (h : List Ver) : (verCells h).length = h.length * 3 := flat_len 3 _ (fun _ => rfl) h
theorem kidCells_len (ks : List (UInt8 × Option Addr)) : (kidCells ks).length = ks.length * 2 := flat_len 2 _ (fun _ => rfl) ks

theorem verCells_ne {h : List Ver} (hne : h ≠ []) : verCells h ≠ [] := by
  intro e; have := verCells_len h; rw [e] at this; simp only [List.length_nil] at this; exact hne (List.length_eq_zero_iff.1 (by omega))
theorem kidCells_ne {h : List (UInt8 × Option Addr)} (hne : h ≠ []) : kidCells h ≠ [] := by
  intro e; have := kidCells_len h; rw [e] at this; simp only [List.length_nil] at this; exact hne (List.length_eq_zero_iff.1 (by omega))

/-- The cells of a history that is not empty. -/
theorem HistAt.cells {A : Nat → Prop} {w : World} {v : Value} {h : List Ver} (hh : HistAt A w v h) (hne : h ≠ []) :
    ∃ g cap, v = .slice (some ⟨g, 0, none⟩) h.length cap ∧ A g ∧ g < w.heap.size ∧ (∀ i (hi : i < h.length), w.cell? ⟨g, i * 3, none⟩ = some (.int .i64 h[i].num) ∧ w.cell? ⟨g, i * 3 + 1, none⟩ = some (.string h[i].body) ∧ w.cell? ⟨g, i * 3 + 2, none⟩ = some (.bool h[i].mark)) ∧
      ∀ j, j < (verCells h).length → w.cell? ⟨g, j, none⟩ = (verCells h)[j]? := by
  obtain ⟨a, cap, hv, -, hx⟩ := hh
  obtain ⟨g, ha, hA, hg, hc⟩ := hx (verCells_ne hne)
  subst ha
  refine ⟨g, cap, hv, hA, hg, fun i hi => ?_, hc⟩
  have hl := verCells_len h
  refine ⟨?_, ?_, ?_⟩
  · rw [hc (i * 3) (by omega)]; exact flat_get 3 _ (fun _ => rfl) h i 0 hi (by omega)
  · rw [hc (i * 3 + 1) (by omega)]; exact flat_get 3 _ (fun _ => rfl) h i 1 hi (by omega)
  · rw [hc (i * 3 + 2) (by omega)]; exact flat_get 3 _ (fun _ => rfl) h i 2 hi (by omega)

theorem KidsAt.cells {A : Nat → Prop} {w : World} {v : Value} {h : List (UInt8 × Option Addr)} (hh : KidsAt A w v h) (hne : h ≠ []) :
    ∃ g cap, v = .slice (some ⟨g, 0, none⟩) h.length cap ∧ A g ∧ g < w.heap.size ∧ (∀ i (hi : i < h.length), w.cell? ⟨g, i * 2, none⟩ = some (.int .u8 (h[i].1.toNat : Int)) ∧ w.cell? ⟨g, i * 2 + 1, none⟩ = some (.pointer h[i].2)) ∧
      ∀ j, j < (kidCells h).length → w.cell? ⟨g, j, none⟩ = (kidCells h)[j]? := by
  obtain ⟨a, cap, hv, -, hx⟩ := hh
  obtain ⟨g, ha, hA, hg, hc⟩ := hx (kidCells_ne hne)
  subst ha
  refine ⟨g, cap, hv, hA, hg, fun i hi => ?_, hc⟩
  have hl := kidCells_len h
  refine ⟨?_, ?_⟩
  · rw [hc (i * 2) (by omega)]; exact flat_get 2 _ (fun _ => rfl) h i 0 hi (by omega)
  · rw [hc (i * 2 + 1) (by omega)]; exact flat_get 2 _ (fun _ => rfl) h i 1 hi (by omega)

/-- There are at most 256 kids. -/
theorem kids_le_aux (ks : List (UInt8 × Option Addr)) (m : Nat) (hs : ks.Pairwise (fun a b => a.1 < b.1)) (hm : ∀ k ∈ ks, m ≤ k.1.toNat) (hm2 : m ≤ 256) : ks.length + m ≤ 256 := by
  induction ks generalizing m with
  | nil => simpa using hm2
  | cons a ks ih =>
    obtain ⟨h1, h2⟩ := List.pairwise_cons.1 hs
    have ha := hm a (List.mem_cons_self ..)
    have hlt := a.1.toNat_lt
    have := ih (a.1.toNat + 1) h2 (fun k hk => by have := UInt8.lt_iff_toNat_lt.1 (h1 k hk); omega) (by omega)
    simp only [List.length_cons]; omega
theorem kids_le (ks : List (UInt8 × Option Addr)) (hs : ks.Pairwise (fun a b => a.1 < b.1)) : ks.length ≤ 256 := by
  have := kids_le_aux ks 0 hs (fun _ _ => Nat.zero_le _) (by omega); omega

theorem kids_lt {ks : List (UInt8 × Option Addr)} (hs : ks.Pairwise (fun a b => a.1 < b.1)) (i j : Nat) (hij : i < j) (hj : j < ks.length) : (ks[i].1.toNat : Int) < (ks[j].1.toNat : Int) := by
  have := List.pairwise_iff_getElem.1 hs i j (by omega) hj hij
  have := UInt8.lt_iff_toNat_lt.1 this
  omega

end Go.Proofs.YtnapepbdohidgaaGreatDoor
