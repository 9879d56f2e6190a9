/- What is kept, told plainly; and where it lies. -/
import Derived.Test.YtnapepbdohidgaaGreatDoorTree
import Derived.Test.YtnapepbdohidgaaGreatDoorHist
import Derived.Test.YtnapepbdohidgaaGreatDoorStrClone
namespace Go.Proofs.YtnapepbdohidgaaGreatDoor
open Go.RowKit

structure St where
  f : List UInt8 → List Ver
  count : Int
  last : Int

structure OpD where
  kind : Int
  key : ByteArray
  body : ByteArray
  delim : ByteArray
  past : ByteArray
  n : Int
  src : Int

structure AnsD where
  code : Int
  ver : Int
  body : ByteArray

def opVal (o : OpD) : Value := .agg #[.int .i64 o.kind, .string o.key, .string o.body, .string o.delim, .string o.past, .int .i64 o.n, .int .i64 o.src]
def ansVal (a : AnsD) : Value := .agg #[.int .i64 a.code, .int .i64 a.ver, .string a.body, .slice none 0 0, .string ⟨#[]⟩]

def isKeyB (k : ByteArray) : Bool := decide (1 ≤ k.size ∧ k.size ≤ 40)

/-- A version more. -/
def addSt (st : St) (key : ByteArray) (body : ByteArray) (mark : Bool) : St :=
  ⟨upd st.f key.data.toList (st.f key.data.toList ++ [⟨st.last + 1, body, mark⟩]), st.count + 1, st.last + 1⟩

/-- The place of a number. -/
def placeOf (h : List Ver) (n : Int) : Option Nat := h.findIdx? (fun v => v.num == n)

/-- A version fewer. -/
def dropSt (st : St) (key : ByteArray) (r : Nat) : St :=
  ⟨upd st.f key.data.toList ((st.f key.data.toList).take r ++ (st.f key.data.toList).drop (r + 1)), st.count - 1, st.last⟩

/-- One step: what is kept behind it, and the answer. -/
def stepSt (st : St) (o : OpD) : St × AnsD :=
  let none : AnsD := ⟨0, 0, ⟨#[]⟩⟩
  if o.kind = 1 then
    if isKeyB o.key = false then (st, { none with code := 2 })
    else if 100 < o.body.size then (st, { none with code := 3 })
    else if 200 ≤ st.count then (st, { none with code := 4 })
    else (addSt st o.key o.body false, { none with ver := st.last + 1 })
  else if o.kind = 2 then
    if isKeyB o.key = false then (st, { none with code := 2 })
    else match (st.f o.key.data.toList).getLast? with
      | .none => (st, { none with code := 5 })
      | some v => if v.mark then (st, { none with code := 5 }) else (st, ⟨0, v.num, v.body⟩)
  else if o.kind = 3 then
    if isKeyB o.key = false then (st, { none with code := 2 })
    else match placeOf (st.f o.key.data.toList) o.n with
      | .none => (st, { none with code := 5 })
      | some r => match (st.f o.key.data.toList)[r]? with
        | .none => (st, { none with code := 5 })
        | some v => if v.mark then (st, { none with code := 6 }) else (st, ⟨0, 0, v.body⟩)
  else if o.kind = 4 then
    if isKeyB o.key = false then (st, { none with code := 2 })
    else if 200 ≤ st.count then (st, { none with code := 4 })
    else (addSt st o.key ⟨#[]⟩ true, { none with ver := st.last + 1 })
  else if o.kind = 5 then
    if isKeyB o.key = false then (st, { none with code := 2 })
    else match placeOf (st.f o.key.data.toList) o.n with
      | .none => (st, { none with code := 5 })
      | some r => (dropSt st o.key r, none)
  else (st, { none with code := 1 })

/-- What holds of all that is kept, behind s steps. -/
structure Inv (st : St) (s : Nat) : Prop where
  last0 : 0 ≤ st.last
  lastS : st.last ≤ s
  countL : -(s : Int) ≤ st.count
  countU : st.count ≤ s
  sorted : ∀ k i j, i < j → j < (st.f k).length → nums (st.f k) i < nums (st.f k) j
  bounds : ∀ k i, i < (st.f k).length → 1 ≤ nums (st.f k) i ∧ nums (st.f k) i ≤ st.last

theorem Inv.len_aux {st : St} {s : Nat} (h : Inv st s) (k : List UInt8) : ∀ i, i < (st.f k).length → (i : Int) + 1 ≤ nums (st.f k) i := by
  intro i
  induction i with
  | zero => intro hi; have := (h.bounds k 0 hi).1; omega
  | succ i ih =>
    intro hi
    have h1 := ih (by omega)
    have h2 := h.sorted k i (i + 1) (by omega) hi
    omega
theorem Inv.len {st : St} {s : Nat} (h : Inv st s) (k : List UInt8) : (st.f k).length ≤ s := by
  by_cases h0 : (st.f k).length = 0
  · omega
  · have h1 := h.len_aux k ((st.f k).length - 1) (by omega)
    have h2 := (h.bounds k ((st.f k).length - 1) (by omega)).2
    have := h.lastS
    omega

theorem nums_append_left {h : List Ver} {v : Ver} {i : Nat} (hi : i < h.length) : nums (h ++ [v]) i = nums h i := by
  simp [nums, List.getElem?_append_left hi]
theorem nums_append_last {h : List Ver} {v : Ver} : nums (h ++ [v]) h.length = v.num := by simp [nums]

theorem Inv.mono {st : St} {s s' : Nat} (h : Inv st s) (hs : s ≤ s') : Inv st s' :=
  ⟨h.last0, by have := h.lastS; omega, by have := h.countL; omega, by have := h.countU; omega, h.sorted, h.bounds⟩

theorem Inv.add {st : St} {s : Nat} (h : Inv st s) (key body : ByteArray) (mark : Bool) : Inv (addSt st key body mark) (s + 1) := by
  refine ⟨by have := h.last0; simp [addSt]; omega, by have := h.lastS; simp [addSt]; omega, by have := h.countL; simp [addSt]; omega, by have := h.countU; simp [addSt]; omega, ?_, ?_⟩
  · intro k i j hij hj
    by_cases hk : k = key.data.toList
    · subst hk
      simp only [addSt, upd, if_true] at hj ⊢
      rw [List.length_append, List.length_singleton] at hj
      by_cases hjl : j < (st.f key.data.toList).length
      · rw [nums_append_left hjl, nums_append_left (by omega)]; exact h.sorted _ i j hij hjl
      · have hje : j = (st.f key.data.toList).length := by omega
        subst hje
        rw [nums_append_last, nums_append_left hij]
        have := (h.bounds key.data.toList i hij).2
        simp only; omega
    · simp only [addSt, upd, if_neg hk] at hj ⊢
      exact h.sorted k i j hij hj
  · intro k i hi
    by_cases hk : k = key.data.toList
    · subst hk
      simp only [addSt, upd, if_true] at hi ⊢
      rw [List.length_append, List.length_singleton] at hi
      by_cases hil : i < (st.f key.data.toList).length
      · rw [nums_append_left hil]; have := h.bounds _ i hil; omega
      · have hie : i = (st.f key.data.toList).length := by omega
        subst hie
        rw [nums_append_last]; have := h.last0; simp only; omega
    · simp only [addSt, upd, if_neg hk] at hi ⊢
      have := h.bounds k i hi; omega

theorem nums_del {h : List Ver} {r i : Nat} (hr : r < h.length) : nums (h.take r ++ h.drop (r + 1)) i = nums h (if i < r then i else i + 1) := by
  unfold nums
  have hl : (h.take r).length = r := by rw [List.length_take]; omega
  by_cases hi : i < r
  · rw [if_pos hi, List.getElem?_append_left (by omega), List.getElem?_take, if_pos hi]
  · rw [if_neg hi, List.getElem?_append_right (by omega), hl, List.getElem?_drop]
    congr 3; omega

theorem Inv.drop {st : St} {s : Nat} (h : Inv st s) (key : ByteArray) (r : Nat) (hr : r < (st.f key.data.toList).length) : Inv (dropSt st key r) (s + 1) := by
  refine ⟨h.last0, by have := h.lastS; simp [dropSt]; omega, by have := h.countL; simp [dropSt]; omega, by have := h.countU; simp [dropSt]; omega, ?_, ?_⟩
  · intro k i j hij hj
    by_cases hk : k = key.data.toList
    · subst hk
      simp only [dropSt, upd, if_true] at hj ⊢
      rw [List.length_append, List.length_take, List.length_drop] at hj
      rw [nums_del hr, nums_del hr]
      exact h.sorted _ _ _ (by split <;> split <;> omega) (by split <;> omega)
    · simp only [dropSt, upd, if_neg hk] at hj ⊢
      exact h.sorted k i j hij hj
  · intro k i hi
    by_cases hk : k = key.data.toList
    · subst hk
      simp only [dropSt, upd, if_true] at hi ⊢
      rw [List.length_append, List.length_take, List.length_drop] at hi
      rw [nums_del hr]
      exact h.bounds _ _ (by split <;> omega)
    · simp only [dropSt, upd, if_neg hk] at hi ⊢
      exact h.bounds k i hi

/-- The place that the search finds is the place of the number. -/
theorem place_of {h : List Ver} {n : Int} {r : Nat} (hp : PlaceV h n r) (hs : ∀ i j, i < j → j < h.length → nums h i < nums h j) : placeOf h n = if isAtV h n r then some r else none := by
  unfold placeOf
  cases hat : isAtV h n r with
  | true =>
    have := of_decide_eq_true hat
    obtain ⟨hr, hn⟩ := this
    simp only [if_true]
    rw [List.findIdx?_eq_some_iff_getElem]
    refine ⟨hr, ?_, fun j hj => ?_⟩
    · rw [nums_eq hr] at hn; simp [hn]
    · have := hp.lo j (by omega) hj
      rw [nums_eq (by omega)] at this
      simp; omega
  | false =>
    simp only [Bool.false_eq_true, if_false]
    rw [List.findIdx?_eq_none_iff]
    intro v hv
    obtain ⟨j, hj, e⟩ := List.getElem_of_mem hv
    have hne := of_decide_eq_false hat
    have hj' : nums h j = v.num := by rw [nums_eq hj, e]
    by_cases hjr : j < r
    · have := hp.lo j hj hjr; simp; omega
    · have h1 := hp.hi r (by omega) (Nat.le_refl _)
      by_cases hjr2 : j = r
      · subst hjr2
        have : ¬ nums h j = n := fun e => hne ⟨hj, e⟩
        simp; omega
      · have h2 := hs r j (by omega) hj
        simp; omega

/-- Where it lies. -/
structure StoreAt (A : Nat → Prop) (w : World) (k0 : Nat) (st : St) : Prop where
  avoid : ∀ b, A b → b ≠ k0
  tree : ∃ p, w.cell? ⟨k0, 0, none⟩ = some (.pointer p) ∧ NodeAt A 41 w p st.f
  count : w.cell? ⟨k0, 1, none⟩ = some (.int .i64 st.count)
  last : w.cell? ⟨k0, 2, none⟩ = some (.int .i64 st.last)
  frozen : ∀ j, w.frozen? ⟨k0, j, none⟩ = false

theorem grown_below {w w1 w2 : World} {r : Option Nat} (h : w.grownBy w1 r) (hb : Below w1.heap.size w1 w2) : w.grownBy w2 r := grown_trans h (below_grown hb r)
theorem grown_set_row {w w1 : World} {k0 : Nat} (h : w.grownBy w1 (some k0)) (o : Nat) (v : Value) : w.grownBy (w1.setCell ⟨k0, o, none⟩ v) (some k0) :=
  ⟨h.os, h.tape, h.output, by have := h.size; simp [World.setCell]; omega, fun k hk hr => (Below.heap_setCell _ _ _ _ (fun e => hr (by rw [e]))).trans (h.block k hk hr)⟩
theorem grown_set_new {w w1 : World} {r : Option Nat} (h : w.grownBy w1 r) {b : Nat} (hb : w.heap.size ≤ b) (o : Nat) (v : Value) : w.grownBy (w1.setCell ⟨b, o, none⟩ v) r :=
  ⟨h.os, h.tape, h.output, by have := h.size; simp [World.setCell]; omega, fun k hk hr => (Below.heap_setCell _ _ _ _ (by show k ≠ b; omega)).trans (h.block k hk hr)⟩

theorem StoreAt.lt {A : Nat → Prop} {w : World} {k0 : Nat} {st : St} (S : StoreAt A w k0 st) : k0 < w.heap.size := World.block_lt_of_cell? w _ S.count

/-- What lies elsewhere stays. -/
theorem keepRow {A : Nat → Prop} {w w' : World} {k0 : Nat} (hg : w.grownBy w' (some k0)) (ha : ∀ b, A b → b ≠ k0) : ∀ b, A b → b < w.heap.size → A b ∧ w'.heap[b]? = w.heap[b]? :=
  fun b h1 h2 => ⟨h1, hg.block b h2 (by intro e; cases e; exact ha k0 h1 rfl)⟩

theorem StoreAt.on {A : Nat → Prop} {w w' : World} {k0 : Nat} {st : St} (S : StoreAt A w k0 st) (hb : Below w.heap.size w w') : StoreAt A w' k0 st := by
  obtain ⟨p, c0, hN⟩ := S.tree
  exact ⟨S.avoid, ⟨p, cellOn hb c0, hN.on hb⟩, cellOn hb S.count, cellOn hb S.last, fun j => (hb.frozen (p := ⟨k0, j, none⟩) S.lt).trans (S.frozen j)⟩

theorem StoreAt.grow {A : Nat → Prop} {w : World} {k0 : Nat} {st : St} (S : StoreAt A w k0 st) : StoreAt (Grow A w) w k0 st := by
  obtain ⟨p, c0, hN⟩ := S.tree
  refine ⟨?_, ⟨p, c0, NodeAt.keep (fun b h1 h2 => ⟨Or.inl ⟨h1, h2⟩, rfl⟩) _ _ _ hN⟩, S.count, S.last, S.frozen⟩
  rintro b (⟨h, _⟩ | h)
  · exact S.avoid b h
  · have := S.lt; omega

end Go.Proofs.YtnapepbdohidgaaGreatDoor
