/- shelfref: what a call leaves, and its answer written down. -/
import Derived.Test.YtnapepbdohidgaaGreatDoorRef3
namespace Go.Proofs.YtnapepbdohidgaaGreatDoor
open Go.RowKit

/-- A block of another type is no row of the shelf's. -/
theorem RefAt.notRow {B : Nat} {w : World} {k : Nat} {sl : Value} {R : List RefE} {nx tm : Int} (H : RefAt B w k sl R nx tm) {x : Nat} {T : TypeId} (h : ∃ cur z, w.heap[x]? = some (.cells cur T z)) (h1 : T ≠ 154) (h2 : T ≠ 145) :
    sl.ownBlock ≠ some x ∧ ∀ e ∈ R, e.v.ownBlock ≠ some x := by
  obtain ⟨cur, z, h⟩ := h
  constructor
  · obtain ⟨-, ⟨rfl, -⟩ | ⟨g, cap, cur', rfl, -, hb, -⟩⟩ := H.row
    · simp [Value.ownBlock]
    · intro e
      simp only [Value.ownBlock, Option.some.injEq] at e
      subst e
      rw [hb] at h
      simp only [Option.some.injEq, Obj.cells.injEq] at h
      exact h1 h.2.1.symm
  · intro x' hx'
    obtain ⟨-, ⟨hv, -⟩ | ⟨g, cap, cur', hv, -, hb, -⟩⟩ := H.vers x' hx'
    · rw [hv]; simp [Value.ownBlock]
    · rw [hv]
      intro e
      simp only [Value.ownBlock, Option.some.injEq] at e
      subst e
      rw [hb] at h
      simp only [Option.some.injEq, Obj.cells.injEq] at h
      exact h2 h.2.1.symm

theorem RefAt.old {B : Nat} {w : World} {k : Nat} {sl : Value} {R : List RefE} {nx tm : Int} (H : RefAt B w k sl R nx tm) {x : Nat} (h : w.heap.size ≤ x) : x ≠ k ∧ sl.ownBlock ≠ some x ∧ ∀ e ∈ R, e.v.ownBlock ≠ some x :=
  ⟨by have := H.lt; omega, fun e => by have := (H.row.lt x e).2; omega, fun e he h2 => by have := ((H.vers e he).lt x h2).2; omega⟩

theorem RFrame.after {w w1 w2 : World} {k : Nat} {sl : Value} {R : List RefE} (hb : Below w.heap.size w w1) (hk : k < w.heap.size) (hf : RFrame w1 w2 k sl R) : RFrame w w2 k sl R :=
  ⟨hf.os.trans hb.os, hf.tape.trans hb.tape, hf.output.trans hb.output, Nat.le_trans hb.size hf.size, fun b h1 h2 h3 h4 => (hf.block b (Nat.lt_of_lt_of_le h1 hb.size) h2 h3 h4).trans (hb.block b h1),
    fun j hj => (hf.cells j hj).trans (World.cell?_of_block (hb.block k hk)), fun j => (hf.frozen j).trans (World.frozen?_of_block (hb.block k hk))⟩

theorem ResR.frame {x : Nat} {W w1 : World} {k : Nat} {sl : Value} {R : List RefE} (h : ResR x W) (hf : RFrame W w1 k sl R) (hx : x ≠ k ∧ sl.ownBlock ≠ some x ∧ ∀ e ∈ R, e.v.ownBlock ≠ some x) : ResR x w1 := by
  have hb := hf.block x h.lt hx.1 hx.2.1 hx.2.2
  exact ⟨(World.cell?_of_block hb).trans h.c0, (World.cell?_of_block hb).trans h.c1, (World.cell?_of_block hb).trans h.c2, (World.cell?_of_block hb).trans h.c3, (World.cell?_of_block hb).trans h.c4, fun j => (World.frozen?_of_block (a := ⟨x, j, none⟩) hb).trans (h.fz j)⟩

/-- What a call left, and its answer written down. -/
theorem refEnd {B k x : Nat} {w w1 w2 : World} {sl sl' : Value} {R R' : List RefE} {nx nx' tm : Int} (H : RefAt B w k sl R nx tm) (hb : Below w.heap.size w w1) (hx : w.heap.size ≤ x) (hx1 : x < w1.heap.size) (hty : ∃ cur z, w1.heap[x]? = some (.cells cur 36 z)) (H' : RefAt B w2 k sl' R' nx' tm) (F : RFrame w1 w2 k sl R) (a b c d e : Value) :
    RefAt B (((((w2.setCell ⟨x, 0, none⟩ a).setCell ⟨x, 1, none⟩ b).setCell ⟨x, 2, none⟩ c).setCell ⟨x, 3, none⟩ d).setCell ⟨x, 4, none⟩ e) k sl' R' nx' tm ∧
    RFrame w (((((w2.setCell ⟨x, 0, none⟩ a).setCell ⟨x, 1, none⟩ b).setCell ⟨x, 2, none⟩ c).setCell ⟨x, 3, none⟩ d).setCell ⟨x, 4, none⟩ e) k sl R := by
  obtain ⟨o1, o2, o3⟩ := H.old hx
  have hbk : w2.heap[x]? = w1.heap[x]? := F.block x hx1 o1 o2 o3
  have hn := H'.notRow (x := x) (T := 36) (by rw [hbk]; exact hty) (by decide) (by decide)
  have hg := grown_set5 w2 x a b c d e
  refine ⟨H'.grown hg (by simpa using o1) (Or.inr hn.1) (fun y hy => Or.inr (hn.2 y hy)), (RFrame.after hb H.lt F).step hg (fun b' h1 h2 => ?_) H'.lt (by simpa using o1)⟩
  simp only [Option.some.injEq] at h2
  omega

end Go.Proofs.YtnapepbdohidgaaGreatDoor
