/- Scripts in memory. -/
import Derived.Test.YtnapepbdohidgaaGreatDoorRun
import Derived.Laws.AppendOwnNone
import Derived.Deep.DeepCutAuto
namespace Go.Proofs.YtnapepbdohidgaaGreatDoor
open Go.RowKit

theorem opCells_get (ops : List OpD) (i j : Nat) (hi : i < ops.length) (hj : j < 7) : (ops.flatMap opCells)[i * 7 + j]? = (opCells ops[i])[j]? := flat_get 7 opCells (fun _ => rfl) ops i j hi hj

/-- A script that was laid in one block. -/
theorem scr_new (w : World) (ops : List OpD) (cs : Array Value) (T : TypeId) (hcs : cs = (ops.flatMap opCells).toArray) (m : Nat) (hm : m = ops.length) (hz : Sized ops) (hl : ops.length ≤ 2199023255552) : ScrAt (w.alloc (.cells cs T)) (.slice (some ⟨w.heap.size, 0, none⟩) m m) ops := by
  subst hcs; subst hm
  refine ⟨⟨_, ops.length, rfl, fun _ => ⟨w.heap.size, 0, rfl, fun i hi => ?_⟩⟩, hz, hl⟩
  have h : ∀ j, j < 7 → (w.alloc (.cells (ops.flatMap opCells).toArray T)).cell? ⟨w.heap.size, 0 + i * 7 + j, none⟩ = (opCells ops[i])[j]? := fun j hj => by
    rw [Nat.zero_add, World.cell?_alloc_at (w := w) _ _ w.heap.size _ rfl, ← opCells_get ops i j hi hj]; simp
  exact ⟨h 0 (by omega), h 1 (by omega), h 2 (by omega), h 3 (by omega), h 4 (by omega), h 5 (by omega), h 6 (by omega)⟩

theorem Tryz.infoOp : (Tryz.prog.info? 31).map (fun i => (i.zero, i.size, i.bytes)) = some (some (.agg #[.int .i64 0, .string ⟨#[]⟩, .string ⟨#[]⟩, .string ⟨#[]⟩, .string ⟨#[]⟩, .int .i64 0, .int .i64 0]), 7, 88) := by kernel_rfl

theorem opsCells_len (ops : List OpD) : (ops.flatMap opCells).length = ops.length * 7 := flat_len 7 _ (fun _ => rfl) ops
theorem opsCells_one (ops : List OpD) : ∀ u ∈ ops.flatMap opCells, u.oneCell' = true := by
  intro u hu
  obtain ⟨o, _, hu⟩ := List.mem_flatMap.1 hu
  simp [opCells] at hu
  rcases hu with rfl | rfl | rfl | rfl | rfl | rfl | rfl <;> rfl

theorem scr_of_owns {w : World} {base : Nat} {v : Value} {n : Nat} {ops : List OpD} (h : w.ownsRow base 31 7 v n (ops.flatMap opCells)) (hn : n = ops.length) (hz : Sized ops) (hl : ops.length ≤ 2199023255552) : ScrAt w v ops := by
  subst hn
  rcases h.2 with ⟨rfl, h0⟩ | ⟨g, cap, cur, rfl, hbg, hg, hnc, hcm, hcs, htake⟩
  · have : ops = [] := List.length_eq_zero_iff.1 h0
    subst this
    exact ⟨⟨none, 0, rfl, fun h => absurd rfl h⟩, hz, hl⟩
  · refine ⟨⟨_, cap, rfl, fun _ => ⟨g, 0, rfl, fun i hi => ?_⟩⟩, hz, hl⟩
    have hc : ∀ j, j < 7 → w.cell? ⟨g, 0 + i * 7 + j, none⟩ = (opCells ops[i])[j]? := fun j hj => by
      rw [Nat.zero_add, ← opCells_get ops i j hi hj]; exact h.cellAt _ (by omega)
    exact ⟨hc 0 (by omega), hc 1 (by omega), hc 2 (by omega), hc 3 (by omega), hc 4 (by omega), hc 5 (by omega), hc 6 (by omega)⟩

/-- The cells of a script, as an append asks them. -/
theorem scr_src {w : World} {v : Value} {ops : List OpD} (h : ScrAt w v ops) : (∃ cap, v = .slice none 0 cap ∧ ops = []) ∨ ∃ ad cap, v = .slice (some ad) ops.length cap ∧ ∀ j u, (ops.flatMap opCells)[j]? = some u → w.cell? (ad.add j) = some u := by
  obtain ⟨a, cap, rfl, hx⟩ := h.form
  cases a with
  | none =>
    by_cases hne : ops = []
    · subst hne; exact Or.inl ⟨cap, rfl, rfl⟩
    · obtain ⟨b, off, e, _⟩ := hx hne; cases e
  | some ad =>
    refine Or.inr ⟨ad, cap, rfl, fun j u hj => ?_⟩
    have hne : ops ≠ [] := by intro e; subst e; simp at hj
    obtain ⟨b, off, e, hS⟩ := hx hne
    cases e
    have hlt := (List.getElem?_eq_some_iff.1 hj).1
    rw [opsCells_len] at hlt
    have hi : j / 7 < ops.length := by omega
    have hjj : j = j / 7 * 7 + j % 7 := by omega
    have h7 : j % 7 < 7 := Nat.mod_lt _ (by omega)
    obtain ⟨c0, c1, c2, c3, c4, c5, c6⟩ := hS (j / 7) hi
    have hg := opCells_get ops (j / 7) (j % 7) hi h7
    rw [← hjj, hj] at hg
    rw [Addr.add_lit]
    generalize ops[j / 7] = o at *
    have hoff : off + j = off + j / 7 * 7 + j % 7 := by omega
    rw [hoff]
    generalize j % 7 = r at *
    have hr : r = 0 ∨ r = 1 ∨ r = 2 ∨ r = 3 ∨ r = 4 ∨ r = 5 ∨ r = 6 := by omega
    rcases hr with rfl | rfl | rfl | rfl | rfl | rfl | rfl <;> simp only [opCells, List.getElem?_cons_zero, List.getElem?_cons_succ, Option.some.injEq] at hg <;> subst hg <;> assumption

theorem cells7_new (w : World) (o : OpD) (T : TypeId) : ∀ j u, (opCells o)[j]? = some u → (w.alloc (.cells #[.int .i64 o.kind, .string o.key, .string o.body, .string o.delim, .string o.past, .int .i64 o.n, .int .i64 o.src] T)).cell? ((⟨w.heap.size, 0, none⟩ : Addr).add j) = some u := by
  intro j u hj
  rw [Addr.add_lit, World.cell?_alloc_at (w := w) _ _ w.heap.size _ rfl]
  simpa [opCells] using hj
theorem one7 (o : OpD) : ∀ u ∈ opCells o, u.oneCell' = true := by
  intro u hu; simp [opCells] at hu; rcases hu with rfl | rfl | rfl | rfl | rfl | rfl | rfl <;> rfl

end Go.Proofs.YtnapepbdohidgaaGreatDoor
