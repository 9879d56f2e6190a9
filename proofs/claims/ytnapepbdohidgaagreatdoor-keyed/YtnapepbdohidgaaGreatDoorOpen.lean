/- A script that came in, opened. -/
import Derived.Test.YtnapepbdohidgaaGreatDoorRun
import Derived.ProofKit
import Derived.SizedLaws
import Derived.Deep.Slices
namespace Go.Proofs.YtnapepbdohidgaaGreatDoor
open Go.ChangeShapes Go.WideShapes Go.ChangeAt Go.RowKit

theorem Tryz.own : ownKnob Tryz.prog.godebug = none := by kernel_rfl
theorem Tryz.laidOut : laidOutB Tryz.prog = true := by kernel_rfl
theorem Tryz.cellsOp : Tryz.prog.cellsOf 31 = 7 := by kernel_rfl
theorem Tryz.cellsInt : Tryz.prog.cellsOf 3 = 1 := by kernel_rfl
theorem Tryz.cellsString : Tryz.prog.cellsOf 9 = 1 := by kernel_rfl
theorem Tryz.bytesOp : Tryz.prog.bytesOf 31 = 88 := by kernel_rfl

theorem seven {α : Type} (l : List α) (h : l.length = 7) : ∃ c0 c1 c2 c3 c4 c5 c6, l = [c0, c1, c2, c3, c4, c5, c6] := by
  match l, h with
  | [a, b, c, d, e, f, g], _ => exact ⟨a, b, c, d, e, f, g, rfl⟩

/-- One step, read. -/
theorem open_op {H : Type} {enc : TypeId × Value → H} {W : World} {base : Nat} {spare : Nat → Bool} {held : Bool} {fuel : Nat} {cs : List Value} {x : DataW H × List MemPlace} (h : DataW.trod enc Tryz.prog W base spare held fuel 31 cs = some x) :
    ∃ o : OpD, cs = opCells o ∧ o.key.size ≤ maxLen ∧ o.body.size ≤ maxLen := by
  obtain ⟨xs, n, rfl, _, hl, hxs, hf⟩ := DataW.trod_struct Tryz.underlying31 h
  rw [Tryz.cellsOp] at hl
  have hx : ∀ i, i < 7 → ∃ y, xs[i]? = some y := fun i hi => ⟨xs[i]'(by rw [hxs]; exact hi), List.getElem?_eq_getElem _⟩
  obtain ⟨c0, c1, c2, c3, c4, c5, c6, rfl⟩ := seven cs hl
  · skip
    obtain ⟨y0, e0⟩ := hx 0 (by omega)
    obtain ⟨y1, e1⟩ := hx 1 (by omega)
    obtain ⟨y2, e2⟩ := hx 2 (by omega)
    obtain ⟨y3, e3⟩ := hx 3 (by omega)
    obtain ⟨y4, e4⟩ := hx 4 (by omega)
    obtain ⟨y5, e5⟩ := hx 5 (by omega)
    obtain ⟨y6, e6⟩ := hx 6 (by omega)
    have t0 := hf 0 _ rfl
    have t1 := hf 1 _ rfl
    have t2 := hf 2 _ rfl
    have t3 := hf 3 _ rfl
    have t4 := hf 4 _ rfl
    have t5 := hf 5 _ rfl
    have t6 := hf 6 _ rfl
    rw [e0] at t0
    rw [e1] at t1
    rw [e2] at t2
    rw [e3] at t3
    rw [e4] at t4
    rw [e5] at t5
    rw [e6] at t6
    obtain ⟨z0, h0, _, _⟩ := DataW.trod_int Tryz.underlying3 t0
    obtain ⟨z1, h1, _, s1⟩ := DataW.trod_string Tryz.underlying9 t1
    obtain ⟨z2, h2, _, s2⟩ := DataW.trod_string Tryz.underlying9 t2
    obtain ⟨z3, h3, _, s3⟩ := DataW.trod_string Tryz.underlying9 t3
    obtain ⟨z4, h4, _, s4⟩ := DataW.trod_string Tryz.underlying9 t4
    obtain ⟨z5, h5, _, _⟩ := DataW.trod_int Tryz.underlying3 t5
    obtain ⟨z6, h6, _, _⟩ := DataW.trod_int Tryz.underlying3 t6
    have k0 : c0 = .int .i64 z0 := by simpa [Tryz.cellsInt] using h0
    have k1 : c1 = .string z1 := by simpa [Tryz.cellsString] using h1
    have k2 : c2 = .string z2 := by simpa [Tryz.cellsString] using h2
    have k3 : c3 = .string z3 := by simpa [Tryz.cellsString] using h3
    have k4 : c4 = .string z4 := by simpa [Tryz.cellsString] using h4
    have k5 : c5 = .int .i64 z5 := by simpa [Tryz.cellsInt] using h5
    have k6 : c6 = .int .i64 z6 := by simpa [Tryz.cellsInt] using h6
    subst k0 k1 k2 k3 k4 k5 k6
    exact ⟨⟨z0, z1, z2, z3, z4, z5, z6⟩, rfl, s1, s2⟩

/-- A script that came in. -/
theorem open_script {H : Type} {enc : TypeId × Value → H} {W : World} {fuel : Nat} {a0 : Option Addr} {len cap : Nat} {x : DataW H × List MemPlace} (h : DataW.trod enc Tryz.prog W 0 (fun _ => true) true fuel 22 [.slice a0 len cap] = some x)
    (hz : ∀ elems spare, x.1 = .slice elems spare → (elems.length + spare.length) * 88 ≤ 140737488355328) :
    (∃ ops, ScrAt W (.slice a0 len cap) ops) ∧ len ≤ cap ∧ cap ≤ maxLen ∧ cap * 88 ≤ 140737488355328 := by
  rcases Go.Deep.open_slice Tryz.underlying22 h with ⟨hcs, _⟩ | ⟨a, len', cap', m, n, D, Pl, hcs, _, hlc, hcm, hm, hx, hel⟩
  · simp only [List.cons.injEq, Value.slice.injEq, and_true] at hcs
    obtain ⟨rfl, rfl, rfl⟩ := hcs
    exact ⟨⟨[], ⟨none, 0, rfl, fun h => absurd rfl h⟩, fun o ho => absurd ho List.not_mem_nil, by simp⟩, Nat.le_refl _, by simp [maxLen], by omega⟩
  · simp only [List.cons.injEq, Value.slice.injEq, and_true] at hcs
    obtain ⟨rfl, rfl, rfl⟩ := hcs
    simp only [if_true] at hm
    subst hm
    have hb := hz _ _ (by rw [hx])
    simp only [List.length_map, List.length_range] at hb
    rw [Tryz.cellsOp] at hel
    have hop : ∀ i, i < len → ∃ o : OpD, (∀ j, j < 7 → W.cell? (a.add (i * 7 + j)) = (opCells o)[j]?) ∧ o.key.size ≤ maxLen ∧ o.body.size ≤ maxLen := fun i hi => by
      obtain ⟨cs', h1, h2⟩ := hel i (by omega)
      obtain ⟨o, rfl, s1, s2⟩ := open_op h2
      obtain ⟨_, _, h3⟩ := World.cells?_some h1
      refine ⟨o, fun j hj => ?_, s1, s2⟩
      rw [← Go.Deep.add_add]; exact h3 j hj
    have hin : Inhabited OpD := ⟨⟨0, ⟨#[]⟩, ⟨#[]⟩, ⟨#[]⟩, ⟨#[]⟩, 0, 0⟩⟩
    obtain ⟨f, hf⟩ := Go.Deep.choose_lt (α := OpD) hop
    refine ⟨⟨(List.range len).map f, ⟨some a, m, by simp, fun hne => ?_⟩, ?_, ?_⟩, hlc, hcm, by omega⟩
    · have hlen : 0 < len := by
        rcases Nat.eq_zero_or_pos len with h0 | h0
        · subst h0; simp at hne
        · exact h0
      obtain ⟨b, off, spot⟩ := a
      have hc0 := (hf 0 hlen).1 0 (by omega)
      have hspot : spot = none := by
        have : W.cell? ((⟨b, off, spot⟩ : Addr).add 0) = some (.int .i64 (f 0).kind) := by simpa [opCells] using hc0
        simpa [Addr.add] using World.cell?_spot this
      subst hspot
      refine ⟨b, off, rfl, fun i hi => ?_⟩
      simp only [List.length_map, List.length_range] at hi
      have h7 : ∀ j, j < 7 → W.cell? ⟨b, off + i * 7 + j, none⟩ = (opCells (f i))[j]? := fun j hj => by
        rw [← (hf i hi).1 j hj, Addr.add_lit]; congr 2; omega
      have hg : ((List.range len).map f)[i]'(by simpa using hi) = f i := by simp
      rw [hg]
      exact ⟨h7 0 (by omega), h7 1 (by omega), h7 2 (by omega), h7 3 (by omega), h7 4 (by omega), h7 5 (by omega), h7 6 (by omega)⟩
    · intro o ho
      obtain ⟨i, hi, rfl⟩ := List.mem_map.1 ho
      exact (hf i (by simpa using hi)).2
    · simp only [List.length_map, List.length_range]; omega

theorem open_len {H : Type} {enc : TypeId × Value → H} {W : World} {fuel : Nat} {a0 : Option Addr} {len cap B : Nat} {x : DataW H × List MemPlace} (h : DataW.trod enc Tryz.prog W 0 (fun _ => true) true fuel 22 [.slice a0 len cap] = some x)
    (hz : ∀ elems spare, x.1 = .slice elems spare → (elems.length + spare.length) * 88 ≤ B) : len * 88 ≤ B := by
  rcases Go.Deep.open_slice Tryz.underlying22 h with ⟨hcs, _⟩ | ⟨a, len', cap', m, n, D, Pl, hcs, _, hlc, hcm, hm, hx, hel⟩
  · simp only [List.cons.injEq, Value.slice.injEq, and_true] at hcs
    obtain ⟨rfl, rfl, rfl⟩ := hcs
    omega
  · simp only [List.cons.injEq, Value.slice.injEq, and_true] at hcs
    obtain ⟨rfl, rfl, rfl⟩ := hcs
    simp only [if_true] at hm
    subst hm
    have hb := hz _ _ (by rw [hx])
    simp only [List.length_map, List.length_range] at hb
    omega

end Go.Proofs.YtnapepbdohidgaaGreatDoor
