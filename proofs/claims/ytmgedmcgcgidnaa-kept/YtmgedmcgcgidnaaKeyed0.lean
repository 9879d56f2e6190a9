/- shelfkeep.keyed. -/
import Derived.Test.YtmgedmcgcgidnaaRun
import Derived.Test.YtmgedmcgcgidnaaKeepL
namespace Go.Proofs.Ytmgedmcgcgidnaa
open Go.RowKit

theorem opCells_get (ops : List OpD) (i j : Nat) (hi : i < ops.length) (hj : j < 7) : (ops.flatMap opCells)[i * 7 + j]? = (opCells ops[i])[j]? := flat_get 7 opCells (fun _ => rfl) ops i j hi hj

/-- A script that was laid in one block. -/
theorem scr_new (w : World) (ops : List OpD) (cs : Array Value) (T : TypeId) (hcs : cs = (ops.flatMap opCells).toArray) (m : Nat) (hm : m = ops.length) (hz : Sized ops) (hl : ops.length ≤ 2199023255552) : ScrAt (w.alloc (.cells cs T)) (.slice (some ⟨w.heap.size, 0, none⟩) m m) ops := by
  subst hcs; subst hm
  refine ⟨⟨_, ops.length, rfl, fun _ => ⟨w.heap.size, 0, rfl, fun i hi => ?_⟩⟩, hz, hl⟩
  have h : ∀ j, j < 7 → (w.alloc (.cells (ops.flatMap opCells).toArray T)).cell? ⟨w.heap.size, 0 + i * 7 + j, none⟩ = (opCells ops[i])[j]? := fun j hj => by
    rw [Nat.zero_add, World.cell?_alloc_at (w := w) _ _ w.heap.size _ rfl, ← opCells_get ops i j hi hj]; simp
  exact ⟨h 0 (by omega), h 1 (by omega), h 2 (by omega), h 3 (by omega), h 4 (by omega), h 5 (by omega), h 6 (by omega)⟩

def opsK : List OpD := [⟨1, ⟨#[97]⟩, ⟨#[120]⟩, ⟨#[]⟩, ⟨#[]⟩, 0, 0⟩, ⟨1, ⟨#[97]⟩, ⟨#[121]⟩, ⟨#[]⟩, ⟨#[]⟩, 0, 0⟩, ⟨4, ⟨#[97]⟩, ⟨#[]⟩, ⟨#[]⟩, ⟨#[]⟩, 0, 0⟩, ⟨2, ⟨#[97]⟩, ⟨#[]⟩, ⟨#[]⟩, ⟨#[]⟩, 0, 0⟩, ⟨5, ⟨#[97]⟩, ⟨#[]⟩, ⟨#[]⟩, ⟨#[]⟩, 3, 0⟩, ⟨2, ⟨#[97]⟩, ⟨#[]⟩, ⟨#[]⟩, ⟨#[]⟩, 0, 0⟩, ⟨2, ⟨#[]⟩, ⟨#[]⟩, ⟨#[]⟩, ⟨#[]⟩, 0, 0⟩]

theorem runK : runF opsK = [⟨0, 1, ⟨#[]⟩⟩, ⟨0, 2, ⟨#[]⟩⟩, ⟨0, 3, ⟨#[]⟩⟩, ⟨5, 0, ⟨#[]⟩⟩, ⟨0, 0, ⟨#[]⟩⟩, ⟨0, 2, ⟨#[121]⟩⟩, ⟨2, 0, ⟨#[]⟩⟩] := by kernel_rfl
theorem sizedK : Sized opsK := by
  intro o ho
  simp only [opsK, List.mem_cons, List.not_mem_nil, or_false] at ho
  rcases ho with rfl | rfl | rfl | rfl | rfl | rfl | rfl <;> exact ⟨by simp only [maxLen]; decide, by simp only [maxLen]; decide⟩

set_option maxHeartbeats 2000000 in
set_option maxRecDepth 100000 in
theorem keyed_any (w : World) : Calls Try.prog 7 #[] w fun e w' => e = .returned (.bool true) ∧ Below w.heap.size w w' := by
  go_enter Try.func7, Try.ntmps7
  go_wp2_with fail
  refine (kop_any _ _ _ w).mono ?_
  rintro e w1 ⟨rfl, b1⟩
  go_wp2_with fail
  refine (kop_any _ _ _ w1).mono ?_
  rintro e w2 ⟨rfl, b2⟩
  replace b2 := b1.trans (b2.mono b1.size)
  go_wp2_with fail
  refine (kop_any _ _ _ w2).mono ?_
  rintro e w3 ⟨rfl, b3⟩
  replace b3 := b2.trans (b3.mono b2.size)
  go_wp2_with fail
  refine (kop_any _ _ _ w3).mono ?_
  rintro e w4 ⟨rfl, b4⟩
  replace b4 := b3.trans (b4.mono b3.size)
  go_wp2_with fail
  refine (kop_any _ _ _ w4).mono ?_
  rintro e w5 ⟨rfl, b5⟩
  replace b5 := b4.trans (b5.mono b4.size)
  go_wp2_with fail
  refine (kop_any _ _ _ w5).mono ?_
  rintro e w6 ⟨rfl, b6⟩
  replace b6 := b5.trans (b6.mono b5.size)
  clear b1 b2 b3 b4 b5
  go_wp2_with fail
  refine (run_scr _ opsK _ (scr_new w6 opsK _ _ rfl 7 rfl sizedK (by simp [opsK]))).mono ?_
  have b7 : Below w.heap.size w (w6.alloc (.cells (opsK.flatMap opCells).toArray 31)) := b6.alloc b6.size _
  rintro e w8 ⟨g, rfl, hown, b8⟩
  have HB : Hid (Below w.heap.size w w8) := b7.trans (b8.mono b7.size)
  rw [runK] at hown
  have hc := fun j hj => hown.cellAt (n := 7) (cap := 7) j hj
  have c1 := hc 1 (by omega)
  have c11 := hc 11 (by omega)
  have c15 := hc 15 (by omega)
  have c20 := hc 20 (by omega)
  have c25 := hc 25 (by omega)
  have c26 := hc 26 (by omega)
  have c27 := hc 27 (by omega)
  have c30 := hc 30 (by omega)
  simp only [ansCells, List.flatMap_cons, List.flatMap_nil, List.cons_append, List.nil_append, List.append_nil, List.getElem?_cons_succ, List.getElem?_cons_zero] at c1 c11 c15 c20 c25 c26 c27 c30
  clear hown hc b7 b8 b6
  go_wp2
  go_ret
  exact ⟨rfl, HB.out⟩

end Go.Proofs.Ytmgedmcgcgidnaa
