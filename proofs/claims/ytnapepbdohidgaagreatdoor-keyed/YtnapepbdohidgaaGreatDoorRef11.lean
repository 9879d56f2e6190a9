/- shelfref: keyed, where it calls got. -/
import Derived.Test.YtnapepbdohidgaaGreatDoorRef10
namespace Go.Proofs.YtnapepbdohidgaaGreatDoor
open Go.RowKit

theorem ty_ans (w : World) (cs : Array Value) (x0 x1 x2 x3 x4 : Value) : ∃ cur z, ((w.alloc (.cells cs 31)).alloc (.cells #[x0, x1, x2, x3, x4] 36)).heap[w.heap.size + 1]? = some (.cells cur 36 z) :=
  ⟨#[x0, x1, x2, x3, x4], (0, 0), by have := heap_alloc_new (w.alloc (.cells cs 31)) (.cells #[x0, x1, x2, x3, x4] 36); rwa [show (w.alloc (.cells cs 31)).heap.size = w.heap.size + 1 by simp] at this⟩

set_option maxHeartbeats 2000000 in
set_option maxRecDepth 100000 in
theorem rkeyed_got (B k : Nat) (sl : Value) (R : List RefE) (nx tm : Int) (st : St) (o : OpD) (w : World) (H : RefAt B w k sl R nx tm) (S : Sim st R nx) (hB : B ≤ w.heap.size) (hkind : o.kind = 2 ∨ o.kind = 3 ∨ o.kind = 5) (hk : isKeyB o.key = true) :
    Calls Tryz.prog 52 #[.pointer (some ⟨k, 0, none⟩), opVal o] w (RefPost B k (stepSt st o).1 (stepSt st o).2 w sl R tm) := by
  have hk' := of_decide_eq_true hk
  obtain ⟨hk1, hk2⟩ := hk'
  have h1 : ¬ o.kind = 1 := by omega
  have h4 : ¬ o.kind = 4 := by omega
  have R0 := resR (w.alloc (.cells #[.int .i64 o.kind, .string o.key, .string o.body, .string o.delim, .string o.past, .int .i64 o.n, .int .i64 o.src] 31)) (w.heap.size + 1) (by simp) 36
  have HC := rgot_any B k sl R nx tm st o ((w.alloc (.cells #[.int .i64 o.kind, .string o.key, .string o.body, .string o.delim, .string o.past, .int .i64 o.n, .int .i64 o.src] 31)).alloc (.cells #[.int .i64 0, .int .i64 0, .string ⟨#[]⟩, .slice none 0 0, .string ⟨#[]⟩] 36)) ((H.alloc _).alloc _) S hkind hk (by simp; omega)
  obtain ⟨kind, key, body, delim, past, nn, src⟩ := o
  simp only at h1 h4 hk1 hk2 HC R0
  have b1 : (kind == 1) = false := by simp [h1]
  have b4 : (kind == 4) = false := by simp [h4]
  have HH : Hid (RefAt B w k sl R nx tm) := H
  have HR0 : Hid (ResR (w.heap.size + 1) ((w.alloc (.cells #[.int .i64 kind, .string key, .string body, .string delim, .string past, .int .i64 nn, .int .i64 src] 31)).alloc (.cells #[.int .i64 0, .int .i64 0, .string ⟨#[]⟩, .slice none 0 0, .string ⟨#[]⟩] 36))) := R0
  clear H S hkind hk R0 h1 h4
  generalize stepSt st ⟨kind, key, body, delim, past, nn, src⟩ = sr at *
  obtain ⟨st', ac, av, ab⟩ := sr
  simp only at HC ⊢
  unfold RefPost
  unfold RefPost at HC
  simp only [opVal, ansVal] at HC ⊢
  go_enter Tryz.func52, Tryz.ntmps52
  go_wp2_with fail
  refine HC.mono ?_
  rintro e w2 ⟨rfl, sl', R', nx', H', S', F⟩
  obtain ⟨d0, d1, d2, d3, d4, fz⟩ := HR0.out.frame F (HH.out.old (by omega))
  have g0 := fz 0
  have g1 := fz 1
  have g2 := fz 2
  have g3 := fz 3
  have g4 := fz 4
  have HE : Hid (RefAt B w2 k sl' R' nx' tm ∧ Sim st' R' nx' ∧ RFrame ((w.alloc (.cells #[.int .i64 kind, .string key, .string body, .string delim, .string past, .int .i64 nn, .int .i64 src] 31)).alloc (.cells #[.int .i64 0, .int .i64 0, .string ⟨#[]⟩, .slice none 0 0, .string ⟨#[]⟩] 36)) w2 k sl R) := ⟨H', S', F⟩
  clear HC H' S' F fz
  go_wp2
  refine bodyPost_ret (v := ansVal ⟨ac, av, ab⟩) (by simp [results, Tryz.results52, go_sem, ansVal, d0, d1, d2, d3, d4]) rfl ⟨rfl, ?_⟩
  obtain ⟨e1, e2⟩ := refEnd HH.out (x := w.heap.size + 1) (((Below.refl _ w).alloc (Nat.le_refl _) _).alloc (by simp) _) (by omega) HR0.out.lt (ty_ans w _ _ _ _ _ _) HE.out.1 HE.out.2.2 (.int .i64 ac) (.int .i64 av) (.string ab) (.slice none 0 0) (.string ⟨#[]⟩)
  exact ⟨sl', R', nx', e1, HE.out.2.1, e2⟩

end Go.Proofs.YtnapepbdohidgaaGreatDoor
