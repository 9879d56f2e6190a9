/- shelfref: got. -/
import Derived.Test.YtnapepbdohidgaaGreatDoorRef4
import Derived.Deep.RegionLaw
namespace Go.Proofs.YtnapepbdohidgaaGreatDoor
open Go.RowKit

theorem RefAt.ver {B : Nat} {w : World} {k : Nat} {sl : Value} {R : List RefE} {nx tm : Int} (h : RefAt B w k sl R nx tm) (i : Nat) (hi : i < R.length) (r : Nat) (hr : r < R[i].h.length) :
    ∃ g cap, R[i].v = .slice (some ⟨g, 0, none⟩) R[i].h.length cap ∧ g < w.heap.size ∧ w.cell? ⟨g, r * 3, none⟩ = some (.int .i64 R[i].h[r].num) ∧ w.cell? ⟨g, r * 3 + 1, none⟩ = some (.string R[i].h[r].body) ∧ w.cell? ⟨g, r * 3 + 2, none⟩ = some (.bool R[i].h[r].mark) := by
  have ho := h.vers _ (List.getElem_mem hi)
  obtain ⟨g, cap, hv, h1, h2, h3⟩ := owns_some ho (by omega)
  rw [hv] at ho
  refine ⟨g, cap, hv, h2, ?_, ?_, ?_⟩
  · have := ho.cellAt (r * 3 + 0) (by omega)
    rw [verCells, flat_get 3 _ (fun _ => rfl) R[i].h r 0 hr (by omega)] at this
    simpa using this
  · have := ho.cellAt (r * 3 + 1) (by omega)
    rw [verCells, flat_get 3 _ (fun _ => rfl) R[i].h r 1 hr (by omega)] at this
    simpa using this
  · have := ho.cellAt (r * 3 + 2) (by omega)
    rw [verCells, flat_get 3 _ (fun _ => rfl) R[i].h r 2 hr (by omega)] at this
    simpa using this

theorem Sim.missing {st : St} {R : List RefE} {nx : Int} (S : Sim st R nx) {key : ByteArray} (hno : ∀ x ∈ R, x.key ≠ key) : st.f key.data.toList = [] :=
  S.gone _ (fun e he h => hno e he (bytes_inj h))

/-- A key that is not there. -/
theorem step_none {st : St} {o : OpD} (hkind : o.kind = 2 ∨ o.kind = 3 ∨ o.kind = 5) (hk : isKeyB o.key = true) (hf : st.f o.key.data.toList = []) : stepSt st o = (st, ⟨5, 0, ⟨#[]⟩⟩) := by
  rcases hkind with h | h | h <;> simp [stepSt, h, hk, hf, placeOf]

set_option maxHeartbeats 2000000 in
set_option maxRecDepth 100000 in
theorem rgot_none (B k : Nat) (sl : Value) (R : List RefE) (nx tm : Int) (st : St) (o : OpD) (w : World) (H : RefAt B w k sl R nx tm) (S : Sim st R nx) (hkind : o.kind = 2 ∨ o.kind = 3 ∨ o.kind = 5) (hk : isKeyB o.key = true) (hno : ∀ x ∈ R, x.key ≠ o.key) :
    Calls Tryz.prog 82 #[.pointer (some ⟨k, 0, none⟩), opVal o] w (RefPost B k (stepSt st o).1 (stepSt st o).2 w sl R tm) := by
  have hlen := len_tot R S.full
  have hlim := S.lim
  have hkw := H.lt
  rw [step_none hkind hk (S.missing hno)]
  have HH : Hid (RefAt B w k sl R nx tm ∧ Sim st R nx) := ⟨H, S⟩
  have HNO : Hid (∀ x ∈ R, x.key ≠ o.key) := hno
  clear H S hno hk hkind
  obtain ⟨kind, key, body, delim, past, nn, src⟩ := o
  simp only at HNO
  unfold RefPost opVal
  go_enter Tryz.func82, Tryz.ntmps82
  go_wp2_with fail
  refine (rfind_any B k sl R nx tm key _ ((HH.out.1.alloc _).alloc _) (by omega)).mono ?_
  rintro e w1 ⟨rfl, ⟨i, hi, hik, -⟩ | ⟨-, rfl⟩⟩
  · exact absurd hik (HNO.out _ (List.getElem_mem hi))
  go_wp2_with fail
  refine (rno_any 5 _).mono ?_
  rintro e w2 ⟨rfl, b2⟩
  have b3 : Below w.heap.size w w2 := (((Below.refl _ w).alloc (Nat.le_refl _) _).alloc (by simp) _).trans (b2.mono (by simp; omega))
  have HB : Hid (Below w.heap.size w w2) := b3
  have RA := (resR (w.alloc (.cells #[.int .i64 kind, .string key, .string body, .string delim, .string past, .int .i64 nn, .int .i64 src] 31)) (w.heap.size + 1) (by simp) 36).on b2
  obtain ⟨d0, d1, d2, d3, d4, fz⟩ := RA
  have g0 := fz 0
  have g1 := fz 1
  have g2 := fz 2
  have g3 := fz 3
  have g4 := fz 4
  clear b3 b2 fz
  unfold ansVal
  go_wp2
  refine bodyPost_ret (v := ansVal ⟨5, 0, ⟨#[]⟩⟩) (by simp [results, Tryz.results82, go_sem, ansVal, d0, d1, d2, d3, d4]) rfl ⟨rfl, ?_⟩
  have hb := below_set5 HB.out (x := w.heap.size + 1) (by omega) (.int .i64 5) (.int .i64 0) (.string ⟨#[]⟩) (.slice none 0 0) (.string ⟨#[]⟩)
  exact ⟨sl, R, nx, HH.out.1.below hb, HH.out.2, rframe_below hkw hb _ _⟩

/-- GET of a key that is there. -/
theorem step_get_at {st : St} {o : OpD} (h : List Ver) (v : Ver) (hkind : o.kind = 2) (hk : isKeyB o.key = true) (hf : st.f o.key.data.toList = h) (hl : h.getLast? = some v) : stepSt st o = (st, if v.mark then ⟨5, 0, ⟨#[]⟩⟩ else ⟨0, v.num, v.body⟩) := by
  cases hm : v.mark <;> simp [stepSt, hkind, hk, hf, hl, hm]

set_option maxHeartbeats 2000000 in
set_option maxRecDepth 100000 in
theorem rgot_get (B k : Nat) (sl : Value) (R : List RefE) (nx tm : Int) (st : St) (o : OpD) (w : World) (H : RefAt B w k sl R nx tm) (S : Sim st R nx) (hkind : o.kind = 2) (hk : isKeyB o.key = true) (i : Nat) (hi : i < R.length) (hik : R[i].key = o.key) :
    Calls Tryz.prog 82 #[.pointer (some ⟨k, 0, none⟩), opVal o] w (RefPost B k (stepSt st o).1 (stepSt st o).2 w sl R tm) := by
  have hlen := len_tot R S.full
  have hlim := S.lim
  have hkw := H.lt
  have hmem : R[i] ∈ R := List.getElem_mem hi
  have hne := S.full _ hmem
  have hpos := List.length_pos_iff.2 hne
  have hml := len_le R i hi
  have hlast : R[i].h.getLast? = some (R[i].h[R[i].h.length - 1]) := by rw [List.getLast?_eq_getElem?, List.getElem?_eq_getElem (by omega)]
  rw [step_get_at R[i].h _ hkind hk (by rw [← hik]; exact S.here _ hmem) hlast]
  obtain ⟨gv, vcap, hv, hgl, z0, z1, z2⟩ := H.ver i hi (R[i].h.length - 1) (by omega)
  obtain ⟨ge, ecap, rfl, -, hgel, x0, x1⟩ := H.ent i hi
  rw [hv] at x1
  have c0 := H.cells.c0
  have HH : Hid (RefAt B w k (.slice (some ⟨ge, 0, none⟩) R.length ecap) R nx tm ∧ Sim st R nx) := ⟨H, S⟩
  have HIK : Hid (R[i].key = o.key) := hik
  have HOT : Hid (∀ j (hj : j < R.length), R[j].key = o.key → j = i) := fun j hj hjk => by
    by_cases h : j = i
    · exact h
    · exact absurd (hjk.trans hik.symm) (S.other hi hj h)
  generalize R[i].h[R[i].h.length - 1] = v at *
  obtain ⟨vn, vb, vm⟩ := v
  simp only at z0 z1 z2
  obtain ⟨m, hm⟩ : ∃ m, R[i].h.length = m + 1 := ⟨R[i].h.length - 1, by omega⟩
  rw [hm, Nat.add_sub_cancel] at z0 z1 z2
  rw [hm] at x1 hml
  have hkk := hkind
  clear H S hik hk hv hlast hmem hne hpos x0 hm
  obtain ⟨kind, key, body, delim, past, nn, src⟩ := o
  simp only at hkk HIK HOT
  subst hkk
  have hii : (i : Int) < (R.length : Int) := by omega
  unfold RefPost opVal
  go_enter Tryz.func82, Tryz.ntmps82
  go_wp2_with fail
  refine (rfind_any B k _ R nx tm key _ ((HH.out.1.alloc _).alloc _) (by omega)).mono ?_
  rintro e w1 ⟨rfl, ⟨j, hj, hjk, rfl⟩ | ⟨hno, -⟩⟩
  rotate_left
  · exact absurd HIK.out (hno _ (List.getElem_mem hi))
  have hji := HOT.out j hj hjk
  subst hji
  clear hjk
  have hne1 : ¬ ge = w.heap.size := by omega
  have hne2 : ¬ ge = w.heap.size + 1 := by omega
  have hne3 : ¬ gv = w.heap.size := by omega
  have hne4 : ¬ gv = w.heap.size + 1 := by omega
  have hne5 : ¬ k = w.heap.size := by omega
  have hne6 : ¬ k = w.heap.size + 1 := by omega
  cases vm with
  | true =>
    go_wp2_with fail
    refine (rno_any 5 _).mono ?_
    rintro e w2 ⟨rfl, b2⟩
    have b3 : Below w.heap.size w w2 := ((((Below.refl _ w).alloc (Nat.le_refl _) _).alloc (by simp) _).alloc (by simp; omega) _).trans (b2.mono (by simp; omega))
    have HB : Hid (Below w.heap.size w w2) := b3
    have RA := ((resR (w.alloc (.cells #[.int .i64 2, .string key, .string body, .string delim, .string past, .int .i64 nn, .int .i64 src] 31)) (w.heap.size + 1) (by simp) 36).on ((Below.refl _ _).alloc (Nat.le_refl _) _)).on b2
    obtain ⟨d0, d1, d2, d3, d4, fz⟩ := RA
    have g0 := fz 0
    have g1 := fz 1
    have g2 := fz 2
    have g3 := fz 3
    have g4 := fz 4
    clear b3 b2 fz
    unfold ansVal
    go_wp2
    refine bodyPost_ret (v := ansVal ⟨5, 0, ⟨#[]⟩⟩) (by simp [results, Tryz.results82, go_sem, ansVal, d0, d1, d2, d3, d4]) rfl ⟨rfl, ?_⟩
    have hb := below_set5 HB.out (x := w.heap.size + 1) (by omega) (.int .i64 5) (.int .i64 0) (.string ⟨#[]⟩) (.slice none 0 0) (.string ⟨#[]⟩)
    exact ⟨_, R, nx, HH.out.1.below hb, HH.out.2, rframe_below hkw hb _ _⟩
  | false =>
    go_wp2
    refine bodyPost_ret (v := ansVal ⟨0, vn, vb⟩) (by simp [results, Tryz.results82, go_sem, ansVal]) rfl ⟨rfl, ?_⟩
    have hb : Below w.heap.size w (((w.alloc (.cells #[.int .i64 2, .string key, .string body, .string delim, .string past, .int .i64 nn, .int .i64 src] 31)).alloc (.cells #[.int .i64 0, .int .i64 vn, .string vb, .slice none 0 0, .string ⟨#[]⟩] 36)).alloc (.cells #[.int .i64 vn, .string vb, .bool false] 145)) := (((Below.refl _ w).alloc (Nat.le_refl _) _).alloc (by simp) _).alloc (by simp; omega) _
    exact ⟨_, R, nx, HH.out.1.below hb, HH.out.2, rframe_below hkw hb _ _⟩

end Go.Proofs.YtnapepbdohidgaaGreatDoor
