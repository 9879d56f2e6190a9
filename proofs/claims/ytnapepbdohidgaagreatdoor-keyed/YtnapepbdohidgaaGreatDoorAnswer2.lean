/- shelf.answer: GET and GETV; every step. -/
import Derived.Test.YtnapepbdohidgaaGreatDoorAnswer
namespace Go.Proofs.YtnapepbdohidgaaGreatDoor
open Go.RowKit

theorem ResA.more {w W0 : World} (h : ResA w W0) (o : Obj) : ResA w (W0.alloc o) := by
  have hb : Below W0.heap.size W0 (W0.alloc o) := (Below.refl _ _).alloc (Nat.le_refl _) _
  exact ⟨h.below.trans (hb.mono h.below.size), Nat.lt_of_lt_of_le h.lt hb.size, cellOn hb h.c0, cellOn hb h.c1, cellOn hb h.c2, cellOn hb h.c3, cellOn hb h.c4, fun j => (hb.frozen (p := ⟨w.heap.size + 1, j, none⟩) h.lt).trans (h.fz j)⟩
theorem below_endA {w w1 : World} (h : Below w.heap.size w w1) (x0 x1 x2 x3 x4 : Value) (o : Obj) : Below w.heap.size w ((((((w1.setCell ⟨w.heap.size + 1, 0, none⟩ x0).setCell ⟨w.heap.size + 1, 1, none⟩ x1).setCell ⟨w.heap.size + 1, 2, none⟩ x2).setCell ⟨w.heap.size + 1, 3, none⟩ x3).setCell ⟨w.heap.size + 1, 4, none⟩ x4).alloc o) := by
  have hx : w.heap.size ≤ w.heap.size + 1 := by omega
  have h5 := ((((h.setCell (p := ⟨w.heap.size + 1, 0, none⟩) hx x0).setCell (p := ⟨w.heap.size + 1, 1, none⟩) hx x1).setCell (p := ⟨w.heap.size + 1, 2, none⟩) hx x2).setCell (p := ⟨w.heap.size + 1, 3, none⟩) hx x3).setCell (p := ⟨w.heap.size + 1, 4, none⟩) hx x4
  exact h5.alloc h5.size o
theorem below_endB {w w1 : World} (h : Below w.heap.size w w1) (y0 y1 y2 x0 x1 x2 x3 x4 : Value) : Below w.heap.size w ((((((((w1.setCell ⟨w.heap.size + 1 + 1, 0, none⟩ y0).setCell ⟨w.heap.size + 1 + 1, 1, none⟩ y1).setCell ⟨w.heap.size + 1 + 1, 2, none⟩ y2).setCell ⟨w.heap.size + 1, 0, none⟩ x0).setCell ⟨w.heap.size + 1, 1, none⟩ x1).setCell ⟨w.heap.size + 1, 2, none⟩ x2).setCell ⟨w.heap.size + 1, 3, none⟩ x3).setCell ⟨w.heap.size + 1, 4, none⟩ x4) := by
  have hx : w.heap.size ≤ w.heap.size + 1 := by omega
  have hy : w.heap.size ≤ w.heap.size + 1 + 1 := by omega
  have h3 := ((h.setCell (p := ⟨w.heap.size + 1 + 1, 0, none⟩) hy y0).setCell (p := ⟨w.heap.size + 1 + 1, 1, none⟩) hy y1).setCell (p := ⟨w.heap.size + 1 + 1, 2, none⟩) hy y2
  exact ((((h3.setCell (p := ⟨w.heap.size + 1, 0, none⟩) hx x0).setCell (p := ⟨w.heap.size + 1, 1, none⟩) hx x1).setCell (p := ⟨w.heap.size + 1, 2, none⟩) hx x2).setCell (p := ⟨w.heap.size + 1, 3, none⟩) hx x3).setCell (p := ⟨w.heap.size + 1, 4, none⟩) hx x4
theorem below_endC {w w1 : World} (h : Below w.heap.size w w1) (x0 x1 x2 x3 x4 : Value) : Below w.heap.size w (((((w1.setCell ⟨w.heap.size + 1, 0, none⟩ x0).setCell ⟨w.heap.size + 1, 1, none⟩ x1).setCell ⟨w.heap.size + 1, 2, none⟩ x2).setCell ⟨w.heap.size + 1, 3, none⟩ x3).setCell ⟨w.heap.size + 1, 4, none⟩ x4) := by
  have hx : w.heap.size ≤ w.heap.size + 1 := by omega
  exact ((((h.setCell (p := ⟨w.heap.size + 1, 0, none⟩) hx x0).setCell (p := ⟨w.heap.size + 1, 1, none⟩) hx x1).setCell (p := ⟨w.heap.size + 1, 2, none⟩) hx x2).setCell (p := ⟨w.heap.size + 1, 3, none⟩) hx x3).setCell (p := ⟨w.heap.size + 1, 4, none⟩) hx x4
theorem ResA.to {w W0 w1 : World} (h : ResA w W0) (hb : Below W0.heap.size W0 w1) : ResA w w1 :=
  ⟨h.below.trans (hb.mono h.below.size), Nat.lt_of_lt_of_le h.lt hb.size, cellOn hb h.c0, cellOn hb h.c1, cellOn hb h.c2, cellOn hb h.c3, cellOn hb h.c4, fun j => (hb.frozen (p := ⟨w.heap.size + 1, j, none⟩) h.lt).trans (h.fz j)⟩
theorem ResA.put {w w1 : World} (h : ResA w w1) (b o : Nat) (v : Value) (hb : w.heap.size + 1 < b) : ResA w (w1.setCell ⟨b, o, none⟩ v) := by
  have hne : ∀ j, (w1.setCell ⟨b, o, none⟩ v).cell? ⟨w.heap.size + 1, j, none⟩ = w1.cell? ⟨w.heap.size + 1, j, none⟩ := fun j => World.cell?_setCell_other w1 ⟨b, o, none⟩ ⟨w.heap.size + 1, j, none⟩ v (fun e => by have := congrArg Addr.block e; simp only at this; omega)
  exact ⟨h.below.setCell (p := ⟨b, o, none⟩) (by simp only; omega) v, by have := h.lt; simpa [World.setCell] using this, (hne 0).trans h.c0, (hne 1).trans h.c1, (hne 2).trans h.c2, (hne 3).trans h.c3, (hne 4).trans h.c4, fun j => fs (h.fz j)⟩
theorem ResA.put3 {w w1 : World} (h : ResA w w1) (x y z : Value) : ResA w (((w1.setCell ⟨w.heap.size + 1 + 1, 0, none⟩ x).setCell ⟨w.heap.size + 1 + 1, 1, none⟩ y).setCell ⟨w.heap.size + 1 + 1, 2, none⟩ z) :=
  ((h.put _ 0 x (by omega)).put _ 1 y (by omega)).put _ 2 z (by omega)
theorem cells3_at (w : World) (x y z : Value) (T : TypeId) (b : Nat) (hb : w.heap.size = b) : Cells3 (w.alloc (.cells #[x, y, z] T)).drew b x y z := by
  subst hb
  have h := cells3_new w x y z T
  exact ⟨h.c0, h.c1, h.c2, h.fz⟩

set_option maxHeartbeats 2000000 in
set_option maxRecDepth 100000 in
theorem answer_get (A : Nat → Prop) (k0 : Nat) (st : St) (s : Nat) (o : OpD) (w : World) (hk : o.key.size ≤ maxLen) (S : StoreAt A w k0 st) (hI : Inv st s) (hs : s < 2199023255552) (hkind : o.kind = 2) :
    Calls Tryz.prog 33 #[.pointer (some ⟨k0, 0, none⟩), opVal o] w (StepPost A w k0 st (ansVal ⟨(getV st o.key).2, (getV st o.key).1.num, (getV st o.key).1.body⟩)) := by
  obtain ⟨kind, key, body, delim, past, n, src⟩ := o
  simp only at hkind hk
  subst hkind
  have R0 := (resA w #[.int .i64 2, .string key, .string body, .string delim, .string past, .int .i64 n, .int .i64 src])
  have HC : Hid (∀ W1, Below w.heap.size w W1 → Calls Tryz.prog 36 #[.pointer (some ⟨k0, 0, none⟩), .string key] W1 fun e w' => e = .returned (.tuple #[verVal (getV st key).1, .int .i64 (getV st key).2]) ∧ Below W1.heap.size W1 w') := fun W1 hb => sget_any A k0 st s key W1 hk (S.on hb) hI (by omega)
  have HS : Hid (StoreAt A w k0 st) := S
  have HRA : Hid (ResA w ((w.alloc (.cells #[.int .i64 2, .string key, .string body, .string delim, .string past, .int .i64 n, .int .i64 src] 31)).alloc (.cells #[.int .i64 0, .int .i64 0, .string ⟨#[]⟩, .slice none 0 0, .string ⟨#[]⟩] 36)).drew) := R0.drew
  have HRB : Hid (ResA w (((w.alloc (.cells #[.int .i64 2, .string key, .string body, .string delim, .string past, .int .i64 n, .int .i64 src] 31)).alloc (.cells #[.int .i64 0, .int .i64 0, .string ⟨#[]⟩, .slice none 0 0, .string ⟨#[]⟩] 36)).alloc (.cells #[.int .i64 0, .string ⟨#[]⟩, .bool false] 81)).drew ∧ Cells3 (((w.alloc (.cells #[.int .i64 2, .string key, .string body, .string delim, .string past, .int .i64 n, .int .i64 src] 31)).alloc (.cells #[.int .i64 0, .int .i64 0, .string ⟨#[]⟩, .slice none 0 0, .string ⟨#[]⟩] 36)).alloc (.cells #[.int .i64 0, .string ⟨#[]⟩, .bool false] 81)).drew (w.heap.size + 1 + 1) (.int .i64 0) (.string ⟨#[]⟩) (.bool false)) := ⟨(R0.more _).drew, (cells3_at _ _ _ _ _ _ (by simp))⟩
  have hk0 := S.lt
  clear R0 S
  simp only [opVal]
  generalize getV st key = pr at *
  obtain ⟨⟨nm, bd, mk⟩, code⟩ := pr
  simp only [verVal] at HC
  go_enter Tryz.func33, Tryz.ntmps33
  go_wp2_with fail
  go_region_with (first
    | (go_at_call 36; refine (HC.out _ HRA.out.below).mono ?_; rintro e w1 ⟨rfl, hb1⟩; obtain ⟨⟨d0, d1, d2, d3, d4⟩, g0, g1, g2, g3, g4⟩ := HRA.out.on hk0 (below_grown hb1 (some k0)); have HX : Hid (Below w.heap.size w w1) := HRA.out.below.trans (hb1.mono HRA.out.below.size); have hlt : w.heap.size + 1 < w1.heap.size := Nat.lt_of_lt_of_le HRA.out.lt hb1.size; clear hb1)
    | (go_at_call 36; refine (HC.out _ HRB.out.1.below).mono ?_; rintro e w1 ⟨rfl, hb1⟩; obtain ⟨⟨d0, d1, d2, d3, d4⟩, g0, g1, g2, g3, g4⟩ := HRB.out.1.on hk0 (below_grown hb1 (some k0)); obtain ⟨v0, v1, v2, vf⟩ := HRB.out.2.on hb1; have f0 := vf 0; have f1 := vf 1; have f2 := vf 2; have HX : Hid (Below w.heap.size w w1) := HRB.out.1.below.trans (hb1.mono HRB.out.1.below.size); have hlt : w.heap.size + 1 < w1.heap.size := Nat.lt_of_lt_of_le HRB.out.1.lt hb1.size; clear hb1))
  · go_wp2
    refine bodyPost_ret (v := ansVal ⟨code, nm, bd⟩) (by simp [results, Tryz.results33, go_sem, ansVal, d0, d1, d2, d3, d4, hlt]) rfl ?_
    exact stepPost_same HS.out (below_endA HX.out _ _ _ _ _ _)
  all_goals
    go_wp2
    refine bodyPost_ret (v := ansVal ⟨code, nm, bd⟩) (by simp [results, Tryz.results33, go_sem, ansVal, d0, d1, d2, d3, d4]) rfl ?_
    have hend := below_endB HX.out (.int .i64 nm) (.string bd) (.bool mk) (.int .i64 code) (.int .i64 nm) (.string bd) (.slice none 0 0) (.string ⟨#[]⟩)
    exact stepPost_same HS.out hend

set_option maxHeartbeats 2000000 in
set_option maxRecDepth 100000 in
theorem answer_getv (A : Nat → Prop) (k0 : Nat) (st : St) (s : Nat) (o : OpD) (w : World) (hk : o.key.size ≤ maxLen) (S : StoreAt A w k0 st) (hI : Inv st s) (hs : s < 2199023255552) (hkind : o.kind = 3) :
    Calls Tryz.prog 33 #[.pointer (some ⟨k0, 0, none⟩), opVal o] w (StepPost A w k0 st (ansVal ⟨(getVV st o.key o.n).2, 0, (getVV st o.key o.n).1.body⟩)) := by
  obtain ⟨kind, key, body, delim, past, n, src⟩ := o
  simp only at hkind hk
  subst hkind
  have R0 := (resA w #[.int .i64 3, .string key, .string body, .string delim, .string past, .int .i64 n, .int .i64 src])
  have HC : Hid (∀ W1, Below w.heap.size w W1 → Calls Tryz.prog 37 #[.pointer (some ⟨k0, 0, none⟩), .string key, .int .i64 n] W1 fun e w' => e = .returned (.tuple #[verVal (getVV st key n).1, .int .i64 (getVV st key n).2]) ∧ Below W1.heap.size W1 w') := fun W1 hb => sgetv_any A k0 st s key n W1 hk (S.on hb) hI (by omega)
  have HS : Hid (StoreAt A w k0 st) := S
  have HRA : Hid (ResA w ((w.alloc (.cells #[.int .i64 3, .string key, .string body, .string delim, .string past, .int .i64 n, .int .i64 src] 31)).alloc (.cells #[.int .i64 0, .int .i64 0, .string ⟨#[]⟩, .slice none 0 0, .string ⟨#[]⟩] 36)).drew) := R0.drew
  have HRB : Hid (ResA w (((w.alloc (.cells #[.int .i64 3, .string key, .string body, .string delim, .string past, .int .i64 n, .int .i64 src] 31)).alloc (.cells #[.int .i64 0, .int .i64 0, .string ⟨#[]⟩, .slice none 0 0, .string ⟨#[]⟩] 36)).alloc (.cells #[.int .i64 0, .string ⟨#[]⟩, .bool false] 81)).drew ∧ Cells3 (((w.alloc (.cells #[.int .i64 3, .string key, .string body, .string delim, .string past, .int .i64 n, .int .i64 src] 31)).alloc (.cells #[.int .i64 0, .int .i64 0, .string ⟨#[]⟩, .slice none 0 0, .string ⟨#[]⟩] 36)).alloc (.cells #[.int .i64 0, .string ⟨#[]⟩, .bool false] 81)).drew (w.heap.size + 1 + 1) (.int .i64 0) (.string ⟨#[]⟩) (.bool false)) := ⟨(R0.more _).drew, (cells3_at _ _ _ _ _ _ (by simp))⟩
  have hk0 := S.lt
  clear R0 S
  simp only [opVal]
  generalize getVV st key n = pr at *
  obtain ⟨⟨nm, bd, mk⟩, code⟩ := pr
  simp only [verVal] at HC
  go_enter Tryz.func33, Tryz.ntmps33
  go_upto_region 9 with fail
  go_cut [9, 10] (fun s9 s10 wx => s10 = .int .i64 code ∧ ∃ bv, s9 = .pointer (some ⟨bv, 0, none⟩) ∧ Cells3 wx bv (.int .i64 nm) (.string bd) (.bool mk) ∧ w.heap.size + 1 < bv ∧ ResA w wx)
  case first =>
    go_region_with (first
      | (go_at_call 37; refine (HC.out _ HRA.out.below).mono ?_; rintro e w1 ⟨rfl, hb1⟩; have HX : Hid (ResA w w1) := HRA.out.to hb1; have hlt : w.heap.size + 1 < w1.heap.size := Nat.lt_of_lt_of_le HRA.out.lt hb1.size; clear hb1)
      | (go_at_call 37; refine (HC.out _ HRB.out.1.below).mono ?_; rintro e w1 ⟨rfl, hb1⟩; obtain ⟨v0, v1, v2, vf⟩ := HRB.out.2.on hb1; have f0 := vf 0; have f1 := vf 1; have f2 := vf 2; have HV : Hid (Cells3 w1 (w.heap.size + 1 + 1) (.int .i64 0) (.string ⟨#[]⟩) (.bool false) ∧ ResA w w1) := ⟨⟨v0, v1, v2, vf⟩, HRB.out.1.to hb1⟩; clear hb1))
    all_goals
      go_wp2_with fail
      go_meet
      case rel =>
        first
          | exact ⟨rfl, w.heap.size + 1 + 1, rfl, ((HV.out.1.set0 (.int .i64 nm)).set1 (.string bd)).set2 (.bool mk), by omega, HV.out.2.put3 (.int .i64 nm) (.string bd) (.bool mk)⟩
          | exact ⟨rfl, w1.heap.size, rfl, cells3_new w1 (.int .i64 nm) (.string bd) (.bool mk) 81, hlt, HX.out.more _⟩
  case rest =>
  obtain ⟨rfl, bv, rfl, ⟨v0, v1, v2, -⟩, hbv, hres⟩ := hcut
  have hne : ¬ bv = w.heap.size + 1 := by omega
  have hlt := hres.lt
  obtain ⟨HBE, -, d0, d1, d2, d3, d4, fz⟩ := hres
  have g0 := fz 0
  have g1 := fz 1
  have g2 := fz 2
  have g3 := fz 3
  have g4 := fz 4
  have HX : Hid (Below w.heap.size w wc) := HBE
  clear HBE fz
  go_wp2
  refine bodyPost_ret (v := ansVal ⟨code, 0, bd⟩) (by simp [results, Tryz.results33, go_sem, ansVal, d0, d1, d2, d3, d4]) rfl ?_
  have hend := below_endC HX.out (.int .i64 code) (.int .i64 0) (.string bd) (.slice none 0 0) (.string ⟨#[]⟩)
  exact stepPost_same HS.out hend

theorem stepSt_put (st : St) (o : OpD) (h : o.kind = 1) : stepSt st o = ((putR st o.key o.body).1, ⟨(putR st o.key o.body).2.2, (putR st o.key o.body).2.1, ⟨#[]⟩⟩) := by
  unfold stepSt putR fullB
  rw [if_pos h]
  by_cases h1 : isKeyB o.key = false
  · simp [h1]
  · by_cases h2 : 100 < o.body.size
    · simp [h1, h2]
    · by_cases h3 : 200 ≤ st.count
      · simp [h1, h2, h3]
      · simp [h1, h2, h3]
theorem stepSt_get (st : St) (o : OpD) (h : o.kind = 2) : stepSt st o = (st, ⟨(getV st o.key).2, (getV st o.key).1.num, (getV st o.key).1.body⟩) := by
  unfold stepSt getV
  rw [if_neg (by omega), if_pos h]
  by_cases h1 : isKeyB o.key = false
  · simp [h1, zeroV]
  · cases h2 : (st.f o.key.data.toList).getLast? with
    | none => simp [h1, zeroV]
    | some v => cases h3 : v.mark <;> simp [h1, h3, zeroV]
theorem stepSt_getv (st : St) (o : OpD) (h : o.kind = 3) : stepSt st o = (st, ⟨(getVV st o.key o.n).2, 0, (getVV st o.key o.n).1.body⟩) := by
  unfold stepSt getVV
  rw [if_neg (by omega), if_neg (by omega), if_pos h]
  by_cases h1 : isKeyB o.key = false
  · simp [h1, zeroV]
  · cases h2 : placeOf (st.f o.key.data.toList) o.n with
    | none => simp [h1, zeroV]
    | some r =>
      cases h4 : (st.f o.key.data.toList)[r]? with
      | none => simp [h1, h4, zeroV]
      | some v => cases h3 : v.mark <;> simp [h1, h3, h4, zeroV]
theorem stepSt_drop (st : St) (o : OpD) (h : o.kind = 4) : stepSt st o = ((dropR st o.key).1, ⟨(dropR st o.key).2.2, (dropR st o.key).2.1, ⟨#[]⟩⟩) := by
  unfold stepSt dropR fullB
  rw [if_neg (by omega), if_neg (by omega), if_neg (by omega), if_pos h]
  by_cases h1 : isKeyB o.key = false
  · simp [h1]
  · by_cases h3 : 200 ≤ st.count
    · simp [h1, h3]
    · simp [h1, h3]
theorem stepSt_dropv (st : St) (o : OpD) (h : o.kind = 5) : stepSt st o = ((dropvR st o.key o.n).1, ⟨(dropvR st o.key o.n).2, 0, ⟨#[]⟩⟩) := by
  unfold stepSt dropvR
  rw [if_neg (by omega), if_neg (by omega), if_neg (by omega), if_neg (by omega), if_pos h]
  by_cases h1 : isKeyB o.key = false
  · simp [h1]
  · cases h2 : placeOf (st.f o.key.data.toList) o.n <;> simp [h1]

/-- One step. -/
theorem answer_any (A : Nat → Prop) (k0 : Nat) (st : St) (s : Nat) (o : OpD) (w : World) (hk : o.key.size ≤ maxLen) (hbd : o.body.size ≤ maxLen) (S : StoreAt A w k0 st) (hI : Inv st s) (hs : s < 2199023255552) (h6 : o.kind < 6 ∨ 12 < o.kind) :
    Calls Tryz.prog 33 #[.pointer (some ⟨k0, 0, none⟩), opVal o] w (StepPost A w k0 (stepSt st o).1 (ansVal (stepSt st o).2)) := by
  by_cases h1 : o.kind = 1
  · rw [stepSt_put st o h1]; exact answer_put A k0 st s o w hk hbd S hI hs h1
  by_cases h2 : o.kind = 2
  · rw [stepSt_get st o h2]; exact answer_get A k0 st s o w hk S hI hs h2
  by_cases h3 : o.kind = 3
  · rw [stepSt_getv st o h3]; exact answer_getv A k0 st s o w hk S hI hs h3
  by_cases h4 : o.kind = 4
  · rw [stepSt_drop st o h4]; exact answer_drop A k0 st s o w hk S hI hs h4
  by_cases h5 : o.kind = 5
  · rw [stepSt_dropv st o h5]; exact answer_dropv A k0 st s o w hk S hI hs h5
  · have e : stepSt st o = (st, ⟨1, 0, ⟨#[]⟩⟩) := by unfold stepSt; simp [h1, h2, h3, h4, h5]
    rw [e]; exact answer_other A k0 st o w S (by omega)

theorem Inv.step {st : St} {s : Nat} (h : Inv st s) (o : OpD) : Inv (stepSt st o).1 (s + 1) := by
  by_cases h1 : o.kind = 1
  · rw [stepSt_put st o h1]; unfold putR
    (repeat' split) <;> first | exact h.mono (by omega) | exact h.add _ _ _
  by_cases h2 : o.kind = 2
  · rw [stepSt_get st o h2]; exact h.mono (by omega)
  by_cases h3 : o.kind = 3
  · rw [stepSt_getv st o h3]; exact h.mono (by omega)
  by_cases h4 : o.kind = 4
  · rw [stepSt_drop st o h4]; unfold dropR
    (repeat' split) <;> first | exact h.mono (by omega) | exact h.add _ _ _
  by_cases h5 : o.kind = 5
  · rw [stepSt_dropv st o h5]; unfold dropvR
    split
    · exact h.mono (by omega)
    · split
      · exact h.mono (by omega)
      · rename_i r hr
        exact h.drop _ _ (List.findIdx?_eq_some_iff_getElem.1 hr).1
  · have e : stepSt st o = (st, ⟨1, 0, ⟨#[]⟩⟩) := by unfold stepSt; simp [h1, h2, h3, h4, h5]
    rw [e]; exact h.mono (by omega)

end Go.Proofs.YtnapepbdohidgaaGreatDoor
