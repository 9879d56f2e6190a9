/- shelf.answer: GET and GETV; every step. -/
import Derived.Test.YtmgedmcgcgidnaaAnswer
namespace Go.Proofs.Ytmgedmcgcgidnaa
open Go.RowKit

set_option maxHeartbeats 2000000 in
set_option maxRecDepth 100000 in
theorem answer_get (A : Nat → Prop) (k0 : Nat) (st : St) (s : Nat) (o : OpD) (w : World) (hk : o.key.size ≤ maxLen) (S : StoreAt A w k0 st) (hI : Inv st s) (hs : s < 2199023255552) (hkind : o.kind = 2) :
    Calls Try.prog 16 #[.pointer (some ⟨k0, 0, none⟩), opVal o] w (StepPost A w k0 st (ansVal ⟨(getV st o.key).2, (getV st o.key).1.num, (getV st o.key).1.body⟩)) := by
  obtain ⟨kind, key, body, delim, past, n, src⟩ := o
  simp only at hkind hk
  subst hkind
  have R0 := resA w #[.int .i64 2, .string key, .string body, .string delim, .string past, .int .i64 n, .int .i64 src]
  have S0 := S.cut R0.below
  have HC := sget_any _ k0 st s key _ hk S0 hI (by omega)
  have HS : Hid (k0 < w.heap.size ∧ ∀ b, A b → b ≠ k0) := ⟨S.lt, S.avoid⟩
  have HR0 : Hid (ResA w ((w.alloc (.cells #[.int .i64 2, .string key, .string body, .string delim, .string past, .int .i64 n, .int .i64 src] 31)).alloc (.cells #[.int .i64 0, .int .i64 0, .string ⟨#[]⟩, .slice none 0 0, .string ⟨#[]⟩] 36)) ∧ StoreAt (fun b => A b ∧ b < w.heap.size) ((w.alloc (.cells #[.int .i64 2, .string key, .string body, .string delim, .string past, .int .i64 n, .int .i64 src] 31)).alloc (.cells #[.int .i64 0, .int .i64 0, .string ⟨#[]⟩, .slice none 0 0, .string ⟨#[]⟩] 36)) k0 st) := ⟨R0, S0⟩
  clear R0 S S0
  simp only [opVal]
  generalize getV st key = pr at *
  obtain ⟨⟨nm, bd, mk⟩, code⟩ := pr
  simp only [verVal] at HC
  go_enter Try.func16, Try.ntmps16
  go_wp2_with fail
  refine HC.mono ?_
  generalize (w.alloc (.cells #[.int .i64 2, .string key, .string body, .string delim, .string past, .int .i64 n, .int .i64 src] 31)).alloc (.cells #[.int .i64 0, .int .i64 0, .string ⟨#[]⟩, .slice none 0 0, .string ⟨#[]⟩] 36) = W0 at *
  rintro e w1 ⟨rfl, hb1⟩
  obtain ⟨⟨d0, d1, d2, d3, d4⟩, g0, g1, g2, g3, g4⟩ := HR0.out.1.on HS.out.1 (below_grown hb1 (some k0))
  have HX : Hid (Below W0.heap.size W0 w1) := hb1
  have hlt : w.heap.size + 1 < w1.heap.size := Nat.lt_of_lt_of_le HR0.out.1.lt hb1.size
  clear hb1 HC
  go_wp2
  refine bodyPost_ret (v := ansVal ⟨code, nm, bd⟩) (by simp [results, Try.results16, go_sem, ansVal, d0, d1, d2, d3, d4, hlt]) rfl ?_
  refine stepPost_alloc ?_ _
  exact put5_post HS.out.1 HS.out.2 HR0.out.1.below HR0.out.1.lt (HR0.out.2.grow.on HX.out) (below_grown HX.out _) _ _ _ _ _

set_option maxHeartbeats 2000000 in
set_option maxRecDepth 100000 in
theorem answer_getv (A : Nat → Prop) (k0 : Nat) (st : St) (s : Nat) (o : OpD) (w : World) (hk : o.key.size ≤ maxLen) (S : StoreAt A w k0 st) (hI : Inv st s) (hs : s < 2199023255552) (hkind : o.kind = 3) :
    Calls Try.prog 16 #[.pointer (some ⟨k0, 0, none⟩), opVal o] w (StepPost A w k0 st (ansVal ⟨(getVV st o.key o.n).2, 0, (getVV st o.key o.n).1.body⟩)) := by
  obtain ⟨kind, key, body, delim, past, n, src⟩ := o
  simp only at hkind hk
  subst hkind
  have R0 := resA w #[.int .i64 3, .string key, .string body, .string delim, .string past, .int .i64 n, .int .i64 src]
  have S0 := S.cut R0.below
  have HC := sgetv_any _ k0 st s key n _ hk S0 hI (by omega)
  have HS : Hid (k0 < w.heap.size ∧ ∀ b, A b → b ≠ k0) := ⟨S.lt, S.avoid⟩
  have HR0 : Hid (ResA w ((w.alloc (.cells #[.int .i64 3, .string key, .string body, .string delim, .string past, .int .i64 n, .int .i64 src] 31)).alloc (.cells #[.int .i64 0, .int .i64 0, .string ⟨#[]⟩, .slice none 0 0, .string ⟨#[]⟩] 36)) ∧ StoreAt (fun b => A b ∧ b < w.heap.size) ((w.alloc (.cells #[.int .i64 3, .string key, .string body, .string delim, .string past, .int .i64 n, .int .i64 src] 31)).alloc (.cells #[.int .i64 0, .int .i64 0, .string ⟨#[]⟩, .slice none 0 0, .string ⟨#[]⟩] 36)) k0 st) := ⟨R0, S0⟩
  clear R0 S S0
  simp only [opVal]
  generalize getVV st key n = pr at *
  obtain ⟨⟨nm, bd, mk⟩, code⟩ := pr
  simp only [verVal] at HC
  go_enter Try.func16, Try.ntmps16
  go_wp2_with fail
  refine HC.mono ?_
  generalize (w.alloc (.cells #[.int .i64 3, .string key, .string body, .string delim, .string past, .int .i64 n, .int .i64 src] 31)).alloc (.cells #[.int .i64 0, .int .i64 0, .string ⟨#[]⟩, .slice none 0 0, .string ⟨#[]⟩] 36) = W0 at *
  rintro e w1 ⟨rfl, hb1⟩
  obtain ⟨⟨d0, d1, d2, d3, d4⟩, g0, g1, g2, g3, g4⟩ := HR0.out.1.on HS.out.1 (below_grown hb1 (some k0))
  have HX : Hid (Below W0.heap.size W0 w1) := hb1
  have hlt : w.heap.size + 1 < w1.heap.size := Nat.lt_of_lt_of_le HR0.out.1.lt hb1.size
  clear hb1 HC
  go_wp2
  refine bodyPost_ret (v := ansVal ⟨code, 0, bd⟩) (by simp [results, Try.results16, go_sem, ansVal, d0, d1, d2, d3, d4, hlt]) rfl ?_
  refine stepPost_alloc ?_ _
  exact put5_post HS.out.1 HS.out.2 HR0.out.1.below HR0.out.1.lt (HR0.out.2.grow.on HX.out) (below_grown HX.out _) _ _ _ _ _

theorem stepSt_put (st : St) (o : OpD) (h : o.kind = 1) : stepSt st o = ((putR st o.key o.body).1, ⟨(putR st o.key o.body).2.2, (putR st o.key o.body).2.1, ⟨#[]⟩⟩) := by
  unfold stepSt putR fullB
  rw [if_pos h]
  by_cases h1 : isKeyB o.key = false
  · simp [h1]
  · by_cases h2 : 100 < o.body.size
    · simp [h1, h2]
    · by_cases h3 : 200 ≤ st.count
      · simp [h1, h2, h3]
      · simp [h1, h2, h3]
theorem stepSt_get (st : St) (o : OpD) (h : o.kind = 2) : stepSt st o = (st, ⟨(getV st o.key).2, (getV st o.key).1.num, (getV st o.key).1.body⟩) := by
  unfold stepSt getV
  rw [if_neg (by omega), if_pos h]
  by_cases h1 : isKeyB o.key = false
  · simp [h1, zeroV]
  · cases h2 : (st.f o.key.data.toList).getLast? with
    | none => simp [h1, zeroV]
    | some v => cases h3 : v.mark <;> simp [h1, h3, zeroV]
theorem stepSt_getv (st : St) (o : OpD) (h : o.kind = 3) : stepSt st o = (st, ⟨(getVV st o.key o.n).2, 0, (getVV st o.key o.n).1.body⟩) := by
  unfold stepSt getVV
  rw [if_neg (by omega), if_neg (by omega), if_pos h]
  by_cases h1 : isKeyB o.key = false
  · simp [h1, zeroV]
  · cases h2 : placeOf (st.f o.key.data.toList) o.n with
    | none => simp [h1, zeroV]
    | some r =>
      cases h4 : (st.f o.key.data.toList)[r]? with
      | none => simp [h1, h4, zeroV]
      | some v => cases h3 : v.mark <;> simp [h1, h3, h4, zeroV]
theorem stepSt_drop (st : St) (o : OpD) (h : o.kind = 4) : stepSt st o = ((dropR st o.key).1, ⟨(dropR st o.key).2.2, (dropR st o.key).2.1, ⟨#[]⟩⟩) := by
  unfold stepSt dropR fullB
  rw [if_neg (by omega), if_neg (by omega), if_neg (by omega), if_pos h]
  by_cases h1 : isKeyB o.key = false
  · simp [h1]
  · by_cases h3 : 200 ≤ st.count
    · simp [h1, h3]
    · simp [h1, h3]
theorem stepSt_dropv (st : St) (o : OpD) (h : o.kind = 5) : stepSt st o = ((dropvR st o.key o.n).1, ⟨(dropvR st o.key o.n).2, 0, ⟨#[]⟩⟩) := by
  unfold stepSt dropvR
  rw [if_neg (by omega), if_neg (by omega), if_neg (by omega), if_neg (by omega), if_pos h]
  by_cases h1 : isKeyB o.key = false
  · simp [h1]
  · cases h2 : placeOf (st.f o.key.data.toList) o.n <;> simp [h1]

/-- One step. -/
theorem answer_any (A : Nat → Prop) (k0 : Nat) (st : St) (s : Nat) (o : OpD) (w : World) (hk : o.key.size ≤ maxLen) (hbd : o.body.size ≤ maxLen) (S : StoreAt A w k0 st) (hI : Inv st s) (hs : s < 2199023255552) :
    Calls Try.prog 16 #[.pointer (some ⟨k0, 0, none⟩), opVal o] w (StepPost A w k0 (stepSt st o).1 (ansVal (stepSt st o).2)) := by
  by_cases h1 : o.kind = 1
  · rw [stepSt_put st o h1]; exact answer_put A k0 st s o w hk hbd S hI hs h1
  by_cases h2 : o.kind = 2
  · rw [stepSt_get st o h2]; exact answer_get A k0 st s o w hk S hI hs h2
  by_cases h3 : o.kind = 3
  · rw [stepSt_getv st o h3]; exact answer_getv A k0 st s o w hk S hI hs h3
  by_cases h4 : o.kind = 4
  · rw [stepSt_drop st o h4]; exact answer_drop A k0 st s o w hk S hI hs h4
  by_cases h5 : o.kind = 5
  · rw [stepSt_dropv st o h5]; exact answer_dropv A k0 st s o w hk S hI hs h5
  · have e : stepSt st o = (st, ⟨1, 0, ⟨#[]⟩⟩) := by unfold stepSt; simp [h1, h2, h3, h4, h5]
    rw [e]; exact answer_other A k0 st o w S h1 h2 h3 h4 h5

theorem Inv.step {st : St} {s : Nat} (h : Inv st s) (o : OpD) : Inv (stepSt st o).1 (s + 1) := by
  by_cases h1 : o.kind = 1
  · rw [stepSt_put st o h1]; unfold putR
    (repeat' split) <;> first | exact h.mono (by omega) | exact h.add _ _ _
  by_cases h2 : o.kind = 2
  · rw [stepSt_get st o h2]; exact h.mono (by omega)
  by_cases h3 : o.kind = 3
  · rw [stepSt_getv st o h3]; exact h.mono (by omega)
  by_cases h4 : o.kind = 4
  · rw [stepSt_drop st o h4]; unfold dropR
    (repeat' split) <;> first | exact h.mono (by omega) | exact h.add _ _ _
  by_cases h5 : o.kind = 5
  · rw [stepSt_dropv st o h5]; unfold dropvR
    split
    · exact h.mono (by omega)
    · split
      · exact h.mono (by omega)
      · rename_i r hr
        exact h.drop _ _ (List.findIdx?_eq_some_iff_getElem.1 hr).1
  · have e : stepSt st o = (st, ⟨1, 0, ⟨#[]⟩⟩) := by unfold stepSt; simp [h1, h2, h3, h4, h5]
    rw [e]; exact h.mono (by omega)

end Go.Proofs.Ytmgedmcgcgidnaa
