/- shelfref: keyed, where it refuses, and where it calls add. -/
import Derived.Test.YtnapepbdohidgaaGreatDoorRef11
namespace Go.Proofs.YtnapepbdohidgaaGreatDoor
open Go.RowKit

theorem step_nokey {st : St} {o : OpD} (hkind : 1 ≤ o.kind ∧ o.kind ≤ 5) (hk : isKeyB o.key = false) : stepSt st o = (st, ⟨2, 0, ⟨#[]⟩⟩) := by
  have h : o.kind = 1 ∨ o.kind = 2 ∨ o.kind = 3 ∨ o.kind = 4 ∨ o.kind = 5 := by omega
  rcases h with h | h | h | h | h <;> simp [stepSt, h, hk]
theorem step_nobody {st : St} {o : OpD} (hkind : o.kind = 1) (hk : isKeyB o.key = true) (hb : 100 < o.body.size) : stepSt st o = (st, ⟨3, 0, ⟨#[]⟩⟩) := by
  simp [stepSt, hkind, hk, hb]
theorem step_put_any {st : St} {o : OpD} (hkind : o.kind = 1) (hk : isKeyB o.key = true) (hb : ¬ 100 < o.body.size) : stepSt st o = (if 200 ≤ st.count then st else addSt st o.key o.body false, if 200 ≤ st.count then ⟨4, 0, ⟨#[]⟩⟩ else ⟨0, st.last + 1, ⟨#[]⟩⟩) := by
  by_cases h : 200 ≤ st.count <;> simp [stepSt, hkind, hk, hb, h]
theorem step_drop_any {st : St} {o : OpD} (hkind : o.kind = 4) (hk : isKeyB o.key = true) : stepSt st o = (if 200 ≤ st.count then st else addSt st o.key ⟨#[]⟩ true, if 200 ≤ st.count then ⟨4, 0, ⟨#[]⟩⟩ else ⟨0, st.last + 1, ⟨#[]⟩⟩) := by
  by_cases h : 200 ≤ st.count <;> simp [stepSt, hkind, hk, h]

set_option maxHeartbeats 2000000 in
set_option maxRecDepth 100000 in
theorem rkeyed_no (B k : Nat) (sl : Value) (R : List RefE) (nx tm : Int) (st : St) (o : OpD) (c : Int) (w : World) (H : RefAt B w k sl R nx tm) (S : Sim st R nx) (hc : (c = 2 ∧ isKeyB o.key = false) ∨ (c = 3 ∧ o.kind = 1 ∧ isKeyB o.key = true ∧ 100 < o.body.size)) :
    Calls Tryz.prog 52 #[.pointer (some ⟨k, 0, none⟩), opVal o] w (RefPost B k st ⟨c, 0, ⟨#[]⟩⟩ w sl R tm) := by
  have R0 := resR (w.alloc (.cells #[.int .i64 o.kind, .string o.key, .string o.body, .string o.delim, .string o.past, .int .i64 o.n, .int .i64 o.src] 31)) (w.heap.size + 1) (by simp) 36
  obtain ⟨kind, key, body, delim, past, nn, src⟩ := o
  simp only at hc R0
  have hcc : (c = 2 ∧ key.size < 1) ∨ (c = 2 ∧ ¬ key.size < 1 ∧ 40 < key.size) ∨ (c = 3 ∧ kind = 1 ∧ ¬ key.size < 1 ∧ ¬ 40 < key.size ∧ 100 < body.size) := by
    rcases hc with ⟨h1, h2⟩ | ⟨h1, h2, h3, h4⟩
    · have := of_decide_eq_false h2
      by_cases h : key.size < 1
      · exact Or.inl ⟨h1, h⟩
      · exact Or.inr (Or.inl ⟨h1, h, by omega⟩)
    · have := of_decide_eq_true h3
      exact Or.inr (Or.inr ⟨h1, h2, by omega, by omega, h4⟩)
  have HH : Hid (RefAt B w k sl R nx tm ∧ Sim st R nx) := ⟨H, S⟩
  have HR0 : Hid (ResR (w.heap.size + 1) ((w.alloc (.cells #[.int .i64 kind, .string key, .string body, .string delim, .string past, .int .i64 nn, .int .i64 src] 31)).alloc (.cells #[.int .i64 0, .int .i64 0, .string ⟨#[]⟩, .slice none 0 0, .string ⟨#[]⟩] 36))) := R0
  have hkw := H.lt
  clear H S R0 hc
  unfold RefPost
  simp only [opVal, ansVal]
  rcases hcc with ⟨rfl, h1⟩ | ⟨rfl, h1, h2⟩ | ⟨rfl, rfl, h1, h2, h3⟩
  · have h0 : key.size = 0 := by omega
    go_enter Tryz.func52, Tryz.ntmps52
    go_wp2_with fail
    refine (rno_any 2 _).mono ?_
    rintro e w2 ⟨rfl, b2⟩
    have HB : Hid (Below w.heap.size w w2) := (((Below.refl _ w).alloc (Nat.le_refl _) _).alloc (by simp) _).trans (b2.mono (by simp; omega))
    obtain ⟨d0, d1, d2, d3, d4, fz⟩ := HR0.out.on b2
    have g0 := fz 0
    have g1 := fz 1
    have g2 := fz 2
    have g3 := fz 3
    have g4 := fz 4
    clear b2 fz
    unfold ansVal
    go_wp2
    refine bodyPost_ret (v := ansVal ⟨2, 0, ⟨#[]⟩⟩) (by simp [results, Tryz.results52, go_sem, ansVal, d0, d1, d2, d3, d4]) rfl ⟨rfl, ?_⟩
    have hb := below_set5 HB.out (x := w.heap.size + 1) (by omega) (.int .i64 2) (.int .i64 0) (.string ⟨#[]⟩) (.slice none 0 0) (.string ⟨#[]⟩)
    exact ⟨sl, R, nx, HH.out.1.below hb, HH.out.2, rframe_below hkw hb _ _⟩
  · go_enter Tryz.func52, Tryz.ntmps52
    go_wp2_with fail
    refine (rno_any 2 _).mono ?_
    rintro e w2 ⟨rfl, b2⟩
    have HB : Hid (Below w.heap.size w w2) := (((Below.refl _ w).alloc (Nat.le_refl _) _).alloc (by simp) _).trans (b2.mono (by simp; omega))
    obtain ⟨d0, d1, d2, d3, d4, fz⟩ := HR0.out.on b2
    have g0 := fz 0
    have g1 := fz 1
    have g2 := fz 2
    have g3 := fz 3
    have g4 := fz 4
    clear b2 fz
    unfold ansVal
    go_wp2
    refine bodyPost_ret (v := ansVal ⟨2, 0, ⟨#[]⟩⟩) (by simp [results, Tryz.results52, go_sem, ansVal, d0, d1, d2, d3, d4]) rfl ⟨rfl, ?_⟩
    have hb := below_set5 HB.out (x := w.heap.size + 1) (by omega) (.int .i64 2) (.int .i64 0) (.string ⟨#[]⟩) (.slice none 0 0) (.string ⟨#[]⟩)
    exact ⟨sl, R, nx, HH.out.1.below hb, HH.out.2, rframe_below hkw hb _ _⟩
  · go_enter Tryz.func52, Tryz.ntmps52
    go_wp2_with fail
    refine (rno_any 3 _).mono ?_
    rintro e w2 ⟨rfl, b2⟩
    have HB : Hid (Below w.heap.size w w2) := (((Below.refl _ w).alloc (Nat.le_refl _) _).alloc (by simp) _).trans (b2.mono (by simp; omega))
    obtain ⟨d0, d1, d2, d3, d4, fz⟩ := HR0.out.on b2
    have g0 := fz 0
    have g1 := fz 1
    have g2 := fz 2
    have g3 := fz 3
    have g4 := fz 4
    clear b2 fz
    unfold ansVal
    go_wp2
    refine bodyPost_ret (v := ansVal ⟨3, 0, ⟨#[]⟩⟩) (by simp [results, Tryz.results52, go_sem, ansVal, d0, d1, d2, d3, d4]) rfl ⟨rfl, ?_⟩
    have hb := below_set5 HB.out (x := w.heap.size + 1) (by omega) (.int .i64 3) (.int .i64 0) (.string ⟨#[]⟩) (.slice none 0 0) (.string ⟨#[]⟩)
    exact ⟨sl, R, nx, HH.out.1.below hb, HH.out.2, rframe_below hkw hb _ _⟩

set_option maxHeartbeats 2000000 in
set_option maxRecDepth 100000 in
theorem rkeyed_add (B k : Nat) (sl : Value) (R : List RefE) (nx tm : Int) (st : St) (s : Nat) (o : OpD) (bd : ByteArray) (mk : Bool) (w : World) (H : RefAt B w k sl R nx tm) (S : Sim st R nx) (hI : Inv st s) (hs : s < 2199023255552) (hB : B ≤ w.heap.size) (hk : isKeyB o.key = true)
    (hc : (o.kind = 1 ∧ ¬ 100 < o.body.size ∧ bd = o.body ∧ mk = false) ∨ (o.kind = 4 ∧ bd = ⟨#[]⟩ ∧ mk = true)) :
    Calls Tryz.prog 52 #[.pointer (some ⟨k, 0, none⟩), opVal o] w (RefPost B k (if 200 ≤ st.count then st else addSt st o.key bd mk) (if 200 ≤ st.count then ⟨4, 0, ⟨#[]⟩⟩ else ⟨0, st.last + 1, ⟨#[]⟩⟩) w sl R tm) := by
  have hk' := of_decide_eq_true hk
  obtain ⟨hk1, hk2⟩ := hk'
  have R0 := resR (w.alloc (.cells #[.int .i64 o.kind, .string o.key, .string o.body, .string o.delim, .string o.past, .int .i64 o.n, .int .i64 o.src] 31)) (w.heap.size + 1) (by simp) 36
  have HC := radd_any B k sl R nx tm st s o.key 0 bd mk ((w.alloc (.cells #[.int .i64 o.kind, .string o.key, .string o.body, .string o.delim, .string o.past, .int .i64 o.n, .int .i64 o.src] 31)).alloc (.cells #[.int .i64 0, .int .i64 0, .string ⟨#[]⟩, .slice none 0 0, .string ⟨#[]⟩] 36)) ((H.alloc _).alloc _) S hI hs (by simp; omega)
  obtain ⟨kind, key, body, delim, past, nn, src⟩ := o
  simp only at hk1 hk2 HC R0 hc
  have HH : Hid (RefAt B w k sl R nx tm) := H
  have HR0 : Hid (ResR (w.heap.size + 1) ((w.alloc (.cells #[.int .i64 kind, .string key, .string body, .string delim, .string past, .int .i64 nn, .int .i64 src] 31)).alloc (.cells #[.int .i64 0, .int .i64 0, .string ⟨#[]⟩, .slice none 0 0, .string ⟨#[]⟩] 36))) := R0
  clear H S hk R0 hI hs
  generalize (if 200 ≤ st.count then st else addSt st key bd mk) = st' at *
  generalize (if 200 ≤ st.count then (⟨4, 0, ⟨#[]⟩⟩ : AnsD) else ⟨0, st.last + 1, ⟨#[]⟩⟩) = sr at *
  obtain ⟨ac, av, ab⟩ := sr
  unfold RefPost
  unfold RefPost at HC
  simp only [opVal, ansVal] at HC ⊢
  have key2 : ∀ w2, Hid (∃ sl' R' nx', RefAt B w2 k sl' R' nx' tm ∧ Sim st' R' nx' ∧ RFrame ((w.alloc (.cells #[.int .i64 kind, .string key, .string body, .string delim, .string past, .int .i64 nn, .int .i64 src] 31)).alloc (.cells #[.int .i64 0, .int .i64 0, .string ⟨#[]⟩, .slice none 0 0, .string ⟨#[]⟩] 36)) w2 k sl R) →
      ∃ sl' R' nx', RefAt B (((((w2.setCell ⟨w.heap.size + 1, 0, none⟩ (.int .i64 ac)).setCell ⟨w.heap.size + 1, 1, none⟩ (.int .i64 av)).setCell ⟨w.heap.size + 1, 2, none⟩ (.string ab)).setCell ⟨w.heap.size + 1, 3, none⟩ (.slice none 0 0)).setCell ⟨w.heap.size + 1, 4, none⟩ (.string ⟨#[]⟩)) k sl' R' nx' tm ∧ Sim st' R' nx' ∧
        RFrame w (((((w2.setCell ⟨w.heap.size + 1, 0, none⟩ (.int .i64 ac)).setCell ⟨w.heap.size + 1, 1, none⟩ (.int .i64 av)).setCell ⟨w.heap.size + 1, 2, none⟩ (.string ab)).setCell ⟨w.heap.size + 1, 3, none⟩ (.slice none 0 0)).setCell ⟨w.heap.size + 1, 4, none⟩ (.string ⟨#[]⟩)) k sl R := fun w2 hX => by
    obtain ⟨sl', R', nx', H', S', F⟩ := hX.out
    obtain ⟨e1, e2⟩ := refEnd HH.out (x := w.heap.size + 1) (((Below.refl _ w).alloc (Nat.le_refl _) _).alloc (by simp) _) (by omega) HR0.out.lt (ty_ans w _ _ _ _ _ _) H' F (.int .i64 ac) (.int .i64 av) (.string ab) (.slice none 0 0) (.string ⟨#[]⟩)
    exact ⟨sl', R', nx', e1, S', e2⟩
  have KEY2 : Hid (∀ w2, Hid (∃ sl' R' nx', RefAt B w2 k sl' R' nx' tm ∧ Sim st' R' nx' ∧ RFrame ((w.alloc (.cells #[.int .i64 kind, .string key, .string body, .string delim, .string past, .int .i64 nn, .int .i64 src] 31)).alloc (.cells #[.int .i64 0, .int .i64 0, .string ⟨#[]⟩, .slice none 0 0, .string ⟨#[]⟩] 36)) w2 k sl R) → _) := key2
  clear key2
  rcases hc with ⟨rfl, hbd, rfl, rfl⟩ | ⟨rfl, rfl, rfl⟩
  · go_enter Tryz.func52, Tryz.ntmps52
    go_wp2_with fail
    refine HC.mono ?_
    rintro e w2 ⟨rfl, sl', R', nx', H', S', F⟩
    obtain ⟨d0, d1, d2, d3, d4, fz⟩ := HR0.out.frame F (HH.out.old (by omega))
    have g0 := fz 0
    have g1 := fz 1
    have g2 := fz 2
    have g3 := fz 3
    have g4 := fz 4
    have HE := KEY2.out w2 ⟨sl', R', nx', H', S', F⟩
    have HE2 : Hid _ := HE
    clear HC H' S' F fz HE KEY2
    go_wp2
    exact bodyPost_ret (v := ansVal ⟨ac, av, ab⟩) (by simp [results, Tryz.results52, go_sem, ansVal, d0, d1, d2, d3, d4]) rfl ⟨rfl, HE2.out⟩
  · go_enter Tryz.func52, Tryz.ntmps52
    go_wp2_with fail
    refine HC.mono ?_
    rintro e w2 ⟨rfl, sl', R', nx', H', S', F⟩
    obtain ⟨d0, d1, d2, d3, d4, fz⟩ := HR0.out.frame F (HH.out.old (by omega))
    have g0 := fz 0
    have g1 := fz 1
    have g2 := fz 2
    have g3 := fz 3
    have g4 := fz 4
    have HE := KEY2.out w2 ⟨sl', R', nx', H', S', F⟩
    have HE2 : Hid _ := HE
    clear HC H' S' F fz HE KEY2
    go_wp2
    exact bodyPost_ret (v := ansVal ⟨ac, av, ab⟩) (by simp [results, Tryz.results52, go_sem, ansVal, d0, d1, d2, d3, d4]) rfl ⟨rfl, HE2.out⟩

/-- keyed, for every step on a key. -/
theorem rkeyed_any (B k : Nat) (sl : Value) (R : List RefE) (nx tm : Int) (st : St) (s : Nat) (o : OpD) (w : World) (H : RefAt B w k sl R nx tm) (S : Sim st R nx) (hI : Inv st s) (hs : s < 2199023255552) (hB : B ≤ w.heap.size) (hkind : 1 ≤ o.kind ∧ o.kind ≤ 5) :
    Calls Tryz.prog 52 #[.pointer (some ⟨k, 0, none⟩), opVal o] w (RefPost B k (stepSt st o).1 (stepSt st o).2 w sl R tm) := by
  cases hk : isKeyB o.key with
  | false => rw [step_nokey hkind hk]; exact rkeyed_no B k sl R nx tm st o 2 w H S (Or.inl ⟨rfl, hk⟩)
  | true =>
    have h : o.kind = 1 ∨ o.kind = 4 ∨ o.kind = 2 ∨ o.kind = 3 ∨ o.kind = 5 := by omega
    rcases h with h | h | h
    · by_cases hb : 100 < o.body.size
      · rw [step_nobody h hk hb]; exact rkeyed_no B k sl R nx tm st o 3 w H S (Or.inr ⟨rfl, h, hk, hb⟩)
      · rw [step_put_any h hk hb]; exact rkeyed_add B k sl R nx tm st s o o.body false w H S hI hs hB hk (Or.inl ⟨h, hb, rfl, rfl⟩)
    · rw [step_drop_any h hk]; exact rkeyed_add B k sl R nx tm st s o ⟨#[]⟩ true w H S hI hs hB hk (Or.inr ⟨h, rfl, rfl⟩)
    · exact rkeyed_got B k sl R nx tm st o w H S hB h hk

end Go.Proofs.YtnapepbdohidgaaGreatDoor
