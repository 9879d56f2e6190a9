/- shelfref: got, GETV. -/
import Derived.Test.YtnapepbdohidgaaGreatDoorRef6
import Derived.Deep.QuietTactic
import Derived.BigQuiet
namespace Go.Proofs.YtnapepbdohidgaaGreatDoor
open Go.RowKit

theorem step_getv_none {st : St} {o : OpD} (hkind : o.kind = 3) (hk : isKeyB o.key = true) (hp : placeOf (st.f o.key.data.toList) o.n = none) : stepSt st o = (st, ⟨5, 0, ⟨#[]⟩⟩) := by
  simp [stepSt, hkind, hk, hp]
theorem step_getv_at {st : St} {o : OpD} {r : Nat} (v : Ver) (hkind : o.kind = 3) (hk : isKeyB o.key = true) (hp : placeOf (st.f o.key.data.toList) o.n = some r) (hv : (st.f o.key.data.toList)[r]? = some v) : stepSt st o = (st, if v.mark then ⟨6, 0, ⟨#[]⟩⟩ else ⟨0, 0, v.body⟩) := by
  cases hm : v.mark <;> simp [stepSt, hkind, hk, hp, hv, hm]
theorem placeOf_none {h : List Ver} {n : Int} (hno : ∀ j (hj : j < h.length), h[j].num ≠ n) : placeOf h n = none := by
  unfold placeOf
  rw [List.findIdx?_eq_none_iff]
  intro x hx
  obtain ⟨j, hj, rfl⟩ := List.getElem_of_mem hx
  simpa using hno j hj
theorem placeOf_some {h : List Ver} {n : Int} {r : Nat} (hr : r < h.length) (hn : h[r].num = n) (hno : ∀ j (hj : j < h.length), j < r → h[j].num ≠ n) : placeOf h n = some r := by
  unfold placeOf
  rw [List.findIdx?_eq_some_iff_getElem]
  exact ⟨hr, by simpa using hn, fun j hj => by simpa using hno j (by omega) hj⟩

set_option maxHeartbeats 2000000 in
set_option maxRecDepth 100000 in
theorem rgot_getv (B k : Nat) (sl : Value) (R : List RefE) (nx tm : Int) (st : St) (o : OpD) (w : World) (H : RefAt B w k sl R nx tm) (S : Sim st R nx) (hkind : o.kind = 3) (hk : isKeyB o.key = true) (i : Nat) (hi : i < R.length) (hik : R[i].key = o.key) :
    Calls Tryz.prog 82 #[.pointer (some ⟨k, 0, none⟩), opVal o] w (RefPost B k (stepSt st o).1 (stepSt st o).2 w sl R tm) := by
  have hlen := len_tot R S.full
  have hlim := S.lim
  have hkw := H.lt
  have hmem : R[i] ∈ R := List.getElem_mem hi
  have hpos := List.length_pos_iff.2 (S.full _ hmem)
  have hml := len_le R i hi
  have hfh : st.f o.key.data.toList = R[i].h := by rw [← hik]; exact S.here _ hmem
  obtain ⟨gv, vcap, hv, hgl, -⟩ := H.ver i hi 0 hpos
  obtain ⟨ge, ecap, rfl, -, hgel, x0, x1⟩ := H.ent i hi
  rw [hv] at x1
  have c0 := H.cells.c0
  have HH : Hid (RefAt B w k (.slice (some ⟨ge, 0, none⟩) R.length ecap) R nx tm ∧ Sim st R nx ∧ R[i].v = .slice (some ⟨gv, 0, none⟩) R[i].h.length vcap) := ⟨H, S, hv⟩
  have HIK : Hid (R[i].key = o.key) := hik
  have HOT : Hid (∀ j (hj : j < R.length), R[j].key = o.key → j = i) := fun j hj hjk => by
    by_cases h : j = i
    · exact h
    · exact absurd (hjk.trans hik.symm) (S.other hi hj h)
  have HNONE : Hid ((∀ j (hj : j < R[i].h.length), R[i].h[j].num ≠ o.n) → stepSt st o = (st, ⟨5, 0, ⟨#[]⟩⟩)) := fun h => step_getv_none hkind hk (by rw [hfh]; exact placeOf_none h)
  have HSOME : Hid (∀ r (hr : r < R[i].h.length), R[i].h[r].num = o.n → (∀ j (hj : j < R[i].h.length), j < r → R[i].h[j].num ≠ o.n) → stepSt st o = (st, if R[i].h[r].mark then ⟨6, 0, ⟨#[]⟩⟩ else ⟨0, 0, R[i].h[r].body⟩)) := fun r hr h1 h2 => step_getv_at _ hkind hk (by rw [hfh]; exact placeOf_some hr h1 h2) (by rw [hfh, List.getElem?_eq_getElem hr])
  have hkk := hkind
  clear H S hik hk hv hmem hpos x0 hfh
  generalize stepSt st o = so at *
  obtain ⟨kind, key, body, delim, past, nn, src⟩ := o
  simp only at hkk HIK HOT HNONE HSOME
  subst hkk
  have hii : (i : Int) < (R.length : Int) := by omega
  unfold RefPost opVal
  go_enter Tryz.func82, Tryz.ntmps82
  go_wp2_with fail
  refine (rfind_any B k _ R nx tm key _ ((HH.out.1.alloc _).alloc _) (by omega)).mono ?_
  rintro e w1 ⟨rfl, ⟨j, hj, hjk, rfl⟩ | ⟨hno, -⟩⟩
  rotate_left
  · exact absurd HIK.out (hno _ (List.getElem_mem hi))
  have hji := HOT.out j hj hjk
  subst hji
  clear hjk
  have hne1 : ¬ ge = w.heap.size := by omega
  have hne2 : ¬ ge = w.heap.size + 1 := by omega
  have hne3 : ¬ gv = w.heap.size := by omega
  have hne4 : ¬ gv = w.heap.size + 1 := by omega
  have hne5 : ¬ k = w.heap.size := by omega
  have hne6 : ¬ k = w.heap.size + 1 := by omega
  go_wp2_with fail
  have hbW : Below w.heap.size w ((w.alloc (.cells #[.int .i64 3, .string key, .string body, .string delim, .string past, .int .i64 nn, .int .i64 src] 31)).alloc (.cells #[.int .i64 0, .int .i64 0, .string ⟨#[]⟩, .slice none 0 0, .string ⟨#[]⟩] 36)) := ((Below.refl _ w).alloc (Nat.le_refl _) _).alloc (by simp) _
  have RA := resR (w.alloc (.cells #[.int .i64 3, .string key, .string body, .string delim, .string past, .int .i64 nn, .int .i64 src] 31)) (w.heap.size + 1) (by simp) 36
  have hAl : Below (w.alloc (.cells #[.int .i64 3, .string key, .string body, .string delim, .string past, .int .i64 nn, .int .i64 src] 31)).heap.size (w.alloc (.cells #[.int .i64 3, .string key, .string body, .string delim, .string past, .int .i64 nn, .int .i64 src] 31)) ((w.alloc (.cells #[.int .i64 3, .string key, .string body, .string delim, .string past, .int .i64 nn, .int .i64 src] 31)).alloc (.cells #[.int .i64 0, .int .i64 0, .string ⟨#[]⟩, .slice none 0 0, .string ⟨#[]⟩] 36)) := (Below.refl _ _).alloc (Nat.le_refl _) _
  have o0 : ((w.alloc (.cells #[.int .i64 3, .string key, .string body, .string delim, .string past, .int .i64 nn, .int .i64 src] 31)).alloc (.cells #[.int .i64 0, .int .i64 0, .string ⟨#[]⟩, .slice none 0 0, .string ⟨#[]⟩] 36)).cell? ⟨w.heap.size, 0, none⟩ = some (.int .i64 3) := cellOn hAl (by rw [World.cell?_alloc_at (w := w) _ _ w.heap.size 0 rfl]; rfl)
  have o5 : ((w.alloc (.cells #[.int .i64 3, .string key, .string body, .string delim, .string past, .int .i64 nn, .int .i64 src] 31)).alloc (.cells #[.int .i64 0, .int .i64 0, .string ⟨#[]⟩, .slice none 0 0, .string ⟨#[]⟩] 36)).cell? ⟨w.heap.size, 5, none⟩ = some (.int .i64 nn) := cellOn hAl (by rw [World.cell?_alloc_at (w := w) _ _ w.heap.size 5 rfl]; rfl)
  have HW : Hid (Below w.heap.size w ((w.alloc (.cells #[.int .i64 3, .string key, .string body, .string delim, .string past, .int .i64 nn, .int .i64 src] 31)).alloc (.cells #[.int .i64 0, .int .i64 0, .string ⟨#[]⟩, .slice none 0 0, .string ⟨#[]⟩] 36)) ∧ ResR (w.heap.size + 1) ((w.alloc (.cells #[.int .i64 3, .string key, .string body, .string delim, .string past, .int .i64 nn, .int .i64 src] 31)).alloc (.cells #[.int .i64 0, .int .i64 0, .string ⟨#[]⟩, .slice none 0 0, .string ⟨#[]⟩] 36)) ∧ ((w.alloc (.cells #[.int .i64 3, .string key, .string body, .string delim, .string past, .int .i64 nn, .int .i64 src] 31)).alloc (.cells #[.int .i64 0, .int .i64 0, .string ⟨#[]⟩, .slice none 0 0, .string ⟨#[]⟩] 36)).cell? ⟨w.heap.size, 0, none⟩ = some (.int .i64 3) ∧ ((w.alloc (.cells #[.int .i64 3, .string key, .string body, .string delim, .string past, .int .i64 nn, .int .i64 src] 31)).alloc (.cells #[.int .i64 0, .int .i64 0, .string ⟨#[]⟩, .slice none 0 0, .string ⟨#[]⟩] 36)).cell? ⟨w.heap.size, 5, none⟩ = some (.int .i64 nn)) := ⟨hbW, RA, o0, o5⟩
  clear hbW RA hAl o0 o5
  generalize ((w.alloc (.cells #[.int .i64 3, .string key, .string body, .string delim, .string past, .int .i64 nn, .int .i64 src] 31)).alloc (.cells #[.int .i64 0, .int .i64 0, .string ⟨#[]⟩, .slice none 0 0, .string ⟨#[]⟩] 36)) = Wz at *
  go_loopw [8] (fun s8 wr => ∃ r : Nat, r ≤ R[j].h.length ∧ s8 = .int .i64 r ∧ (∀ t (ht : t < R[j].h.length), t < r → R[j].h[t].num ≠ nn) ∧ Below Wz.heap.size Wz wr) (fun s8 _ => R[j].h.length - (intOf s8).toNat)
  case atStart => exact ⟨0, Nat.zero_le _, rfl, fun t ht h => absurd h (by omega), Below.refl _ _⟩
  case round =>
    obtain ⟨r, hrm, rfl, hno, hb⟩ := hrel
    have HNO : Hid (∀ t (ht : t < R[j].h.length), t < r → R[j].h[t].num ≠ nn) := hno
    have HB : Hid (Below w.heap.size w wr ∧ ResR (w.heap.size + 1) wr) := ⟨HW.out.1.trans (hb.mono HW.out.1.size), HW.out.2.1.on hb⟩
    have o0 := cellOn hb HW.out.2.2.1
    have o5 := cellOn hb HW.out.2.2.2
    have HBz : Hid (Below Wz.heap.size Wz wr) := hb
    clear hno hb
    by_cases hlo : r < R[j].h.length
    · skip
      obtain ⟨gv', vcap', hv', -, z0, z1, z2⟩ := HH.out.1.ver j hj r hlo
      rw [HH.out.2.2] at hv'
      cases hv'
      replace z0 := cellOn HB.out.1 z0
      replace z1 := cellOn HB.out.1 z1
      replace z2 := cellOn HB.out.1 z2
      have hri : (r : Int) < (R[j].h.length : Int) := by omega
      by_cases hnum : R[j].h[r].num = nn
      · have HS := HSOME.out r hlo hnum HNO.out
        have HSO : Hid (so = (st, if R[j].h[r].mark then ⟨6, 0, ⟨#[]⟩⟩ else ⟨0, 0, R[j].h[r].body⟩)) := HS
        have hnn : (R[j].h[r].num != nn) = false := by simp [hnum]
        clear HS hnum
        generalize R[j].h[r] = v at *
        obtain ⟨vn, vb, vm⟩ := v
        simp only at z0 z1 z2 hnn HSO
        go_wp2_with fail
        go_quiet (fail)
        have hq : Below wr.heap.size wr (wr.drewN nq) := below_drewN (Below.refl _ _) _
        have z1' := cellOn hq z1
        have z2' := cellOn hq z2
        have o0' := cellOn hq o0
        have HBq : Hid (Below w.heap.size w (wr.drewN nq) ∧ ResR (w.heap.size + 1) (wr.drewN nq)) := ⟨HB.out.1.trans (hq.mono HB.out.1.size), HB.out.2.on hq⟩
        clear z0 z1 z2 o0 o5 hq
        generalize wr.drewN nq = wq at *
        cases vm with
        | true =>
          go_wp2_with fail
          refine (rno_any 6 _).mono ?_
          rintro e w2 ⟨rfl, b2⟩
          have HB2 : Hid (Below w.heap.size w w2) := HBq.out.1.trans (b2.mono HBq.out.1.size)
          obtain ⟨d0, d1, d2, d3, d4, fz⟩ := HBq.out.2.on b2
          have g0 := fz 0
          have g1 := fz 1
          have g2 := fz 2
          have g3 := fz 3
          have g4 := fz 4
          clear b2 fz
          unfold ansVal
          go_wp2
          refine bodyPost_ret (v := ansVal ⟨6, 0, ⟨#[]⟩⟩) (by simp [results, Tryz.results82, go_sem, ansVal, d0, d1, d2, d3, d4]) rfl ⟨by rw [HSO.out]; rfl, ?_⟩
          have hb := below_set5 HB2.out (x := w.heap.size + 1) (by omega) (.int .i64 6) (.int .i64 0) (.string ⟨#[]⟩) (.slice none 0 0) (.string ⟨#[]⟩)
          exact ⟨_, R, nx, HH.out.1.below hb, by rw [HSO.out]; exact HH.out.2.1, rframe_below hkw hb _ _⟩
        | false =>
          obtain ⟨d0, d1, d2, d3, d4, fz⟩ := HBq.out.2
          have g0 := fz 0
          have g1 := fz 1
          have g2 := fz 2
          have g3 := fz 3
          have g4 := fz 4
          clear fz
          go_wp2
          refine bodyPost_ret (v := ansVal ⟨0, 0, vb⟩) (by simp [results, Tryz.results82, go_sem, ansVal, d0, d1, d2, d3, d4]) rfl ⟨by rw [HSO.out]; rfl, ?_⟩
          have hb := below_set5 HBq.out.1 (x := w.heap.size + 1) (by omega) (.int .i64 0) (.int .i64 0) (.string vb) (.slice none 0 0) (.string ⟨#[]⟩)
          exact ⟨_, R, nx, HH.out.1.below hb, by rw [HSO.out]; exact HH.out.2.1, rframe_below hkw hb _ _⟩
      · have hnn : (R[j].h[r].num != nn) = true := by simp [hnum]
        have HNU : Hid (R[j].h[r].num ≠ nn) := hnum
        generalize R[j].h[r].num = vn at z0 hnn hnum
        clear z1 z2 hnum
        go_wp2_with fail
        go_quiet (fail)
        go_wp2_with fail
        refine ⟨⟨r + 1, hlo, by go_num, fun t ht hlt => ?_, below_drewN HBz.out _⟩, by simp [intOf]; omega⟩
        rcases Nat.lt_or_ge t r with h1 | h1
        · exact HNO.out t ht h1
        · have : t = r := by omega
          subst this
          exact HNU.out
    · have hre : r = R[j].h.length := by omega
      subst hre
      have HSO : Hid (so = (st, ⟨5, 0, ⟨#[]⟩⟩)) := HNONE.out (fun t ht => HNO.out t ht ht)
      go_wp2_with fail
      refine (rno_any 5 _).mono ?_
      rintro e w2 ⟨rfl, b2⟩
      have HB2 : Hid (Below w.heap.size w w2) := HB.out.1.trans (b2.mono HB.out.1.size)
      obtain ⟨d0, d1, d2, d3, d4, fz⟩ := HB.out.2.on b2
      have g0 := fz 0
      have g1 := fz 1
      have g2 := fz 2
      have g3 := fz 3
      have g4 := fz 4
      clear b2 fz
      unfold ansVal
      go_wp2
      refine bodyPost_ret (v := ansVal ⟨5, 0, ⟨#[]⟩⟩) (by simp [results, Tryz.results82, go_sem, ansVal, d0, d1, d2, d3, d4]) rfl ⟨by rw [HSO.out], ?_⟩
      have hb := below_set5 HB2.out (x := w.heap.size + 1) (by omega) (.int .i64 5) (.int .i64 0) (.string ⟨#[]⟩) (.slice none 0 0) (.string ⟨#[]⟩)
      exact ⟨_, R, nx, HH.out.1.below hb, by rw [HSO.out]; exact HH.out.2.1, rframe_below hkw hb _ _⟩

end Go.Proofs.YtnapepbdohidgaaGreatDoor
