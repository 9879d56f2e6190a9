/- shelfref: got, DROPV. -/
import Derived.Test.YtnapepbdohidgaaGreatDoorRef8
import Derived.Deep.DeepCutAuto
namespace Go.Proofs.YtnapepbdohidgaaGreatDoor
open Go.RowKit

/-- Behind the store of the versions that are left. -/
theorem dropPut {B k : Nat} {tm nx : Int} {st : St} {w wq wc : World} {ge ecap j : Nat} {R : List RefE} {v' : Value} {h' : List Ver} (hj : j < R.length) (S : Sim st R nx) (H : RefAt B w k (.slice (some ⟨ge, 0, none⟩) R.length ecap) R nx tm) (Hq : RefAt B wq k (.slice (some ⟨ge, 0, none⟩) R.length ecap) R nx tm)
    (hbq : Below w.heap.size w wq) (hbc : Below wq.heap.size wq wc) (ho : wc.ownsRow wq.heap.size 145 3 v' h'.length (verCells h')) (RA : ResR (w.heap.size + 1) wc) (hx : w.heap.size + 1 < wq.heap.size) (hB : B ≤ wq.heap.size) :
    RefAt B (wc.setCell ⟨ge, j * 2 + 1, none⟩ v') k (.slice (some ⟨ge, 0, none⟩) R.length ecap) (R.set j ⟨R[j].key, h', v'⟩) nx tm ∧ RFrame w (wc.setCell ⟨ge, j * 2 + 1, none⟩ v') k (.slice (some ⟨ge, 0, none⟩) R.length ecap) R ∧ ResR (w.heap.size + 1) (wc.setCell ⟨ge, j * 2 + 1, none⟩ v') ∧
      (Value.slice (some ⟨ge, 0, none⟩) R.length ecap).ownBlock ≠ some (w.heap.size + 1) ∧ (∀ e ∈ R.set j ⟨R[j].key, h', v'⟩, e.v.ownBlock ≠ some (w.heap.size + 1)) := by
  have hge := (H.row.lt ge rfl).2
  have hk := H.lt
  have hs0 := grown_self wc ge (j * 2 + 1) v'
  have hgk : ge ≠ k := fun e => H.apart (by rw [← e]; rfl)
  have hbw : Below w.heap.size w wc := hbq.trans (hbc.mono hbq.size)
  have hvb : ∀ b, v'.ownBlock = some b → wq.heap.size ≤ b := fun b e => (ho.lt b e).1
  refine ⟨Hq.putV hj (below_grown hbc none) (Or.inl rfl) (owns_base ho hB) ?_ (fun i hi _ => S.full _ (List.getElem_mem hi)), ?_, RA.grown hs0 (by simp; omega), by simp [Value.ownBlock]; omega, ?_⟩
  · cases hb : v'.ownBlock with
    | none => exact Or.inl rfl
    | some b => exact Or.inr (Or.inr ⟨b, rfl, hvb b hb⟩)
  · exact (rframe_below hk hbw _ _).step hs0 (fun b _ e => Or.inl e) (Nat.lt_of_lt_of_le hk hbw.size) (by simpa using hgk)
  · intro e he
    rcases mem_set he with rfl | ⟨i, hi, -, rfl⟩
    · intro hb
      have := hvb _ hb
      omega
    · intro hb
      have := ((H.vers _ (List.getElem_mem hi)).lt _ hb).2
      omega

theorem set_take (R : List RefE) (j : Nat) (hj : j < R.length) (x : RefE) : (R.set j x).take j = R.take j := by
  rw [List.set_eq_take_append_cons_drop, if_pos hj]
  exact List.take_left' (by rw [List.length_take]; omega)
theorem set_drop (R : List RefE) (j : Nat) (hj : j < R.length) (x : RefE) : (R.set j x).drop (j + 1) = R.drop (j + 1) := by
  rw [List.set_eq_take_append_cons_drop, if_pos hj, show R.take j ++ x :: R.drop (j + 1) = (R.take j ++ [x]) ++ R.drop (j + 1) by simp]
  exact List.drop_left' (by rw [List.length_append, List.length_take]; simp; omega)
theorem entCells_one {B : Nat} {w : World} {k : Nat} {sl : Value} {R : List RefE} {nx tm : Int} (H : RefAt B w k sl R nx tm) (L : List RefE) (hL : ∀ e ∈ L, e ∈ R) : ∀ u ∈ entCells L, u.oneCell' = true := by
  intro u hu
  obtain ⟨e, he, hu⟩ := List.mem_flatMap.1 hu
  simp only [List.mem_cons, List.not_mem_nil, or_false] at hu
  rcases hu with rfl | rfl
  · rfl
  · obtain ⟨a, c, hv, -⟩ := owns_form (H.vers e (hL e he))
    rw [hv]; rfl

set_option maxHeartbeats 2000000 in
set_option maxRecDepth 100000 in
theorem rgot_dropv (B k : Nat) (sl : Value) (R : List RefE) (nx tm : Int) (st : St) (o : OpD) (w : World) (H : RefAt B w k sl R nx tm) (S : Sim st R nx) (hkind : o.kind = 5) (hk : isKeyB o.key = true) (i : Nat) (hi : i < R.length) (hik : R[i].key = o.key) (hB : B ≤ w.heap.size) :
    Calls Tryz.prog 82 #[.pointer (some ⟨k, 0, none⟩), opVal o] w (RefPost B k (stepSt st o).1 (stepSt st o).2 w sl R tm) := by
  obtain ⟨i0, hi0, hz0, hz1, hz2⟩ := info_parts Tryz.infoRver
  have hlen := len_tot R S.full
  have hlim := S.lim
  have hkw := H.lt
  have hmem : R[i] ∈ R := List.getElem_mem hi
  have hpos := List.length_pos_iff.2 (S.full _ hmem)
  have hml := len_le R i hi
  have hfh : st.f o.key.data.toList = R[i].h := by rw [← hik]; exact S.here _ hmem
  obtain ⟨gv, vcap, hv, -, hgl, hvc⟩ := owns_some (H.vers _ hmem) hpos
  obtain ⟨ge, ecap, rfl, -, hgel, x0, x1⟩ := H.ent i hi
  rw [hv] at x1
  have c0 := H.cells.c0
  have HH : Hid (RefAt B w k (.slice (some ⟨ge, 0, none⟩) R.length ecap) R nx tm ∧ Sim st R nx ∧ R[i].v = .slice (some ⟨gv, 0, none⟩) R[i].h.length vcap) := ⟨H, S, hv⟩
  have HIK : Hid (R[i].key = o.key) := hik
  have HOT : Hid (∀ j (hj : j < R.length), R[j].key = o.key → j = i) := fun j hj hjk => by
    by_cases h : j = i
    · exact h
    · exact absurd (hjk.trans hik.symm) (S.other hi hj h)
  have HNONE : Hid ((∀ j (hj : j < R[i].h.length), R[i].h[j].num ≠ o.n) → stepSt st o = (st, ⟨5, 0, ⟨#[]⟩⟩)) := fun h => step_dropv_none' hkind hk (by rw [hfh]; exact placeOf_none h)
  have HSOME : Hid (∀ r (hr : r < R[i].h.length), R[i].h[r].num = o.n → (∀ j (hj : j < R[i].h.length), j < r → R[i].h[j].num ≠ o.n) → stepSt st o = (dropSt st o.key r, ⟨0, 0, ⟨#[]⟩⟩)) := fun r hr h1 h2 => step_dropv_at hkind hk (by rw [hfh]; exact placeOf_some hr h1 h2)
  have hkk := hkind
  clear H S hik hk hv hmem hpos x0 hfh
  generalize stepSt st o = so at *
  obtain ⟨kind, key, body, delim, past, nn, src⟩ := o
  simp only at hkk HIK HOT HNONE HSOME
  subst hkk
  have hii : (i : Int) < (R.length : Int) := by omega
  unfold RefPost opVal
  go_enter Tryz.func82, Tryz.ntmps82
  go_wp2_with fail
  refine (rfind_any B k _ R nx tm key _ ((HH.out.1.alloc _).alloc _) (by omega)).mono ?_
  rintro e w1 ⟨rfl, ⟨j, hj, hjk, rfl⟩ | ⟨hno, -⟩⟩
  rotate_left
  · exact absurd HIK.out (hno _ (List.getElem_mem hi))
  have hji := HOT.out j hj hjk
  subst hji
  clear hjk
  have hne1 : ¬ ge = w.heap.size := by omega
  have hne2 : ¬ ge = w.heap.size + 1 := by omega
  have hne3 : ¬ gv = w.heap.size := by omega
  have hne4 : ¬ gv = w.heap.size + 1 := by omega
  have hne5 : ¬ k = w.heap.size := by omega
  have hne6 : ¬ k = w.heap.size + 1 := by omega
  go_wp2_with fail
  have hbW : Below w.heap.size w ((w.alloc (.cells #[.int .i64 5, .string key, .string body, .string delim, .string past, .int .i64 nn, .int .i64 src] 31)).alloc (.cells #[.int .i64 0, .int .i64 0, .string ⟨#[]⟩, .slice none 0 0, .string ⟨#[]⟩] 36)) := ((Below.refl _ w).alloc (Nat.le_refl _) _).alloc (by simp) _
  have RA := resR (w.alloc (.cells #[.int .i64 5, .string key, .string body, .string delim, .string past, .int .i64 nn, .int .i64 src] 31)) (w.heap.size + 1) (by simp) 36
  have hAl : Below (w.alloc (.cells #[.int .i64 5, .string key, .string body, .string delim, .string past, .int .i64 nn, .int .i64 src] 31)).heap.size (w.alloc (.cells #[.int .i64 5, .string key, .string body, .string delim, .string past, .int .i64 nn, .int .i64 src] 31)) ((w.alloc (.cells #[.int .i64 5, .string key, .string body, .string delim, .string past, .int .i64 nn, .int .i64 src] 31)).alloc (.cells #[.int .i64 0, .int .i64 0, .string ⟨#[]⟩, .slice none 0 0, .string ⟨#[]⟩] 36)) := (Below.refl _ _).alloc (Nat.le_refl _) _
  have o0 : ((w.alloc (.cells #[.int .i64 5, .string key, .string body, .string delim, .string past, .int .i64 nn, .int .i64 src] 31)).alloc (.cells #[.int .i64 0, .int .i64 0, .string ⟨#[]⟩, .slice none 0 0, .string ⟨#[]⟩] 36)).cell? ⟨w.heap.size, 0, none⟩ = some (.int .i64 5) := cellOn hAl (by rw [World.cell?_alloc_at (w := w) _ _ w.heap.size 0 rfl]; rfl)
  have o5 : ((w.alloc (.cells #[.int .i64 5, .string key, .string body, .string delim, .string past, .int .i64 nn, .int .i64 src] 31)).alloc (.cells #[.int .i64 0, .int .i64 0, .string ⟨#[]⟩, .slice none 0 0, .string ⟨#[]⟩] 36)).cell? ⟨w.heap.size, 5, none⟩ = some (.int .i64 nn) := cellOn hAl (by rw [World.cell?_alloc_at (w := w) _ _ w.heap.size 5 rfl]; rfl)
  have HW : Hid (Below w.heap.size w ((w.alloc (.cells #[.int .i64 5, .string key, .string body, .string delim, .string past, .int .i64 nn, .int .i64 src] 31)).alloc (.cells #[.int .i64 0, .int .i64 0, .string ⟨#[]⟩, .slice none 0 0, .string ⟨#[]⟩] 36)) ∧ ResR (w.heap.size + 1) ((w.alloc (.cells #[.int .i64 5, .string key, .string body, .string delim, .string past, .int .i64 nn, .int .i64 src] 31)).alloc (.cells #[.int .i64 0, .int .i64 0, .string ⟨#[]⟩, .slice none 0 0, .string ⟨#[]⟩] 36)) ∧ ((w.alloc (.cells #[.int .i64 5, .string key, .string body, .string delim, .string past, .int .i64 nn, .int .i64 src] 31)).alloc (.cells #[.int .i64 0, .int .i64 0, .string ⟨#[]⟩, .slice none 0 0, .string ⟨#[]⟩] 36)).cell? ⟨w.heap.size, 0, none⟩ = some (.int .i64 5) ∧ ((w.alloc (.cells #[.int .i64 5, .string key, .string body, .string delim, .string past, .int .i64 nn, .int .i64 src] 31)).alloc (.cells #[.int .i64 0, .int .i64 0, .string ⟨#[]⟩, .slice none 0 0, .string ⟨#[]⟩] 36)).cell? ⟨w.heap.size, 5, none⟩ = some (.int .i64 nn)) := ⟨hbW, RA, o0, o5⟩
  clear hbW RA hAl o0 o5
  generalize ((w.alloc (.cells #[.int .i64 5, .string key, .string body, .string delim, .string past, .int .i64 nn, .int .i64 src] 31)).alloc (.cells #[.int .i64 0, .int .i64 0, .string ⟨#[]⟩, .slice none 0 0, .string ⟨#[]⟩] 36)) = Wz at *
  go_loopw [8] (fun s8 wr => ∃ r : Nat, r ≤ R[j].h.length ∧ s8 = .int .i64 r ∧ (∀ t (ht : t < R[j].h.length), t < r → R[j].h[t].num ≠ nn) ∧ Below Wz.heap.size Wz wr) (fun s8 _ => R[j].h.length - (intOf s8).toNat)
  case atStart => exact ⟨0, Nat.zero_le _, rfl, fun t ht h => absurd h (by omega), Below.refl _ _⟩
  case round =>
    obtain ⟨r, hrm, rfl, hno, hb⟩ := hrel
    have HNO : Hid (∀ t (ht : t < R[j].h.length), t < r → R[j].h[t].num ≠ nn) := hno
    have HB : Hid (Below w.heap.size w wr ∧ ResR (w.heap.size + 1) wr) := ⟨HW.out.1.trans (hb.mono HW.out.1.size), HW.out.2.1.on hb⟩
    have o0 := cellOn hb HW.out.2.2.1
    have o5 := cellOn hb HW.out.2.2.2
    have HBz : Hid (Below Wz.heap.size Wz wr) := hb
    clear hno hb
    by_cases hlo : r < R[j].h.length
    · skip
      obtain ⟨gv', vcap', hv', -, z0, z1, z2⟩ := HH.out.1.ver j hj r hlo
      rw [HH.out.2.2] at hv'
      cases hv'
      replace z0 := cellOn HB.out.1 z0
      replace z1 := cellOn HB.out.1 z1
      replace z2 := cellOn HB.out.1 z2
      have hri : (r : Int) < (R[j].h.length : Int) := by omega
      by_cases hnum : R[j].h[r].num = nn
      · have HS := HSOME.out r hlo hnum HNO.out
        have HSO : Hid (so = (dropSt st key r, ⟨0, 0, ⟨#[]⟩⟩)) := HS
        have hnn : (R[j].h[r].num != nn) = false := by simp [hnum]
        clear HS hnum z1 z2
        generalize R[j].h[r].num = vn at z0 hnn
        have hml2 : R[j].h.length ≤ 200 := by omega
        go_wp2_with fail
        go_quiet (fail)
        have hq : Below wr.heap.size wr (wr.drewN nq) := below_drewN (Below.refl _ _) _
        have o0' := cellOn hq o0
        have HBq : Hid (Below w.heap.size w (wr.drewN nq) ∧ ResR (w.heap.size + 1) (wr.drewN nq)) := ⟨HB.out.1.trans (hq.mono HB.out.1.size), HB.out.2.on hq⟩
        clear z0 o0 o5 hq
        generalize wr.drewN nq = wq at *
        have HRq : Hid (RefAt B wq k (.slice (some ⟨ge, 0, none⟩) R.length ecap) R nx tm) := HH.out.1.below HBq.out.1
        have HS1 : Hid (∀ t u, (verCells (R[j].h.take r))[t]? = some u → wq.cell? ((⟨gv, 0, none⟩ : Addr).add t) = some u) := fun t u ht => by
          have ho := HRq.out.vers _ (List.getElem_mem hj)
          refine ho.cells (g := gv) (by rw [HH.out.2.2]; rfl) t u ?_
          have h3 : verCells (R[j].h.take r) = (verCells R[j].h).take (r * 3) := (flat_take 3 _ (fun _ => rfl) R[j].h r).symm
          rw [h3] at ht
          rw [List.getElem?_take] at ht
          split at ht
          · exact ht
          · cases ht
        have hl1 : (verCells (R[j].h.take r)).length = r * 3 := by rw [verCells, flat_len 3 _ (fun _ => rfl), List.length_take]; omega
        go_upto_region 20 with (at_builtin; go_loud (refine wpList_append_own _ rfl _ _ 152 rfl wq.heap.size 145 i0 _ 3 32 Tryz.underlying152 hi0 hz0 hz1 hz2 rfl (by decide) _ 0 [] rfl (World.ownsRow_nil _ _ _ _) ⟨gv, 0, none⟩ r vcap (verCells (R[j].h.take r)) rfl hl1 HS1.out (verCells_one _) (by simp only [maxLen]; omega) (by omega) (Nat.le_refl _) ?_); intro v1 w1 ho1 hg1 _; obtain ⟨va1, vc1, rfl, -⟩ := owns_form ho1)
        have HB1 : Hid (Below wq.heap.size wq w1 ∧ w1.ownsRow wq.heap.size 145 3 (.slice va1 r vc1) r (verCells (R[j].h.take r))) := ⟨(Below.refl _ wq).grown (row := none) hg1 (Nat.le_refl _) (fun k e => by cases e), by simpa using ho1⟩
        clear ho1 hg1
        obtain ⟨q, hq⟩ : ∃ q, R[j].h.length = r + 1 + q := ⟨R[j].h.length - (r + 1), by omega⟩
        have hl2 : (verCells (R[j].h.drop (r + 1))).length = q * 3 := by rw [verCells, flat_len 3 _ (fun _ => rfl), List.length_drop]; omega
        have HS2 : Hid (∀ a : Addr, (a = ⟨gv, (r + 1) * 3, none⟩ ∨ q = 0) → ∀ t u, (verCells (R[j].h.drop (r + 1)))[t]? = some u → w1.cell? (a.add t) = some u) := fun a ha t u ht => by
          rcases ha with rfl | h0
          · have ho := HRq.out.vers _ (List.getElem_mem hj)
            have h3 : verCells (R[j].h.drop (r + 1)) = (verCells R[j].h).drop ((r + 1) * 3) := (flat_drop 3 _ (fun _ => rfl) R[j].h (r + 1)).symm
            rw [h3, List.getElem?_drop] at ht
            have := cellOn HB1.out.1 (ho.cells (g := gv) (by rw [HH.out.2.2]; rfl) _ u ht)
            rw [Addr.add_lit] at this ⊢
            simpa using this
          · have : verCells (R[j].h.drop (r + 1)) = [] := List.eq_nil_of_length_eq_zero (by omega)
            rw [this] at ht
            simp at ht
        have h200 : r + 1 + q ≤ 200 := by omega
        have hvq : r + 1 + q ≤ vcap := by have := hvc; omega
        have hlh : (R[j].h.take r ++ R[j].h.drop (r + 1)).length = r + q := by rw [List.length_append, List.length_take, List.length_drop]; omega
        have HLH : Hid ((R[j].h.take r ++ R[j].h.drop (r + 1)).length = r + q) := hlh
        have HRL : Hid ((R[j].h)[r]? ≠ none) := show (R[j].h)[r]? ≠ none by rw [List.getElem?_eq_getElem hlo]; simp
        clear hlh
        rw [hq] at *
        clear hq
        have HFX : Hid (∀ (v2 : Value) (w2 : World), w2.ownsRow wq.heap.size 145 3 v2 (r + q) (verCells (R[j].h.take r) ++ verCells (R[j].h.drop (r + 1))) → w1.grownBy w2 (Value.slice va1 r vc1).ownBlock → Below wq.heap.size wq w2 ∧ w2.ownsRow wq.heap.size 145 3 v2 (r + q) (verCells (R[j].h.take r ++ R[j].h.drop (r + 1)))) := fun v2 w2 ho2 hg2 => ⟨HB1.out.1.grown hg2 HB1.out.1.size (fun k e => (HB1.out.2.lt k e).1), by
          have : verCells (R[j].h.take r ++ R[j].h.drop (r + 1)) = verCells (R[j].h.take r) ++ verCells (R[j].h.drop (r + 1)) := by simp [verCells]
          rw [this]; exact ho2⟩
        go_cut [9] (fun s9 wx => ∃ va2 vc2, s9 = .slice va2 (r + q) vc2 ∧ Below wq.heap.size wq wx ∧ wx.ownsRow wq.heap.size 145 3 (.slice va2 (r + q) vc2) (r + q) (verCells (R[j].h.take r ++ R[j].h.drop (r + 1))))
        case first =>
          by_cases hvr : vcap = r + 1
          · have hq0 : q = 0 := by have := hvq; omega
            subst hq0
            subst hvr
            go_wp2_with (at_builtin; go_loud (refine wpList_append_own _ rfl _ _ 152 rfl wq.heap.size 145 i0 _ 3 32 Tryz.underlying152 hi0 hz0 hz1 hz2 rfl (by decide) _ r _ rfl HB1.out.2 ⟨gv, 0, none⟩ 0 0 (verCells (R[j].h.drop (r + 1))) rfl hl2 (HS2.out _ (Or.inr rfl)) (verCells_one _) (by simp only [maxLen]; omega) (by omega) HB1.out.1.size ?_); intro v2 w2 ho2 hg2 _; obtain ⟨va2, vc2, rfl, -⟩ := owns_form ho2)
            go_meet
            case rel => exact ⟨va2, vc2, rfl, HFX.out _ _ ho2 hg2⟩
          · go_wp2_with (at_builtin; refine wpList_append_own _ rfl _ _ 152 rfl wq.heap.size 145 i0 _ 3 32 Tryz.underlying152 hi0 hz0 hz1 hz2 rfl (by decide) _ r _ rfl HB1.out.2 ⟨gv, (r + 1) * 3, none⟩ q (vcap - (r + 1)) (verCells (R[j].h.drop (r + 1))) rfl hl2 (HS2.out _ (Or.inl rfl)) (verCells_one _) (by simp only [maxLen]; omega) (by omega) HB1.out.1.size ?_; intro v2 w2 ho2 hg2 _; obtain ⟨va2, vc2, rfl, -⟩ := owns_form ho2)
            go_meet
            case rel => exact ⟨va2, vc2, rfl, HFX.out _ _ ho2 hg2⟩
        case rest =>
        obtain ⟨va2, vc2, rfl, hbc, hoc⟩ := hcut
        have hbw : Below w.heap.size w wc := HBq.out.1.trans (hbc.mono HBq.out.1.size)
        have HC : Hid (Below w.heap.size w wc ∧ Below wq.heap.size wq wc ∧ wc.ownsRow wq.heap.size 145 3 (.slice va2 (r + q) vc2) (r + q) (verCells (R[j].h.take r ++ R[j].h.drop (r + 1))) ∧ RefAt B wc k (.slice (some ⟨ge, 0, none⟩) R.length ecap) R nx tm ∧ ResR (w.heap.size + 1) wc) := ⟨hbw, hbc, hoc, HH.out.1.below hbw, HBq.out.2.on hbc⟩
        have c0' := cellOn hbw c0
        have x1' := cellOn hbw x1
        have f1' := HC.out.2.2.2.1.row.frozenAt (j * 2 + 1)
        have HDP := dropPut (v' := .slice va2 (r + q) vc2) (h' := R[j].h.take r ++ R[j].h.drop (r + 1)) hj HH.out.2.1 HH.out.1 HRq.out HBq.out.1 hbc (by rw [HLH.out]; exact hoc) (HBq.out.2.on hbc) HBq.out.2.lt (Nat.le_trans hB HBq.out.1.size)
        have HD : Hid (RefAt B (wc.setCell ⟨ge, j * 2 + 1, none⟩ (.slice va2 (r + q) vc2)) k (.slice (some ⟨ge, 0, none⟩) R.length ecap) (R.set j ⟨R[j].key, R[j].h.take r ++ R[j].h.drop (r + 1), .slice va2 (r + q) vc2⟩) nx tm ∧ RFrame w (wc.setCell ⟨ge, j * 2 + 1, none⟩ (.slice va2 (r + q) vc2)) k (.slice (some ⟨ge, 0, none⟩) R.length ecap) R ∧ ResR (w.heap.size + 1) (wc.setCell ⟨ge, j * 2 + 1, none⟩ (.slice va2 (r + q) vc2)) ∧
          (Value.slice (some ⟨ge, 0, none⟩) R.length ecap).ownBlock ≠ some (w.heap.size + 1) ∧ (∀ e ∈ R.set j ⟨R[j].key, R[j].h.take r ++ R[j].h.drop (r + 1), .slice va2 (r + q) vc2⟩, e.v.ownBlock ≠ some (w.heap.size + 1))) := HDP
        clear hbw hbc hoc HDP
        go_upto_region 22 with fail
        generalize wc.setCell ⟨ge, j * 2 + 1, none⟩ (.slice va2 (r + q) vc2) = wd at *
        obtain ⟨d0, d1, d2, d3, d4, fz⟩ := HD.out.2.2.1
        have g0 := fz 0
        have g1 := fz 1
        have g2 := fz 2
        have g3 := fz 3
        have g4 := fz 4
        clear fz
        by_cases hz : r + q = 0
        · have hzi : ((r : Int) + (q : Int) == 0) = true := by simp; omega
          have e0 := HD.out.1.cells.c0
          have e1 := HD.out.1.cells.fz 0
          have hkd := HD.out.1.lt
          have HR1 : Hid (RefAt B wd k (.slice (some ⟨ge, 0, none⟩) R.length ecap) (R.set j ⟨R[j].key, R[j].h.take r ++ R[j].h.drop (r + 1), .slice va2 (r + q) vc2⟩) nx tm) := HD.out.1
          obtain ⟨R1, hR1⟩ : ∃ R1, R1 = R.set j ⟨R[j].key, R[j].h.take r ++ R[j].h.drop (r + 1), .slice va2 (r + q) vc2⟩ := ⟨_, rfl⟩
          rw [← hR1] at HR1
          have HR1e : Hid (R1 = R.set j ⟨R[j].key, R[j].h.take r ++ R[j].h.drop (r + 1), .slice va2 (r + q) vc2⟩) := hR1
          have hl1 : (entCells (R1.take j)).length = j * 2 := by rw [entCells_len, List.length_take, hR1, List.length_set]; omega
          clear hR1
          have HE1 : Hid (∀ t u, (entCells (R1.take j))[t]? = some u → wd.cell? ((⟨ge, 0, none⟩ : Addr).add t) = some u) := fun t u ht => by
            refine HR1.out.row.cells (g := ge) rfl t u ?_
            have h3 : entCells (R1.take j) = (entCells R1).take (j * 2) := (flat_take 2 _ (fun _ => rfl) R1 j).symm
            rw [h3, List.getElem?_take] at ht
            split at ht
            · exact ht
            · cases ht
          have HO1 : Hid (∀ u ∈ entCells (R1.take j), u.oneCell' = true) := entCells_one HR1.out _ (fun e he => List.mem_of_mem_take he)
          obtain ⟨t0, ht0, ty0, ty1, ty2⟩ := info_parts Tryz.infoEnt
          have hec : R.length ≤ ecap := by obtain ⟨_, _, he, -, -, h⟩ := owns_some HH.out.1.row (by omega); cases he; exact h
          go_upto_region 25 with (at_builtin; go_loud (refine wpList_append_own _ rfl _ _ 68 rfl wd.heap.size 154 t0 _ 2 40 Tryz.underlying68 ht0 ty0 ty1 ty2 rfl (by decide) _ 0 [] rfl (World.ownsRow_nil _ _ _ _) ⟨ge, 0, none⟩ j ecap (entCells (R1.take j)) rfl hl1 HE1.out HO1.out (by simp only [maxLen]; omega) (by omega) (Nat.le_refl _) ?_); intro v3 w3 ho3 hg3 _; obtain ⟨va3, vc3, rfl, -⟩ := owns_form ho3)
          have HB3 : Hid (Below wd.heap.size wd w3 ∧ w3.ownsRow wd.heap.size 154 2 (.slice va3 j vc3) j (entCells (R1.take j))) := ⟨(Below.refl _ wd).grown (row := none) hg3 (Nat.le_refl _) (fun k e => by cases e), by simpa using ho3⟩
          clear ho3 hg3
          have hl2' : (entCells (R1.drop (j + 1))).length = (R.length - (j + 1)) * 2 := by rw [entCells_len, List.length_drop, HR1e.out, List.length_set]
          have HE2 : Hid (∀ a : Addr, (a = ⟨ge, (j + 1) * 2, none⟩ ∨ R.length - (j + 1) = 0) → ∀ t u, (entCells (R1.drop (j + 1)))[t]? = some u → w3.cell? (a.add t) = some u) := fun a ha t u ht => by
            rcases ha with rfl | h0
            · have h3 : entCells (R1.drop (j + 1)) = (entCells R1).drop ((j + 1) * 2) := (flat_drop 2 _ (fun _ => rfl) R1 (j + 1)).symm
              rw [h3, List.getElem?_drop] at ht
              have := cellOn HB3.out.1 (HR1.out.row.cells (g := ge) rfl _ u ht)
              rw [Addr.add_lit] at this ⊢
              simpa using this
            · have : entCells (R1.drop (j + 1)) = [] := List.eq_nil_of_length_eq_zero (by rw [hl2', h0])
              rw [this] at ht
              simp at ht
          have HO2 : Hid (∀ u ∈ entCells (R1.drop (j + 1)), u.oneCell' = true) := entCells_one HR1.out _ (fun e he => List.mem_of_mem_drop he)
          have e0c := cellOn HB3.out.1 e0
          have HFX2 : Hid (∀ (v4 : Value) (w4 : World), w4.ownsRow wd.heap.size 154 2 v4 (j + (R.length - (j + 1))) (entCells (R1.take j) ++ entCells (R1.drop (j + 1))) → w3.grownBy w4 (Value.slice va3 j vc3).ownBlock → Below wd.heap.size wd w4 ∧ w4.ownsRow wd.heap.size 154 2 v4 (j + (R.length - (j + 1))) (entCells (R1.take j ++ R1.drop (j + 1)))) := fun v4 w4 ho4 hg4 => ⟨HB3.out.1.grown hg4 HB3.out.1.size (fun k e => (HB3.out.2.lt k e).1), by
            have : entCells (R1.take j ++ R1.drop (j + 1)) = entCells (R1.take j) ++ entCells (R1.drop (j + 1)) := by simp [entCells]
            rw [this]; exact ho4⟩
          go_cut [10] (fun s10 wx => ∃ va4 vc4, s10 = .slice va4 (j + (R.length - (j + 1))) vc4 ∧ Below wd.heap.size wd wx ∧ wx.ownsRow wd.heap.size 154 2 (.slice va4 (j + (R.length - (j + 1))) vc4) (j + (R.length - (j + 1))) (entCells (R1.take j ++ R1.drop (j + 1))))
          case first =>
            have hjl : j + 1 ≤ R.length := hj
            by_cases hvr : ecap = j + 1
            · have HQ0 : Hid (R.length - (j + 1) = 0) := show R.length - (j + 1) = 0 by omega
              subst hvr
              have hl0 : (entCells (R1.drop (j + 1))).length = 0 * 2 := by rw [hl2', HQ0.out]
              go_wp2_with (at_builtin; go_loud (refine wpList_append_own _ rfl _ _ 68 rfl wd.heap.size 154 t0 _ 2 40 Tryz.underlying68 ht0 ty0 ty1 ty2 rfl (by decide) _ j _ rfl HB3.out.2 ⟨ge, 0, none⟩ 0 0 (entCells (R1.drop (j + 1))) rfl hl0 (HE2.out _ (Or.inr HQ0.out)) HO2.out (by simp only [maxLen]; omega) (by omega) HB3.out.1.size ?_); intro v4 w4 ho4 hg4 _; obtain ⟨va4, vc4, rfl, -⟩ := owns_form ho4)
              go_meet
              case rel =>
                have hz4 : j + (R.length - (j + 1)) = j := by rw [HQ0.out]; rfl
                have h4 := HFX2.out (.slice va4 j vc4) _ (by rw [hz4]; exact ho4) hg4
                rw [hz4] at h4
                rw [hz4]
                exact ⟨va4, vc4, rfl, h4⟩
            · go_wp2_with (at_builtin; go_loud (refine wpList_append_own _ rfl _ _ 68 rfl wd.heap.size 154 t0 _ 2 40 Tryz.underlying68 ht0 ty0 ty1 ty2 rfl (by decide) _ j _ rfl HB3.out.2 ⟨ge, (j + 1) * 2, none⟩ (R.length - (j + 1)) (ecap - (j + 1)) (entCells (R1.drop (j + 1))) rfl hl2' (HE2.out _ (Or.inl rfl)) HO2.out (by simp only [maxLen]; omega) (by omega) HB3.out.1.size ?_); intro v4 w4 ho4 hg4 _; obtain ⟨va4, vc4, rfl, -⟩ := owns_form ho4)
              go_meet
              case rel => exact ⟨va4, vc4, rfl, HFX2.out _ _ ho4 hg4⟩
          case rest =>
          obtain ⟨va4, vc4, rfl, hbx, hox⟩ := hcut
          have e0x := cellOn hbx e0
          have e1x := (hbx.frozen (p := ⟨k, 0, none⟩) hkd).trans e1
          obtain ⟨d0, d1, d2, d3, d4, fz⟩ := HD.out.2.2.1.on hbx
          have g0 := fz 0
          have g1 := fz 1
          have g2 := fz 2
          have g3 := fz 3
          have g4 := fz 4
          have hk1 : ¬ k = w.heap.size + 1 := by omega
          have hk2 : ¬ w.heap.size + 1 = k := by omega
          have HZ : Hid (Below wd.heap.size wd wc ∧ wc.ownsRow wd.heap.size 154 2 (.slice va4 (j + (R.length - (j + 1))) vc4) (j + (R.length - (j + 1))) (entCells (R1.take j ++ R1.drop (j + 1)))) := ⟨hbx, hox⟩
          clear fz hbx hox
          go_wp2
          refine bodyPost_ret (v := ansVal ⟨0, 0, ⟨#[]⟩⟩) (by simp [results, Tryz.results82, go_sem, ansVal, d0, d1, d2, d3, d4]) rfl ⟨by rw [HSO.out], ?_⟩
          obtain ⟨P1, P3, P4, P7, P8⟩ := HD.out
          have hlt4 := P4.lt
          have hwd := P3.size
          have htd : R1.take j ++ R1.drop (j + 1) = R.take j ++ R.drop (j + 1) := by rw [HR1e.out, set_take R j hj, set_drop R j hj]
          have hsub : ∀ e ∈ R1.take j ++ R1.drop (j + 1), e ∈ R1 := fun e he => by
            rcases List.mem_append.1 he with h | h
            · exact List.mem_of_mem_take h
            · exact List.mem_of_mem_drop h
          have hsub2 : ∀ e ∈ R1.take j ++ R1.drop (j + 1), e ∈ R := fun e he => by
            rw [htd] at he
            rcases List.mem_append.1 he with h | h
            · exact List.mem_of_mem_take h
            · exact List.mem_of_mem_drop h
          have hput := HR1.out.putNew (R' := R1.take j ++ R1.drop (j + 1)) HZ.out.1 (by
              have hl : (R1.take j ++ R1.drop (j + 1)).length = j + (R.length - (j + 1)) := by rw [htd, List.length_append, List.length_take, List.length_drop]; omega
              rw [hl]; exact HZ.out.2) (by omega) hsub (by rw [← List.eraseIdx_eq_take_drop_succ]; exact HR1.out.pw.sublist (List.eraseIdx_sublist _ _))
            (fun e he => row_some (HH.out.1.vers e (hsub2 e he)) (List.length_pos_iff.2 (HH.out.2.1.full e (hsub2 e he))))
          have hg5 := grown_set5 (wc.setCell ⟨k, 0, none⟩ (.slice va4 (j + (R.length - (j + 1))) vc4)) (w.heap.size + 1) (.int .i64 0) (.int .i64 0) (.string ⟨#[]⟩) (.slice none 0 0) (.string ⟨#[]⟩)
          have hkc : k < wc.heap.size := Nat.lt_of_lt_of_le hkd HZ.out.1.size
          refine ⟨_, _, nx, hput.grown hg5 (by simp; omega) (Or.inr (fun e => by have := (HZ.out.2.lt _ e).1; omega)) (fun e he => Or.inr (fun h => by have := ((HH.out.1.vers e (hsub2 e he)).lt _ h).2; omega)), ?_, (frame_set0 (P3.below HZ.out.1 hkd) _ hkc).step hg5 (fun b hb e => by cases e; omega) hput.lt (by simp; omega)⟩
          rw [HSO.out, htd]
          exact HH.out.2.1.dropLast hj HIK.out (Nat.lt_of_not_le (fun h => HRL.out (List.getElem?_eq_none h))) (List.eq_nil_of_length_eq_zero (by rw [HLH.out]; exact hz))
        · have hzi : ((r : Int) + (q : Int) == 0) = false := by simp; omega
          go_wp2
          refine bodyPost_ret (v := ansVal ⟨0, 0, ⟨#[]⟩⟩) (by simp [results, Tryz.results82, go_sem, ansVal, d0, d1, d2, d3, d4]) rfl ⟨by rw [HSO.out], ?_⟩
          have hg5 := grown_set5 wd (w.heap.size + 1) (.int .i64 0) (.int .i64 0) (.string ⟨#[]⟩) (.slice none 0 0) (.string ⟨#[]⟩)
          obtain ⟨P1, P3, -, P7, P8⟩ := HD.out
          refine ⟨_, _, nx, P1.grown hg5 (by simp; omega) (Or.inr P7) (fun e he => Or.inr (P8 e he)), ?_, P3.step hg5 (fun b hb e => by cases e; omega) P1.lt (by simp; omega)⟩
          rw [HSO.out]
          exact HH.out.2.1.dropSome hj HIK.out (Nat.lt_of_not_le (fun h => HRL.out (List.getElem?_eq_none h))) _ (fun e => by have := HLH.out; rw [e] at this; simp at this; omega)
      · have hnn : (R[j].h[r].num != nn) = true := by simp [hnum]
        have HNU : Hid (R[j].h[r].num ≠ nn) := hnum
        generalize R[j].h[r].num = vn at z0 hnn hnum
        clear z1 z2 hnum
        go_wp2_with fail
        go_quiet (fail)
        go_wp2_with fail
        refine ⟨⟨r + 1, hlo, by go_num, fun t ht hlt => ?_, below_drewN HBz.out _⟩, by simp [intOf]; omega⟩
        rcases Nat.lt_or_ge t r with h1 | h1
        · exact HNO.out t ht h1
        · have : t = r := by omega
          subst this
          exact HNU.out
    · have hre : r = R[j].h.length := by omega
      subst hre
      have HSO : Hid (so = (st, ⟨5, 0, ⟨#[]⟩⟩)) := HNONE.out (fun t ht => HNO.out t ht ht)
      go_wp2_with fail
      refine (rno_any 5 _).mono ?_
      rintro e w2 ⟨rfl, b2⟩
      have HB2 : Hid (Below w.heap.size w w2) := HB.out.1.trans (b2.mono HB.out.1.size)
      obtain ⟨d0, d1, d2, d3, d4, fz⟩ := HB.out.2.on b2
      have g0 := fz 0
      have g1 := fz 1
      have g2 := fz 2
      have g3 := fz 3
      have g4 := fz 4
      clear b2 fz
      unfold ansVal
      go_wp2
      refine bodyPost_ret (v := ansVal ⟨5, 0, ⟨#[]⟩⟩) (by simp [results, Tryz.results82, go_sem, ansVal, d0, d1, d2, d3, d4]) rfl ⟨by rw [HSO.out], ?_⟩
      have hb := below_set5 HB2.out (x := w.heap.size + 1) (by omega) (.int .i64 5) (.int .i64 0) (.string ⟨#[]⟩) (.slice none 0 0) (.string ⟨#[]⟩)
      exact ⟨_, R, nx, HH.out.1.below hb, by rw [HSO.out]; exact HH.out.2.1, rframe_below hkw hb _ _⟩

end Go.Proofs.YtnapepbdohidgaaGreatDoor
