/- slices.Insert of one kid. -/
import Derived.Test.YtnapepbdohidgaaGreatDoorOwn
namespace Go.Proofs.YtnapepbdohidgaaGreatDoor
open Go.RowKit

/-- What an Insert of one element of two cells leaves. -/
def InsPost (base : Nat) (v : Value) (i n : Nat) (xs : List Value) (a b : Value) (w : World) (e : Ending) (w' : World) : Prop :=
  ∃ v', e = .returned v' ∧ w'.ownsRow base 190 2 v' (n + 1) (xs.take (i * 2) ++ [a, b] ++ xs.drop (i * 2)) ∧ w.grownBy w' v.ownBlock ∧ (v'.ownBlock = v.ownBlock ∨ ∀ k, v'.ownBlock = some k → w.heap.size ≤ k)

theorem wpList_append_runI {P : Program} (w : World) {ops : Array Oper} {rest : List Oper} {o : Oper} {a : Act} {Q : Exit → Act → World → Prop} (hgd : o.guard = none) (s x : Operand) (t tn : TypeId)
    (ho : o.op = .call { callee := .builtin .append, args := #[s, x], argTypes := #[t, tn] }) (vs vx : Value) (hs : a.eval s = vs) (hx : a.eval x = vx)
    {v' : Value} {w' : World} (hr : (Builtin.append_ #[t, tn] o.type #[vs, vx]).run P w = .ok v' w') (h : wpList P ops Q rest (a.put o.dst v') w') : wpList P ops Q (o :: rest) a w :=
  Lib.wpList_append_run w hgd s x t tn ho vs vx hs hx v' w' hr h

/-- The append at the end: its run, and what it leaves. -/
theorem app_end (base : Nat) (v : Value) (n : Nat) (xs : List Value) (vb : Nat) (a b : Value) (w : World) (hown : w.ownsRow base 190 2 v n xs) (hn : n ≤ 1000)
    (hv0 : w.cell? ⟨vb, 0, none⟩ = some a) (hv1 : w.cell? ⟨vb, 1, none⟩ = some b) (h1 : a.oneCell' = true ∧ b.oneCell' = true) (hbase : base ≤ w.heap.size) :
    ∃ v' w', (∀ ty, (Builtin.append_ #[157, 157] ty #[v, .slice (some ⟨vb, 0, none⟩) 1 1]).run Tryz.prog w = .ok v' w') ∧ InsPost base v n n xs a b w (.returned v') w' := by
  obtain ⟨i0, hi0, hz0, hz1, hz2⟩ := info_parts Tryz.infoKid
  have hnews : ∀ j u, [a, b][j]? = some u → w.cell? ((⟨vb, 0, none⟩ : Addr).add j) = some u := by
    intro j u hj
    rw [Addr.add_lit]
    match j, hj with
    | 0, hj => simp at hj; subst hj; exact hv0
    | 1, hj => simp at hj; subst hj; exact hv1
  have hone : ∀ u ∈ [a, b], u.oneCell' = true := by intro u hu; simp at hu; rcases hu with rfl | rfl <;> simp [h1]
  have hlen := hown.1
  have hx : xs.take (n * 2) ++ [a, b] ++ xs.drop (n * 2) = xs ++ [a, b] := by
    rw [List.take_of_length_le (by omega), List.drop_eq_nil_of_le (by omega), List.append_nil]
  have hr := fun ty => run_append_own (P := Tryz.prog) w base 157 ty 190 i0 _ 2 16 Tryz.underlying157 hi0 hz0 hz1 hz2 rfl (by decide) v n xs hown ⟨vb, 0, none⟩ 1 1 [a, b] rfl hnews hone (by simp only [maxLen]; omega) (by omega) hbase
  rcases hown.2 with ⟨rfl, rfl⟩ | ⟨g, cap, cur, rfl, hbg, hg, hnc, hcm, hcs, htake⟩
  · have hxn : xs = [] := List.eq_nil_of_length_eq_zero (by omega)
    subst hxn
    refine ⟨_, _, fun ty => run_append_nil (P := Tryz.prog) w 157 ty 190 i0 _ Tryz.underlying157 hi0 hz0 ⟨vb, 0, none⟩ 1 1 [a, b] (by rw [hz1]; rfl) hnews (by omega) (by omega) (by rw [hz2]; omega), _, rfl, ?_, ?_, ?_⟩
    · obtain ⟨v', w', hr', ho, hgr, _⟩ := hr 0
      rw [run_append_nil (P := Tryz.prog) w 157 0 190 i0 _ Tryz.underlying157 hi0 hz0 ⟨vb, 0, none⟩ 1 1 [a, b] (by rw [hz1]; rfl) hnews (by omega) (by omega) (by rw [hz2]; omega)] at hr'
      cases hr'
      rw [hx]; exact ho
    · exact grown_trans (grown_drew (World.grownBy.refl w _)) (World.grownBy_alloc _ _ _)
    · exact Or.inr (fun k hk => by simp [Value.ownBlock] at hk; omega)
  · by_cases hroom : n + 1 ≤ cap
    · have hq := fun ty => run_append_room (P := Tryz.prog) w 157 ty 190 i0 Tryz.underlying157 hi0 g n cap cur hg ⟨vb, 0, none⟩ 1 1 [a, b] (by rw [hz1]; rfl) hnews hone hroom (by rw [hz1, hcs]; simp; omega)
      refine ⟨_, _, hq, _, rfl, ?_, ?_, ?_⟩
      · obtain ⟨v', w', hr', ho, hgr, _⟩ := hr 0
        rw [hq 0] at hr'
        cases hr'
        rw [hx]; exact ho
      · exact grown_setRow _ _ _
      · exact Or.inl rfl
    · have hq := fun ty => run_append_grow (P := Tryz.prog) w 157 ty 190 i0 _ Tryz.underlying157 hi0 hz0 ⟨g, 0, none⟩ n cap xs (by rw [hz1]; exact hlen) (fun j u hj => by
          have := hown.cells (g := g) rfl j u hj; exact this) ⟨vb, 0, none⟩ 1 1 [a, b] (by rw [hz1]; rfl) hnews (by omega) (by omega) (growslice_fits (by omega) (by rw [hz2]; omega))
      refine ⟨_, _, hq, _, rfl, ?_, ?_, ?_⟩
      · obtain ⟨v', w', hr', ho, hgr, _⟩ := hr 0
        rw [hq 0] at hr'
        cases hr'
        rw [hx]; exact ho
      · exact grown_trans (grown_drew (World.grownBy.refl w _)) (World.grownBy_alloc _ _ _)
      · exact Or.inr (fun k hk => by simp [Value.ownBlock] at hk; omega)

set_option maxHeartbeats 1000000 in
set_option maxRecDepth 100000 in
theorem insK_end (base : Nat) (v : Value) (n : Nat) (xs : List Value) (vb : Nat) (a b : Value) (w : World) (hown : w.ownsRow base 190 2 v n xs) (hn : n ≤ 1000)
    (hv0 : w.cell? ⟨vb, 0, none⟩ = some a) (hv1 : w.cell? ⟨vb, 1, none⟩ = some b) (h1 : a.oneCell' = true ∧ b.oneCell' = true) (hbase : base ≤ w.heap.size) :
    Calls Tryz.prog 118 #[v, .int .i64 n, .slice (some ⟨vb, 0, none⟩) 1 1] w (InsPost base v n n xs a b w) := by
  obtain ⟨v', w1, hr, hp⟩ := app_end base v n xs vb a b w hown hn hv0 hv1 h1 hbase
  obtain ⟨ad, cap, hv, hnc, hcm⟩ : ∃ ad cap, v = .slice ad n cap ∧ n ≤ cap ∧ cap ≤ 9223372036854775807 := by
    rcases hown.2 with ⟨rfl, rfl⟩ | ⟨g, cap, cur, rfl, hbg, hg, hnc, hcm, hcs, htake⟩
    · exact ⟨none, 0, rfl, Nat.le_refl _, by omega⟩
    · exact ⟨_, cap, rfl, hnc, by unfold maxLen at hcm; omega⟩
  subst hv
  have HP : Hid (InsPost base (.slice ad n cap) n n xs a b w (.returned v') w1) := hp
  clear hp hown hv0 hv1 h1
  have hr' : Hid (∀ ty, (Builtin.append_ #[157, 157] ty #[.slice ad n cap, .slice (some ⟨vb, 0, none⟩) 1 1]).run Tryz.prog w = .ok v' w1) := hr
  clear hr
  by_cases hcn : cap = n
  · subst hcn
    go_enter Tryz.func118, Tryz.ntmps118
    go_wp2_with (at_builtin; refine wpList_append_runI _ rfl _ _ 157 157 rfl _ _ rfl rfl (hr'.out _) ?_)
    go_ret
    exact HP.out
  · go_enter Tryz.func118, Tryz.ntmps118
    go_wp2_with (at_builtin; refine wpList_append_runI _ rfl _ _ 157 157 rfl _ _ rfl rfl (hr'.out _) ?_)
    go_ret
    exact HP.out

theorem ov_apart (g vb : Nat) (curK : Array Value) (cv : Array Value) (tv : TypeId) (o la ca lb cb : Nat) (w : World) (hne : vb ≠ g) (hg : w.heap[g]? = some (.cells curK 190 (0, 0))) (h0 : curK.size ≠ 0) (hv : w.heap[vb]? = some (.cells cv tv (0, 0))) :
    (callFunc 136 #[.slice (some ⟨vb, 0, none⟩) la ca, .slice (some ⟨g, o, none⟩) lb cb]).run Tryz.prog w = .ok (.value (.bool false)) w := by
  rw [run_callFunc_extern Tryz.func136 (by kernel_rfl) (by kernel_rfl) (by kernel_rfl) (e := Extern.SlicesOverlaps.overlaps #[157, 157] #[4]) (by kernel_rfl),
    Lib.run_overlaps_apart w 157 4 190 Tryz.underlying157 2 Tryz.sizeOf190 ⟨vb, 0, none⟩ ⟨g, o, none⟩ la ca lb cb hne tv 190 cv.size curK.size (by simp [World.shape?, hv]) (by simp [World.shape?, hg]) h0 (by simp [World.frozen?, hv]) (by simp [World.frozen?, hv])]
  rfl

theorem take_ins {α : Type} (cur xs C1 C2 : List α) (n i cap : Nat) (a b : α) (hcl : cur.length = cap * 2) (hk : n + 1 ≤ cap) (hi : i ≤ n) (hx : cur.take (n * 2) = xs)
    (hC1 : C1 = cur.take ((i + 1) * 2) ++ xs.drop (i * 2) ++ cur.drop ((i + 1) * 2 + (xs.drop (i * 2)).length)) (hC2 : C2 = C1.take (i * 2) ++ [a, b] ++ C1.drop (i * 2 + 2)) :
    C2.length = cap * 2 ∧ C2.take ((n + 1) * 2) = xs.take (i * 2) ++ [a, b] ++ xs.drop (i * 2) := by
  have hxl : xs.length = n * 2 := by rw [← hx, List.length_take, hcl]; omega
  have hdl : (xs.drop (i * 2)).length = (n - i) * 2 := by rw [List.length_drop, hxl]; omega
  have e1 : cur.take (i * 2) = xs.take (i * 2) := by rw [← hx, List.take_take, Nat.min_eq_left (by omega)]
  have hA : (cur.take ((i + 1) * 2)).length = (i + 1) * 2 := by rw [List.length_take, hcl]; omega
  have hC1l : C1.length = cap * 2 := by rw [hC1]; simp only [List.length_append, List.length_drop, hA, hcl, hxl]; omega
  have e2 : C1.take (i * 2) = xs.take (i * 2) := by
    rw [hC1, List.append_assoc, List.take_append_of_le_length (by omega), List.take_take, Nat.min_eq_left (by omega), e1]
  have e3 : C1.drop (i * 2 + 2) = xs.drop (i * 2) ++ cur.drop ((i + 1) * 2 + (xs.drop (i * 2)).length) := by
    rw [hC1, List.append_assoc]; exact List.drop_left' (by rw [hA]; omega)
  have hil : (xs.take (i * 2)).length = i * 2 := by rw [List.length_take, hxl]; omega
  refine ⟨?_, ?_⟩
  · rw [hC2, List.length_append, List.length_append, e2, hil, List.length_drop, hC1l]; simp; omega
  · rw [hC2, e2, e3, ← List.append_assoc]
    exact List.take_left' (by simp only [List.length_append, hil, hdl, List.length_cons, List.length_nil]; omega)

set_option maxHeartbeats 1000000 in
set_option maxRecDepth 100000 in
theorem insK_shift (base g n cap i : Nat) (xs : List Value) (vb : Nat) (a b : Value) (w : World) (hown : w.ownsRow base 190 2 (.slice (some ⟨g, 0, none⟩) n cap) n xs) (hn : n ≤ 1000) (hi : i < n) (hroom : n + 1 ≤ cap)
    (tv : TypeId) (hv : w.heap[vb]? = some (.cells #[a, b] tv (0, 0))) (hne : vb ≠ g) (h1 : a.oneCell' = true ∧ b.oneCell' = true) (h1x : ∀ u ∈ xs, u.oneCell' = true) :
    Calls Tryz.prog 118 #[.slice (some ⟨g, 0, none⟩) n cap, .int .i64 i, .slice (some ⟨vb, 0, none⟩) 1 1] w (InsPost base (.slice (some ⟨g, 0, none⟩) n cap) i n xs a b w) := by
  obtain ⟨i0, hi0, hz0, hz1, hz2⟩ := info_parts Tryz.infoKid
  obtain ⟨hlen, hr⟩ := hown
  rcases hr with ⟨h0, _⟩ | ⟨g', cap', cur, hv', hbg, hg, hnc, hcm, hcs, htake⟩
  · cases h0
  cases hv'
  have hcl : cur.toList.length = cap * 2 := by rw [Array.length_toList, hcs]
  obtain ⟨cs, hcsd⟩ : ∃ cs, cs = xs.drop (i * 2) := ⟨_, rfl⟩
  have hdl : cs.length = (n - i) * 2 := by rw [hcsd, List.length_drop, hlen]; omega
  obtain ⟨C1, hC1⟩ : ∃ C1, C1 = cur.toList.take ((i + 1) * 2) ++ cs ++ cur.toList.drop ((i + 1) * 2 + cs.length) := ⟨_, rfl⟩
  obtain ⟨C2, hC2⟩ : ∃ C2, C2 = C1.take (i * 2) ++ [a, b] ++ C1.drop (i * 2 + 2) := ⟨_, rfl⟩
  obtain ⟨hC2l, hC2t⟩ := take_ins cur.toList xs C1 C2 n i cap a b hcl hroom (by omega) htake (by rw [hC1, hcsd]) hC2
  have hC1l : C1.length = cap * 2 := by rw [hC1]; simp only [List.length_append, List.length_take, List.length_drop, hcl, hdl]; omega
  obtain ⟨W1, hW1⟩ : ∃ W1, W1 = w.drew.setRow g C1.toArray := ⟨_, rfl⟩
  obtain ⟨W2, hW2⟩ : ∃ W2, W2 = W1.setRow g C2.toArray := ⟨_, rfl⟩
  have hW1g : W1.heap[g]? = some (.cells C1.toArray 190 (0, 0)) := by rw [hW1]; exact setRow_heap w.drew g cur _ _ _ hg
  have hov : ∀ lb cb, (callFunc 136 #[.slice (some ⟨vb, 0, none⟩) 1 1, .slice (some ⟨g, (i + 1) * 2, none⟩) lb cb]).run Tryz.prog w = .ok (.value (.bool false)) w := fun lb cb =>
    ov_apart g vb cur _ tv ((i + 1) * 2) 1 1 lb cb w hne hg (by omega) hv
  have hcp1 : ∀ ty dc sc, (Builtin.copy_ #[157, 157] ty #[.slice (some ⟨g, (i + 1) * 2, none⟩) (n - i) dc, .slice (some ⟨g, i * 2, none⟩) (n + 1 - i) sc]).run Tryz.prog w.drew = .ok (goInt ((n - i : Nat) : Int)) W1 := fun ty dc sc => by
    have hm : Nat.min (n + 1 - i) (n - i) = n - i := Nat.min_eq_right (by omega)
    rw [run_copy_rows (P := Tryz.prog) w.drew 157 157 ty 190 i0 g ((i + 1) * 2) (n - i) dc ⟨g, i * 2, none⟩ (n + 1 - i) sc cur 190 cs Tryz.underlying157 hi0 hg (by rw [hm, hz1, hdl])
      (fun j v hj => by
        rw [Addr.add_lit]
        rw [hcsd, List.getElem?_drop, ← htake, List.getElem?_take] at hj
        split at hj
        · show w.cell? _ = _
          rw [World.cell?]; simpa [hg] using hj
        · cases hj)
      (by rw [hdl, hcs]; omega) (fun v hv => h1x v (by rw [hcsd] at hv; exact List.mem_of_mem_drop hv)), hW1, hC1, hm]
  have hcp2 : ∀ ty dc, (Builtin.copy_ #[157, 157] ty #[.slice (some ⟨g, i * 2, none⟩) (n + 1 - i) dc, .slice (some ⟨vb, 0, none⟩) 1 1]).run Tryz.prog W1 = .ok (goInt 1) W2 := fun ty dc => by
    have hm : Nat.min 1 (n + 1 - i) = 1 := Nat.min_eq_left (by omega)
    have hvw : W1.heap[vb]? = some (.cells #[a, b] tv (0, 0)) := by rw [hW1, setRow_other w.drew g vb _ hne]; exact hv
    rw [run_copy_rows (P := Tryz.prog) W1 157 157 ty 190 i0 g (i * 2) (n + 1 - i) dc ⟨vb, 0, none⟩ 1 1 C1.toArray 190 [a, b] Tryz.underlying157 hi0 hW1g (by rw [hm, hz1]; rfl)
      (fun j v hj => by
        rw [Addr.add_lit, World.cell?]
        simpa [hvw] using hj)
      (by simp [hC1l]; omega) (fun v hv => by simp at hv; rcases hv with rfl | rfl <;> simp [h1]), hW2, hC2, hm]
    rfl
  have hfin : InsPost base (.slice (some ⟨g, 0, none⟩) n cap) i n xs a b w (.returned (.slice (some ⟨g, 0, none⟩) (n + 1) cap)) W2 := by
    refine ⟨_, rfl, ?_, ?_, Or.inl rfl⟩
    · rw [hW2]
      exact owns_of_block hbg (setRow_heap W1 g _ _ _ _ hW1g) hroom hcm (by simp [hC2l]) (by simpa using hC2t)
    · rw [hW2]
      refine grown_trans (b := W1) ?_ (grown_setRow _ _ _)
      rw [hW1]; exact grown_trans (grown_drew (World.grownBy.refl w _)) (grown_setRow _ _ _)
  have HP : Hid (InsPost base (.slice (some ⟨g, 0, none⟩) n cap) i n xs a b w (.returned (.slice (some ⟨g, 0, none⟩) (n + 1) cap)) W2) := hfin
  have h63 : cap ≤ 9223372036854775807 := by unfold maxLen at hcm; omega
  have hz2' : ¬ ((i : Int) = (n : Int)) := by omega
  have hc1 : ¬ cap = i := by omega
  have hc2 : ¬ cap = i + 1 := by omega
  have H1 : Hid (∀ ty dc sc, (Builtin.copy_ #[157, 157] ty #[.slice (some ⟨g, (i + 1) * 2, none⟩) (n - i) dc, .slice (some ⟨g, i * 2, none⟩) (n + 1 - i) sc]).run Tryz.prog w.drew = .ok (goInt ((n - i : Nat) : Int)) W1) := hcp1
  have H2 : Hid (∀ ty dc, (Builtin.copy_ #[157, 157] ty #[.slice (some ⟨g, i * 2, none⟩) (n + 1 - i) dc, .slice (some ⟨vb, 0, none⟩) 1 1]).run Tryz.prog W1 = .ok (goInt 1) W2) := hcp2
  have hw1 : IntKind.i64.wrap ((i : Int) + 1) = (i : Int) + 1 := by rw [IntKind.wrap_i64]; omega
  have hb0 : (0 : Int) ≤ (i : Int) + 1 := by omega
  have htn : ((i : Int) + 1).toNat = i + 1 := by omega
  have hb3 : (i : Int) ≤ (n : Int) + 1 := by omega
  have hb4 : (i : Int) ≤ (n : Int) := by omega
  have hin : i ≤ n := by omega
  clear hlen hg hcs htake hcl hcsd hdl hC1 hC2 hC2l hC2t hC1l hW1 hW2 hW1g hcp1 hcp2 hfin hv h1 h1x hnc hcm
  go_enter Tryz.func118, Tryz.ntmps118
  go_wp2_with (simp only [hov])
  go_region_law (refine step_copy_run rfl _ _ 157 157 rfl (.slice (some ⟨g, (i + 1) * 2, none⟩) (n - i) (cap - (i + 1))) (.slice (some ⟨g, i * 2, none⟩) (n + 1 - i) (cap - i)) (by simp [Act.eval, Act.put]) (by simp [Act.eval, Act.put]) (H1.out _ _ _) ?_)
  have h2 := H2.out
  go_wp2
  go_ret
  exact HP.out

set_option maxHeartbeats 1000000 in
set_option maxRecDepth 100000 in
theorem insK_grow (base g n cap i : Nat) (xs : List Value) (vb : Nat) (a b : Value) (w : World) (hown : w.ownsRow base 190 2 (.slice (some ⟨g, 0, none⟩) n cap) n xs) (hn : n ≤ 1000) (hi : i < n) (hroom : cap < n + 1)
    (tv : TypeId) (hv : w.heap[vb]? = some (.cells #[a, b] tv (0, 0))) (h1 : a.oneCell' = true ∧ b.oneCell' = true) (h1x : ∀ u ∈ xs, u.oneCell' = true) (hbase : base ≤ w.heap.size) :
    Calls Tryz.prog 118 #[.slice (some ⟨g, 0, none⟩) n cap, .int .i64 i, .slice (some ⟨vb, 0, none⟩) 1 1] w (InsPost base (.slice (some ⟨g, 0, none⟩) n cap) i n xs a b w) := by
  obtain ⟨i0, hi0, hz0, hz1, hz2⟩ := info_parts Tryz.infoKid
  obtain ⟨hlen, hr⟩ := hown
  rcases hr with ⟨h0, _⟩ | ⟨g', cap', cur, hv', hbg, hg, hnc, hcm, hcs, htake⟩
  · cases h0
  cases hv'
  have hcn : cap = n := by omega
  subst hcn
  have hgl : g < w.heap.size := (Array.getElem?_eq_some_iff.1 hg).1
  have hvl : vb < w.heap.size := (Array.getElem?_eq_some_iff.1 hv).1
  have hcell : ∀ j u, xs[j]? = some u → w.cell? ⟨g, j, none⟩ = some u := fun j u hj => by
    rw [← htake, List.getElem?_take] at hj
    split at hj
    · rw [World.cell?]; simpa [hg] using hj
    · cases hj
  have hold : (Builtin.firstCells i0.size i (.slice (some ⟨g, 0, none⟩) i cap)).run Tryz.prog w.drew = .ok (xs.take (i * 2)).toArray w.drew := by
    rw [hz1]
    exact run_firstCells_some w.drew 2 i ⟨g, 0, none⟩ i cap (xs.take (i * 2)) (by rw [List.length_take, hlen]; omega) (fun j v hj => by
      rw [Addr.add_lit, Nat.zero_add]
      rw [List.getElem?_take] at hj
      split at hj
      · exact hcell j v hj
      · cases hj)
  have hkk : (cap : Int) + 1 - (i : Int) = ((cap + 1 - i : Nat) : Int) := by omega
  have hik : i + (cap + 1 - i) = cap + 1 := by omega
  obtain ⟨G, hG⟩ : ∃ G, G = grownCap w (cap + 1) cap 190 := ⟨_, rfl⟩
  obtain ⟨Z1, hZ1⟩ : ∃ Z1, Z1 = (Builtin.zeroCells (Value.agg #[.int .u8 0, .pointer none]).cells (cap + 1 - i)) := ⟨_, rfl⟩
  obtain ⟨Z2, hZ2⟩ : ∃ Z2, Z2 = (Builtin.zeroCells (Value.agg #[.int .u8 0, .pointer none]).cells (G - (cap + 1))) := ⟨_, rfl⟩
  have hZ1l : Z1.size = (cap + 1 - i) * 2 := by rw [hZ1, size_zeroCells]; rfl
  have hZ2l : Z2.size = (G - (cap + 1)) * 2 := by rw [hZ2, size_zeroCells]; rfl
  obtain ⟨ROW, hROW⟩ : ∃ ROW : Array Value, ROW = (xs.take (i * 2)).toArray ++ Z1 ++ Z2 := ⟨_, rfl⟩
  have hGn : cap + 1 ≤ G := by rw [hG]; exact grownCap_ge w _ _ _
  have hG63 : G ≤ maxLen := by rw [hG]; exact grownCap_le_maxLen w (cap + 1) cap 190 (by simp only [maxLen]; omega)
  have hRl : ROW.size = G * 2 := by
    rw [hROW]; simp only [Array.size_append, List.size_toArray, List.length_take, hlen, hZ1l, hZ2l]; omega
  obtain ⟨W0, hW0⟩ : ∃ W0, W0 = w.drew.alloc (.cells ROW 190) := ⟨_, rfl⟩
  have hrz : ∀ ty, (Builtin.append_ #[157, 3] ty #[.slice (some ⟨g, 0, none⟩) i cap, .int .i64 ((cap : Int) + 1 - (i : Int))]).run Tryz.prog w =
      .ok (.slice (some ⟨w.heap.size, 0, none⟩) (cap + 1) G) W0 := fun ty => by
    have h := Lib.run_append_grow_zeros (P := Tryz.prog) w 157 3 ty 190 i0 _ .i64 .i64 Tryz.underlying157 Tryz.underlying3 hi0 hz0 (some ⟨g, 0, none⟩) i cap (xs.take (i * 2)) hold (cap + 1 - i) (by omega) (by omega) (by omega) (by omega) (by rw [hz2]; omega) (by rw [hz2, hik]; exact growslice_fits (by omega) (by omega))
    rw [hik] at h
    rw [hkk, h, hW0, hROW, hZ1, hZ2, hG]
  have hW0g : W0.heap[w.heap.size]? = some (.cells ROW 190 (0, 0)) := by rw [hW0]; exact heap_alloc_new w.drew _
  obtain ⟨C1, hC1⟩ : ∃ C1, C1 = ROW.toList.take (i * 2) ++ [a, b] ++ ROW.toList.drop (i * 2 + 2) := ⟨_, rfl⟩
  have hC1l : C1.length = G * 2 := by rw [hC1]; simp only [List.length_append, List.length_take, List.length_drop, Array.length_toList, hRl, List.length_cons, List.length_nil]; omega
  obtain ⟨cs, hcsd⟩ : ∃ cs, cs = xs.drop (i * 2) := ⟨_, rfl⟩
  have hdl : cs.length = (cap - i) * 2 := by rw [hcsd, List.length_drop, hlen]; omega
  obtain ⟨C2, hC2⟩ : ∃ C2, C2 = C1.take ((i + 1) * 2) ++ cs ++ C1.drop ((i + 1) * 2 + cs.length) := ⟨_, rfl⟩
  have hC2l : C2.length = G * 2 := by rw [hC2]; simp only [List.length_append, List.length_take, List.length_drop, hC1l, hdl]; omega
  have hxi : (xs.take (i * 2)).length = i * 2 := by rw [List.length_take, hlen]; omega
  have hC2t : C2.take ((cap + 1) * 2) = xs.take (i * 2) ++ [a, b] ++ xs.drop (i * 2) := by
    have e0 : ROW.toList.take (i * 2) = xs.take (i * 2) := by
      rw [hROW]; simp only [Array.toList_append, List.append_assoc]; exact List.take_left' hxi
    have e1 : C1.take ((i + 1) * 2) = xs.take (i * 2) ++ [a, b] := by
      rw [hC1, e0]; exact List.take_left' (by simp only [List.length_append, hxi, List.length_cons, List.length_nil]; omega)
    rw [hC2, e1, hcsd]
    exact List.take_left' (by rw [← hcsd]; simp only [List.length_append, hxi, hdl, List.length_cons, List.length_nil]; omega)
  obtain ⟨W1, hW1⟩ : ∃ W1, W1 = W0.setRow w.heap.size C1.toArray := ⟨_, rfl⟩
  have hW1g : W1.heap[w.heap.size]? = some (.cells C1.toArray 190 (0, 0)) := by rw [hW1]; exact setRow_heap W0 _ _ _ _ _ hW0g
  obtain ⟨W2, hW2⟩ : ∃ W2, W2 = W1.drew.setRow w.heap.size C2.toArray := ⟨_, rfl⟩
  have hgW0 : ∀ k, k < w.heap.size → W0.heap[k]? = w.heap[k]? := fun k hk => by rw [hW0]; exact Below.heap_alloc w.drew _ k hk
  have hcp1 : ∀ ty dc, (Builtin.copy_ #[157, 157] ty #[.slice (some ⟨w.heap.size, i * 2, none⟩) (cap + 1 - i) dc, .slice (some ⟨vb, 0, none⟩) 1 1]).run Tryz.prog W0 = .ok (goInt 1) W1 := fun ty dc => by
    have hm : Nat.min 1 (cap + 1 - i) = 1 := Nat.min_eq_left (by omega)
    rw [run_copy_rows (P := Tryz.prog) W0 157 157 ty 190 i0 w.heap.size (i * 2) (cap + 1 - i) dc ⟨vb, 0, none⟩ 1 1 ROW 190 [a, b] Tryz.underlying157 hi0 hW0g (by rw [hm, hz1]; rfl)
      (fun j v hj => by
        have := hgW0 vb hvl
        rw [Addr.add_lit, World.cell?]
        simpa [this, hv] using hj)
      (by rw [hRl]; simp; omega) (fun v hv => by simp at hv; rcases hv with rfl | rfl <;> simp [h1]), hW1, hC1, hm]
    rfl
  have hcp2 : ∀ ty dc sc, (Builtin.copy_ #[157, 157] ty #[.slice (some ⟨w.heap.size, (i + 1) * 2, none⟩) (cap - i) dc, .slice (some ⟨g, i * 2, none⟩) (cap - i) sc]).run Tryz.prog W1.drew = .ok (goInt ((cap - i : Nat) : Int)) W2 := fun ty dc sc => by
    have hm : Nat.min (cap - i) (cap - i) = cap - i := Nat.min_self _
    rw [run_copy_rows (P := Tryz.prog) W1.drew 157 157 ty 190 i0 w.heap.size ((i + 1) * 2) (cap - i) dc ⟨g, i * 2, none⟩ (cap - i) sc C1.toArray 190 cs Tryz.underlying157 hi0 hW1g (by rw [hm, hz1, hdl])
      (fun j v hj => by
        rw [Addr.add_lit]
        rw [hcsd, List.getElem?_drop] at hj
        have hb : W1.heap[g]? = w.heap[g]? := by rw [hW1, setRow_other W0 _ g _ (by omega)]; exact hgW0 g hgl
        show W1.cell? _ = _
        rw [World.cell?_of_block (w := w) (w' := W1) (a := ⟨g, i * 2 + j, none⟩) hb]
        exact hcell _ v hj)
      (by rw [hdl]; simp [hC1l]; omega) (fun v hv => h1x v (by rw [hcsd] at hv; exact List.mem_of_mem_drop hv)), hW2, hC2, hm]
  have hfin : InsPost base (.slice (some ⟨g, 0, none⟩) cap cap) i cap xs a b w (.returned (.slice (some ⟨w.heap.size, 0, none⟩) (cap + 1) G)) W2 := by
    refine ⟨_, rfl, ?_, ?_, Or.inr (fun k hk => by simp [Value.ownBlock] at hk; omega)⟩
    · rw [hW2]
      exact owns_of_block hbase (setRow_heap W1.drew _ _ _ _ _ hW1g) hGn hG63 (by simp [hC2l]) (by simpa using hC2t)
    · have hs0 : w.heap.size ≤ W0.heap.size := by rw [hW0]; simp
      refine ⟨by rw [hW2, hW1, hW0]; rfl, by rw [hW2, hW1, hW0]; rfl, by rw [hW2, hW1, hW0]; rfl, by rw [hW2, hW1]; simpa using hs0, fun k hk _ => ?_⟩
      rw [hW2, setRow_other _ _ k _ (by omega)]
      show W1.heap[k]? = _
      rw [hW1, setRow_other _ _ k _ (by omega)]
      exact hgW0 k hk
  have HP : Hid (InsPost base (.slice (some ⟨g, 0, none⟩) cap cap) i cap xs a b w (.returned (.slice (some ⟨w.heap.size, 0, none⟩) (cap + 1) G)) W2) := hfin
  have hz2' : ¬ ((i : Int) = (cap : Int)) := by omega
  have hc1 : ¬ cap = i := by omega
  have hc2 : ¬ G = i := by omega
  have hc3 : ¬ G = i + 1 := by omega
  have hG63' : G ≤ 9223372036854775807 := by unfold maxLen at hG63; omega
  have H2 : Hid (∀ ty dc sc, (Builtin.copy_ #[157, 157] ty #[.slice (some ⟨w.heap.size, (i + 1) * 2, none⟩) (cap - i) dc, .slice (some ⟨g, i * 2, none⟩) (cap - i) sc]).run Tryz.prog W1.drew = .ok (goInt ((cap - i : Nat) : Int)) W2) := hcp2
  have HR : Hid (∀ ty, (Builtin.append_ #[157, 3] ty #[.slice (some ⟨g, 0, none⟩) i cap, .int .i64 ((cap : Int) + 1 - (i : Int))]).run Tryz.prog w = .ok (.slice (some ⟨w.heap.size, 0, none⟩) (cap + 1) G) W0) := hrz
  have hw1 : IntKind.i64.wrap ((i : Int) + 1) = (i : Int) + 1 := by rw [IntKind.wrap_i64]; omega
  have hb0 : (0 : Int) ≤ (i : Int) + 1 := by omega
  have htn : ((i : Int) + 1).toNat = i + 1 := by omega
  have hb3 : (i : Int) ≤ (cap : Int) + 1 := by omega
  have hb4 : (i : Int) ≤ (cap : Int) := by omega
  have hin : i ≤ cap := by omega
  clear hlen hg hcs htake hcsd hdl hC1 hC2 hC2l hC2t hC1l hW0 hW1 hW2 hW0g hW1g hcp2 hfin hv h1 h1x hnc hcm hold hkk hik hG hZ1 hZ2 hZ1l hZ2l hROW hRl hxi hgW0 hcell hrz hG63
  go_enter Tryz.func118, Tryz.ntmps118
  go_wp2_with (at_builtin; refine wpList_append_runI _ rfl _ _ 157 3 rfl _ _ rfl rfl (HR.out _) ?_)
  go_region_law (refine step_copy_run rfl _ _ 157 157 rfl (.slice (some ⟨w.heap.size, (i + 1) * 2, none⟩) (cap - i) (G - (i + 1))) (.slice (some ⟨g, i * 2, none⟩) (cap - i) (cap - i)) (by simp [Act.eval, Act.put]) (by simp [Act.eval, Act.put]) (H2.out _ _ _) ?_)
  go_wp2
  go_ret
  exact HP.out

theorem insK_any (base : Nat) (v : Value) (n i : Nat) (xs : List Value) (vb : Nat) (a b : Value) (w : World) (hown : w.ownsRow base 190 2 v n xs) (hn : n ≤ 1000) (hi : i ≤ n)
    (tv : TypeId) (hv : w.heap[vb]? = some (.cells #[a, b] tv (0, 0))) (hne : v.ownBlock ≠ some vb) (h1 : a.oneCell' = true ∧ b.oneCell' = true) (h1x : ∀ u ∈ xs, u.oneCell' = true) (hbase : base ≤ w.heap.size) :
    Calls Tryz.prog 118 #[v, .int .i64 i, .slice (some ⟨vb, 0, none⟩) 1 1] w (InsPost base v i n xs a b w) := by
  by_cases hin : i = n
  · subst hin
    exact insK_end base v i xs vb a b w hown hn (by simp [World.cell?, hv]) (by simp [World.cell?, hv]) h1 hbase
  · rcases hown.2 with ⟨rfl, rfl⟩ | ⟨g, cap, cur, rfl, hbg, hg, hnc, hcm, hcs, htake⟩
    · omega
    · have hne' : vb ≠ g := fun e => hne (by simp [Value.ownBlock, e])
      by_cases hroom : n + 1 ≤ cap
      · exact insK_shift base g n cap i xs vb a b w hown hn (by omega) hroom tv hv hne' h1 h1x
      · exact insK_grow base g n cap i xs vb a b w hown hn (by omega) (by omega) tv hv h1 h1x hbase

end Go.Proofs.YtnapepbdohidgaaGreatDoor
