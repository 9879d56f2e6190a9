/- shelfkeep: without, with. -/
import Derived.Test.YtmgedmcgcgidnaaKeyed0
import Derived.Laws.AppendOwnNone
import Derived.Deep.DeepCutAuto
namespace Go.Proofs.Ytmgedmcgcgidnaa
open Go.RowKit

theorem Try.infoOp : (Try.prog.info? 31).map (fun i => (i.zero, i.size, i.bytes)) = some (some (.agg #[.int .i64 0, .string ⟨#[]⟩, .string ⟨#[]⟩, .string ⟨#[]⟩, .string ⟨#[]⟩, .int .i64 0, .int .i64 0]), 7, 88) := by kernel_rfl

theorem opsCells_len (ops : List OpD) : (ops.flatMap opCells).length = ops.length * 7 := flat_len 7 _ (fun _ => rfl) ops
theorem opsCells_one (ops : List OpD) : ∀ u ∈ ops.flatMap opCells, u.oneCell' = true := by
  intro u hu
  obtain ⟨o, _, hu⟩ := List.mem_flatMap.1 hu
  simp [opCells] at hu
  rcases hu with rfl | rfl | rfl | rfl | rfl | rfl | rfl <;> rfl

theorem scr_of_owns {w : World} {base : Nat} {v : Value} {n : Nat} {ops : List OpD} (h : w.ownsRow base 31 7 v n (ops.flatMap opCells)) (hn : n = ops.length) (hz : Sized ops) (hl : ops.length ≤ 2199023255552) : ScrAt w v ops := by
  subst hn
  rcases h.2 with ⟨rfl, h0⟩ | ⟨g, cap, cur, rfl, hbg, hg, hnc, hcm, hcs, htake⟩
  · have : ops = [] := List.length_eq_zero_iff.1 h0
    subst this
    exact ⟨⟨none, 0, rfl, fun h => absurd rfl h⟩, hz, hl⟩
  · refine ⟨⟨_, cap, rfl, fun _ => ⟨g, 0, rfl, fun i hi => ?_⟩⟩, hz, hl⟩
    have hc : ∀ j, j < 7 → w.cell? ⟨g, 0 + i * 7 + j, none⟩ = (opCells ops[i])[j]? := fun j hj => by
      rw [Nat.zero_add, ← opCells_get ops i j hi hj]; exact h.cellAt _ (by omega)
    exact ⟨hc 0 (by omega), hc 1 (by omega), hc 2 (by omega), hc 3 (by omega), hc 4 (by omega), hc 5 (by omega), hc 6 (by omega)⟩

/-- The cells of a script, as an append asks them. -/
theorem scr_src {w : World} {v : Value} {ops : List OpD} (h : ScrAt w v ops) : (∃ cap, v = .slice none 0 cap ∧ ops = []) ∨ ∃ ad cap, v = .slice (some ad) ops.length cap ∧ ∀ j u, (ops.flatMap opCells)[j]? = some u → w.cell? (ad.add j) = some u := by
  obtain ⟨a, cap, rfl, hx⟩ := h.form
  cases a with
  | none =>
    by_cases hne : ops = []
    · subst hne; exact Or.inl ⟨cap, rfl, rfl⟩
    · obtain ⟨b, off, e, _⟩ := hx hne; cases e
  | some ad =>
    refine Or.inr ⟨ad, cap, rfl, fun j u hj => ?_⟩
    have hne : ops ≠ [] := by intro e; subst e; simp at hj
    obtain ⟨b, off, e, hS⟩ := hx hne
    cases e
    have hlt := (List.getElem?_eq_some_iff.1 hj).1
    rw [opsCells_len] at hlt
    have hi : j / 7 < ops.length := by omega
    have hjj : j = j / 7 * 7 + j % 7 := by omega
    have h7 : j % 7 < 7 := Nat.mod_lt _ (by omega)
    obtain ⟨c0, c1, c2, c3, c4, c5, c6⟩ := hS (j / 7) hi
    have hg := opCells_get ops (j / 7) (j % 7) hi h7
    rw [← hjj, hj] at hg
    rw [Addr.add_lit]
    generalize ops[j / 7] = o at *
    have hoff : off + j = off + j / 7 * 7 + j % 7 := by omega
    rw [hoff]
    generalize j % 7 = r at *
    have hr : r = 0 ∨ r = 1 ∨ r = 2 ∨ r = 3 ∨ r = 4 ∨ r = 5 ∨ r = 6 := by omega
    rcases hr with rfl | rfl | rfl | rfl | rfl | rfl | rfl <;> simp only [opCells, List.getElem?_cons_zero, List.getElem?_cons_succ, Option.some.injEq] at hg <;> subst hg <;> assumption

theorem cells7_new (w : World) (o : OpD) (T : TypeId) : ∀ j u, (opCells o)[j]? = some u → (w.alloc (.cells #[.int .i64 o.kind, .string o.key, .string o.body, .string o.delim, .string o.past, .int .i64 o.n, .int .i64 o.src] T)).cell? ((⟨w.heap.size, 0, none⟩ : Addr).add j) = some u := by
  intro j u hj
  rw [Addr.add_lit, World.cell?_alloc_at (w := w) _ _ w.heap.size _ rfl]
  simpa [opCells] using hj
theorem one7 (o : OpD) : ∀ u ∈ opCells o, u.oneCell' = true := by
  intro u hu; simp [opCells] at hu; rcases hu with rfl | rfl | rfl | rfl | rfl | rfl | rfl <;> rfl

/-- The steps that are no LOADs. -/
def noLoad (ops : List OpD) : List OpD := ops.filter fun o => o.kind != 12
theorem noLoad_len (ops : List OpD) : (noLoad ops).length ≤ ops.length := List.length_filter_le _ _

set_option maxHeartbeats 2000000 in
set_option maxRecDepth 100000 in
theorem kwithout_any (a : Option Addr) (n cap : Nat) (ops : List OpD) (w : World) (h : ScrAt w (.slice a n cap) ops) (hn : n * 88 ≤ 140737488351232) :
    Calls Try.prog 8 #[.slice a n cap] w fun e w' => ∃ v', e = .returned v' ∧ w'.ownsRow w.heap.size 31 7 v' (noLoad ops).length ((noLoad ops).flatMap opCells) ∧ Below w.heap.size w w' := by
  obtain ⟨i0, hi0, hz0, hz1, hz2⟩ := info_parts Try.infoOp
  have hnl : n = ops.length := by
    obtain ⟨a', cap', he, _⟩ := h.form
    cases he; rfl
  have HS : Hid (ScrAt w (.slice a n cap) ops ∧ n = ops.length) := ⟨h, hnl⟩
  clear h hnl
  go_enter Try.func8, Try.ntmps8
  go_wp2_with fail
  go_loopw [3, 4] (fun s3 s4 wr => ∃ i : Nat, i ≤ n ∧ s4 = .int .i64 i ∧ wr.ownsRow w.heap.size 31 7 s3 (noLoad (ops.take i)).length ((noLoad (ops.take i)).flatMap opCells) ∧ Below w.heap.size w wr) (fun _ s4 _ => n - (intOf s4).toNat)
  case atStart => exact ⟨0, Nat.zero_le _, rfl, World.ownsRow_nil _ _ _ _, Below.refl _ _⟩
  case round =>
    obtain ⟨i, hin, rfl, hown, hb⟩ := hrel
    obtain ⟨va, vc, rfl, -⟩ := owns_form hown
    by_cases hlt : i < n
    · have hlo : i < ops.length := by rw [← HS.out.2]; exact hlt
      have hne : ops ≠ [] := by intro e; rw [e] at hlo; simp at hlo
      obtain ⟨a', cap', he, hx⟩ := HS.out.1.form
      obtain ⟨b, off, ha, hSc⟩ := hx hne
      subst ha
      cases he
      obtain ⟨c0, c1, c2, c3, c4, c5, c6⟩ := hSc i hlo
      replace c0 := cellOn hb c0
      replace c1 := cellOn hb c1
      replace c2 := cellOn hb c2
      replace c3 := cellOn hb c3
      replace c4 := cellOn hb c4
      replace c5 := cellOn hb c5
      replace c6 := cellOn hb c6
      have HTK : Hid (noLoad (ops.take (i + 1)) = noLoad (ops.take i) ++ (if ops[i].kind = 12 then [] else [ops[i]])) := show noLoad (ops.take (i + 1)) = _ by
        rw [List.take_succ_eq_append_getElem hlo]
        unfold noLoad
        rw [List.filter_append]
        by_cases hk : ops[i].kind = 12 <;> simp [hk]
      have hle : (noLoad (ops.take i)).length ≤ i := by have := noLoad_len (ops.take i); rw [List.length_take] at this; omega
      generalize ops[i] = o at *
      obtain ⟨kind, key, body, delim, past, nn, src⟩ := o
      simp only at c0 c1 c2 c3 c4 c5 c6 HTK
      have HX : Hid (wr.ownsRow w.heap.size 31 7 (.slice va (noLoad (ops.take i)).length vc) (noLoad (ops.take i)).length ((noLoad (ops.take i)).flatMap opCells) ∧ Below w.heap.size w wr) := ⟨hown, hb⟩
      clear hown hb hSc hx
      by_cases hk : kind = 12
      · subst hk
        rw [if_pos rfl, List.append_nil] at HTK
        go_wp2_with fail
        refine ⟨⟨i + 1, by omega, by go_num, ?_, HX.out.2⟩, by simp [intOf]; omega⟩
        rw [HTK.out]; exact HX.out.1
      · have hk' : (kind != 12) = true := by simp [hk]
        rw [if_neg hk] at HTK
        generalize hm : (noLoad (ops.take i)).length = m at *
        have HMM : Hid ((noLoad (ops.take i)).length = m) := hm
        clear hm
        go_wp2_with (at_builtin; refine wpList_append_own _ rfl _ _ 22 rfl w.heap.size 31 i0 _ 7 88 Try.underlying22 hi0 hz0 hz1 hz2 rfl (by decide) _ m _ rfl (HX.out.1.alloc _) ⟨wr.heap.size, 0, none⟩ 1 1 (opCells ⟨kind, key, body, delim, past, nn, src⟩) rfl rfl (cells7_new wr ⟨kind, key, body, delim, past, nn, src⟩ _) (one7 _) (by simp only [maxLen]; omega) (by omega) (by have := HX.out.2.size; simp; omega) ?_; intro v2 w2 ho2 hg2 _)
        have b2 : Below w.heap.size w w2 := (HX.out.2.alloc HX.out.2.size _).grown hg2 (by have := HX.out.2.size; simp; omega) (fun k e => (HX.out.1.lt k e).1)
        refine ⟨⟨i + 1, by omega, by go_num, ?_, b2⟩, by simp [intOf]; omega⟩
        rw [HTK.out]
        rw [List.length_append, HMM.out, List.flatMap_append]
        simpa using ho2
    · have hie : i = n := by omega
      subst hie
      have HT : Hid (ops.take i = ops) := List.take_of_length_le (by rw [← HS.out.2]; exact Nat.le_refl _)
      have HO : Hid (wr.ownsRow w.heap.size 31 7 (.slice va (noLoad (ops.take i)).length vc) (noLoad (ops.take i)).length ((noLoad (ops.take i)).flatMap opCells) ∧ Below w.heap.size w wr) := ⟨hown, hb⟩
      clear hown hb
      go_wp2
      go_ret
      refine ⟨_, rfl, ?_, HO.out.2⟩
      have := HO.out.1
      rw [HT.out] at this
      rw [HT.out]
      exact this

set_option maxHeartbeats 2000000 in
set_option maxRecDepth 100000 in
theorem kwith_any (v : Value) (ops : List OpD) (mb m : Nat) (more : List OpD) (w : World) (h : ScrAt w v ops) (hm : ScrAt w (.slice (some ⟨mb, 0, none⟩) m m) more) (hn : ops.length * 88 ≤ 140737488351232) (hml : m ≤ 40) :
    Calls Try.prog 10 #[v, .slice (some ⟨mb, 0, none⟩) m m] w fun e w' => ∃ v', e = .returned v' ∧ w'.ownsRow w.heap.size 31 7 v' (ops.length + m) ((ops ++ more).flatMap opCells) ∧ Below w.heap.size w w' := by
  obtain ⟨i0, hi0, hz0, hz1, hz2⟩ := info_parts Try.infoOp
  have hmm : m = more.length := by
    obtain ⟨a', cap', he, _⟩ := hm.form
    cases he; rfl
  have hms : ∀ j u, (more.flatMap opCells)[j]? = some u → w.cell? ((⟨mb, 0, none⟩ : Addr).add j) = some u := by
    rcases scr_src hm with ⟨c, he, _⟩ | ⟨ad, c, he, hx⟩
    · cases he
    · cases he; exact hx
  have HM : Hid (∀ j u, (more.flatMap opCells)[j]? = some u → w.cell? ((⟨mb, 0, none⟩ : Addr).add j) = some u) := hms
  have HMM : Hid (m = more.length) := hmm
  clear hmm hms hm
  rcases scr_src h with ⟨c, rfl, rfl⟩ | ⟨ad, c, rfl, hsrc⟩
  · clear h
    go_enter Try.func10, Try.ntmps10
    go_wp2_with (at_builtin; refine wpList_append_own _ rfl _ _ 22 rfl w.heap.size 31 i0 _ 7 88 Try.underlying22 hi0 hz0 hz1 hz2 rfl (by decide) _ 0 [] rfl (World.ownsRow_nil _ _ _ _) ⟨mb, 0, none⟩ m m (more.flatMap opCells) rfl (by rw [opsCells_len, HMM.out]) HM.out (opsCells_one more) (by simp only [maxLen]; omega) (by omega) (Nat.le_refl _) ?_; intro v1 w1 ho1 hg1 _)
    obtain ⟨va, vc, rfl, -⟩ := owns_form ho1
    go_wp2
    go_ret
    refine ⟨_, rfl, by simpa using ho1, (Below.refl _ w).grown (row := none) hg1 (Nat.le_refl _) (fun k e => by cases e)⟩
  · have HSR : Hid (∀ j u, (ops.flatMap opCells)[j]? = some u → w.cell? (ad.add j) = some u) := hsrc
    clear h hsrc
    generalize hop : ops.length = n at *
    have HN : Hid (ops.length = n) := hop
    clear hop
    go_enter Try.func10, Try.ntmps10
    go_upto_region 3 with (at_builtin; refine wpList_append_own _ rfl _ _ 22 rfl w.heap.size 31 i0 _ 7 88 Try.underlying22 hi0 hz0 hz1 hz2 rfl (by decide) _ 0 [] rfl (World.ownsRow_nil _ _ _ _) ad n c (ops.flatMap opCells) rfl (by rw [opsCells_len, HN.out]) HSR.out (opsCells_one ops) (by simp only [maxLen]; omega) (by omega) (Nat.le_refl _) ?_; intro v1 w1 ho1 hg1 _; obtain ⟨va, vc, rfl, -⟩ := owns_form ho1)
    have b1 : Below w.heap.size w w1 := (Below.refl _ w).grown (row := none) hg1 (Nat.le_refl _) (fun k e => by cases e)
    have HO : Hid (w1.ownsRow w.heap.size 31 7 (.slice va n vc) n (ops.flatMap opCells) ∧ Below w.heap.size w w1) := ⟨by simpa using ho1, b1⟩
    clear ho1 hg1 b1
    go_wp2_with (at_builtin; refine wpList_append_own _ rfl _ _ 22 rfl w.heap.size 31 i0 _ 7 88 Try.underlying22 hi0 hz0 hz1 hz2 rfl (by decide) _ n _ rfl HO.out.1 ⟨mb, 0, none⟩ m m (more.flatMap opCells) rfl (by rw [opsCells_len, HMM.out]) (fun j u hj => cellOn HO.out.2 (HM.out j u hj)) (opsCells_one more) (by simp only [maxLen]; omega) (by omega) HO.out.2.size ?_; intro v2 w2 ho2 hg2 _)
    obtain ⟨va2, vc2, rfl, -⟩ := owns_form ho2
    go_wp2
    go_ret
    refine ⟨_, rfl, ?_, HO.out.2.grown hg2 HO.out.2.size (fun k e => (HO.out.1.lt k e).1)⟩
    rw [List.flatMap_append]
    simpa using ho2

end Go.Proofs.Ytmgedmcgcgidnaa
