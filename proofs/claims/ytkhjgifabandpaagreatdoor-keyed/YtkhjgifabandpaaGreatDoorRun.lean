/- shelf.Run, where no listing is asked for. -/
import Derived.Test.YtkhjgifabandpaaGreatDoorRunF
namespace Go.Proofs.YtkhjgifabandpaaGreatDoor
open Go.RowKit

/-- No listing is asked for. -/
def Plain (ops : List OpD) : Prop := ∀ o ∈ ops, o.kind ≠ 6 ∧ o.kind ≠ 7

theorem cells35_new (w : World) (x y z u v : Value) (T : TypeId) : Cells3 (w.alloc (.cells #[x, y, z, u, v] T)) w.heap.size x y z :=
  ⟨by rw [World.cell?_alloc_at (w := w) _ _ w.heap.size 0 rfl]; rfl, by rw [World.cell?_alloc_at (w := w) _ _ w.heap.size 1 rfl]; rfl, by rw [World.cell?_alloc_at (w := w) _ _ w.heap.size 2 rfl]; rfl, fun j => World.frozen?_alloc_at (w := w) _ _ w.heap.size j rfl⟩

theorem cells5_new (w : World) (x0 x1 x2 x3 x4 : Value) (T : TypeId) : ∀ j u, [x0, x1, x2, x3, x4][j]? = some u → (w.alloc (.cells #[x0, x1, x2, x3, x4] T)).cell? ((⟨w.heap.size, 0, none⟩ : Addr).add j) = some u := by
  intro j u hj
  rw [Addr.add_lit, World.cell?_alloc_at (w := w) _ _ w.heap.size _ rfl]
  simpa using hj
theorem one5 (a : AnsD) : ∀ u ∈ [Value.int .i64 a.code, .int .i64 a.ver, .string a.body, .slice none 0 0, .string ⟨#[]⟩], u.oneCell' = true := by
  intro u hu; simp at hu; rcases hu with rfl | rfl | rfl | rfl | rfl <;> rfl

set_option maxHeartbeats 2000000 in
set_option maxRecDepth 100000 in
theorem run_any (b off cap : Nat) (ops : List OpD) (w : World) (hS : ScriptAt w b off ops) (hz : Sized ops) (hn : ops.length ≤ 2199023255552) (hpl : Plain ops) :
    Calls Tryz.prog 7 #[.slice (some ⟨b, off, none⟩) ops.length cap] w fun e w' => ∃ g, e = .returned (.slice (some ⟨g, 0, none⟩) ops.length ops.length) ∧
      w'.ownsRow w.heap.size 44 5 (.slice (some ⟨g, 0, none⟩) ops.length ops.length) ops.length (ansCells (runF ops)) ∧ Below w.heap.size w w' := by
  obtain ⟨i0, hi0, hz0, hz1, hz2⟩ := info_parts Tryz.infoAns
  have HSc : Hid (ScriptAt w b off ops ∧ Sized ops) := ⟨hS, hz⟩
  have HPL : Hid (Plain ops) := hpl
  obtain ⟨n, hnl⟩ : ∃ n, ops.length = n := ⟨_, rfl⟩
  have HN : Hid (ops.length = n) := hnl
  rw [hnl] at hn ⊢
  clear hS hz hnl hpl
  go_enter Tryz.func7, Tryz.ntmps7
  go_wp2_with (at_make; refine wpList_make_own _ rfl _ _ 26 rfl w.heap.size 44 i0 _ 5 Tryz.underlying26 hi0 hz0 hz1 _ _ _ n rfl rfl (by omega) ?qb1 ?qb2 ?qb3 ?_)
  case qb1 => rw [hz2]; omega
  case qb2 => simp only [maxLen]; omega
  case qb3 => simp
  intro w1 hown1 hgrow1
  have C0 := (cells35_new w (.pointer none) (.int .i64 0) (.int .i64 0) (.slice none 0 0) (.int .i64 0) 40)
  have b01 : Below (w.alloc (.cells #[.pointer none, .int .i64 0, .int .i64 0, .slice none 0 0, .int .i64 0] 40)).heap.size (w.alloc (.cells #[.pointer none, .int .i64 0, .int .i64 0, .slice none 0 0, .int .i64 0] 40)) w1 := ⟨hgrow1.os, hgrow1.tape, hgrow1.output, hgrow1.size, fun k hk => hgrow1.block k hk (by simp)⟩
  have HST : Hid (StoreAt (fun _ => False) w1 w.heap.size st0) := storeAt_of (p := none) (C0.on b01) (NodeAt.nil (fun _ => rfl)) (fun _ h => h.elim)
  have HB1 : Hid (Below w.heap.size w w1) := ((Below.refl _ w).alloc (Nat.le_refl _) _).trans (b01.mono (by simp))
  have HO1 : Hid (w1.ownsRow w.heap.size 44 5 (.slice (some ⟨w.heap.size + 1, 0, none⟩) 0 n) 0 []) := show w1.ownsRow w.heap.size 44 5 (.slice (some ⟨w.heap.size + 1, 0, none⟩) 0 n) 0 [] by simpa using hown1
  clear C0 b01 hown1 hgrow1
  go_wp2_with fail
  go_loopw [4, 6, 12] (fun s4 _ s12 wr => ∃ (i : Nat) (A : Nat → Prop), i ≤ n ∧ s12 = .int .i64 i ∧ s4 = .slice (some ⟨w.heap.size + 1, 0, none⟩) i n ∧ StoreAt A wr w.heap.size (stAfter st0 (ops.take i)) ∧ ¬ A (w.heap.size + 1) ∧ wr.ownsRow w.heap.size 44 5 (.slice (some ⟨w.heap.size + 1, 0, none⟩) i n) i (ansCells (runF (ops.take i))) ∧ Below w.heap.size w wr) (fun _ _ s12 _ => n - (intOf s12).toNat)
  case atStart => exact ⟨0, fun _ => False, Nat.zero_le _, rfl, rfl, HST.out, (fun h => h), HO1.out, HB1.out⟩
  case round =>
    obtain ⟨i, A, hin, rfl, rfl, S, hA, hown, hb⟩ := hrel
    by_cases hlt : i < n
    · have hlo : i < ops.length := by rw [HN.out]; exact hlt
      obtain ⟨c0, c1, c2, c3, c4, c5, c6⟩ := HSc.out.1 i hlo
      replace c0 := cellOn hb c0
      replace c1 := cellOn hb c1
      replace c2 := cellOn hb c2
      replace c3 := cellOn hb c3
      replace c4 := cellOn hb c4
      replace c5 := cellOn hb c5
      replace c6 := cellOn hb c6
      obtain ⟨hzk, hzb⟩ := HSc.out.2 ops[i] (List.getElem_mem hlo)
      obtain ⟨hk6, hk7⟩ := HPL.out ops[i] (List.getElem_mem hlo)
      have HTK : Hid (ops.take (i + 1) = ops.take i ++ [ops[i]]) := List.take_succ_eq_append_getElem hlo
      have hIV : Inv (stAfter st0 (ops.take i)) i := by
        have := inv_run (ops.take i)
        rwa [List.length_take, Nat.min_eq_left (by omega)] at this
      generalize ops[i] = o at *
      obtain ⟨kind, key, body, delim, past, nn, src⟩ := o
      simp only at c0 c1 c2 c3 c4 c5 c6 hzk hzb hk6 hk7
      obtain ⟨W1, hW1⟩ : ∃ W1, W1 = wr.alloc (.cells #[.int .i64 kind, .string key, .string body, .string delim, .string past, .int .i64 nn, .int .i64 src] 30) := ⟨_, rfl⟩
      have b1 : Below wr.heap.size wr W1 := by rw [hW1]; exact (Below.refl _ _).alloc (Nat.le_refl _) _
      have HAN := answer_any A w.heap.size _ i ⟨kind, key, body, delim, past, nn, src⟩ W1 hzk hzb (S.on b1) hIV (by omega) hk6 hk7
      simp only [opVal] at HAN
      have HX : Hid (ScriptAt w b off ops ∧ ¬ A (w.heap.size + 1) ∧ wr.ownsRow w.heap.size 44 5 (.slice (some ⟨w.heap.size + 1, 0, none⟩) i n) i (ansCells (runF (ops.take i))) ∧ Below w.heap.size w wr ∧ Below wr.heap.size wr W1 ∧ W1 = wr.alloc (.cells #[.int .i64 kind, .string key, .string body, .string delim, .string past, .int .i64 nn, .int .i64 src] 30)) := ⟨HSc.out.1, hA, hown, hb, b1, hW1⟩
      clear S hA hown hb b1 hW1 hIV HST HB1 HO1
      generalize hst : stepSt (stAfter st0 (ops.take i)) ⟨kind, key, body, delim, past, nn, src⟩ = sr at HAN
      have HSR : Hid (stepSt (stAfter st0 (ops.take i)) ⟨kind, key, body, delim, past, nn, src⟩ = sr) := hst
      clear hst
      obtain ⟨st', ad⟩ := sr
      obtain ⟨code, ver, abody⟩ := ad
      simp only [ansVal] at HAN
      go_wp2_with fail
      rw [← HX.out.2.2.2.2.2]
      refine HAN.mono ?_
      rintro e w2 ⟨rfl, S2, hg2⟩
      have k1lt := HX.out.2.2.1.lt (w.heap.size + 1) rfl
      have o1 := HX.out.2.2.1.kept (below_grown HX.out.2.2.2.2.1 none) (by simp [Value.ownBlock])
      have o2 := o1.kept hg2 (Or.inr (by simp [Value.ownBlock]))
      have o3 := o2.alloc (.cells #[.int .i64 code, .int .i64 ver, .string abody, .slice none 0 0, .string ⟨#[]⟩] 44)
      have HO3 : Hid ((w2.alloc (.cells #[.int .i64 code, .int .i64 ver, .string abody, .slice none 0 0, .string ⟨#[]⟩] 44)).ownsRow w.heap.size 44 5 (.slice (some ⟨w.heap.size + 1, 0, none⟩) i n) i (ansCells (runF (ops.take i)))) := o3
      have HS2 : Hid (StoreAt (Grow A W1) w2 w.heap.size st' ∧ W1.grownBy w2 (some w.heap.size)) := ⟨S2, hg2⟩
      clear o1 o2 o3 S2 hg2 HAN c0 c1 c2 c3 c4 c5 c6
      go_wp2_with (at_builtin; refine wpList_append_fits _ rfl _ _ 26 rfl w.heap.size 44 i0 5 Tryz.underlying26 hi0 hz1 (w.heap.size + 1) i n _ rfl HO3.out ⟨w2.heap.size, 0, none⟩ 1 1 [.int .i64 code, .int .i64 ver, .string abody, .slice none 0 0, .string ⟨#[]⟩] rfl rfl (cells5_new _ _ _ _ _ _ _) (one5 ⟨code, ver, abody⟩) (by omega) ?_; intro w3 ho3 hg3)
      have e1 : runF (ops.take (i + 1)) = runF (ops.take i) ++ [⟨code, ver, abody⟩] := by rw [HTK.out, runF_snoc, HSR.out]
      have e2 : stAfter st0 (ops.take (i + 1)) = st' := by rw [HTK.out, stAfter_snoc, HSR.out]
      have b12 : Below w.heap.size w W1 := HX.out.2.2.2.1.trans (HX.out.2.2.2.2.1.mono HX.out.2.2.2.1.size)
      have b2 : Below w.heap.size w w2 := b12.grown HS2.out.2 b12.size (fun k e => by cases e; exact Nat.le_refl _)
      have b3 : Below w.heap.size w w3 := (b2.alloc b2.size _).grown hg3 (by have := b2.size; simp; omega) (fun k e => by cases e; omega)
      refine ⟨⟨i + 1, Grow A W1, by omega, by go_num, rfl, ?_, ?_, ?_, b3⟩, by simp [intOf]; omega⟩
      · rw [e2]
        refine (HS2.out.1.on ((Below.refl _ _).alloc (Nat.le_refl _) _)).other hg3 (by omega) ?_
        rintro (⟨h, _⟩ | h)
        · exact HX.out.2.1 h
        · have := HX.out.2.2.2.2.1.size; omega
      · rintro (⟨h, _⟩ | h)
        · exact HX.out.2.1 h
        · have := HX.out.2.2.2.2.1.size; omega
      · rw [e1, ansCells_snoc]; exact ho3
    · have hie : i = n := by omega
      subst hie
      have HT : Hid (ops.take i = ops) := List.take_of_length_le (by rw [HN.out]; exact Nat.le_refl _)
      have HO : Hid (wr.ownsRow w.heap.size 44 5 (.slice (some ⟨w.heap.size + 1, 0, none⟩) i i) i (ansCells (runF (ops.take i))) ∧ Below w.heap.size w wr) := ⟨hown, hb⟩
      clear S hown hb HST HB1 HO1
      go_wp2
      go_ret
      refine ⟨w.heap.size + 1, rfl, ?_, HO.out.2⟩
      have := HO.out.1
      rw [HT.out] at this
      exact this

set_option maxHeartbeats 2000000 in
set_option maxRecDepth 100000 in
theorem run_nil (a : Option Addr) (cap : Nat) (w : World) :
    Calls Tryz.prog 7 #[.slice a 0 cap] w fun e w' => ∃ g, e = .returned (.slice (some ⟨g, 0, none⟩) 0 0) ∧
      w'.ownsRow w.heap.size 44 5 (.slice (some ⟨g, 0, none⟩) 0 0) 0 (ansCells (runF [])) ∧ Below w.heap.size w w' := by
  obtain ⟨i0, hi0, hz0, hz1, hz2⟩ := info_parts Tryz.infoAns
  go_enter Tryz.func7, Tryz.ntmps7
  go_wp2_with (at_make; refine wpList_make_own _ rfl _ _ 26 rfl w.heap.size 44 i0 _ 5 Tryz.underlying26 hi0 hz0 hz1 _ _ _ 0 rfl rfl (by simp) ?qb1 ?qb2 ?qb3 ?_)
  case qb1 => rw [hz2]; omega
  case qb2 => simp only [maxLen]; omega
  case qb3 => simp
  intro w1 hown1 hgrow1
  have b01 : Below (w.alloc (.cells #[.pointer none, .int .i64 0, .int .i64 0, .slice none 0 0, .int .i64 0] 40)).heap.size (w.alloc (.cells #[.pointer none, .int .i64 0, .int .i64 0, .slice none 0 0, .int .i64 0] 40)) w1 := ⟨hgrow1.os, hgrow1.tape, hgrow1.output, hgrow1.size, fun k hk => hgrow1.block k hk (by simp)⟩
  have HB1 : Hid (Below w.heap.size w w1) := ((Below.refl _ w).alloc (Nat.le_refl _) _).trans (b01.mono (by simp))
  have HO1 : Hid (w1.ownsRow w.heap.size 44 5 (.slice (some ⟨w.heap.size + 1, 0, none⟩) 0 0) 0 []) := show w1.ownsRow w.heap.size 44 5 (.slice (some ⟨w.heap.size + 1, 0, none⟩) 0 0) 0 [] by simpa using hown1
  clear b01 hown1 hgrow1
  go_wp2_with fail
  refine wp_loop_rounds 1 ?_
  rw [rounds_succ]
  go_wp2
  go_ret
  exact ⟨w.heap.size + 1, rfl, HO1.out, HB1.out⟩

/-- A slice that holds a script. -/
structure ScrAt (w : World) (v : Value) (ops : List OpD) : Prop where
  form : ∃ a cap, v = .slice a ops.length cap ∧ (ops ≠ [] → ∃ b off, a = some ⟨b, off, none⟩ ∧ ScriptAt w b off ops)
  sized : Sized ops
  len : ops.length ≤ 2199023255552

theorem run_scr (v : Value) (ops : List OpD) (w : World) (h : ScrAt w v ops) (hpl : Plain ops) :
    Calls Tryz.prog 7 #[v] w fun e w' => ∃ g, e = .returned (.slice (some ⟨g, 0, none⟩) ops.length ops.length) ∧
      w'.ownsRow w.heap.size 44 5 (.slice (some ⟨g, 0, none⟩) ops.length ops.length) ops.length (ansCells (runF ops)) ∧ Below w.heap.size w w' := by
  obtain ⟨a, cap, rfl, hx⟩ := h.form
  by_cases hne : ops = []
  · subst hne; exact run_nil a cap w
  · obtain ⟨b, off, rfl, hS⟩ := hx hne
    exact run_any b off cap ops w hS h.sized h.len hpl

theorem ScrAt.on {w w' : World} {v : Value} {ops : List OpD} (h : ScrAt w v ops) (hb : Below w.heap.size w w') : ScrAt w' v ops := by
  obtain ⟨a, cap, rfl, hx⟩ := h.form
  refine ⟨⟨a, cap, rfl, fun hne => ?_⟩, h.sized, h.len⟩
  obtain ⟨b, off, ha, hS⟩ := hx hne
  refine ⟨b, off, ha, fun i hi => ?_⟩
  obtain ⟨c0, c1, c2, c3, c4, c5, c6⟩ := hS i hi
  exact ⟨cellOn hb c0, cellOn hb c1, cellOn hb c2, cellOn hb c3, cellOn hb c4, cellOn hb c5, cellOn hb c6⟩

end Go.Proofs.YtkhjgifabandpaaGreatDoor
