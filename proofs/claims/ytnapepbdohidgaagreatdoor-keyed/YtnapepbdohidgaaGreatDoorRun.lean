/- shelf.Run, where no listing is asked for. -/
import Derived.Test.YtnapepbdohidgaaGreatDoorRunF
import Derived.Deep.RegionLaw
namespace Go.Proofs.YtnapepbdohidgaaGreatDoor
open Go.RowKit

/-- Steps on keys alone, and those that are none. -/
def Plain (ops : List OpD) : Prop := ∀ o ∈ ops, o.kind < 6 ∨ 12 < o.kind

/-- A call of a function, as one step of a region that draws. -/
theorem step_call {P : Program} {ops : Array Oper} {o : Oper} {a : Act} {w : World} {K : Act → World → Prop} {Q : Exit → Act → World → Prop} {E : Prop}
    (hg : o.guard = none) (f : FuncId) (xs : Array Operand) (ts : Array TypeId) (hop : o.op = Op.call { callee := Callee.value (.func f), args := xs, argTypes := ts })
    (args : Array Value) (hx : xs.map a.eval = args) (henter : (callFunc f args).run P w = .ok (.enter f args) w)
    (R : Value → World → Prop) (hC : Calls P f args w fun e w' => ∃ v, e = .returned v ∧ R v w') (hK : ∀ v w', R v w' → K (a.put o.dst v) w') :
    if Region.wanted o (yielded ops a.tmps) = true then Oper.wp P o a w K Q else E := by
  have hw : Region.wanted o (yielded ops a.tmps) = true := by simp [Region.wanted, hg]
  rw [if_pos hw]
  subst hx
  unfold Oper.wp
  have e : (execOp a.eval o).run P w = .ok (.enter f (xs.map a.eval)) w := by
    have e1 : execOp a.eval o = (do let d ← resolve a.eval { callee := Callee.value (.func f), args := xs, argTypes := ts } o.type; invoke d.target d.args) := by simp only [execOp, hop]
    rw [e1]
    simpa [resolve, Deferred.ofValue, Act.eval, invoke] using henter
  rw [e, Oper.upon_enter]
  refine hC.mono ?_
  rintro e w' ⟨v, rfl, hr⟩
  exact hK v w' hr

/-- append within the capacity, as one step of a region that draws. -/
theorem step_append_fits {P : Program} {ops : Array Oper} {o : Oper} {a : Act} {w : World} {K : Act → World → Prop} {Q : Exit → Act → World → Prop} {E : Prop}
    (hg : o.guard = none) (s x : Operand) (t : TypeId) (hop : o.op = Op.call { callee := Callee.builtin Builtin.append, args := #[s, x], argTypes := #[t, t] })
    (base : Nat) (e : TypeId) (i : TypeInfo) (size : Nat) (h1 : P.underlying t = some (.slice e)) (h2 : P.info? e = some i) (h4 : i.size = size)
    (g k cap : Nat) (xs : List Value) (hs : a.eval s = .slice (some ⟨g, 0, none⟩) k cap) (hown : w.ownsRow base e size (.slice (some ⟨g, 0, none⟩) k cap) k xs) (ad : Addr) (m c : Nat) (news : List Value) (hx : a.eval x = .slice (some ad) m c) (hn : news.length = m * size)
    (hc : ∀ j u, news[j]? = some u → w.cell? (ad.add j) = some u) (h1c : ∀ u ∈ news, u.oneCell' = true) (b1 : k + m ≤ cap)
    (hK : ∀ w', w'.ownsRow base e size (.slice (some ⟨g, 0, none⟩) (k + m) cap) (k + m) (xs ++ news) → w.grownBy w' (some g) → K (a.put o.dst (.slice (some ⟨g, 0, none⟩) (k + m) cap)) w') :
    if Region.wanted o (yielded ops a.tmps) = true then Oper.wp P o a w K Q else E := by
  have hw : Region.wanted o (yielded ops a.tmps) = true := by simp [Region.wanted, hg]
  rw [if_pos hw]
  obtain ⟨w', hrun, r1, r2⟩ := run_append_fits (P := P) w base t o.type e i size h1 h2 h4 g k cap xs hown ad m c news hn hc h1c b1
  unfold Oper.wp
  simp [execOp, hop, resolve, invoke, builtin, hs, hx, hrun, Result.andThen]
  exact hK w' r1 r2

theorem Cells3.set8 {w : World} {b : Nat} {x y z : Value} (h : Cells3 w b x y z) (v : Value) : Cells3 (w.setCell ⟨b, 8, none⟩ v) b x y z :=
  ⟨co (by simp) h.c0, co (by simp) h.c1, co (by simp) h.c2, fun j => fs (h.fz j)⟩
theorem StoreAt.set8 {A : Nat → Prop} {w : World} {k0 : Nat} {st : St} (S : StoreAt A w k0 st) (v : Value) : StoreAt A (w.setCell ⟨k0, 8, none⟩ v) k0 st := by
  obtain ⟨p, C, hN⟩ := S.cells
  exact storeAt_of (p := p) (C.set8 v) (NodeAt.keep (fun b hb _ => ⟨hb, Below.heap_setCell _ _ _ _ (S.avoid b hb)⟩) 41 p st.f hN) S.avoid
theorem cells5_new (w : World) (x0 x1 x2 x3 x4 : Value) (T : TypeId) : ∀ j u, [x0, x1, x2, x3, x4][j]? = some u → (w.alloc (.cells #[x0, x1, x2, x3, x4] T)).cell? ((⟨w.heap.size, 0, none⟩ : Addr).add j) = some u := by
  intro j u hj
  rw [Addr.add_lit, World.cell?_alloc_at (w := w) _ _ w.heap.size _ rfl]
  simpa using hj
theorem one5 (a : AnsD) : ∀ u ∈ [Value.int .i64 a.code, .int .i64 a.ver, .string a.body, .slice none 0 0, .string ⟨#[]⟩], u.oneCell' = true := by
  intro u hu; simp at hu; rcases hu with rfl | rfl | rfl | rfl | rfl <;> rfl


/-- The desk, all its cells. -/
theorem desk_new (w : World) (xs : Array Value) (T : TypeId) (j : Nat) : (w.alloc (.cells xs T)).cell? ⟨w.heap.size, j, none⟩ = xs[j]? := World.cell?_alloc_at (w := w) _ _ w.heap.size j rfl

set_option maxHeartbeats 4000000 in
set_option maxRecDepth 100000 in
theorem run_any (b off cap : Nat) (ops : List OpD) (w : World) (hS : ScriptAt w b off ops) (hz : Sized ops) (hn : ops.length ≤ 2199023255552) (hpl : Plain ops) :
    Calls Tryz.prog 18 #[.slice (some ⟨b, off, none⟩) ops.length cap] w fun e w' => ∃ g, e = .returned (.slice (some ⟨g, 0, none⟩) ops.length ops.length) ∧
      w'.ownsRow w.heap.size 36 5 (.slice (some ⟨g, 0, none⟩) ops.length ops.length) ops.length (ansCells (runF ops)) ∧ Below w.heap.size w w' := by
  obtain ⟨i0, hi0, hz0, hz1, hz2⟩ := info_parts Tryz.infoAns
  have HSc : Hid (ScriptAt w b off ops ∧ Sized ops) := ⟨hS, hz⟩
  have HPL : Hid (Plain ops) := hpl
  obtain ⟨n, hnl⟩ : ∃ n, ops.length = n := ⟨_, rfl⟩
  have HN : Hid (ops.length = n) := hnl
  rw [hnl] at hn ⊢
  clear hS hz hnl hpl
  go_enter Tryz.func18, Tryz.ntmps18
  go_wp2_with (at_make; refine wpList_make_own _ rfl _ _ 27 rfl w.heap.size 36 i0 _ 5 Tryz.underlying27 hi0 hz0 hz1 _ _ _ n rfl rfl (by omega) ?qb1 ?qb2 ?qb3 ?_)
  case qb1 => rw [hz2]; omega
  case qb2 => simp only [maxLen]; omega
  case qb3 => simp
  intro w1 hown1 hgrow1
  have hlt1 : w.heap.size < w1.heap.size := (hown1.lt w.heap.size rfl).2
  have b1 : Below w.heap.size w w1 := ⟨hgrow1.os, hgrow1.tape, hgrow1.output, hgrow1.size, fun k hk => hgrow1.block k hk (by simp)⟩
  go_wp2_with fail
  obtain ⟨W0, hW0⟩ : ∃ W0, W0 = w1.alloc (.cells #[.pointer none, .int .i64 0, .int .i64 0, .int .u64 0, .slice none 0 0, .int .i64 0, .map none, .slice (some ⟨b, off, none⟩) n cap, .slice (some ⟨w.heap.size, 0, none⟩) 0 n] 65) := ⟨_, rfl⟩
  have C0 : Cells3 W0 w1.heap.size (.pointer none) (.int .i64 0) (.int .i64 0) := by
    rw [hW0]
    exact ⟨by rw [desk_new]; rfl, by rw [desk_new]; rfl, by rw [desk_new]; rfl, fun j => World.frozen?_alloc_at (w := w1) _ _ w1.heap.size j rfl⟩
  have c60 : W0.cell? ⟨w1.heap.size, 8, none⟩ = some (.slice (some ⟨w.heap.size, 0, none⟩) 0 n) := by rw [hW0, desk_new]; rfl
  have HST : Hid (StoreAt (fun _ => False) W0 w1.heap.size st0) := storeAt_of (p := none) C0 (NodeAt.nil (fun _ => rfl)) (fun _ h => h.elim)
  have HB1 : Hid (Below w.heap.size w W0) := by rw [hW0]; exact b1.alloc b1.size _
  have HO1 : Hid (W0.ownsRow w.heap.size 36 5 (.slice (some ⟨w.heap.size, 0, none⟩) 0 n) 0 []) := by rw [hW0]; exact hown1.alloc _
  rw [← hW0]
  generalize w1.heap.size = k0 at *
  clear C0 b1 hown1 hgrow1 hW0
  go_loopw [5, 13] (fun _ s12 wr => ∃ (i : Nat) (A : Nat → Prop), i ≤ n ∧ s12 = .int .i64 i ∧ StoreAt A wr k0 (stAfter st0 (ops.take i)) ∧ ¬ A w.heap.size ∧ wr.cell? ⟨k0, 8, none⟩ = some (.slice (some ⟨w.heap.size, 0, none⟩) i n) ∧ wr.ownsRow w.heap.size 36 5 (.slice (some ⟨w.heap.size, 0, none⟩) i n) i (ansCells (runF (ops.take i))) ∧ Below w.heap.size w wr) (fun _ s12 _ => n - (intOf s12).toNat)
  case atStart => exact ⟨0, fun _ => False, Nat.zero_le _, rfl, HST.out, (fun h => h), c60, HO1.out, HB1.out⟩
  case round =>
    obtain ⟨i, A, hin, rfl, S, hA, k6, hown, hb⟩ := hrel
    by_cases hlt : i < n
    · have hlo : i < ops.length := by rw [HN.out]; exact hlt
      obtain ⟨c0, c1, c2, c3, c4, c5, c6⟩ := HSc.out.1 i hlo
      replace c0 := cellOn hb c0
      replace c1 := cellOn hb c1
      replace c2 := cellOn hb c2
      replace c3 := cellOn hb c3
      replace c4 := cellOn hb c4
      replace c5 := cellOn hb c5
      replace c6 := cellOn hb c6
      obtain ⟨hzk, hzb⟩ := HSc.out.2 ops[i] (List.getElem_mem hlo)
      have hk1 := HPL.out ops[i] (List.getElem_mem hlo)
      have HTK : Hid (ops.take (i + 1) = ops.take i ++ [ops[i]]) := List.take_succ_eq_append_getElem hlo
      have hIV : Inv (stAfter st0 (ops.take i)) i := by
        have := inv_run (ops.take i)
        rwa [List.length_take, Nat.min_eq_left (by omega)] at this
      generalize ops[i] = o at *
      obtain ⟨kind, key, body, delim, past, nn, src⟩ := o
      simp only at c0 c1 c2 c3 c4 c5 c6 hzk hzb hk1
      obtain ⟨W1, hW1⟩ : ∃ W1, W1 = wr.alloc (.cells #[.int .i64 kind, .string key, .string body, .string delim, .string past, .int .i64 nn, .int .i64 src] 31) := ⟨_, rfl⟩
      have b1 : Below wr.heap.size wr W1.drew := by rw [hW1]; exact ((Below.refl _ _).alloc (Nat.le_refl _) _).drew
      have HAN := answer_any A k0 _ i ⟨kind, key, body, delim, past, nn, src⟩ W1.drew hzk hzb (S.on b1) hIV (by omega) hk1
      simp only [opVal] at HAN
      have k6a : W1.drew.cell? ⟨k0, 8, none⟩ = some (.slice (some ⟨w.heap.size, 0, none⟩) i n) := cellOn b1 k6
      have hkl : k0 < wr.heap.size := S.lt
      have HX : Hid (ScriptAt w b off ops ∧ ¬ A w.heap.size ∧ wr.ownsRow w.heap.size 36 5 (.slice (some ⟨w.heap.size, 0, none⟩) i n) i (ansCells (runF (ops.take i))) ∧ Below w.heap.size w wr ∧ Below wr.heap.size wr W1.drew ∧ ∀ b, A b → b ≠ k0) := ⟨HSc.out.1, hA, hown, hb, b1, S.avoid⟩
      generalize hst : stepSt (stAfter st0 (ops.take i)) ⟨kind, key, body, delim, past, nn, src⟩ = sr at HAN
      have HSR : Hid (stepSt (stAfter st0 (ops.take i)) ⟨kind, key, body, delim, past, nn, src⟩ = sr) := hst
      obtain ⟨st', ad⟩ := sr
      obtain ⟨code, ver, abody⟩ := ad
      simp only [ansVal] at HAN
      have HCL : Hid (Calls Tryz.prog 33 #[.pointer (some ⟨k0, 0, none⟩), .agg #[.int .i64 kind, .string key, .string body, .string delim, .string past, .int .i64 nn, .int .i64 src]] W1.drew fun e w' => ∃ v, e = .returned v ∧ (v = .agg #[.int .i64 code, .int .i64 ver, .string abody, .slice none 0 0, .string ⟨#[]⟩] ∧ StoreAt (Grow A W1.drew) w' k0 st' ∧ GrownT W1.drew w' k0)) :=
        HAN.mono fun e w' h => ⟨_, h.1, rfl, h.2⟩
      have HW1 : Hid (W1 = wr.alloc (.cells #[.int .i64 kind, .string key, .string body, .string delim, .string past, .int .i64 nn, .int .i64 src] 31)) := hW1
      clear S hA hown hb b1 hIV HST HB1 HO1 hst HAN k6 c60
      have W1c : ∀ j, W1.drew.cell? ⟨wr.heap.size, j, none⟩ = (#[.int .i64 kind, .string key, .string body, .string delim, .string past, .int .i64 nn, .int .i64 src] : Array Value)[j]? := fun j => by rw [hW1]; exact desk_new wr _ _ j
      have q0 := W1c 0
      have q1 := W1c 1
      have q2 := W1c 2
      have q3 := W1c 3
      have q4 := W1c 4
      have q5 := W1c 5
      have q6 := W1c 6
      clear W1c hW1
      simp only [List.getElem?_toArray, List.getElem?_cons_zero, List.getElem?_cons_succ] at q0 q1 q2 q3 q4 q5 q6
      go_upto_region 5 with fail
      rw [← HW1.out]
      have HO2 : Hid (∀ w2, GrownT W1.drew w2 k0 → ∀ X : Obj, (w2.alloc X).ownsRow w.heap.size 36 5 (.slice (some ⟨w.heap.size, 0, none⟩) i n) i (ansCells (runF (ops.take i)))) := fun w2 hg X =>
        ((HX.out.2.2.1.kept (below_grown HX.out.2.2.2.2.1 none) (by simp [Value.ownBlock])).kept hg.g (Or.inr (by simp [Value.ownBlock]; omega))).alloc X
      have HEN : Hid (∀ (args : Array Value) (wx : World), (callFunc 33 args).run Tryz.prog wx = .ok (.enter 33 args) wx) := fun args wx => by go_simp
      have HF6 : Hid (∀ (w2 w3 : World) (X : Obj), GrownT W1.drew w2 k0 → StoreAt (Grow A W1.drew) w2 k0 st' → (w2.alloc X).grownBy w3 (some w.heap.size) → (w2.cell? ⟨k0, 8, none⟩ = some (.slice (some ⟨w.heap.size, 0, none⟩) i n) ∧ w3.cell? ⟨k0, 8, none⟩ = some (.slice (some ⟨w.heap.size, 0, none⟩) i n) ∧ w3.frozen? ⟨k0, 8, none⟩ = false)) := fun w2 w3 X hg S2 hg3 => by
        have e2 : w2.cell? ⟨k0, 8, none⟩ = some (.slice (some ⟨w.heap.size, 0, none⟩) i n) := (hg.t 8 (by omega)).trans k6a
        have ha : Below w2.heap.size w2 (w2.alloc X) := (Below.refl _ _).alloc (Nat.le_refl _) _
        refine ⟨e2, hg3.cell (cellOn ha e2) (by simp; omega), ?_⟩
        rw [grown_frozen hg3 ⟨k0, 8, none⟩ (by have := S2.lt; simp; omega) (by simp; omega)]
        exact (ha.frozen (p := ⟨k0, 8, none⟩) S2.lt).trans (S2.frozen 8)
      go_region_law (first
        | (refine step_call rfl 33 #[.tmp 3, .tmp 19] #[65, 31] rfl #[.pointer (some ⟨k0, 0, none⟩), .agg #[.int .i64 kind, .string key, .string body, .string delim, .string past, .int .i64 nn, .int .i64 src]] (by simp [Act.eval]) (HEN.out _ _) (fun v w' => v = .agg #[.int .i64 code, .int .i64 ver, .string abody, .slice none 0 0, .string ⟨#[]⟩] ∧ StoreAt (Grow A W1.drew) w' k0 st' ∧ GrownT W1.drew w' k0) HCL.out ?_; rintro v w2 ⟨rfl, S2, hg2⟩; have k6b := (hg2.t 8 (by omega)).trans k6a; have k6d : (w2.alloc (.cells #[.int .i64 code, .int .i64 ver, .string abody, .slice none 0 0, .string ⟨#[]⟩] 36)).cell? ⟨k0, 8, none⟩ = some (.slice (some ⟨w.heap.size, 0, none⟩) i n) := cellOn ((Below.refl _ _).alloc (Nat.le_refl _) _) k6b; have HS2 : Hid (StoreAt (Grow A W1.drew) w2 k0 st' ∧ GrownT W1.drew w2 k0) := ⟨S2, hg2⟩; clear S2 hg2)
        | (refine step_append_fits rfl (.tmp 18) (.tmp 21) 27 rfl w.heap.size 36 i0 5 Tryz.underlying27 hi0 hz1 w.heap.size i n (ansCells (runF (ops.take i))) (by simp [Act.eval]) (HO2.out _ HS2.out.2 _) ⟨w2.heap.size, 0, none⟩ 1 1 [.int .i64 code, .int .i64 ver, .string abody, .slice none 0 0, .string ⟨#[]⟩] (by simp [Act.eval]) rfl (cells5_new _ _ _ _ _ _ _) (one5 ⟨code, ver, abody⟩) (by omega) ?_; intro w3 ho3 hg3; obtain ⟨-, k6c, f6c⟩ := HF6.out _ _ _ HS2.out.2 HS2.out.1 hg3; have HW3 : Hid (w3.ownsRow w.heap.size 36 5 (.slice (some ⟨w.heap.size, 0, none⟩) (i + 1) n) (i + 1) (ansCells (runF (ops.take i)) ++ [.int .i64 code, .int .i64 ver, .string abody, .slice none 0 0, .string ⟨#[]⟩]) ∧ (w2.alloc (.cells #[.int .i64 code, .int .i64 ver, .string abody, .slice none 0 0, .string ⟨#[]⟩] 36)).grownBy w3 (some w.heap.size)) := ⟨ho3, hg3⟩; clear ho3 hg3))
      all_goals
        go_wp2
        have e1 : runF (ops.take (i + 1)) = runF (ops.take i) ++ [⟨code, ver, abody⟩] := by rw [HTK.out, runF_snoc, HSR.out]
        have e2 : stAfter st0 (ops.take (i + 1)) = st' := by rw [HTK.out, stAfter_snoc, HSR.out]
        have b12 : Below w.heap.size w W1.drew := HX.out.2.2.2.1.trans (HX.out.2.2.2.2.1.mono HX.out.2.2.2.1.size)
        have b2 : Below w.heap.size w w2 := b12.grown HS2.out.2.g b12.size (fun k e => by cases e; omega)
        have b3 : Below w.heap.size w w3 := (b2.alloc b2.size _).grown HW3.out.2 (by have := b2.size; simp; omega) (fun k e => by cases e; exact Nat.le_refl _)
        refine ⟨⟨i + 1, Grow A W1.drew, by omega, by go_num, ?_, ?_, cs k6c, ?_, ?_⟩, by simp [intOf]; omega⟩
        · rw [e2]
          refine StoreAt.set8 ((HS2.out.1.on ((Below.refl _ _).alloc (Nat.le_refl _) _)).other HW3.out.2 (by omega) ?_) _
          rintro (⟨h, _⟩ | h)
          · exact HX.out.2.1 h
          · have := HX.out.2.2.2.2.1.size; omega
        · rintro (⟨h, _⟩ | h)
          · exact HX.out.2.1 h
          · have := HX.out.2.2.2.2.1.size; omega
        · rw [e1, ansCells_snoc]
          exact HW3.out.1.kept (grown_set_row (World.grownBy.refl _ _) _ _) (Or.inr (by simp [Value.ownBlock]; omega))
        · exact b3.grown (grown_set_row (World.grownBy.refl _ _) _ _) b3.size (fun k e => by cases e; omega)
    · have hie : i = n := by omega
      subst hie
      have HT : Hid (ops.take i = ops) := List.take_of_length_le (by rw [HN.out]; exact Nat.le_refl _)
      have HO : Hid (wr.ownsRow w.heap.size 36 5 (.slice (some ⟨w.heap.size, 0, none⟩) i i) i (ansCells (runF (ops.take i))) ∧ Below w.heap.size w wr) := ⟨hown, hb⟩
      clear S hown hb HST HB1 HO1
      go_wp2
      go_ret
      refine ⟨w.heap.size, rfl, ?_, HO.out.2⟩
      have := HO.out.1
      rw [HT.out] at this
      exact this

set_option maxHeartbeats 2000000 in
set_option maxRecDepth 100000 in
theorem run_nil (a : Option Addr) (cap : Nat) (w : World) :
    Calls Tryz.prog 18 #[.slice a 0 cap] w fun e w' => ∃ g, e = .returned (.slice (some ⟨g, 0, none⟩) 0 0) ∧
      w'.ownsRow w.heap.size 36 5 (.slice (some ⟨g, 0, none⟩) 0 0) 0 (ansCells (runF [])) ∧ Below w.heap.size w w' := by
  obtain ⟨i0, hi0, hz0, hz1, hz2⟩ := info_parts Tryz.infoAns
  go_enter Tryz.func18, Tryz.ntmps18
  go_wp2_with (at_make; refine wpList_make_own _ rfl _ _ 27 rfl w.heap.size 36 i0 _ 5 Tryz.underlying27 hi0 hz0 hz1 _ _ _ 0 rfl rfl (by simp) ?qb1 ?qb2 ?qb3 ?_)
  case qb1 => rw [hz2]; omega
  case qb2 => simp only [maxLen]; omega
  case qb3 => simp
  intro w1 hown1 hgrow1
  have b1 : Below w.heap.size w w1 := ⟨hgrow1.os, hgrow1.tape, hgrow1.output, hgrow1.size, fun k hk => hgrow1.block k hk (by simp)⟩
  have HB1 : Hid (∀ o, Below w.heap.size w (w1.alloc o)) := fun o => b1.alloc b1.size _
  have HO1 : Hid (∀ o, (w1.alloc o).ownsRow w.heap.size 36 5 (.slice (some ⟨w.heap.size, 0, none⟩) 0 0) 0 []) := fun o => World.ownsRow.alloc (show w1.ownsRow w.heap.size 36 5 (.slice (some ⟨w.heap.size, 0, none⟩) 0 0) 0 [] by simpa using hown1) o
  clear b1 hown1 hgrow1
  go_wp2_with fail
  refine wp_loop_rounds 1 ?_
  rw [rounds_succ]
  go_wp2
  go_ret
  exact ⟨w.heap.size, rfl, HO1.out _, HB1.out _⟩

/-- A slice that holds a script. -/
structure ScrAt (w : World) (v : Value) (ops : List OpD) : Prop where
  form : ∃ a cap, v = .slice a ops.length cap ∧ (ops ≠ [] → ∃ b off, a = some ⟨b, off, none⟩ ∧ ScriptAt w b off ops)
  sized : Sized ops
  len : ops.length ≤ 2199023255552

theorem run_scr (v : Value) (ops : List OpD) (w : World) (h : ScrAt w v ops) (hpl : Plain ops) :
    Calls Tryz.prog 18 #[v] w fun e w' => ∃ g, e = .returned (.slice (some ⟨g, 0, none⟩) ops.length ops.length) ∧
      w'.ownsRow w.heap.size 36 5 (.slice (some ⟨g, 0, none⟩) ops.length ops.length) ops.length (ansCells (runF ops)) ∧ Below w.heap.size w w' := by
  obtain ⟨a, cap, rfl, hx⟩ := h.form
  by_cases hne : ops = []
  · subst hne; exact run_nil a cap w
  · obtain ⟨b, off, rfl, hS⟩ := hx hne
    exact run_any b off cap ops w hS h.sized h.len hpl

theorem ScrAt.on {w w' : World} {v : Value} {ops : List OpD} (h : ScrAt w v ops) (hb : Below w.heap.size w w') : ScrAt w' v ops := by
  obtain ⟨a, cap, rfl, hx⟩ := h.form
  refine ⟨⟨a, cap, rfl, fun hne => ?_⟩, h.sized, h.len⟩
  obtain ⟨b, off, ha, hS⟩ := hx hne
  refine ⟨b, off, ha, fun i hi => ?_⟩
  obtain ⟨c0, c1, c2, c3, c4, c5, c6⟩ := hS i hi
  exact ⟨cellOn hb c0, cellOn hb c1, cellOn hb c2, cellOn hb c3, cellOn hb c4, cellOn hb c5, cellOn hb c6⟩

end Go.Proofs.YtnapepbdohidgaaGreatDoor
