/- shelfref: Fits, as Keyed calls it. -/
import Derived.Test.YtnapepbdohidgaaGreatDoorRef12
import Derived.Test.YtnapepbdohidgaaGreatDoorRef13
import Derived.Test.YtnapepbdohidgaaGreatDoorScr
namespace Go.Proofs.YtnapepbdohidgaaGreatDoor
open Go.RowKit

theorem rStep_any (B k : Nat) (sl : Value) (R : List RefE) (nx tm : Int) (st : St) (s : Nat) (o : OpD) (w : World) (H : RefAt B w k sl R nx tm) (S : Sim st R nx) (hI : Inv st s) (hs : s < 2199023255552) (hB : B ≤ w.heap.size) (hkind : o.kind ≤ 5 ∨ 12 < o.kind) :
    Calls Tryz.prog 34 #[.pointer (some ⟨k, 0, none⟩), opVal o, ansVal (stepSt st o).2] w (StepOk B k (stepSt st o).1 w sl R tm) := by
  by_cases h : 1 ≤ o.kind ∧ o.kind ≤ 5
  · exact rStep_keyed B k sl R nx tm _ o _ w H h (fun w1 hb => rkeyed_any B k sl R nx tm st s o w1 (H.below hb) S hI hs (Nat.le_trans hB hb.size) h)
  · have e : stepSt st o = (st, ⟨1, 0, ⟨#[]⟩⟩) := by
      have h1 : ¬ o.kind = 1 := by omega
      have h2 : ¬ o.kind = 2 := by omega
      have h3 : ¬ o.kind = 3 := by omega
      have h4 : ¬ o.kind = 4 := by omega
      have h5 : ¬ o.kind = 5 := by omega
      unfold stepSt; simp [h1, h2, h3, h4, h5]
    rw [e]
    exact rStep_other B k sl R nx tm st o w H S (by omega)

theorem runF_get (ops : List OpD) (i : Nat) (h : i < ops.length) : (runF ops)[i]? = some (stepSt (stAfter st0 (ops.take i)) ops[i]).2 := by
  have e := runF_take ops (i + 1)
  rw [List.take_succ_eq_append_getElem h, runF_snoc] at e
  have h2 : ((runF ops).take (i + 1))[i]? = (runF ops)[i]? := by rw [List.getElem?_take, if_pos (by omega)]
  have h3 : (runF (ops.take i)).length = i := by rw [runF_len, List.length_take]; omega
  rw [← h2, ← e, List.getElem?_append_right (by omega), h3, Nat.sub_self]
  rfl

theorem ans_get {w : World} {bs ga n : Nat} {l : List AnsD} (h : w.ownsRow bs 36 5 (.slice (some ⟨ga, 0, none⟩) n n) n (ansCells l)) (i : Nat) (x : AnsD) (hi : i < n) (hx : l[i]? = some x) :
    w.cell? ⟨ga, i * 5, none⟩ = some (.int .i64 x.code) ∧ w.cell? ⟨ga, i * 5 + 1, none⟩ = some (.int .i64 x.ver) ∧ w.cell? ⟨ga, i * 5 + 2, none⟩ = some (.string x.body) ∧ w.cell? ⟨ga, i * 5 + 3, none⟩ = some (.slice none 0 0) ∧ w.cell? ⟨ga, i * 5 + 4, none⟩ = some (.string ⟨#[]⟩) := by
  obtain ⟨hl, rfl⟩ := List.getElem?_eq_some_iff.1 hx
  have hc : ∀ j, j < 5 → w.cell? ⟨ga, i * 5 + j, none⟩ = ([.int .i64 l[i].code, .int .i64 l[i].ver, .string l[i].body, .slice none 0 0, .string ⟨#[]⟩] : List Value)[j]? := fun j hj => by
    have := h.cellAt (i * 5 + j) (by omega)
    rwa [ansCells, flat_get 5 _ (fun _ => rfl) l i j hl hj] at this
  exact ⟨hc 0 (by omega), hc 1 (by omega), hc 2 (by omega), hc 3 (by omega), hc 4 (by omega)⟩

theorem ans_block {w : World} {B n : Nat} {v : Value} {xs : List Value} (h : w.ownsRow B 36 5 v n xs) {g : Nat} (hg : v.ownBlock = some g) : ∃ cur z, w.heap[g]? = some (.cells cur 36 z) := by
  obtain ⟨-, ⟨rfl, -⟩ | ⟨g', cap, cur, rfl, -, hb, -⟩⟩ := h
  · simp [Value.ownBlock] at hg
  · simp only [Value.ownBlock, Option.some.injEq] at hg
    subst hg
    exact ⟨_, _, hb⟩

theorem row_blocks {w w' : World} {B n size : Nat} {e : TypeId} {v : Value} {xs : List Value} (h : w.ownsRow B e size v n xs) (hb : ∀ g, v.ownBlock = some g → w'.heap[g]? = w.heap[g]?) : w'.ownsRow B e size v n xs := by
  obtain ⟨h1, h2 | ⟨g, cap, cur, rfl, h3, h4, h5⟩⟩ := h
  · exact ⟨h1, Or.inl h2⟩
  · exact ⟨h1, Or.inr ⟨g, cap, cur, rfl, h3, (hb g rfl).trans h4, h5⟩⟩

/-- The answers' row is no part of the document's shelf. -/
theorem RefAt.ansRow {B k n : Nat} {w w' : World} {sl v : Value} {R : List RefE} {nx tm : Int} {xs : List Value} (H : RefAt B w k sl R nx tm) (F : RFrame w w' k sl R) (h : w.ownsRow B 36 5 v n xs) (hk : v.ownBlock ≠ some k) : w'.ownsRow B 36 5 v n xs :=
  row_blocks h fun g hg => by
    have hn := H.notRow (ans_block h hg) (by decide) (by decide)
    exact F.block g (h.lt g hg).2 (fun e => hk (by rw [hg, e])) hn.1 hn.2

theorem below_frame {B k : Nat} {w wr wx : World} {sl : Value} {R : List RefE} {nx tm : Int} (hb : Below B w wr) (H : RefAt B wr k sl R nx tm) (F : RFrame wr wx k sl R) (hk : B ≤ k) (hB : B ≤ wr.heap.size) : Below B w wx :=
  ⟨F.os.trans hb.os, F.tape.trans hb.tape, F.output.trans hb.output, Nat.le_trans hb.size F.size, fun b h => (F.block b (by omega) (by omega) (fun e => by have := (H.row.lt b e).1; omega) (fun x hx e => by have := ((H.vers x hx).lt b e).1; omega)).trans (hb.block b h)⟩

theorem Cells3.beyond {w : World} {b : Nat} {x y z : Value} (h : Cells3 w b x y z) (o : Nat) (v : Value) (ho : 3 ≤ o) : Cells3 (w.setCell ⟨b, o, none⟩ v) b x y z := by
  have hne : ∀ j, j < 3 → (w.setCell ⟨b, o, none⟩ v).cell? ⟨b, j, none⟩ = w.cell? ⟨b, j, none⟩ := fun j hj => World.cell?_setCell_other w ⟨b, o, none⟩ ⟨b, j, none⟩ v (fun e => by have := congrArg Addr.off e; simp only at this; omega)
  exact ⟨(hne 0 (by omega)).trans h.c0, (hne 1 (by omega)).trans h.c1, (hne 2 (by omega)).trans h.c2, fun j => fs (h.fz j)⟩

theorem RefAt.beyond {B k : Nat} {w : World} {sl : Value} {R : List RefE} {nx tm : Int} (H : RefAt B w k sl R nx tm) (o : Nat) (v : Value) (ho : 3 ≤ o) : RefAt B (w.setCell ⟨k, o, none⟩ v) k sl R nx tm :=
  ⟨H.cells.beyond o v ho, H.row.kept (grown_self w k o v) (Or.inr H.apart), fun e he => (H.vers e he).kept (grown_self w k o v) (Or.inr (H.apartV e he)), H.apart, H.apartV, H.apartE, H.pw⟩

/-- The answers, one more. -/
theorem fitEnd {B k i : Nat} {w wc w3 : World} {X : Obj} {sl vA : Value} {R : List RefE} {nx tm : Int} {g cap : Nat} {xs ys : List Value} (H : RefAt B wc k sl R nx tm) (hB : B ≤ wc.heap.size) (hBk : B ≤ k) (hb : Below B w wc) (c7 : wc.cell? ⟨k, 7, none⟩ = some vA) (hown : wc.ownsRow B 36 5 vA i xs) (hak : vA.ownBlock ≠ some k)
    (ho3 : w3.ownsRow B 36 5 (.slice (some ⟨g, 0, none⟩) (i + 1) cap) (i + 1) ys) (hg : (wc.alloc X).grownBy w3 vA.ownBlock) (hgg : vA.ownBlock = some g ∨ g = wc.heap.size + 1) :
    RefAt B (w3.setCell ⟨k, 7, none⟩ (.slice (some ⟨g, 0, none⟩) (i + 1) cap)) k sl R nx tm ∧ (w3.setCell ⟨k, 7, none⟩ (.slice (some ⟨g, 0, none⟩) (i + 1) cap)).cell? ⟨k, 7, none⟩ = some (.slice (some ⟨g, 0, none⟩) (i + 1) cap) ∧
      (w3.setCell ⟨k, 7, none⟩ (.slice (some ⟨g, 0, none⟩) (i + 1) cap)).ownsRow B 36 5 (.slice (some ⟨g, 0, none⟩) (i + 1) cap) (i + 1) ys ∧ (Value.slice (some ⟨g, 0, none⟩) (i + 1) cap).ownBlock ≠ some k ∧ Below B w (w3.setCell ⟨k, 7, none⟩ (.slice (some ⟨g, 0, none⟩) (i + 1) cap)) := by
  have hk := H.lt
  have hne : g ≠ k := by
    rcases hgg with h | h
    · intro e; subst e; exact hak h
    · omega
  have Ha := H.alloc X
  have hrow : (sl.ownBlock = none ∨ sl.ownBlock ≠ vA.ownBlock) ∧ ∀ e ∈ R, e.v.ownBlock = none ∨ e.v.ownBlock ≠ vA.ownBlock := by
    cases hv : vA.ownBlock with
    | none => exact ⟨none_or _, fun _ _ => none_or _⟩
    | some g0 =>
      have hn := H.notRow (ans_block hown hv) (by decide) (by decide)
      exact ⟨Or.inr hn.1, fun e he => Or.inr (hn.2 e he)⟩
  have H3 := Ha.grown hg hak hrow.1 hrow.2
  have c3 : w3.cell? ⟨k, 7, none⟩ = some vA := hg.cell (cellOn ((Below.refl _ _).alloc (Nat.le_refl _) X) c7) (fun e => hak e.symm)
  have ob : (Value.slice (some ⟨g, 0, none⟩) (i + 1) cap).ownBlock ≠ some k := by simpa [Value.ownBlock] using hne
  refine ⟨H3.beyond 7 _ (by omega), cs c3, ho3.kept (grown_self w3 k 7 _) (Or.inr ob), ob, ?_⟩
  refine ((hb.alloc hB X).grown hg (by simp; omega) (fun b e => (hown.lt b e).1)).setCell (p := ⟨k, 7, none⟩) hBk _

set_option maxHeartbeats 2000000 in
set_option maxRecDepth 100000 in
theorem fits_any (b off cap ga bs : Nat) (ops : List OpD) (w : World) (hS : ScriptAt w b off ops) (hn88 : ops.length * 88 ≤ 140737488351232) (hA : w.ownsRow bs 36 5 (.slice (some ⟨ga, 0, none⟩) ops.length ops.length) ops.length (ansCells (runF ops))) (hkind : ∀ o ∈ ops, o.kind ≤ 5 ∨ 12 < o.kind) :
    Calls Tryz.prog 32 #[.slice (some ⟨b, off, none⟩) ops.length cap, .slice (some ⟨ga, 0, none⟩) ops.length ops.length] w fun e w' => e = .returned (.bool true) ∧ Below w.heap.size w w' := by
  obtain ⟨i0, hi0, hz0, hz1, hz2⟩ := info_parts Tryz.infoAns
  obtain ⟨n, hnl⟩ : ∃ n, ops.length = n := ⟨_, rfl⟩
  have HN : Hid (ops.length = n ∧ ScriptAt w b off ops ∧ w.ownsRow bs 36 5 (.slice (some ⟨ga, 0, none⟩) n n) n (ansCells (runF ops)) ∧ ∀ o ∈ ops, o.kind ≤ 5 ∨ 12 < o.kind) := ⟨hnl, hS, by rw [← hnl]; exact hA, hkind⟩
  rw [hnl] at hn88 ⊢
  have hga : ga < w.heap.size := (hA.lt ga rfl).2
  clear hnl hS hA hkind
  go_enter Tryz.func32, Tryz.ntmps32
  go_wp2_with fail
  go_loopw [6] (fun s6 wr => ∃ (i : Nat) (sl : Value) (R : List RefE) (nx : Int) (vA : Value), i ≤ n ∧ s6 = .int .i64 i ∧ RefAt w.heap.size wr w.heap.size sl R nx 0 ∧ Sim (stAfter st0 (ops.take i)) R nx ∧ wr.cell? ⟨w.heap.size, 7, none⟩ = some vA ∧
    wr.ownsRow w.heap.size 36 5 vA i (ansCells (runF (ops.take i))) ∧ vA.ownBlock ≠ some w.heap.size ∧ Below w.heap.size w wr) (fun s6 _ => n - (intOf s6).toNat)
  case atStart =>
    refine ⟨0, .slice none 0 0, [], 1, .slice none 0 0, Nat.zero_le _, rfl, ?_, ?_, ?_, World.ownsRow_nil _ _ _ _, by simp [Value.ownBlock], (Below.refl _ _).alloc (Nat.le_refl _) _⟩
    · refine ⟨⟨?_, ?_, ?_, fun j => World.frozen?_alloc_at (w := w) _ _ w.heap.size j rfl⟩, World.ownsRow_nil _ _ _ _, fun e he => absurd he List.not_mem_nil, by simp [Value.ownBlock], fun e he => absurd he List.not_mem_nil, fun e he => absurd he List.not_mem_nil, List.Pairwise.nil⟩
      · rw [World.cell?_alloc_at (w := w) _ _ w.heap.size 0 rfl]; rfl
      · rw [World.cell?_alloc_at (w := w) _ _ w.heap.size 1 rfl]; rfl
      · rw [World.cell?_alloc_at (w := w) _ _ w.heap.size 2 rfl]; rfl
    · exact ⟨rfl, fun e he => absurd he List.not_mem_nil, List.Pairwise.nil, fun e he => absurd he List.not_mem_nil, fun _ _ => rfl, rfl, by simp [tot]⟩
    · rw [World.cell?_alloc_at (w := w) _ _ w.heap.size 7 rfl]; rfl
  case round =>
    obtain ⟨i, sl, R, nx, vA, hin, rfl, H, S, c7, hown, hak, hb⟩ := hrel
    obtain ⟨va, vc, rfl, -⟩ := owns_form hown
    by_cases hlt : i < n
    · have hlo : i < ops.length := by rw [HN.out.1]; exact hlt
      obtain ⟨c0, c1, c2, c3, c4, c5, c6⟩ := HN.out.2.1 i hlo
      replace c0 := cellOn hb c0
      replace c1 := cellOn hb c1
      replace c2 := cellOn hb c2
      replace c3 := cellOn hb c3
      replace c4 := cellOn hb c4
      replace c5 := cellOn hb c5
      replace c6 := cellOn hb c6
      obtain ⟨a0, a1, a2, a3, a4⟩ := ans_get HN.out.2.2.1 i _ hlt (runF_get ops i hlo)
      have hkd := HN.out.2.2.2 _ (List.getElem_mem hlo)
      have hIV : Inv (stAfter st0 (ops.take i)) i := by
        have := inv_run (ops.take i)
        rwa [List.length_take, Nat.min_eq_left (by omega)] at this
      have hBw : w.heap.size ≤ wr.heap.size := hb.size
      have HST := rStep_any w.heap.size w.heap.size sl R nx 0 _ i ops[i] wr.drew (H.below ((Below.refl _ _).drew)) S hIV (by omega) hBw hkd
      have e1 : runF (ops.take (i + 1)) = runF (ops.take i) ++ [(stepSt (stAfter st0 (ops.take i)) ops[i]).2] := by rw [List.take_succ_eq_append_getElem hlo, runF_snoc]
      have e2 : stAfter st0 (ops.take (i + 1)) = (stepSt (stAfter st0 (ops.take i)) ops[i]).1 := by rw [List.take_succ_eq_append_getElem hlo, stAfter_snoc]
      generalize stepSt (stAfter st0 (ops.take i)) ops[i] = sr at *
      generalize ops[i] = o at *
      obtain ⟨kind, key, body, delim, past, nn, src⟩ := o
      obtain ⟨st', ac, av, ab⟩ := sr
      simp only at c0 c1 c2 c3 c4 c5 c6 a0 a1 a2 a3 a4 e1 e2 HST
      have HE : Hid (runF (ops.take (i + 1)) = runF (ops.take i) ++ [⟨ac, av, ab⟩] ∧ stAfter st0 (ops.take (i + 1)) = st') := ⟨e1, e2⟩
      have HAA : Hid (w.cell? ⟨ga, i * 5, none⟩ = some (.int .i64 ac) ∧ w.cell? ⟨ga, i * 5 + 1, none⟩ = some (.int .i64 av) ∧ w.cell? ⟨ga, i * 5 + 2, none⟩ = some (.string ab) ∧ w.cell? ⟨ga, i * 5 + 3, none⟩ = some (.slice none 0 0) ∧ w.cell? ⟨ga, i * 5 + 4, none⟩ = some (.string ⟨#[]⟩)) := ⟨a0, a1, a2, a3, a4⟩
      replace a0 := cellOn hb a0
      replace a1 := cellOn hb a1
      replace a2 := cellOn hb a2
      replace a3 := cellOn hb a3
      replace a4 := cellOn hb a4
      have HX : Hid (RefAt w.heap.size wr w.heap.size sl R nx 0 ∧ wr.cell? ⟨w.heap.size, 7, none⟩ = some (.slice va i vc) ∧ wr.ownsRow w.heap.size 36 5 (.slice va i vc) i (ansCells (runF (ops.take i))) ∧ (Value.slice va i vc).ownBlock ≠ some w.heap.size ∧ Below w.heap.size w wr) := ⟨H, c7, hown, hak, hb⟩
      have hii : (i : Int) < (n : Int) := by omega
      clear H S c7 hown hak hb hIV hkd e1 e2
      unfold StepOk at HST
      simp only [opVal, ansVal] at HST
      go_upto_region 7 with fail
      go_cut [7] (fun s7 wx => s7 = .bool true ∧ ∃ sl' R' nx', RefAt w.heap.size wx w.heap.size sl' R' nx' 0 ∧ Sim st' R' nx' ∧ RFrame wr wx w.heap.size sl R)
      case first =>
        go_region_with (go_at_call 34; refine HST.mono ?_; rintro e w2 ⟨rfl, sl', R', nx', H', S', F⟩; have HZ : Hid (RefAt w.heap.size w2 w.heap.size sl' R' nx' 0 ∧ Sim st' R' nx' ∧ RFrame wr w2 w.heap.size sl R) := ⟨H', S', ⟨F.os, F.tape, F.output, F.size, F.block, F.cells, F.frozen⟩⟩; clear H' S' F)
        all_goals
          go_wp2_with fail
          go_meet
          case rel => exact ⟨rfl, sl', R', nx', HZ.out⟩
      case rest =>
      obtain ⟨rfl, sl', R', nx', H', S', F⟩ := hcut
      have hown' := HX.out.1.ansRow F HX.out.2.2.1 HX.out.2.2.2.1
      have c7' : wc.cell? ⟨w.heap.size, 7, none⟩ = some (.slice va i vc) := (F.cells 7 (by omega)).trans HX.out.2.1
      have fz7 : wc.frozen? ⟨w.heap.size, 7, none⟩ = false := H'.cells.fz 7
      have hb' := below_frame HX.out.2.2.2.2 HX.out.1 F (Nat.le_refl _) hBw
      have hBc : w.heap.size ≤ wc.heap.size := hb'.size
      obtain ⟨d0, d1, d2, d3, d4⟩ := HAA.out
      replace d0 := cellOn hb' d0
      replace d1 := cellOn hb' d1
      replace d2 := cellOn hb' d2
      replace d3 := cellOn hb' d3
      replace d4 := cellOn hb' d4
      have HOWN : Hid (∀ X : Obj, (wc.alloc X).ownsRow w.heap.size 36 5 (.slice va i vc) i (ansCells (runF (ops.take i)))) := fun X => hown'.alloc X
      have HNEW : Hid (∀ T, ∀ j u, [.int .i64 ac, .int .i64 av, .string ab, .slice none 0 0, .string ⟨#[]⟩][j]? = some u → (wc.alloc (.cells #[.int .i64 ac, .int .i64 av, .string ab, .slice none 0 0, .string ⟨#[]⟩] T)).cell? ((⟨wc.heap.size, 0, none⟩ : Addr).add j) = some u) := fun T => cells5_new wc _ _ _ _ _ T
      have HFACT : Hid (∀ w3 : World, (wc.alloc (.cells #[.int .i64 ac, .int .i64 av, .string ab, .slice none 0 0, .string ⟨#[]⟩] 36)).grownBy w3 (Value.slice va i vc).ownBlock → w3.cell? ⟨w.heap.size, 7, none⟩ = some (.slice va i vc) ∧ w3.frozen? ⟨w.heap.size, 7, none⟩ = false) := fun w3 hg3 => by
        have hba : Below wc.heap.size wc (wc.alloc (.cells #[.int .i64 ac, .int .i64 av, .string ab, .slice none 0 0, .string ⟨#[]⟩] 36)) := (Below.refl _ _).alloc (Nat.le_refl _) _
        refine ⟨hg3.cell (cellOn hba c7') (fun e => HX.out.2.2.2.1 e.symm), ?_⟩
        rw [grown_frozen hg3 ⟨w.heap.size, 7, none⟩ (by have := H'.lt; simp; omega) (fun e => HX.out.2.2.2.1 e.symm)]
        exact (hba.frozen (p := ⟨w.heap.size, 7, none⟩) H'.lt).trans fz7
      have HFIN : Hid (∀ (g cap' : Nat) (w3 : World), w3.ownsRow w.heap.size 36 5 (.slice (some ⟨g, 0, none⟩) (i + 1) cap') (i + 1) (ansCells (runF (ops.take i)) ++ [.int .i64 ac, .int .i64 av, .string ab, .slice none 0 0, .string ⟨#[]⟩]) → (wc.alloc (.cells #[.int .i64 ac, .int .i64 av, .string ab, .slice none 0 0, .string ⟨#[]⟩] 36)).grownBy w3 (Value.slice va i vc).ownBlock → ((Value.slice va i vc).ownBlock = some g ∨ g = wc.heap.size + 1) →
          ∃ v', RefAt w.heap.size (w3.setCell ⟨w.heap.size, 7, none⟩ (.slice (some ⟨g, 0, none⟩) (i + 1) cap')) w.heap.size sl' R' nx' 0 ∧ (w3.setCell ⟨w.heap.size, 7, none⟩ (.slice (some ⟨g, 0, none⟩) (i + 1) cap')).cell? ⟨w.heap.size, 7, none⟩ = some v' ∧
            (w3.setCell ⟨w.heap.size, 7, none⟩ (.slice (some ⟨g, 0, none⟩) (i + 1) cap')).ownsRow w.heap.size 36 5 v' (i + 1) (ansCells (runF (ops.take (i + 1)))) ∧ v'.ownBlock ≠ some w.heap.size ∧ Below w.heap.size w (w3.setCell ⟨w.heap.size, 7, none⟩ (.slice (some ⟨g, 0, none⟩) (i + 1) cap'))) := fun g cap' w3 ho3 hg3 hgg => by
        obtain ⟨q1, q2, q3, q4, q5⟩ := fitEnd H' hBc (Nat.le_refl _) hb' c7' hown' HX.out.2.2.2.1 ho3 hg3 hgg
        refine ⟨_, q1, q2, ?_, q4, q5⟩
        rw [HE.out.1, ansCells_snoc]
        exact q3
      have HS' : Hid (Sim st' R' nx') := S'
      have c7a : (wc.alloc (.cells #[.int .i64 ac, .int .i64 av, .string ab, .slice none 0 0, .string ⟨#[]⟩] 36)).cell? ⟨w.heap.size, 7, none⟩ = some (.slice va i vc) := cellOn ((Below.refl _ _).alloc (Nat.le_refl _) _) c7'
      clear H' S' F hown' hb' HST c0 c1 c2 c3 c4 c5 c6 a0 a1 a2 a3 a4
      go_upto_region 10 with fail
      go_region_law (refine step_append_lies _ rfl _ _ 27 rfl w.heap.size 36 i0 _ 5 72 Tryz.underlying27 hi0 hz0 hz1 hz2 rfl (by decide) (.slice va i vc) i (ansCells (runF (ops.take i))) (by simp [Act.eval]) (HOWN.out _) ⟨wc.heap.size, 0, none⟩ 1 1 [.int .i64 ac, .int .i64 av, .string ab, .slice none 0 0, .string ⟨#[]⟩] (by simp [Act.eval]) rfl (HNEW.out _) (one5 ⟨ac, av, ab⟩) (by omega) (by simp only [maxLen]; omega) (by omega) (by simp; omega) (wc.heap.size + 1) (by simp) ?_; intro g cap' w3 ho3 hg3' hgg hlt3; have hg3 : (wc.alloc (.cells #[.int .i64 ac, .int .i64 av, .string ab, .slice none 0 0, .string ⟨#[]⟩] 36)).grownBy w3 (Value.slice va i vc).ownBlock := ⟨hg3'.os, hg3'.tape, hg3'.output, hg3'.size, hg3'.block⟩; obtain ⟨y0, y1⟩ := HFACT.out w3 hg3)
      all_goals
        go_wp2
        obtain ⟨v', P1, P2, P3, P4, P5⟩ := HFIN.out g cap' w3 ho3 hg3 hgg
        refine ⟨⟨i + 1, sl', R', nx', v', by omega, by go_num, P1, ?_, P2, P3, P4, P5⟩, by simp [intOf]; omega⟩
        rw [HE.out.2]
        exact HS'.out
    · have hie : i = n := by omega
      subst hie
      clear H S c7 hown hak
      go_wp2
      go_ret
      exact ⟨rfl, hb⟩

end Go.Proofs.YtnapepbdohidgaaGreatDoor
