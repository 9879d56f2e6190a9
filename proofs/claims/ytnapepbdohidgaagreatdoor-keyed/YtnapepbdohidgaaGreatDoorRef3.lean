/- shelfref: add. -/
import Derived.Test.YtnapepbdohidgaaGreatDoorRef2
namespace Go.Proofs.YtnapepbdohidgaaGreatDoor
open Go.RowKit

/-- The document's shelf and the program's state: the same. -/
structure Sim (st : St) (R : List RefE) (nx : Int) : Prop where
  next : nx = st.last + 1
  full : ∀ e ∈ R, e.h ≠ []
  keys : R.Pairwise (fun a b => a.key ≠ b.key)
  here : ∀ e ∈ R, st.f e.key.data.toList = e.h
  gone : ∀ k, (∀ e ∈ R, e.key.data.toList ≠ k) → st.f k = []
  count : st.count = (tot R : Int)
  lim : tot R ≤ 200

/-- What a step of the document's shelf leaves as it was. -/
structure RFrame (w w' : World) (k : Nat) (sl : Value) (R : List RefE) : Prop where
  os : w'.os = w.os
  tape : w'.tape = w.tape
  output : w'.output = w.output
  size : w.heap.size ≤ w'.heap.size
  block : ∀ b, b < w.heap.size → b ≠ k → sl.ownBlock ≠ some b → (∀ e ∈ R, e.v.ownBlock ≠ some b) → w'.heap[b]? = w.heap[b]?
  cells : ∀ j, 3 ≤ j → w'.cell? ⟨k, j, none⟩ = w.cell? ⟨k, j, none⟩
  frozen : ∀ j, w'.frozen? ⟨k, j, none⟩ = w.frozen? ⟨k, j, none⟩

def RefPost (B k : Nat) (st' : St) (a : AnsD) (w : World) (sl : Value) (R : List RefE) (tm : Int) (e : Ending) (w' : World) : Prop :=
  e = .returned (ansVal a) ∧ ∃ sl' R' nx', RefAt B w' k sl' R' nx' tm ∧ Sim st' R' nx' ∧ RFrame w w' k sl R

theorem rframe_below {w w' : World} {k : Nat} (hk : k < w.heap.size) (hb : Below w.heap.size w w') (sl : Value) (R : List RefE) : RFrame w w' k sl R :=
  ⟨hb.os, hb.tape, hb.output, hb.size, fun b h _ _ _ => hb.block b h, fun _ _ => World.cell?_of_block (hb.block k hk), fun _ => World.frozen?_of_block (hb.block k hk)⟩

theorem rframe_set (w : World) (k o : Nat) (v : Value) (ho : o < 3) (sl : Value) (R : List RefE) : RFrame w (w.setCell ⟨k, o, none⟩ v) k sl R :=
  ⟨rfl, rfl, rfl, by simp [World.setCell], fun b _ h _ _ => Below.heap_setCell _ _ _ _ h, fun j hj => World.cell?_setCell_other w ⟨k, o, none⟩ ⟨k, j, none⟩ v (fun e => by have := congrArg Addr.off e; simp only at this; omega), fun j => by simp⟩
theorem RFrame.below {w w1 w2 : World} {k : Nat} {sl : Value} {R : List RefE} (h : RFrame w w1 k sl R) (hb : Below w1.heap.size w1 w2) (hk : k < w1.heap.size) : RFrame w w2 k sl R :=
  ⟨hb.os.trans h.os, hb.tape.trans h.tape, hb.output.trans h.output, Nat.le_trans h.size hb.size, fun b h1 h2 h3 h4 => (hb.block b (Nat.lt_of_lt_of_le h1 h.size)).trans (h.block b h1 h2 h3 h4),
    fun j hj => (World.cell?_of_block (hb.block k hk)).trans (h.cells j hj), fun j => (World.frozen?_of_block (hb.block k hk)).trans (h.frozen j)⟩

theorem RFrame.step {w w1 w2 : World} {k : Nat} {sl : Value} {R : List RefE} {row : Option Nat} (h : RFrame w w1 k sl R) (hg : w1.grownBy w2 row) (hr : ∀ b, b < w.heap.size → row = some b → sl.ownBlock = some b ∨ ∃ e ∈ R, e.v.ownBlock = some b) (hk : k < w1.heap.size) (hrk : row ≠ some k) : RFrame w w2 k sl R := by
  refine ⟨hg.os.trans h.os, hg.tape.trans h.tape, hg.output.trans h.output, Nat.le_trans h.size hg.size, fun b h1 h2 h3 h4 => ?_,
    fun j hj => (World.cell?_of_block (hg.block k hk (fun e => hrk e.symm))).trans (h.cells j hj), fun j => (World.frozen?_of_block (hg.block k hk (fun e => hrk e.symm))).trans (h.frozen j)⟩
  refine (hg.block b (Nat.lt_of_lt_of_le h1 h.size) (fun e => ?_)).trans (h.block b h1 h2 h3 h4)
  rcases hr b h1 e.symm with h5 | ⟨x, hx, h5⟩
  · exact h3 h5
  · exact h4 x hx h5
theorem grown_set5 (w : World) (x : Nat) (a b c d e : Value) : w.grownBy (((((w.setCell ⟨x, 0, none⟩ a).setCell ⟨x, 1, none⟩ b).setCell ⟨x, 2, none⟩ c).setCell ⟨x, 3, none⟩ d).setCell ⟨x, 4, none⟩ e) (some x) :=
  grown_set_row (grown_set_row (grown_set_row (grown_set_row (grown_self w x 0 a) _ _) _ _) _ _) _ _

theorem tot_append (A C : List RefE) : tot (A ++ C) = tot A + tot C := by unfold tot; rw [List.map_append, List.sum_append]
theorem tot_set (R : List RefE) (i : Nat) (hi : i < R.length) (x : RefE) : tot (R.set i x) + R[i].h.length = tot R + x.h.length := by
  have h1 : R = R.take i ++ ([R[i]] ++ R.drop (i + 1)) := by simp
  have h2 : R.set i x = R.take i ++ ([x] ++ R.drop (i + 1)) := by rw [List.set_eq_take_append_cons_drop, if_pos hi]; rfl
  have h3 := congrArg tot h1
  rw [h2, tot_append, tot_append, h3, tot_append, tot_append]
  simp only [tot, List.map_cons, List.map_nil, List.sum_cons, List.sum_nil]
  omega
theorem mem_set {R : List RefE} {i : Nat} {x e : RefE} (he : e ∈ R.set i x) : e = x ∨ ∃ j, ∃ hj : j < R.length, j ≠ i ∧ e = R[j] := by
  obtain ⟨j, hj, rfl⟩ := List.getElem_of_mem he
  rw [List.length_set] at hj
  rw [List.getElem_set]
  by_cases hij : i = j
  · rw [if_pos hij]; exact Or.inl rfl
  · rw [if_neg hij]; exact Or.inr ⟨j, hj, fun e => hij e.symm, rfl⟩
theorem mem_set_at {R : List RefE} {i : Nat} {x : RefE} (hi : i < R.length) : x ∈ R.set i x := List.mem_iff_getElem.2 ⟨i, by rw [List.length_set]; exact hi, by rw [List.getElem_set, if_pos rfl]⟩
theorem mem_set_of {R : List RefE} {i j : Nat} {x : RefE} (hj : j < R.length) (hne : j ≠ i) : R[j] ∈ R.set i x := List.mem_iff_getElem.2 ⟨j, by rw [List.length_set]; exact hj, by rw [List.getElem_set, if_neg (fun e => hne e.symm)]⟩
theorem bytes_inj {a b : ByteArray} (h : a.data.toList = b.data.toList) : a = b := by cases a; cases b; simp only [ByteArray.mk.injEq]; exact Array.toList_inj.1 h

theorem Sim.other {st : St} {R : List RefE} {nx : Int} (S : Sim st R nx) {i j : Nat} (hi : i < R.length) (hj : j < R.length) (hne : j ≠ i) : R[j].key ≠ R[i].key := by
  have hp := S.keys
  rw [List.pairwise_iff_getElem] at hp
  rcases Nat.lt_or_gt_of_ne hne with h | h
  · exact hp j i hj hi h
  · exact fun e => hp i j hi hj h e.symm

/-- A key that is there: a version more. -/
theorem Sim.addFound {st : St} {R : List RefE} {nx : Int} (S : Sim st R nx) {i : Nat} (hi : i < R.length) {key : ByteArray} (hk : R[i].key = key) (bd : ByteArray) (mk : Bool) (v : Value) (hc : ¬ 200 ≤ st.count) : Sim (addSt st key bd mk) (R.set i ⟨R[i].key, R[i].h ++ [⟨st.last + 1, bd, mk⟩], v⟩) (st.last + 1 + 1) := by
  subst hk
  have ht := tot_set R i hi ⟨R[i].key, R[i].h ++ [⟨st.last + 1, bd, mk⟩], v⟩
  simp only [List.length_append, List.length_cons, List.length_nil] at ht
  have hcnt := S.count
  refine ⟨rfl, ?_, ?_, ?_, ?_, ?_, by omega⟩
  · intro e he
    rcases mem_set he with rfl | ⟨j, hj, -, rfl⟩
    · simp
    · exact S.full _ (List.getElem_mem hj)
  · rw [List.pairwise_iff_getElem]
    intro a b ha hb hab
    rw [List.length_set] at ha hb
    rw [List.getElem_set, List.getElem_set]
    by_cases h1 : i = a
    · have h2 : ¬ i = b := by omega
      rw [if_pos h1, if_neg h2]
      exact fun e => S.other hi hb (by omega) e.symm
    · rw [if_neg h1]
      by_cases h2 : i = b
      · rw [if_pos h2]; exact S.other hi ha (by omega)
      · rw [if_neg h2]; have hp := S.keys; rw [List.pairwise_iff_getElem] at hp; exact hp a b ha hb hab
  · intro e he
    rcases mem_set he with rfl | ⟨j, hj, hji, rfl⟩
    · simp [addSt, upd, S.here _ (List.getElem_mem hi)]
    · have hne : R[j].key.data.toList ≠ R[i].key.data.toList := fun e => S.other hi hj hji (bytes_inj e)
      simp [addSt, upd, hne, S.here _ (List.getElem_mem hj)]
  · intro k hk
    have h1 := hk _ (mem_set_at (x := ⟨R[i].key, R[i].h ++ [⟨st.last + 1, bd, mk⟩], v⟩) hi)
    have h2 : st.f k = [] := S.gone k (fun e he => by
      obtain ⟨j, hj, rfl⟩ := List.getElem_of_mem he
      by_cases hji : j = i
      · subst hji; exact h1
      · exact hk _ (mem_set_of hj hji))
    simp only [addSt, upd]
    rw [if_neg (fun e => h1 e.symm)]; exact h2
  · show st.count + 1 = _
    omega

/-- A key that is not there. -/
theorem Sim.addNew {st : St} {R : List RefE} {nx : Int} (S : Sim st R nx) {key : ByteArray} (hk : ∀ x ∈ R, x.key ≠ key) (bd : ByteArray) (mk : Bool) (v : Value) (hc : ¬ 200 ≤ st.count) : Sim (addSt st key bd mk) (R ++ [⟨key, [⟨st.last + 1, bd, mk⟩], v⟩]) (st.last + 1 + 1) := by
  have ht : tot (R ++ [⟨key, [⟨st.last + 1, bd, mk⟩], v⟩]) = tot R + 1 := by rw [tot_append]; rfl
  have hcnt := S.count
  have hke : ∀ e ∈ R, e.key.data.toList ≠ key.data.toList := fun e he h => hk e he (bytes_inj h)
  refine ⟨rfl, ?_, ?_, ?_, ?_, ?_, by omega⟩
  · intro e he
    rcases List.mem_append.1 he with h | h
    · exact S.full _ h
    · simp only [List.mem_cons, List.not_mem_nil, or_false] at h; subst h; simp
  · rw [List.pairwise_append]
    refine ⟨S.keys, List.pairwise_singleton _ _, fun a ha b hb => ?_⟩
    simp only [List.mem_cons, List.not_mem_nil, or_false] at hb
    subst hb
    exact hk a ha
  · intro e he
    rcases List.mem_append.1 he with h | h
    · simp [addSt, upd, hke e h, S.here _ h]
    · simp only [List.mem_cons, List.not_mem_nil, or_false] at h
      subst h
      have : st.f key.data.toList = [] := S.gone _ hke
      simp [addSt, upd, this]
  · intro k h
    have h1 := h ⟨key, [⟨st.last + 1, bd, mk⟩], v⟩ (by simp)
    have h2 : st.f k = [] := S.gone k (fun e he => h e (List.mem_append_left _ he))
    simp only [addSt, upd]
    rw [if_neg (fun e => h1 e.symm)]; exact h2
  · show st.count + 1 = _
    omega

theorem Tryz.infoEnt : (Tryz.prog.info? 154).map (fun i => (i.zero, i.size, i.bytes)) = some (some (.agg #[.string ⟨#[]⟩, .slice none 0 0]), 2, 40) := by kernel_rfl
theorem Tryz.infoRver : (Tryz.prog.info? 145).map (fun i => (i.zero, i.size, i.bytes)) = some (some (.agg #[.int .i64 0, .string ⟨#[]⟩, .bool false]), 3, 32) := by kernel_rfl

/-- The block of a result that is an answer. -/
structure ResR (x : Nat) (W : World) : Prop where
  c0 : W.cell? ⟨x, 0, none⟩ = some (.int .i64 0)
  c1 : W.cell? ⟨x, 1, none⟩ = some (.int .i64 0)
  c2 : W.cell? ⟨x, 2, none⟩ = some (.string ⟨#[]⟩)
  c3 : W.cell? ⟨x, 3, none⟩ = some (.slice none 0 0)
  c4 : W.cell? ⟨x, 4, none⟩ = some (.string ⟨#[]⟩)
  fz : ∀ j, W.frozen? ⟨x, j, none⟩ = false
theorem ResR.lt {x : Nat} {W : World} (h : ResR x W) : x < W.heap.size := World.block_lt_of_cell? W ⟨x, 0, none⟩ h.c0
theorem resR (w : World) (x : Nat) (hx : w.heap.size = x) (T : TypeId) : ResR x (w.alloc (.cells #[.int .i64 0, .int .i64 0, .string ⟨#[]⟩, .slice none 0 0, .string ⟨#[]⟩] T)) := by
  subst hx
  exact ⟨by rw [World.cell?_alloc_at (w := w) _ _ w.heap.size 0 rfl]; rfl, by rw [World.cell?_alloc_at (w := w) _ _ w.heap.size 1 rfl]; rfl, by rw [World.cell?_alloc_at (w := w) _ _ w.heap.size 2 rfl]; rfl, by rw [World.cell?_alloc_at (w := w) _ _ w.heap.size 3 rfl]; rfl, by rw [World.cell?_alloc_at (w := w) _ _ w.heap.size 4 rfl]; rfl, fun j => World.frozen?_alloc_at (w := w) _ _ w.heap.size j rfl⟩
theorem ResR.on {x : Nat} {W w1 : World} (h : ResR x W) (hb : Below W.heap.size W w1) : ResR x w1 :=
  ⟨cellOn hb h.c0, cellOn hb h.c1, cellOn hb h.c2, cellOn hb h.c3, cellOn hb h.c4, fun j => (hb.frozen (p := ⟨x, j, none⟩) h.lt).trans (h.fz j)⟩
theorem ResR.grown {x : Nat} {W w1 : World} {row : Option Nat} (h : ResR x W) (hg : W.grownBy w1 row) (hne : row ≠ some x) : ResR x w1 :=
  ⟨hg.cell h.c0 (fun e => hne e.symm), hg.cell h.c1 (fun e => hne e.symm), hg.cell h.c2 (fun e => hne e.symm), hg.cell h.c3 (fun e => hne e.symm), hg.cell h.c4 (fun e => hne e.symm), fun j => (grown_frozen hg ⟨x, j, none⟩ h.lt (fun e => hne e.symm)).trans (h.fz j)⟩
theorem below_set5 {B : Nat} {w w' : World} {x : Nat} (h : Below B w w') (hx : B ≤ x) (a b c d e : Value) : Below B w (((((w'.setCell ⟨x, 0, none⟩ a).setCell ⟨x, 1, none⟩ b).setCell ⟨x, 2, none⟩ c).setCell ⟨x, 3, none⟩ d).setCell ⟨x, 4, none⟩ e) :=
  ((((h.setCell hx _).setCell hx _).setCell hx _).setCell hx _).setCell hx _

set_option maxHeartbeats 2000000 in
set_option maxRecDepth 100000 in
theorem radd_full (B k : Nat) (sl : Value) (R : List RefE) (nx tm : Int) (st : St) (key : ByteArray) (n0 : Int) (bd : ByteArray) (mk : Bool) (w : World) (H : RefAt B w k sl R nx tm) (S : Sim st R nx) (hfull : 200 ≤ st.count) :
    Calls Tryz.prog 81 #[.pointer (some ⟨k, 0, none⟩), .string key, .agg #[.int .i64 n0, .string bd, .bool mk]] w (RefPost B k st ⟨4, 0, ⟨#[]⟩⟩ w sl R tm) := by
  have hlen := len_tot R S.full
  have hlim := S.lim
  have hc := S.count
  have hkw := H.lt
  have HH : Hid (RefAt B w k sl R nx tm ∧ Sim st R nx) := ⟨H, S⟩
  clear H S
  have ht : (200 : Int) ≤ (tot R : Int) := by omega
  unfold RefPost
  go_enter Tryz.func81, Tryz.ntmps81
  go_wp2_with fail
  refine (rcount_any B k sl R nx tm _ ((HH.out.1.alloc _).alloc _) hlen (by omega)).mono ?_
  rintro e w1 ⟨rfl, rfl⟩
  go_wp2_with fail
  refine (rno_any 4 _).mono ?_
  rintro e w2 ⟨rfl, b2⟩
  have b3 : Below w.heap.size w w2 := (((Below.refl _ w).alloc (Nat.le_refl _) _).alloc (by simp) _).trans (b2.mono (by simp; omega))
  have HB : Hid (Below w.heap.size w w2) := b3
  have RA := (resR (w.alloc (.cells #[.int .i64 n0, .string bd, .bool mk] 145)) (w.heap.size + 1) (by simp) 36).on b2
  obtain ⟨d0, d1, d2, d3, d4, fz⟩ := RA
  have g0 := fz 0
  have g1 := fz 1
  have g2 := fz 2
  have g3 := fz 3
  have g4 := fz 4
  clear b3 b2 fz
  unfold ansVal
  go_wp2
  refine bodyPost_ret (v := ansVal ⟨4, 0, ⟨#[]⟩⟩) (by simp [results, Tryz.results81, go_sem, ansVal, d0, d1, d2, d3, d4]) rfl ⟨rfl, ?_⟩
  have hb := below_set5 HB.out (x := w.heap.size + 1) (by omega) (.int .i64 4) (.int .i64 0) (.string ⟨#[]⟩) (.slice none 0 0) (.string ⟨#[]⟩)
  exact ⟨sl, R, nx, HH.out.1.below hb, HH.out.2, rframe_below hkw hb _ _⟩

end Go.Proofs.YtnapepbdohidgaaGreatDoor
