/- shelf.answer. -/
import Derived.Test.YtnapepbdohidgaaGreatDoorStore2
import Derived.Test.YtnapepbdohidgaaGreatDoorStore5
namespace Go.Proofs.YtnapepbdohidgaaGreatDoor
open Go.RowKit

/-- The block of a result that is an answer, and the box of the step ahead of it. -/
structure ResA (w W0 : World) : Prop where
  below : Below w.heap.size w W0
  lt : w.heap.size + 1 < W0.heap.size
  c0 : W0.cell? ⟨w.heap.size + 1, 0, none⟩ = some (.int .i64 0)
  c1 : W0.cell? ⟨w.heap.size + 1, 1, none⟩ = some (.int .i64 0)
  c2 : W0.cell? ⟨w.heap.size + 1, 2, none⟩ = some (.string ⟨#[]⟩)
  c3 : W0.cell? ⟨w.heap.size + 1, 3, none⟩ = some (.slice none 0 0)
  c4 : W0.cell? ⟨w.heap.size + 1, 4, none⟩ = some (.string ⟨#[]⟩)
  fz : ∀ j, W0.frozen? ⟨w.heap.size + 1, j, none⟩ = false

theorem resA (w : World) (cs : Array Value) : ResA w ((w.alloc (.cells cs 31)).alloc (.cells #[.int .i64 0, .int .i64 0, .string ⟨#[]⟩, .slice none 0 0, .string ⟨#[]⟩] 36)) := by
  have h : ∀ j, ((w.alloc (.cells cs 31)).alloc (.cells #[.int .i64 0, .int .i64 0, .string ⟨#[]⟩, .slice none 0 0, .string ⟨#[]⟩] 36)).cell? ⟨w.heap.size + 1, j, none⟩ = (#[.int .i64 0, .int .i64 0, .string ⟨#[]⟩, .slice none 0 0, .string ⟨#[]⟩] : Array Value)[j]? := fun j =>
    World.cell?_alloc_at (w := w.alloc (.cells cs 31)) _ _ (w.heap.size + 1) j (by simp)
  refine ⟨((Below.refl _ w).alloc (Nat.le_refl _) _).alloc (by simp) _, by simp, h 0, h 1, h 2, h 3, h 4, fun j => World.frozen?_alloc_at (w := w.alloc (.cells cs 31)) _ _ (w.heap.size + 1) j (by simp)⟩

theorem ResA.on {w W0 w1 : World} {k0 : Nat} (h : ResA w W0) (hk : k0 < w.heap.size) (hg : W0.grownBy w1 (some k0)) :
    (w1.cell? ⟨w.heap.size + 1, 0, none⟩ = some (.int .i64 0) ∧ w1.cell? ⟨w.heap.size + 1, 1, none⟩ = some (.int .i64 0) ∧ w1.cell? ⟨w.heap.size + 1, 2, none⟩ = some (.string ⟨#[]⟩) ∧ w1.cell? ⟨w.heap.size + 1, 3, none⟩ = some (.slice none 0 0) ∧ w1.cell? ⟨w.heap.size + 1, 4, none⟩ = some (.string ⟨#[]⟩)) ∧
    (w1.frozen? ⟨w.heap.size + 1, 0, none⟩ = false ∧ w1.frozen? ⟨w.heap.size + 1, 1, none⟩ = false ∧ w1.frozen? ⟨w.heap.size + 1, 2, none⟩ = false ∧ w1.frozen? ⟨w.heap.size + 1, 3, none⟩ = false ∧ w1.frozen? ⟨w.heap.size + 1, 4, none⟩ = false) := by
  have hne : ∀ o, some (⟨w.heap.size + 1, o, none⟩ : Addr).block ≠ some k0 := fun o e => by simp at e; omega
  have hf : ∀ j, w1.frozen? ⟨w.heap.size + 1, j, none⟩ = false := fun j => (grown_frozen hg ⟨w.heap.size + 1, j, none⟩ h.lt (hne j)).trans (h.fz j)
  exact ⟨⟨hg.cell h.c0 (hne 0), hg.cell h.c1 (hne 1), hg.cell h.c2 (hne 2), hg.cell h.c3 (hne 3), hg.cell h.c4 (hne 4)⟩, hf 0, hf 1, hf 2, hf 3, hf 4⟩

theorem ResA.drew {w W0 : World} (h : ResA w W0) : ResA w W0.drew := ⟨h.below.drew, h.lt, h.c0, h.c1, h.c2, h.c3, h.c4, h.fz⟩

/-- Five stores into the block of the result. -/
def put5 (w1 : World) (b : Nat) (x0 x1 x2 x3 x4 : Value) : World := ((((w1.setCell ⟨b, 0, none⟩ x0).setCell ⟨b, 1, none⟩ x1).setCell ⟨b, 2, none⟩ x2).setCell ⟨b, 3, none⟩ x3).setCell ⟨b, 4, none⟩ x4

theorem put5_post {A : Nat → Prop} {w W0 w1 : World} {k0 : Nat} {st' : St} {v : Value} (hk : k0 < w.heap.size) (ha : ∀ b, A b → b ≠ k0) (hW : Below w.heap.size w W0) (hlt : w.heap.size + 1 < W0.heap.size) (S1 : StoreAt (Grow (fun b => A b ∧ b < w.heap.size) W0) w1 k0 st') (hg : GrownT W0 w1 k0) (x0 x1 x2 x3 x4 : Value) :
    StepPost A w k0 st' v (.returned v) (put5 w1 (w.heap.size + 1) x0 x1 x2 x3 x4) := by
  have hne : w.heap.size + 1 ≠ k0 := by omega
  have hg1 : GrownT w w1 k0 := gt_trans (gt_of_below hk hW) hg
  refine ⟨rfl, ?_, ?_⟩
  · obtain ⟨p, C, hN⟩ := S1.cells
    unfold put5
    refine storeAt_of (p := p) (((((C.far _ _ _ hne).far _ _ _ hne).far _ _ _ hne).far _ _ _ hne).far _ _ _ hne) ?_ (grow_avoid ha hk)
    refine NodeAt.keep (fun b hb _ => ?_) 41 p st'.f hN
    have hb1 : b ≠ w.heap.size + 1 := by
      rcases hb with ⟨⟨_, h⟩, _⟩ | h <;> omega
    have hb2 : Grow A w b := by
      rcases hb with ⟨⟨h1, h2⟩, _⟩ | h
      · exact Or.inl ⟨h1, h2⟩
      · exact Or.inr (by omega)
    refine ⟨hb2, ?_⟩
    rw [Below.heap_setCell _ _ _ _ hb1, Below.heap_setCell _ _ _ _ hb1, Below.heap_setCell _ _ _ _ hb1, Below.heap_setCell _ _ _ _ hb1, Below.heap_setCell _ _ _ _ hb1]
  · unfold put5
    exact gt_new (gt_new (gt_new (gt_new (gt_new hg1 (by omega) _ _) (by omega) _ _) (by omega) _ _) (by omega) _ _) (by omega) _ _

theorem StoreAt.cut {A : Nat → Prop} {w W0 : World} {k0 : Nat} {st : St} (S : StoreAt A w k0 st) (hW : Below w.heap.size w W0) : StoreAt (fun b => A b ∧ b < w.heap.size) W0 k0 st := by
  obtain ⟨p, C, hN⟩ := S.cells
  exact storeAt_of (p := p) (C.on hW) (NodeAt.keep (fun b h1 h2 => ⟨⟨h1, h2⟩, hW.block b h2⟩) 41 p st.f hN) (fun b h => S.avoid b h.1)

set_option maxHeartbeats 2000000 in
set_option maxRecDepth 100000 in
theorem answer_put (A : Nat → Prop) (k0 : Nat) (st : St) (s : Nat) (o : OpD) (w : World) (hk : o.key.size ≤ maxLen) (hbd : o.body.size ≤ maxLen) (S : StoreAt A w k0 st) (hI : Inv st s) (hs : s < 2199023255552) (hkind : o.kind = 1) :
    Calls Tryz.prog 33 #[.pointer (some ⟨k0, 0, none⟩), opVal o] w (StepPost A w k0 (putR st o.key o.body).1 (ansVal ⟨(putR st o.key o.body).2.2, (putR st o.key o.body).2.1, ⟨#[]⟩⟩)) := by
  obtain ⟨kind, key, body, delim, past, n, src⟩ := o
  simp only at hkind hk hbd
  subst hkind
  have R0 := (resA w #[.int .i64 1, .string key, .string body, .string delim, .string past, .int .i64 n, .int .i64 src]).drew
  have HC := sput_any _ k0 st s key body _ hk hbd (S.cut R0.below) hI hs
  have HS : Hid (k0 < w.heap.size ∧ ∀ b, A b → b ≠ k0) := ⟨S.lt, S.avoid⟩
  have HR0 : Hid (ResA w ((w.alloc (.cells #[.int .i64 1, .string key, .string body, .string delim, .string past, .int .i64 n, .int .i64 src] 31)).alloc (.cells #[.int .i64 0, .int .i64 0, .string ⟨#[]⟩, .slice none 0 0, .string ⟨#[]⟩] 36)).drew) := R0
  clear R0 S
  simp only [opVal]
  generalize putR st key body = pr at *
  go_enter Tryz.func33, Tryz.ntmps33
  go_wp2_with fail
  go_region_with (go_at_call 35; refine HC.mono ?_; rintro e w1 ⟨rfl, S1, hg1⟩; obtain ⟨⟨d0, d1, d2, d3, d4⟩, g0, g1, g2, g3, g4⟩ := HR0.out.on HS.out.1 hg1.g; have HX : Hid (_ ∧ _) := And.intro S1 hg1; clear S1 hg1 HC)
  all_goals
    go_wp2
    refine bodyPost_ret (v := ansVal ⟨pr.2.2, pr.2.1, ⟨#[]⟩⟩) (by simp [results, Tryz.results33, go_sem, ansVal, d0, d1, d2, d3, d4]) rfl ?_
    exact put5_post HS.out.1 HS.out.2 HR0.out.below HR0.out.lt HX.out.1 HX.out.2 _ _ _ _ _

set_option maxHeartbeats 2000000 in
set_option maxRecDepth 100000 in
theorem answer_drop (A : Nat → Prop) (k0 : Nat) (st : St) (s : Nat) (o : OpD) (w : World) (hk : o.key.size ≤ maxLen) (S : StoreAt A w k0 st) (hI : Inv st s) (hs : s < 2199023255552) (hkind : o.kind = 4) :
    Calls Tryz.prog 33 #[.pointer (some ⟨k0, 0, none⟩), opVal o] w (StepPost A w k0 (dropR st o.key).1 (ansVal ⟨(dropR st o.key).2.2, (dropR st o.key).2.1, ⟨#[]⟩⟩)) := by
  obtain ⟨kind, key, body, delim, past, n, src⟩ := o
  simp only at hkind hk
  subst hkind
  have R0 := (resA w #[.int .i64 4, .string key, .string body, .string delim, .string past, .int .i64 n, .int .i64 src]).drew
  have HC := sdrop_any _ k0 st s key _ hk (S.cut R0.below) hI hs
  have HS : Hid (k0 < w.heap.size ∧ ∀ b, A b → b ≠ k0) := ⟨S.lt, S.avoid⟩
  have HR0 : Hid (ResA w ((w.alloc (.cells #[.int .i64 4, .string key, .string body, .string delim, .string past, .int .i64 n, .int .i64 src] 31)).alloc (.cells #[.int .i64 0, .int .i64 0, .string ⟨#[]⟩, .slice none 0 0, .string ⟨#[]⟩] 36)).drew) := R0
  clear R0 S
  simp only [opVal]
  generalize dropR st key = pr at *
  go_enter Tryz.func33, Tryz.ntmps33
  go_wp2_with fail
  go_region_with (go_at_call 38; refine HC.mono ?_; rintro e w1 ⟨rfl, S1, hg1⟩; obtain ⟨⟨d0, d1, d2, d3, d4⟩, g0, g1, g2, g3, g4⟩ := HR0.out.on HS.out.1 hg1.g; have HX : Hid (_ ∧ _) := And.intro S1 hg1; clear S1 hg1 HC)
  all_goals
    go_wp2
    refine bodyPost_ret (v := ansVal ⟨pr.2.2, pr.2.1, ⟨#[]⟩⟩) (by simp [results, Tryz.results33, go_sem, ansVal, d0, d1, d2, d3, d4]) rfl ?_
    exact put5_post HS.out.1 HS.out.2 HR0.out.below HR0.out.lt HX.out.1 HX.out.2 _ _ _ _ _

set_option maxHeartbeats 2000000 in
set_option maxRecDepth 100000 in
theorem answer_dropv (A : Nat → Prop) (k0 : Nat) (st : St) (s : Nat) (o : OpD) (w : World) (hk : o.key.size ≤ maxLen) (S : StoreAt A w k0 st) (hI : Inv st s) (hs : s < 2199023255552) (hkind : o.kind = 5) :
    Calls Tryz.prog 33 #[.pointer (some ⟨k0, 0, none⟩), opVal o] w (StepPost A w k0 (dropvR st o.key o.n).1 (ansVal ⟨(dropvR st o.key o.n).2, 0, ⟨#[]⟩⟩)) := by
  obtain ⟨kind, key, body, delim, past, n, src⟩ := o
  simp only at hkind hk
  subst hkind
  have R0 := (resA w #[.int .i64 5, .string key, .string body, .string delim, .string past, .int .i64 n, .int .i64 src]).drew
  have HC := sdropv_any _ k0 st s key n _ hk (S.cut R0.below) hI hs
  have HS : Hid (k0 < w.heap.size ∧ ∀ b, A b → b ≠ k0) := ⟨S.lt, S.avoid⟩
  have HR0 : Hid (ResA w ((w.alloc (.cells #[.int .i64 5, .string key, .string body, .string delim, .string past, .int .i64 n, .int .i64 src] 31)).alloc (.cells #[.int .i64 0, .int .i64 0, .string ⟨#[]⟩, .slice none 0 0, .string ⟨#[]⟩] 36)).drew) := R0
  clear R0 S
  simp only [opVal]
  generalize dropvR st key n = pr at *
  go_enter Tryz.func33, Tryz.ntmps33
  go_wp2_with fail
  go_region_with (go_at_call 39; refine HC.mono ?_; rintro e w1 ⟨rfl, S1, hg1⟩; obtain ⟨⟨d0, d1, d2, d3, d4⟩, g0, g1, g2, g3, g4⟩ := HR0.out.on HS.out.1 hg1.g; have HX : Hid (_ ∧ _) := And.intro S1 hg1; clear S1 hg1 HC)
  all_goals
    go_wp2
    refine bodyPost_ret (v := ansVal ⟨pr.2, 0, ⟨#[]⟩⟩) (by simp [results, Tryz.results33, go_sem, ansVal, d0, d1, d2, d3, d4]) rfl ?_
    exact put5_post HS.out.1 HS.out.2 HR0.out.below HR0.out.lt HX.out.1 HX.out.2 _ _ _ _ _

set_option maxHeartbeats 2000000 in
set_option maxRecDepth 100000 in
theorem answer_other (A : Nat → Prop) (k0 : Nat) (st : St) (o : OpD) (w : World) (S : StoreAt A w k0 st) (h : o.kind < 1 ∨ 12 < o.kind) :
    Calls Tryz.prog 33 #[.pointer (some ⟨k0, 0, none⟩), opVal o] w (StepPost A w k0 st (ansVal ⟨1, 0, ⟨#[]⟩⟩)) := by
  obtain ⟨kind, key, body, delim, past, n, src⟩ := o
  simp only at h
  have b1 : (kind == 1) = false := by simp; omega
  have b2 : (kind == 2) = false := by simp; omega
  have b3 : (kind == 3) = false := by simp; omega
  have b4 : (kind == 4) = false := by simp; omega
  have b5 : (kind == 5) = false := by simp; omega
  have b6 : (kind == 6) = false := by simp; omega
  have b7 : (kind == 7) = false := by simp; omega
  have b8 : (kind == 8) = false := by simp; omega
  have b9 : (kind == 9) = false := by simp; omega
  have b10 : (kind == 10) = false := by simp; omega
  have b11 : (kind == 11) = false := by simp; omega
  have b12 : (kind == 12) = false := by simp; omega
  have HS : Hid (StoreAt A w k0 st) := S
  clear h S
  simp only [opVal]
  go_enter Tryz.func33, Tryz.ntmps33
  go_wp2
  refine bodyPost_ret (v := ansVal ⟨1, 0, ⟨#[]⟩⟩) (by simp [results, Tryz.results33, go_sem, ansVal]) rfl ?_
  exact stepPost_same HS.out (((Below.refl _ w).alloc (Nat.le_refl _) _).alloc (by simp) _)

theorem stepPost_alloc {A : Nat → Prop} {w w' : World} {k0 : Nat} {st : St} {v : Value} {e : Ending} (h : StepPost A w k0 st v e w') (o : Obj) : StepPost A w k0 st v e (w'.alloc o) :=
  ⟨h.1, h.2.1.on ((Below.refl _ _).alloc (Nat.le_refl _) _), gt_alloc h.2.2 _⟩

end Go.Proofs.YtnapepbdohidgaaGreatDoor
