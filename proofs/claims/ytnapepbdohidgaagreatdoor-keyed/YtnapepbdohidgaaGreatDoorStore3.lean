/- Store: add. -/
import Derived.Test.YtnapepbdohidgaaGreatDoorStore1
namespace Go.Proofs.YtnapepbdohidgaaGreatDoor
open Go.RowKit

theorem cs {w : World} {a : Addr} {v u : Value} (h : w.cell? a = some u) : (w.setCell a v).cell? a = some v := by first | exact World.cell?_setCell_same w a v h | exact World.cell?_setCell_same _ _ _ h
theorem co {w : World} {a b : Addr} {v u : Value} (hne : a ≠ b) (h : w.cell? b = some u) : (w.setCell a v).cell? b = some u := (World.cell?_setCell_other w a b v hne).trans h
theorem fs {w : World} {a b : Addr} {v : Value} (h : w.frozen? b = false) : (w.setCell a v).frozen? b = false := by simpa using h

/-- The store's three cells, and that none is frozen. -/
structure Cells3 (w : World) (b : Nat) (x y z : Value) : Prop where
  c0 : w.cell? ⟨b, 0, none⟩ = some x
  c1 : w.cell? ⟨b, 1, none⟩ = some y
  c2 : w.cell? ⟨b, 2, none⟩ = some z
  fz : ∀ j, w.frozen? ⟨b, j, none⟩ = false
theorem Cells3.on {w w' : World} {b : Nat} {x y z : Value} (h : Cells3 w b x y z) (hb : Below w.heap.size w w') : Cells3 w' b x y z :=
  ⟨cellOn hb h.c0, cellOn hb h.c1, cellOn hb h.c2, fun j => (hb.frozen (p := ⟨b, j, none⟩) (show b < w.heap.size from World.block_lt_of_cell? w ⟨b, 0, none⟩ h.c0)).trans (h.fz j)⟩
theorem Cells3.lt {w : World} {b : Nat} {x y z : Value} (h : Cells3 w b x y z) : b < w.heap.size := World.block_lt_of_cell? w ⟨b, 0, none⟩ h.c0
theorem Cells3.set0 {w : World} {b : Nat} {x y z : Value} (h : Cells3 w b x y z) (v : Value) : Cells3 (w.setCell ⟨b, 0, none⟩ v) b v y z :=
  ⟨cs h.c0, co (by simp) h.c1, co (by simp) h.c2, fun j => fs (h.fz j)⟩
theorem Cells3.set1 {w : World} {b : Nat} {x y z : Value} (h : Cells3 w b x y z) (v : Value) : Cells3 (w.setCell ⟨b, 1, none⟩ v) b x v z :=
  ⟨co (by simp) h.c0, cs h.c1, co (by simp) h.c2, fun j => fs (h.fz j)⟩
theorem Cells3.set2 {w : World} {b : Nat} {x y z : Value} (h : Cells3 w b x y z) (v : Value) : Cells3 (w.setCell ⟨b, 2, none⟩ v) b x y v :=
  ⟨co (by simp) h.c0, co (by simp) h.c1, cs h.c2, fun j => fs (h.fz j)⟩
theorem Cells3.far {w : World} {b : Nat} {x y z : Value} (h : Cells3 w b x y z) (b' o : Nat) (v : Value) (hne : b' ≠ b) : Cells3 (w.setCell ⟨b', o, none⟩ v) b x y z :=
  ⟨co (fun e => hne (congrArg Addr.block e)) h.c0, co (fun e => hne (congrArg Addr.block e)) h.c1, co (fun e => hne (congrArg Addr.block e)) h.c2, fun j => fs (h.fz j)⟩
theorem cells3_new (w : World) (x y z : Value) (T : TypeId) : Cells3 (w.alloc (.cells #[x, y, z] T)) w.heap.size x y z :=
  ⟨by rw [World.cell?_alloc_at (w := w) _ _ w.heap.size 0 rfl]; rfl, by rw [World.cell?_alloc_at (w := w) _ _ w.heap.size 1 rfl]; rfl, by rw [World.cell?_alloc_at (w := w) _ _ w.heap.size 2 rfl]; rfl, fun j => World.frozen?_alloc_at (w := w) _ _ w.heap.size j rfl⟩
theorem StoreAt.cells {A : Nat → Prop} {w : World} {k0 : Nat} {st : St} (S : StoreAt A w k0 st) : ∃ p, Cells3 w k0 (.pointer p) (.int .i64 st.count) (.int .i64 st.last) ∧ NodeAt A 41 w p st.f := by
  obtain ⟨p, c0, hN⟩ := S.tree
  exact ⟨p, ⟨c0, S.count, S.last, S.frozen⟩, hN⟩
theorem storeAt_of {A : Nat → Prop} {w : World} {k0 : Nat} {st : St} {p : Option Addr} (h : Cells3 w k0 (.pointer p) (.int .i64 st.count) (.int .i64 st.last)) (hN : NodeAt A 41 w p st.f) (ha : ∀ b, A b → b ≠ k0) : StoreAt A w k0 st :=
  ⟨ha, ⟨p, h.c0, hN⟩, h.c1, h.c2, h.fz⟩

/-- New memory, and the store's own three cells; what else lies in the store's block stays. -/
structure GrownT (w w' : World) (k0 : Nat) : Prop where
  g : w.grownBy w' (some k0)
  lt : k0 < w.heap.size
  t : ∀ j, 3 ≤ j → w'.cell? ⟨k0, j, none⟩ = w.cell? ⟨k0, j, none⟩
theorem gt_of_below {w w' : World} {k0 : Nat} (hk : k0 < w.heap.size) (hb : Below w.heap.size w w') : GrownT w w' k0 :=
  ⟨below_grown hb _, hk, fun j _ => World.cell?_of_block (w := w) (w' := w') (a := ⟨k0, j, none⟩) (hb.block k0 hk)⟩
theorem gt_refl {w : World} {k0 : Nat} (hk : k0 < w.heap.size) : GrownT w w k0 := gt_of_below hk (Below.refl _ _)
theorem gt_trans {a b c : World} {k0 : Nat} (h : GrownT a b k0) (h' : GrownT b c k0) : GrownT a c k0 := ⟨grown_trans h.g h'.g, h.lt, fun j hj => (h'.t j hj).trans (h.t j hj)⟩
theorem gt_below {w w1 w2 : World} {k0 : Nat} (h : GrownT w w1 k0) (hb : Below w1.heap.size w1 w2) : GrownT w w2 k0 := gt_trans h (gt_of_below (by have := h.g.size; have := h.lt; omega) hb)
theorem gt_alloc {w w1 : World} {k0 : Nat} (h : GrownT w w1 k0) (o : Obj) : GrownT w (w1.alloc o) k0 := gt_below h ((Below.refl _ _).alloc (Nat.le_refl _) _)
theorem gt_set {w w1 : World} {k0 : Nat} (h : GrownT w w1 k0) (o : Nat) (v : Value) (ho : o < 3 := by decide) : GrownT w (w1.setCell ⟨k0, o, none⟩ v) k0 :=
  ⟨grown_set_row h.g _ _, h.lt, fun j hj => (World.cell?_setCell_other w1 ⟨k0, o, none⟩ ⟨k0, j, none⟩ v (fun e => by have := congrArg Addr.off e; simp at this; omega)).trans (h.t j hj)⟩
theorem gt_new {w w1 : World} {k0 : Nat} (h : GrownT w w1 k0) {b : Nat} (hb : w.heap.size ≤ b) (o : Nat) (v : Value) : GrownT w (w1.setCell ⟨b, o, none⟩ v) k0 :=
  ⟨grown_set_new h.g hb _ _, h.lt, fun j hj => (World.cell?_setCell_other w1 ⟨b, o, none⟩ ⟨k0, j, none⟩ v (fun e => by have h1 := congrArg Addr.block e; have h2 := h.lt; simp at h1; omega)).trans (h.t j hj)⟩

/-- The tree behind a With or a Without in a later world, carried over the store of its root. -/
theorem root_lift {A : Nat → Prop} {w w3 w4 : World} {k0 : Nat} {p : Option Addr} {F : List UInt8 → List Ver} (hw3 : w.heap.size ≤ w3.heap.size) (ha : ∀ b, A b → b ≠ k0) (hk : k0 < w.heap.size) (h : NodeAt (Grow (fun b => (A b ∧ b < w.heap.size) ∨ w.heap.size ≤ b) w3) 41 w4 p F) (o : Nat) (v : Value) :
    NodeAt (Grow A w) 41 (w4.setCell ⟨k0, o, none⟩ v) p F := by
  refine NodeAt.keep (fun b hb _ => ?_) 41 p F h
  rcases hb with ⟨⟨hA, hlt⟩ | hge, _⟩ | hge
  · exact ⟨Or.inl ⟨hA, hlt⟩, Below.heap_setCell _ _ _ _ (ha b hA)⟩
  · exact ⟨Or.inr hge, Below.heap_setCell _ _ _ _ (by show b ≠ k0; omega)⟩
  · exact ⟨Or.inr (by omega), Below.heap_setCell _ _ _ _ (by show b ≠ k0; omega)⟩

theorem grow_avoid {A : Nat → Prop} {w : World} {k0 : Nat} (ha : ∀ b, A b → b ≠ k0) (hk : k0 < w.heap.size) : ∀ b, Grow A w b → b ≠ k0 := by
  rintro b (⟨h, _⟩ | h)
  · exact ha b h
  · omega

set_option maxHeartbeats 2000000 in
set_option maxRecDepth 100000 in
theorem sadd_any (A : Nat → Prop) (k0 : Nat) (st : St) (s : Nat) (key : ByteArray) (nm0 : Int) (bd : ByteArray) (mk : Bool) (w : World) (hk : key.size < 41) (S : StoreAt A w k0 st) (hI : Inv st s) (hs : s < 2199023255552) :
    Calls Tryz.prog 61 #[.pointer (some ⟨k0, 0, none⟩), .string key, .agg #[.int .i64 nm0, .string bd, .bool mk]] w fun e w' => e = .returned (.int .i64 (st.last + 1)) ∧ StoreAt (Grow A w) w' k0 (addSt st key bd mk) ∧ GrownT w w' k0 := by
  obtain ⟨p, C, hN⟩ := S.cells
  have c0 := C.c0
  have c1 := C.c1
  have c2 := C.c2
  have f0 := C.fz 0
  have f1 := C.fz 1
  have f2 := C.fz 2
  have hk0 := S.lt
  have l0 := hI.last0
  have l1 := hI.lastS
  have l2 := hI.countL
  have l3 := hI.countU
  have hle := hI.len key.data.toList
  have hne : ¬ w.heap.size = k0 := by omega
  have hne' : ¬ k0 = w.heap.size := by omega
  obtain ⟨W1, hW1⟩ : ∃ W1, W1 = ((w.setCell ⟨k0, 2, none⟩ (.int .i64 (st.last + 1))).setCell ⟨k0, 1, none⟩ (.int .i64 (st.count + 1))).alloc (.cells #[.int .i64 (st.last + 1), .string bd, .bool mk] 81) := ⟨_, rfl⟩
  have hg0 : GrownT w ((w.setCell ⟨k0, 2, none⟩ (.int .i64 (st.last + 1))).setCell ⟨k0, 1, none⟩ (.int .i64 (st.count + 1))) k0 := gt_set (gt_set (gt_refl hk0) _ _) _ _
  have hz0 : ((w.setCell ⟨k0, 2, none⟩ (.int .i64 (st.last + 1))).setCell ⟨k0, 1, none⟩ (.int .i64 (st.count + 1))).heap.size = w.heap.size := by simp [World.setCell]
  have hg1 : GrownT w W1 k0 := by rw [hW1]; exact gt_alloc hg0 _
  have C1 : Cells3 W1 k0 (.pointer p) (.int .i64 (st.count + 1)) (.int .i64 (st.last + 1)) := by
    rw [hW1]; exact ((C.set2 _).set1 _).on ((Below.refl _ _).alloc (Nat.le_refl _) _)
  have X1 : Cells3 W1 w.heap.size (.int .i64 (st.last + 1)) (.string bd) (.bool mk) := by
    rw [hW1, ← hz0]; exact cells3_new _ _ _ _ _
  have hN1 : NodeAt A 41 W1 p st.f := NodeAt.keep (keepRow hg1.g S.avoid) 41 p st.f hN
  have HG := tget_any A 41 p st.f key W1 hk (by simp only [maxLen]; omega) hN1
  have HS : Hid (StoreAt A w k0 st ∧ NodeAt A 41 w p st.f ∧ GrownT w W1 k0 ∧ Cells3 W1 k0 (.pointer p) (.int .i64 (st.count + 1)) (.int .i64 (st.last + 1)) ∧ Cells3 W1 w.heap.size (.int .i64 (st.last + 1)) (.string bd) (.bool mk)) := ⟨S, hN, hg1, C1, X1⟩
  have HW1 : Hid (W1 = ((w.setCell ⟨k0, 2, none⟩ (.int .i64 (st.last + 1))).setCell ⟨k0, 1, none⟩ (.int .i64 (st.count + 1))).alloc (.cells #[.int .i64 (st.last + 1), .string bd, .bool mk] 81)) := hW1
  clear hN S C hg0 hz0 hg1 C1 X1 hN1 hW1
  go_enter Tryz.func61, Tryz.ntmps61
  go_wp2_with fail
  rw [← HW1.out]
  refine HG.mono ?_
  rintro e w2 ⟨hv, rfl, hh, hb2⟩
  obtain ⟨ha, hc, rfl, -⟩ := id hh
  obtain ⟨S, hN, hg1, C1, X1⟩ := HS.out
  have C2 := C1.on hb2
  have X2 := X1.on hb2
  have hg2 : GrownT w w2 k0 := gt_below hg1 hb2
  have a0 := C2.c0
  have q0 := X2.c0
  have q1 := X2.c1
  have q2 := X2.c2
  have HW : Hid (Calls Tryz.prog 89 #[.slice ha (st.f key.data.toList).length hc, .agg #[.int .i64 (st.last + 1), .string bd, .bool mk]] w2.drew fun e w' => ∃ va vl vc, e = .returned (.slice va vl vc) ∧ HistAt (fun b => w2.heap.size ≤ b) w' (.slice va vl vc) (st.f key.data.toList ++ [⟨st.last + 1, bd, mk⟩]) ∧ Below w2.heap.size w2 w') := by
    refine (hwith_any A _ _ (st.last + 1) bd mk w2.drew (RowAt.keep hh (fun b h1 h2 => ⟨h1, rfl⟩)) (by omega)).mono ?_
    rintro e w' ⟨va, vl, vc, h1, h2, h3⟩
    exact ⟨va, vl, vc, h1, h2, (Below.refl _ w2).drew.trans h3⟩
  have HT : Hid (∀ (w3 : World) (va : Option Addr) (vl vc : Nat), Below w2.heap.size w2 w3 → HistAt (fun b => w2.heap.size ≤ b) w3 (.slice va vl vc) (st.f key.data.toList ++ [⟨st.last + 1, bd, mk⟩]) →
      Calls Tryz.prog 67 #[.agg #[.pointer p], .string key, .slice va vl vc] w3 fun e w' => ∃ q, e = .returned (.agg #[.pointer q]) ∧ Below w3.heap.size w3 w' ∧ NodeAt (Grow (fun b => (A b ∧ b < w.heap.size) ∨ w.heap.size ≤ b) w3) 41 w' q (upd st.f key.data.toList (st.f key.data.toList ++ [⟨st.last + 1, bd, mk⟩]))) := fun w3 va vl vc hb3 hh3 => by
    refine twith_any _ 41 p st.f key _ _ w3 (NodeAt.keep (fun b h1 h2 => ⟨Or.inl ⟨h1, h2⟩, (gt_below hg2 hb3).g.block b h2 (by intro e; cases e; exact S.avoid k0 h1 rfl)⟩) 41 p st.f hN) hk (by omega) (RowAt.keep hh3 (fun b h1 h2 => ⟨Or.inr ?_, rfl⟩)) (by simp)
    have := hg2.g.size
    omega
  have HC : Hid (Cells3 w2 k0 (.pointer p) (.int .i64 (st.count + 1)) (.int .i64 (st.last + 1)) ∧ Cells3 w2 w.heap.size (.int .i64 (st.last + 1)) (.string bd) (.bool mk) ∧ GrownT w w2 k0) := ⟨C2, X2, hg2⟩
  clear S hN hg1 C1 X1 C2 X2 hg2 hh hb2 HG
  go_wp2_with fail
  go_region_with (first
    | (go_at_call 89; refine HW.out.mono ?_; rintro e w3 ⟨va, vl, vc, rfl, hh3, hb3⟩; have b0 := cellOn hb3 a0)
    | (go_at_call 67; refine (HT.out _ va vl vc hb3 hh3).mono ?_; rintro e w4 ⟨q, rfl, hb4, hN4⟩; have d0 := cellOn hb4 b0; have D4 := (HC.out.2.1.on hb3).on hb4; have E4 := (HC.out.1.on hb3).on hb4; have r0 := D4.c0; have r1 := E4.c0; have r2 := E4.fz 0))
  all_goals
    go_wp2
    go_ret
    refine ⟨rfl, ?_, ?_⟩
    · refine storeAt_of (p := q) ?_ ?_ (grow_avoid HS.out.1.avoid hk0)
      · exact E4.set0 _
      · exact root_lift (by have := HC.out.2.2.g.size; have := hb3.size; omega) HS.out.1.avoid hk0 hN4 _ _
    · exact gt_set (gt_below (gt_below HC.out.2.2 hb3) hb4) _ _

end Go.Proofs.YtnapepbdohidgaaGreatDoor
