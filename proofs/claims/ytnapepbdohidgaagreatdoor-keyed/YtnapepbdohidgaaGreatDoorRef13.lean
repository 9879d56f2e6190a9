/- shelfref: Step, as Keyed calls it. -/
import Derived.Test.YtnapepbdohidgaaGreatDoorRefX
namespace Go.Proofs.YtnapepbdohidgaaGreatDoor
open Go.RowKit

def StepOk (B k : Nat) (st' : St) (w : World) (sl : Value) (R : List RefE) (tm : Int) (e : Ending) (w' : World) : Prop :=
  e = .returned (.bool true) ∧ ∃ sl' R' nx', RefAt B w' k sl' R' nx' tm ∧ Sim st' R' nx' ∧ RFrame w w' k sl R

set_option maxHeartbeats 2000000 in
set_option maxRecDepth 100000 in
theorem rStep_keyed (B k : Nat) (sl : Value) (R : List RefE) (nx tm : Int) (st' : St) (o : OpD) (x : AnsD) (w : World) (H : RefAt B w k sl R nx tm) (hkind : 1 ≤ o.kind ∧ o.kind ≤ 5)
    (HK : ∀ w1, Below w.heap.size w w1 → Calls Tryz.prog 52 #[.pointer (some ⟨k, 0, none⟩), opVal o] w1 (RefPost B k st' x w1 sl R tm)) :
    Calls Tryz.prog 34 #[.pointer (some ⟨k, 0, none⟩), opVal o, ansVal x] w (StepOk B k st' w sl R tm) := by
  obtain ⟨kind, key, body, delim, past, nn, src⟩ := o
  obtain ⟨xc, xv, xb⟩ := x
  simp only at hkind
  have hk : kind = 1 ∨ kind = 2 ∨ kind = 3 ∨ kind = 4 ∨ kind = 5 := by omega
  have HKK : Hid (∀ w1, Below w.heap.size w w1 → Calls Tryz.prog 52 #[.pointer (some ⟨k, 0, none⟩), opVal ⟨kind, key, body, delim, past, nn, src⟩] w1 (RefPost B k st' ⟨xc, xv, xb⟩ w1 sl R tm)) := HK
  have hkw := H.lt
  have HB1 : Hid (Below w.heap.size w ((w.alloc (.cells #[.int .i64 kind, .string key, .string body, .string delim, .string past, .int .i64 nn, .int .i64 src] 31)).alloc (.cells #[.int .i64 xc, .int .i64 xv, .string xb, .slice none 0 0, .string ⟨#[]⟩] 36)).drew) :=
    (((Below.refl _ w).alloc (Nat.le_refl _) _).alloc (by simp) _).drew
  have HA : Hid (∀ w2, RFrame ((w.alloc (.cells #[.int .i64 kind, .string key, .string body, .string delim, .string past, .int .i64 nn, .int .i64 src] 31)).alloc (.cells #[.int .i64 xc, .int .i64 xv, .string xb, .slice none 0 0, .string ⟨#[]⟩] 36)).drew w2 k sl R →
      (w2.cell? ⟨w.heap.size + 1, 0, none⟩ = some (.int .i64 xc) ∧ w2.cell? ⟨w.heap.size + 1, 1, none⟩ = some (.int .i64 xv) ∧ w2.cell? ⟨w.heap.size + 1, 2, none⟩ = some (.string xb) ∧ w2.cell? ⟨w.heap.size + 1, 3, none⟩ = some (.slice none 0 0) ∧ w2.cell? ⟨w.heap.size + 1, 4, none⟩ = some (.string ⟨#[]⟩)) ∧ RFrame w w2 k sl R) := by
    intro w2 F
    obtain ⟨o1, o2, o3⟩ := H.old (x := w.heap.size + 1) (by omega)
    have hb := F.block (w.heap.size + 1) (by simp [World.drew]) o1 o2 o3
    have hc : ∀ j, w2.cell? ⟨w.heap.size + 1, j, none⟩ = (#[.int .i64 xc, .int .i64 xv, .string xb, .slice none 0 0, .string ⟨#[]⟩] : Array Value)[j]? := fun j => by
      rw [World.cell?_of_block (a := ⟨w.heap.size + 1, j, none⟩) hb]
      exact World.cell?_alloc_at (w := w.alloc (.cells #[.int .i64 kind, .string key, .string body, .string delim, .string past, .int .i64 nn, .int .i64 src] 31)) _ _ (w.heap.size + 1) j (by simp)
    exact ⟨⟨hc 0, hc 1, hc 2, hc 3, hc 4⟩, RFrame.after HB1.out hkw F⟩
  have HS := rsame_any ⟨xc, xv, xb⟩
  clear H HK hkind
  unfold StepOk
  simp only [opVal, ansVal] at HS ⊢
  simp only [opVal] at HKK
  rcases hk with rfl | rfl | rfl | rfl | rfl
  · go_enter Tryz.func34, Tryz.ntmps34
    go_wp2_with fail
    go_region_with (first
      | (go_at_call 52; refine (HKK.out _ HB1.out).mono ?_; rintro e w2 ⟨rfl, sl', R', nx', H', S', F⟩; obtain ⟨⟨d0, d1, d2, d3, d4⟩, F'⟩ := HA.out w2 F; have HE : Hid (RefAt B w2 k sl' R' nx' tm ∧ Sim st' R' nx' ∧ RFrame w w2 k sl R) := ⟨H', S', F'⟩; clear H' S' F F')
      | (go_at_call 51; refine (HS _).mono ?_; rintro e w3 ⟨rfl, b3⟩))
    all_goals
      go_wp2
      go_ret
      exact ⟨rfl, sl', R', nx', HE.out.1.below b3, HE.out.2.1, HE.out.2.2.below b3 HE.out.1.lt⟩
  · go_enter Tryz.func34, Tryz.ntmps34
    go_wp2_with fail
    go_region_with (first
      | (go_at_call 52; refine (HKK.out _ HB1.out).mono ?_; rintro e w2 ⟨rfl, sl', R', nx', H', S', F⟩; obtain ⟨⟨d0, d1, d2, d3, d4⟩, F'⟩ := HA.out w2 F; have HE : Hid (RefAt B w2 k sl' R' nx' tm ∧ Sim st' R' nx' ∧ RFrame w w2 k sl R) := ⟨H', S', F'⟩; clear H' S' F F')
      | (go_at_call 51; refine (HS _).mono ?_; rintro e w3 ⟨rfl, b3⟩))
    all_goals
      go_wp2
      go_ret
      exact ⟨rfl, sl', R', nx', HE.out.1.below b3, HE.out.2.1, HE.out.2.2.below b3 HE.out.1.lt⟩
  · go_enter Tryz.func34, Tryz.ntmps34
    go_wp2_with fail
    go_region_with (first
      | (go_at_call 52; refine (HKK.out _ HB1.out).mono ?_; rintro e w2 ⟨rfl, sl', R', nx', H', S', F⟩; obtain ⟨⟨d0, d1, d2, d3, d4⟩, F'⟩ := HA.out w2 F; have HE : Hid (RefAt B w2 k sl' R' nx' tm ∧ Sim st' R' nx' ∧ RFrame w w2 k sl R) := ⟨H', S', F'⟩; clear H' S' F F')
      | (go_at_call 51; refine (HS _).mono ?_; rintro e w3 ⟨rfl, b3⟩))
    all_goals
      go_wp2
      go_ret
      exact ⟨rfl, sl', R', nx', HE.out.1.below b3, HE.out.2.1, HE.out.2.2.below b3 HE.out.1.lt⟩
  · go_enter Tryz.func34, Tryz.ntmps34
    go_wp2_with fail
    go_region_with (first
      | (go_at_call 52; refine (HKK.out _ HB1.out).mono ?_; rintro e w2 ⟨rfl, sl', R', nx', H', S', F⟩; obtain ⟨⟨d0, d1, d2, d3, d4⟩, F'⟩ := HA.out w2 F; have HE : Hid (RefAt B w2 k sl' R' nx' tm ∧ Sim st' R' nx' ∧ RFrame w w2 k sl R) := ⟨H', S', F'⟩; clear H' S' F F')
      | (go_at_call 51; refine (HS _).mono ?_; rintro e w3 ⟨rfl, b3⟩))
    all_goals
      go_wp2
      go_ret
      exact ⟨rfl, sl', R', nx', HE.out.1.below b3, HE.out.2.1, HE.out.2.2.below b3 HE.out.1.lt⟩
  · go_enter Tryz.func34, Tryz.ntmps34
    go_wp2_with fail
    go_region_with (first
      | (go_at_call 52; refine (HKK.out _ HB1.out).mono ?_; rintro e w2 ⟨rfl, sl', R', nx', H', S', F⟩; obtain ⟨⟨d0, d1, d2, d3, d4⟩, F'⟩ := HA.out w2 F; have HE : Hid (RefAt B w2 k sl' R' nx' tm ∧ Sim st' R' nx' ∧ RFrame w w2 k sl R) := ⟨H', S', F'⟩; clear H' S' F F')
      | (go_at_call 51; refine (HS _).mono ?_; rintro e w3 ⟨rfl, b3⟩))
    all_goals
      go_wp2
      go_ret
      exact ⟨rfl, sl', R', nx', HE.out.1.below b3, HE.out.2.1, HE.out.2.2.below b3 HE.out.1.lt⟩

set_option maxHeartbeats 2000000 in
set_option maxRecDepth 100000 in
theorem rStep_other (B k : Nat) (sl : Value) (R : List RefE) (nx tm : Int) (st : St) (o : OpD) (w : World) (H : RefAt B w k sl R nx tm) (S : Sim st R nx) (hkind : o.kind < 1 ∨ 12 < o.kind) :
    Calls Tryz.prog 34 #[.pointer (some ⟨k, 0, none⟩), opVal o, ansVal ⟨1, 0, ⟨#[]⟩⟩] w (StepOk B k st w sl R tm) := by
  obtain ⟨kind, key, body, delim, past, nn, src⟩ := o
  simp only at hkind
  have b1 : (kind == 1) = false := by simp; omega
  have b2 : (kind == 2) = false := by simp; omega
  have b3 : (kind == 3) = false := by simp; omega
  have b4 : (kind == 4) = false := by simp; omega
  have b5 : (kind == 5) = false := by simp; omega
  have b6 : (kind == 6) = false := by simp; omega
  have b7 : (kind == 7) = false := by simp; omega
  have b8 : (kind == 8) = false := by simp; omega
  have b9 : (kind == 9) = false := by simp; omega
  have b10 : (kind == 10) = false := by simp; omega
  have b11 : (kind == 11) = false := by simp; omega
  have b12 : (kind == 12) = false := by simp; omega
  have hkw := H.lt
  have HH : Hid (RefAt B w k sl R nx tm ∧ Sim st R nx) := ⟨H, S⟩
  have HA : Hid (∀ w2, Below ((w.alloc (.cells #[.int .i64 kind, .string key, .string body, .string delim, .string past, .int .i64 nn, .int .i64 src] 31)).alloc (.cells #[.int .i64 1, .int .i64 0, .string ⟨#[]⟩, .slice none 0 0, .string ⟨#[]⟩] 36)).drew.heap.size ((w.alloc (.cells #[.int .i64 kind, .string key, .string body, .string delim, .string past, .int .i64 nn, .int .i64 src] 31)).alloc (.cells #[.int .i64 1, .int .i64 0, .string ⟨#[]⟩, .slice none 0 0, .string ⟨#[]⟩] 36)).drew w2 →
      (w2.cell? ⟨w.heap.size + 1, 0, none⟩ = some (.int .i64 1) ∧ w2.cell? ⟨w.heap.size + 1, 1, none⟩ = some (.int .i64 0) ∧ w2.cell? ⟨w.heap.size + 1, 2, none⟩ = some (.string ⟨#[]⟩) ∧ w2.cell? ⟨w.heap.size + 1, 3, none⟩ = some (.slice none 0 0) ∧ w2.cell? ⟨w.heap.size + 1, 4, none⟩ = some (.string ⟨#[]⟩)) ∧ Below w.heap.size w w2) := by
    intro w2 hb
    have hB1 : Below w.heap.size w ((w.alloc (.cells #[.int .i64 kind, .string key, .string body, .string delim, .string past, .int .i64 nn, .int .i64 src] 31)).alloc (.cells #[.int .i64 1, .int .i64 0, .string ⟨#[]⟩, .slice none 0 0, .string ⟨#[]⟩] 36)).drew :=
      (((Below.refl _ w).alloc (Nat.le_refl _) _).alloc (by simp) _).drew
    have hbb := hb.block (w.heap.size + 1) (by simp [World.drew])
    have hc : ∀ j, w2.cell? ⟨w.heap.size + 1, j, none⟩ = (#[.int .i64 1, .int .i64 0, .string ⟨#[]⟩, .slice none 0 0, .string ⟨#[]⟩] : Array Value)[j]? := fun j => by
      rw [World.cell?_of_block (a := ⟨w.heap.size + 1, j, none⟩) hbb]
      exact World.cell?_alloc_at (w := w.alloc (.cells #[.int .i64 kind, .string key, .string body, .string delim, .string past, .int .i64 nn, .int .i64 src] 31)) _ _ (w.heap.size + 1) j (by simp)
    exact ⟨⟨hc 0, hc 1, hc 2, hc 3, hc 4⟩, hB1.trans (hb.mono hB1.size)⟩
  have HS := rsame_any ⟨1, 0, ⟨#[]⟩⟩
  have HN := rno_any 1
  clear H S hkind
  unfold StepOk
  simp only [opVal, ansVal] at HS HN ⊢
  go_enter Tryz.func34, Tryz.ntmps34
  go_wp2_with fail
  go_region_with (first
    | (go_at_call 55; refine (HN _).mono ?_; rintro e w2 ⟨rfl, hb2⟩; obtain ⟨⟨d0, d1, d2, d3, d4⟩, hb2'⟩ := HA.out w2 hb2; have HE : Hid (Below w.heap.size w w2) := hb2'; clear hb2 hb2')
    | (go_at_call 51; refine (HS _).mono ?_; rintro e w3 ⟨rfl, b3⟩))
  all_goals
    go_wp2
    go_ret
    have hbw := HE.out.trans (b3.mono HE.out.size)
    exact ⟨rfl, sl, R, nx, HH.out.1.below hbw, HH.out.2, rframe_below hkw hbw _ _⟩

end Go.Proofs.YtnapepbdohidgaaGreatDoor
