/- Store: DropVersion. -/
import Derived.Test.YtnapepbdohidgaaGreatDoorStore4
namespace Go.Proofs.YtnapepbdohidgaaGreatDoor
open Go.RowKit

def dropvR (st : St) (key : ByteArray) (n : Int) : St × Int :=
  if isKeyB key = false then (st, 2)
  else match placeOf (st.f key.data.toList) n with
    | none => (st, 5)
    | some r => (dropSt st key r, 0)

set_option maxHeartbeats 2000000 in
set_option maxRecDepth 100000 in
theorem sdropv_any (A : Nat → Prop) (k0 : Nat) (st : St) (s : Nat) (key : ByteArray) (n : Int) (w : World) (hk : key.size ≤ maxLen) (S : StoreAt A w k0 st) (hI : Inv st s) (hs : s < 2199023255552) :
    Calls Tryz.prog 39 #[.pointer (some ⟨k0, 0, none⟩), .string key, .int .i64 n] w (StepPost A w k0 (dropvR st key n).1 (.int .i64 (dropvR st key n).2)) := by
  have HF := sfind_any A k0 st s key n w hk S hI (by omega)
  have HS : Hid (StoreAt A w k0 st) := S
  have hk0 := S.lt
  have l2 := hI.countL
  have l3 := hI.countU
  have hle := hI.len key.data.toList
  clear S
  go_enter Tryz.func39, Tryz.ntmps39
  go_wp2_with fail
  refine HF.mono ?_
  rintro e w1 ⟨hb1, hcase⟩
  rcases hcase with ⟨hkey, rfl⟩ | ⟨hkey, hpl, rfl⟩ | ⟨hkey, r, ha, hc, hpl, hr, hh, rfl⟩
  · have HR : Hid (dropvR st key n = (st, 2)) := show dropvR st key n = (st, 2) by simp [dropvR, hkey]
    have HB : Hid (Below w.heap.size w w1) := hb1
    clear hkey HF hb1
    go_wp2
    go_ret
    rw [HR.out]
    exact stepPost_same HS.out HB.out
  · have HR : Hid (dropvR st key n = (st, 5)) := show dropvR st key n = (st, 5) by simp [dropvR, hkey, hpl]
    have HB : Hid (Below w.heap.size w w1) := hb1
    clear hkey HF hb1 hpl
    go_wp2
    go_ret
    rw [HR.out]
    exact stepPost_same HS.out HB.out
  · have HR : Hid (dropvR st key n = (dropSt st key r, 0)) := show dropvR st key n = (dropSt st key r, 0) by simp [dropvR, hkey, hpl]
    have hsz := isKey_size hkey
    obtain ⟨p, C, hN⟩ := HS.out.cells
    have C1 := C.on hb1
    have c1 := C1.c1
    have f1 := C1.fz 1
    have c0 := C1.c0
    obtain ⟨W2, hW2⟩ : ∃ W2, W2 = w1.setCell ⟨k0, 1, none⟩ (.int .i64 (st.count - 1)) := ⟨_, rfl⟩
    have C2 : Cells3 W2 k0 (.pointer p) (.int .i64 (st.count - 1)) (.int .i64 st.last) := by rw [hW2]; exact C1.set1 _
    have hg2 : GrownT w W2 k0 := by rw [hW2]; exact gt_set (gt_of_below hk0 hb1) _ _
    have hh2 : HistAt (fun b => A b ∨ w.heap.size ≤ b) W2 (.slice ha (st.f key.data.toList).length hc) (st.f key.data.toList) :=
      RowAt.keep hh (fun b h1 h2 => ⟨Or.inl h1, by rw [hW2]; exact Below.heap_setCell _ _ _ _ (HS.out.avoid b h1)⟩)
    have HN2 : ∀ w3 : World, W2.grownBy w3 (some k0) → NodeAt (fun b => (A b ∧ b < w.heap.size) ∨ w.heap.size ≤ b) 41 w3 p st.f := fun w3 hg3 =>
      NodeAt.keep (fun b h1 h2 => ⟨Or.inl ⟨h1, h2⟩, (grown_trans hg2.g hg3).block b h2 (by intro e; cases e; exact HS.out.avoid k0 h1 rfl)⟩) 41 p st.f hN
    have hfne : st.f key.data.toList ≠ [] := by intro e; rw [e] at hr; simp at hr
    have HW2 : Hid (W2 = w1.setCell ⟨k0, 1, none⟩ (.int .i64 (st.count - 1))) := hW2
    clear hkey HF hpl C hN C1
    by_cases hone : (st.f key.data.toList).length = 1
    · have hr0 : r = 0 := by omega
      have HD : Hid (dropSt st key r = ⟨upd st.f key.data.toList [], st.count - 1, st.last⟩) := show dropSt st key r = _ by
        unfold dropSt; rw [hr0, List.take_zero, List.nil_append, List.drop_eq_nil_of_le (by omega)]
      have HT : Hid (Calls Tryz.prog 66 #[.agg #[.pointer p], .string key] W2 fun e w' => ∃ q, e = .returned (.agg #[.pointer q]) ∧ Below W2.heap.size W2 w' ∧ NodeAt (Grow (fun b => (A b ∧ b < w.heap.size) ∨ w.heap.size ≤ b) W2) 41 w' q (upd st.f key.data.toList [])) :=
        twithout_any _ 41 p st.f key W2 (HN2 W2 (World.grownBy.refl _ _)) hsz.1 hsz.2 hfne
      have HC : Hid (Cells3 W2 k0 (.pointer p) (.int .i64 (st.count - 1)) (.int .i64 st.last) ∧ GrownT w W2 k0) := ⟨C2, hg2⟩
      rw [hone]
      clear hh hh2 HN2 hone hr0 C2 hg2 hfne hW2 hr hle hb1
      go_wp2_with fail
      rw [← HW2.out]
      refine HT.out.mono ?_
      rintro e w4 ⟨q, rfl, hb4, hN4⟩
      have D4 := HC.out.1.on hb4
      have r1 := D4.c0
      have r2 := D4.fz 0
      have HX : Hid (StoreAt (Grow A w) (w4.setCell ⟨k0, 0, none⟩ (.pointer q)) k0 (dropSt st key r) ∧ GrownT w (w4.setCell ⟨k0, 0, none⟩ (.pointer q)) k0) := by
        refine ⟨?_, gt_set (gt_below HC.out.2 hb4) _ _⟩
        rw [HD.out]
        refine storeAt_of (p := q) ?_ ?_ (grow_avoid HS.out.avoid hk0)
        · exact D4.set0 _
        · exact root_lift HC.out.2.g.size HS.out.avoid hk0 hN4 _ _
      clear D4 hN4 hb4 HT HC
      go_wp2
      go_ret
      rw [HR.out]
      exact ⟨rfl, HX.out.1, HX.out.2⟩
    · have HD : Hid (dropSt st key r = ⟨upd st.f key.data.toList ((st.f key.data.toList).take r ++ (st.f key.data.toList).drop (r + 1)), st.count - 1, st.last⟩) := rfl
      have HW : Hid (Calls Tryz.prog 68 #[.slice ha (st.f key.data.toList).length hc, .int .i64 r] W2.drew fun e w' => ∃ va vl vc, e = .returned (.slice va vl vc) ∧ HistAt (fun b => W2.heap.size ≤ b) w' (.slice va vl vc) ((st.f key.data.toList).take r ++ (st.f key.data.toList).drop (r + 1)) ∧ Below W2.heap.size W2 w') := by
        refine (hwithout_any _ _ _ r W2.drew (RowAt.keep hh2 (fun b h1 h2 => ⟨h1, rfl⟩)) hr (by omega)).mono ?_
        rintro e w' ⟨va, vl, vc, h1, h2, h3⟩
        exact ⟨va, vl, vc, h1, h2, (Below.refl _ W2).drew.trans h3⟩
      have hne2 : (st.f key.data.toList).take r ++ (st.f key.data.toList).drop (r + 1) ≠ [] := by
        intro e
        have := congrArg List.length e
        rw [List.length_append, List.length_take, List.length_drop, List.length_nil] at this
        omega
      have HT : Hid (∀ (w3 : World) (va : Option Addr) (vl vc : Nat), Below W2.heap.size W2 w3 → HistAt (fun b => W2.heap.size ≤ b) w3 (.slice va vl vc) ((st.f key.data.toList).take r ++ (st.f key.data.toList).drop (r + 1)) →
          Calls Tryz.prog 67 #[.agg #[.pointer p], .string key, .slice va vl vc] w3 fun e w' => ∃ q, e = .returned (.agg #[.pointer q]) ∧ Below w3.heap.size w3 w' ∧ NodeAt (Grow (fun b => (A b ∧ b < w.heap.size) ∨ w.heap.size ≤ b) w3) 41 w' q (upd st.f key.data.toList ((st.f key.data.toList).take r ++ (st.f key.data.toList).drop (r + 1)))) := fun w3 va vl vc hb3 hh3 => by
        refine twith_any _ 41 p st.f key _ _ w3 (HN2 w3 (below_grown hb3 _)) hsz.1 hsz.2 (RowAt.keep hh3 (fun b h1 h2 => ⟨Or.inr ?_, rfl⟩)) hne2
        have := hg2.g.size
        omega
      have HC : Hid (Cells3 W2 k0 (.pointer p) (.int .i64 (st.count - 1)) (.int .i64 st.last) ∧ GrownT w W2 k0) := ⟨C2, hg2⟩
      have a0 := C2.c0
      have hone' : (((st.f key.data.toList).length : Int) == 1) = false := by simp; omega
      generalize (st.f key.data.toList).take r ++ (st.f key.data.toList).drop (r + 1) = hnew at *
      clear hh hh2 HN2 C2 hg2 hfne hW2 hb1 hne2
      generalize (st.f key.data.toList).length = m at *
      go_wp2_with fail
      rw [← HW2.out]
      go_region_with (first
        | (go_at_call 68; refine HW.out.mono ?_; rintro e w3 ⟨va, vl, vc, rfl, hh3, hb3⟩; have b0 := cellOn hb3 a0)
        | (go_at_call 67; refine (HT.out _ va vl vc hb3 hh3).mono ?_; rintro e w4 ⟨q, rfl, hb4, hN4⟩; have E4 := (HC.out.1.on hb3).on hb4; have r1 := E4.c0; have r2 := E4.fz 0))
      all_goals
        go_wp2
        go_ret
        rw [HR.out, HD.out]
        refine ⟨rfl, ?_, ?_⟩
        · refine storeAt_of (p := q) ?_ ?_ (grow_avoid HS.out.avoid hk0)
          · exact E4.set0 _
          · exact root_lift (by have := HC.out.2.g.size; have := hb3.size; omega) HS.out.avoid hk0 hN4 _ _
        · exact gt_set (gt_below (gt_below HC.out.2 hb3) hb4) _ _

end Go.Proofs.YtnapepbdohidgaaGreatDoor
