/- Store: GetVersion. -/
import Derived.Test.YtnapepbdohidgaaGreatDoorStore1
namespace Go.Proofs.YtnapepbdohidgaaGreatDoor
open Go.RowKit

/-- What GetVersion answers. -/
def getVV (st : St) (key : ByteArray) (n : Int) : Ver × Int :=
  if isKeyB key = false then (zeroV, 2)
  else match placeOf (st.f key.data.toList) n with
    | none => (zeroV, 5)
    | some r => match (st.f key.data.toList)[r]? with
      | none => (zeroV, 5)
      | some v => if v.mark then (zeroV, 6) else (v, 0)

/-- The block of a result that is a version. -/
structure ResV (w W0 : World) : Prop where
  below : Below w.heap.size w W0
  c0 : W0.cell? ⟨w.heap.size, 0, none⟩ = some (.int .i64 0)
  c1 : W0.cell? ⟨w.heap.size, 1, none⟩ = some (.string ⟨#[]⟩)
  c2 : W0.cell? ⟨w.heap.size, 2, none⟩ = some (.bool false)
  fz : ∀ j, W0.frozen? ⟨w.heap.size, j, none⟩ = false
theorem resV (w : World) : ResV w (w.alloc (.cells #[.int .i64 0, .string ⟨#[]⟩, .bool false] 81)) :=
  ⟨(Below.refl _ w).alloc (Nat.le_refl _) _, by rw [World.cell?_alloc_at (w := w) _ _ w.heap.size 0 rfl]; rfl, by rw [World.cell?_alloc_at (w := w) _ _ w.heap.size 1 rfl]; rfl, by rw [World.cell?_alloc_at (w := w) _ _ w.heap.size 2 rfl]; rfl, fun j => World.frozen?_alloc_at (w := w) _ _ w.heap.size j rfl⟩
theorem ResV.on {w W0 w1 : World} (h : ResV w W0) (hb : Below W0.heap.size W0 w1) : ResV w w1 :=
  ⟨h.below.trans (hb.mono h.below.size), cellOn hb h.c0, cellOn hb h.c1, cellOn hb h.c2, fun j => (hb.frozen (p := ⟨w.heap.size, j, none⟩) (show w.heap.size < W0.heap.size from World.block_lt_of_cell? W0 ⟨w.heap.size, 0, none⟩ h.c0)).trans (h.fz j)⟩

set_option maxHeartbeats 1000000 in
set_option maxRecDepth 100000 in
theorem sgetv_any (A : Nat → Prop) (k0 : Nat) (st : St) (s : Nat) (key : ByteArray) (n : Int) (w : World) (hk : key.size ≤ maxLen) (S : StoreAt A w k0 st) (hI : Inv st s) (hs : s ≤ 2199023255552) :
    Calls Tryz.prog 37 #[.pointer (some ⟨k0, 0, none⟩), .string key, .int .i64 n] w fun e w' => e = .returned (.tuple #[verVal (getVV st key n).1, .int .i64 (getVV st key n).2]) ∧ Below w.heap.size w w' := by
  have R0 := resV w
  have HF := sfind_any A k0 st s key n _ hk (S.on R0.below) hI hs
  have HR0 : Hid (ResV w (w.alloc (.cells #[.int .i64 0, .string ⟨#[]⟩, .bool false] 81))) := R0
  have hle := hI.len key.data.toList
  clear R0 S
  go_enter Tryz.func37, Tryz.ntmps37
  go_wp2_with fail
  refine HF.mono ?_
  generalize w.alloc (.cells #[.int .i64 0, .string ⟨#[]⟩, .bool false] 81) = W0 at *
  rintro e w1 ⟨hb1, hcase⟩
  have R1 := HR0.out.on hb1
  have d0 := R1.c0
  have d1 := R1.c1
  have d2 := R1.c2
  have g0 := R1.fz 0
  have g1 := R1.fz 1
  have g2 := R1.fz 2
  have HB : Hid (Below w.heap.size w w1) := R1.below
  clear R1 HR0 HF hb1
  rcases hcase with ⟨hkey, rfl⟩ | ⟨hkey, hpl, rfl⟩ | ⟨hkey, r, ha, hc, hpl, hr, hh, rfl⟩
  · have HR : Hid (getVV st key n = (zeroV, 2)) := show getVV st key n = (zeroV, 2) by simp [getVV, hkey]
    clear hkey
    go_wp2
    refine bodyPost_ret (v := .tuple #[verVal (getVV st key n).1, .int .i64 (getVV st key n).2]) (by rw [HR.out]; simp [results, Tryz.results37, go_sem, verVal, zeroV, d0, d1, d2]) rfl ⟨rfl, ?_⟩
    exact ((HB.out.setCell (Nat.le_refl _) _).setCell (Nat.le_refl _) _).setCell (Nat.le_refl _) _
  · have HR : Hid (getVV st key n = (zeroV, 5)) := show getVV st key n = (zeroV, 5) by simp [getVV, hkey, hpl]
    clear hkey hpl
    go_wp2
    refine bodyPost_ret (v := .tuple #[verVal (getVV st key n).1, .int .i64 (getVV st key n).2]) (by rw [HR.out]; simp [results, Tryz.results37, go_sem, verVal, zeroV, d0, d1, d2]) rfl ⟨rfl, ?_⟩
    exact ((HB.out.setCell (Nat.le_refl _) _).setCell (Nat.le_refl _) _).setCell (Nat.le_refl _) _
  · have hne : st.f key.data.toList ≠ [] := by intro e; rw [e] at hr; simp at hr
    obtain ⟨g, cap, he, -, -, hcc, -⟩ := hh.cells hne
    cases he
    obtain ⟨x0, x1, x2⟩ := hcc r hr
    have HR : Hid (getVV st key n = if (st.f key.data.toList)[r].mark then (zeroV, 6) else ((st.f key.data.toList)[r], 0)) := show getVV st key n = _ by simp [getVV, hkey, hpl, hr]
    generalize (st.f key.data.toList)[r] = v at *
    obtain ⟨nm, bd, mk⟩ := v
    simp only at x0 x1 x2
    clear hcc hh hkey hpl hne
    generalize (st.f key.data.toList).length = m at *
    have hri : (r : Int) < (m : Int) := by omega
    cases mk with
    | true =>
      go_wp2
      refine bodyPost_ret (v := .tuple #[verVal (getVV st key n).1, .int .i64 (getVV st key n).2]) (by rw [HR.out]; simp [results, Tryz.results37, go_sem, verVal, zeroV, d0, d1, d2]) rfl ⟨rfl, ?_⟩
      exact ((HB.out.setCell (Nat.le_refl _) _).setCell (Nat.le_refl _) _).setCell (Nat.le_refl _) _
    | false =>
      go_wp2
      refine bodyPost_ret (v := .tuple #[verVal (getVV st key n).1, .int .i64 (getVV st key n).2]) (by rw [HR.out]; simp [results, Tryz.results37, go_sem, verVal, d0, d1, d2]) rfl ⟨rfl, ?_⟩
      exact ((HB.out.setCell (Nat.le_refl _) _).setCell (Nat.le_refl _) _).setCell (Nat.le_refl _) _

end Go.Proofs.YtnapepbdohidgaaGreatDoor
