/- Tree.With, Tree.Without. -/
import Derived.Test.YtnapepbdohidgaaGreatDoorWith2
import Derived.Test.YtnapepbdohidgaaGreatDoorWout2
namespace Go.Proofs.YtnapepbdohidgaaGreatDoor
open Go.RowKit

/-- A tree that was made behind two new blocks, carried over a store into one of them. -/
theorem node_lift {A : Nat → Prop} {w w2 w3 : World} {n : Nat} {p : Option Addr} {F : List UInt8 → List Ver} (_hw2 : w.heap.size ≤ w2.heap.size) (h : NodeAt (Grow (fun b => A b ∧ b < w.heap.size) w2) n w3 p F) (b1 o : Nat) (v : Value) (h1 : w.heap.size ≤ b1) (h2 : b1 < w2.heap.size) :
    NodeAt (Grow A w) n (w3.setCell ⟨b1, o, none⟩ v) p F := by
  refine NodeAt.keep (fun b hb _ => ?_) n p F h
  rcases hb with ⟨⟨hA, hlt⟩, _⟩ | hge
  · exact ⟨Or.inl ⟨hA, hlt⟩, Below.heap_setCell _ _ _ _ (by show b ≠ b1; omega)⟩
  · exact ⟨Or.inr (by omega), Below.heap_setCell _ _ _ _ (by show b ≠ b1; omega)⟩

set_option maxHeartbeats 1000000 in
theorem twith_any (A : Nat → Prop) (n : Nat) (p : Option Addr) (f : List UInt8 → List Ver) (key : ByteArray) (hv : Value) (h : List Ver) (w : World) (hN : NodeAt A n w p f) (hk : key.size < n) (hk2 : key.size ≤ 1000) (hh : HistAt A w hv h) (hne : h ≠ []) :
    Calls Tryz.prog 67 #[.agg #[.pointer p], .string key, hv] w fun e w' => ∃ q, e = .returned (.agg #[.pointer q]) ∧ Below w.heap.size w w' ∧ NodeAt (Grow A w) n w' q (upd f key.data.toList h) := by
  have hcall : ∀ w2 : World, Below w.heap.size w w2 → Calls Tryz.prog 94 #[.pointer p, .string key, hv] w2 fun e w' => ∃ g, e = .returned (.pointer (some ⟨g, 0, none⟩)) ∧ Below w2.heap.size w2 w' ∧ NodeAt (Grow (fun b => A b ∧ b < w.heap.size) w2) n w' (some ⟨g, 0, none⟩) (upd f key.data.toList h) := fun w2 hb =>
    nwith_any n _ p f key hv h w2 (NodeAt.keep (fun b h1 h2 => ⟨⟨h1, h2⟩, hb.block b h2⟩) n p f hN) hk hk2 (RowAt.keep hh (fun b h1 h2 => ⟨⟨h1, h2⟩, hb.block b h2⟩)) hne
  have HC : Hid (∀ w2 : World, Below w.heap.size w w2 → Calls Tryz.prog 94 #[.pointer p, .string key, hv] w2 fun e w' => ∃ g, e = .returned (.pointer (some ⟨g, 0, none⟩)) ∧ Below w2.heap.size w2 w' ∧ NodeAt (Grow (fun b => A b ∧ b < w.heap.size) w2) n w' (some ⟨g, 0, none⟩) (upd f key.data.toList h)) := hcall
  obtain ⟨ha, hc, rfl, -⟩ := hh
  clear hcall hN
  go_enter Tryz.func67, Tryz.ntmps67
  go_wp2_with fail
  have hb0 : Below w.heap.size w ((w.alloc (.cells #[.pointer p] 56)).alloc (.cells #[.pointer none] 56)) := ((Below.refl _ w).alloc (Nat.le_refl _) _).alloc (by simp) _
  have q0 : ((w.alloc (.cells #[.pointer p] 56)).alloc (.cells #[.pointer none] 56)).cell? ⟨w.heap.size + 1, 0, none⟩ = some (.pointer none) := by rw [World.cell?_alloc_at (w := w.alloc (.cells #[.pointer p] 56)) _ _ (w.heap.size + 1) 0 (by simp)]; rfl
  have q1 : ((w.alloc (.cells #[.pointer p] 56)).alloc (.cells #[.pointer none] 56)).frozen? ⟨w.heap.size + 1, 0, none⟩ = false := World.frozen?_alloc_at (w := w.alloc (.cells #[.pointer p] 56)) _ _ (w.heap.size + 1) 0 (by simp)
  have q2 : w.heap.size + 1 < ((w.alloc (.cells #[.pointer p] 56)).alloc (.cells #[.pointer none] 56)).heap.size := by simp
  have HB0 : Hid (Below w.heap.size w ((w.alloc (.cells #[.pointer p] 56)).alloc (.cells #[.pointer none] 56))) := hb0
  refine (HC.out _ hb0).mono ?_
  generalize (w.alloc (.cells #[.pointer p] 56)).alloc (.cells #[.pointer none] 56) = W2 at *
  rintro e w3 ⟨g, rfl, hb3, hN3⟩
  have q3 := cellOn hb3 q0
  have q4 := (hb3.frozen (p := ⟨w.heap.size + 1, 0, none⟩) q2).trans q1
  have HF : Hid (Below w.heap.size w (w3.setCell ⟨w.heap.size + 1, 0, none⟩ (.pointer (some ⟨g, 0, none⟩))) ∧ NodeAt (Grow A w) n (w3.setCell ⟨w.heap.size + 1, 0, none⟩ (.pointer (some ⟨g, 0, none⟩))) (some ⟨g, 0, none⟩) (upd f key.data.toList h)) :=
    ⟨(hb0.trans (hb3.mono hb0.size)).setCell (by show w.heap.size ≤ w.heap.size + 1; omega) _, node_lift hb0.size hN3 (w.heap.size + 1) 0 _ (by omega) q2⟩
  clear hb0 q0 q1 hb3 hN3 HC
  go_wp2
  exact bodyPost_ret (v := .agg #[.pointer (some ⟨g, 0, none⟩)]) (by simp [results, Tryz.results67, go_sem, q3]) rfl ⟨_, rfl, HF.out⟩

set_option maxHeartbeats 1000000 in
theorem twithout_any (A : Nat → Prop) (n : Nat) (p : Option Addr) (f : List UInt8 → List Ver) (key : ByteArray) (w : World) (hN : NodeAt A n w p f) (hk : key.size < n) (hk2 : key.size ≤ 1000) (hf : f key.data.toList ≠ []) :
    Calls Tryz.prog 66 #[.agg #[.pointer p], .string key] w fun e w' => ∃ q, e = .returned (.agg #[.pointer q]) ∧ Below w.heap.size w w' ∧ NodeAt (Grow A w) n w' q (upd f key.data.toList []) := by
  have hcall : ∀ w2 : World, Below w.heap.size w w2 → Calls Tryz.prog 93 #[.pointer p, .string key] w2 fun e w' => ∃ q, e = .returned (.pointer q) ∧ Below w2.heap.size w2 w' ∧ NodeAt (Grow (fun b => A b ∧ b < w.heap.size) w2) n w' q (upd f key.data.toList []) := fun w2 hb =>
    nwithout_any n _ p f key w2 (NodeAt.keep (fun b h1 h2 => ⟨⟨h1, h2⟩, hb.block b h2⟩) n p f hN) hk hk2 hf
  have hget : ∀ w2 : World, Below w.heap.size w w2 → Calls Tryz.prog 63 #[.agg #[.pointer p], .string key] w2 fun e w' => ∃ hv, e = .returned (.tuple #[hv, .bool true]) ∧ Below w2.heap.size w2 w' := fun w2 hb => by
    refine (tget_any A n p f key w2 hk (by simp only [maxLen]; omega) (NodeAt.keep (fun b h1 h2 => ⟨h1, hb.block b h2⟩) n p f hN)).mono ?_
    rintro e w' ⟨hv, rfl, _, hb'⟩
    refine ⟨hv, ?_, hb'⟩
    cases hc : f key.data.toList with
    | nil => exact absurd hc hf
    | cons a l => rfl
  have HC : Hid (∀ w2 : World, Below w.heap.size w w2 → Calls Tryz.prog 93 #[.pointer p, .string key] w2 fun e w' => ∃ q, e = .returned (.pointer q) ∧ Below w2.heap.size w2 w' ∧ NodeAt (Grow (fun b => A b ∧ b < w.heap.size) w2) n w' q (upd f key.data.toList [])) := hcall
  have HG : Hid (∀ w2 : World, Below w.heap.size w w2 → Calls Tryz.prog 63 #[.agg #[.pointer p], .string key] w2 fun e w' => ∃ hv, e = .returned (.tuple #[hv, .bool true]) ∧ Below w2.heap.size w2 w') := hget
  clear hcall hN hget hf
  go_enter Tryz.func66, Tryz.ntmps66
  go_wp2_with fail
  have hb0 : Below w.heap.size w ((w.alloc (.cells #[.pointer p] 56)).alloc (.cells #[.pointer none] 56)) := ((Below.refl _ w).alloc (Nat.le_refl _) _).alloc (by simp) _
  have q0 : ((w.alloc (.cells #[.pointer p] 56)).alloc (.cells #[.pointer none] 56)).cell? ⟨w.heap.size + 1, 0, none⟩ = some (.pointer none) := by rw [World.cell?_alloc_at (w := w.alloc (.cells #[.pointer p] 56)) _ _ (w.heap.size + 1) 0 (by simp)]; rfl
  have q1 : ((w.alloc (.cells #[.pointer p] 56)).alloc (.cells #[.pointer none] 56)).frozen? ⟨w.heap.size + 1, 0, none⟩ = false := World.frozen?_alloc_at (w := w.alloc (.cells #[.pointer p] 56)) _ _ (w.heap.size + 1) 0 (by simp)
  have q2 : w.heap.size + 1 < ((w.alloc (.cells #[.pointer p] 56)).alloc (.cells #[.pointer none] 56)).heap.size := by simp
  have q5 : ((w.alloc (.cells #[.pointer p] 56)).alloc (.cells #[.pointer none] 56)).cell? ⟨w.heap.size, 0, none⟩ = some (.pointer p) := by
    rw [World.cell?_alloc_past (w := w.alloc (.cells #[.pointer p] 56)) _ w.heap.size 0 (by simp), World.cell?_alloc_at (w := w) _ _ w.heap.size 0 rfl]; rfl
  refine (HG.out _ hb0).mono ?_
  generalize (w.alloc (.cells #[.pointer p] 56)).alloc (.cells #[.pointer none] 56) = W1 at *
  rintro e W2 ⟨hv, rfl, hbg⟩
  have hb2 : Below w.heap.size w W2 := hb0.trans (hbg.mono hb0.size)
  have r0 := cellOn hbg q0
  have r1 := (hbg.frozen (p := ⟨w.heap.size + 1, 0, none⟩) q2).trans q1
  have r2 : w.heap.size + 1 < W2.heap.size := Nat.lt_of_lt_of_le q2 hbg.size
  have r5 := cellOn hbg q5
  have HB2 : Hid (Below w.heap.size w W2) := hb2
  clear hb0 q0 q1 q2 q5 hbg HG hb2
  go_wp2_with fail
  refine (HC.out W2 HB2.out).mono ?_
  rintro e w3 ⟨q, rfl, hb3, hN3⟩
  have q3 := cellOn hb3 r0
  have q4 := (hb3.frozen (p := ⟨w.heap.size + 1, 0, none⟩) r2).trans r1
  have HF : Hid (Below w.heap.size w (w3.setCell ⟨w.heap.size + 1, 0, none⟩ (.pointer q)) ∧ NodeAt (Grow A w) n (w3.setCell ⟨w.heap.size + 1, 0, none⟩ (.pointer q)) q (upd f key.data.toList [])) :=
    ⟨(HB2.out.trans (hb3.mono HB2.out.size)).setCell (by show w.heap.size ≤ w.heap.size + 1; omega) _, node_lift HB2.out.size hN3 (w.heap.size + 1) 0 _ (by omega) r2⟩
  clear r0 r1 hb3 hN3 HC
  go_wp2
  exact bodyPost_ret (v := .agg #[.pointer q]) (by simp [results, Tryz.results66, go_sem, q3]) rfl ⟨_, rfl, HF.out⟩

end Go.Proofs.YtnapepbdohidgaaGreatDoor
