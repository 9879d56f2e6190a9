/- Store: isKey, isFull, find, Get, GetVersion. -/
import Derived.Test.YtnapepbdohidgaaGreatDoorSt
namespace Go.Proofs.YtnapepbdohidgaaGreatDoor
open Go.RowKit

def zeroV : Ver := ⟨0, ⟨#[]⟩, false⟩

set_option maxHeartbeats 400000 in
theorem isKey_any (key : ByteArray) (w : World) (h : key.size ≤ maxLen) : Calls Tryz.prog 59 #[.string key] w fun e w' => e = .returned (.bool (isKeyB key)) ∧ w = w' := by
  unfold maxLen at h
  by_cases h1 : 1 ≤ key.size
  · by_cases h2 : key.size ≤ 40
    · have e : isKeyB key = true := by simp [isKeyB, h1, h2]
      go_enter Tryz.func59, Tryz.ntmps59
      go_wp2
      go_ret
      exact ⟨by simp [e] <;> omega, rfl⟩
    · have e : isKeyB key = false := by simp [isKeyB, h2]
      go_enter Tryz.func59, Tryz.ntmps59
      go_wp2
      go_ret
      exact ⟨by simp [e] <;> omega, rfl⟩
  · go_enter Tryz.func59, Tryz.ntmps59
    go_wp2
    go_ret
    exact ⟨by simp [isKeyB] <;> omega, rfl⟩

def fullB (st : St) : Bool := decide (200 ≤ st.count)

set_option maxHeartbeats 400000 in
theorem isFull_any (k0 : Nat) (st : St) (w : World) (hc : w.cell? ⟨k0, 1, none⟩ = some (.int .i64 st.count)) (hl : w.cell? ⟨k0, 2, none⟩ = some (.int .i64 st.last)) (h0 : 0 ≤ st.last) (h1 : st.last ≤ 2199023255552) : Calls Tryz.prog 60 #[.pointer (some ⟨k0, 0, none⟩)] w fun e w' => e = .returned (.bool (fullB st)) ∧ w = w' := by
  have hne : (st.last == 9223372036854775807) = false := by simp; omega
  by_cases hf : 200 ≤ st.count
  · have e : fullB st = true := by simp [fullB, hf]
    have hd : decide (200 ≤ st.count) = true := by simp [hf]
    rw [e]
    go_enter Tryz.func60, Tryz.ntmps60
    go_wp2
    go_ret
    exact ⟨rfl, rfl⟩
  · have e : fullB st = false := by simp [fullB, hf]
    have hd : decide (200 ≤ st.count) = false := by simp [hf]
    rw [e]
    go_enter Tryz.func60, Tryz.ntmps60
    go_wp2
    go_ret
    exact ⟨rfl, rfl⟩

theorem isKey_size {key : ByteArray} (h : isKeyB key = true) : key.size < 41 ∧ key.size ≤ 1000 := by
  have := of_decide_eq_true h; omega

/-- What find answers where there is such a version. -/
def FindPost (A : Nat → Prop) (st : St) (key : ByteArray) (n : Int) (w : World) (e : Ending) (w' : World) : Prop :=
  Below w.heap.size w w' ∧
  ((isKeyB key = false ∧ e = .returned (.tuple #[.slice none 0 0, .int .i64 0, .int .i64 2])) ∨
   (isKeyB key = true ∧ placeOf (st.f key.data.toList) n = none ∧ e = .returned (.tuple #[.slice none 0 0, .int .i64 0, .int .i64 5])) ∨
   (isKeyB key = true ∧ ∃ (r : Nat) (ha : Option Addr) (hc : Nat), placeOf (st.f key.data.toList) n = some r ∧ r < (st.f key.data.toList).length ∧ HistAt A w' (.slice ha (st.f key.data.toList).length hc) (st.f key.data.toList) ∧
      e = .returned (.tuple #[.slice ha (st.f key.data.toList).length hc, .int .i64 r, .int .i64 0])))

set_option maxHeartbeats 1000000 in
theorem sfind_any (A : Nat → Prop) (k0 : Nat) (st : St) (s : Nat) (key : ByteArray) (n : Int) (w : World) (hk : key.size ≤ maxLen) (S : StoreAt A w k0 st) (hI : Inv st s) (hs : s ≤ 2199023255552) :
    Calls Tryz.prog 65 #[.pointer (some ⟨k0, 0, none⟩), .string key, .int .i64 n] w (FindPost A st key n w) := by
  obtain ⟨p, c0, hN⟩ := S.tree
  have HIK := isKey_any key w hk
  cases hkey : isKeyB key with
  | false =>
    rw [hkey] at HIK
    have HK : Hid (isKeyB key = false) := hkey
    clear hkey
    go_enter Tryz.func65, Tryz.ntmps65
    go_wp2_with (go_at_call 59; refine HIK.mono ?_; rintro e w' ⟨rfl, rfl⟩)
    go_ret3
    exact ⟨Below.refl _ _, Or.inl ⟨HK.out, rfl⟩⟩
  | true =>
    rw [hkey] at HIK
    have HK : Hid (isKeyB key = true) := hkey
    have hsz := isKey_size hkey
    clear hkey
    have HG := tget_any A 41 p st.f key w hsz.1 hk hN
    have hle := hI.len key.data.toList
    have hso := hI.sorted key.data.toList
    clear hN
    go_enter Tryz.func65, Tryz.ntmps65
    go_wp2_with (go_at_call 59; refine HIK.mono ?_; rintro e w' ⟨rfl, rfl⟩)
    refine HG.mono ?_
    rintro e w1 ⟨hv, rfl, hh, hb1⟩
    have HF := hfind_any A hv (st.f key.data.toList) n w1 hh hso (by omega)
    obtain ⟨ha, hc, rfl, -⟩ := id hh
    have HH : Hid (HistAt A w1 (.slice ha (st.f key.data.toList).length hc) (st.f key.data.toList) ∧ ∀ i j, i < j → j < (st.f key.data.toList).length → nums (st.f key.data.toList) i < nums (st.f key.data.toList) j) := ⟨hh, hso⟩
    clear hh hso HG
    go_wp2_with fail
    refine HF.mono ?_
    rintro e w2 ⟨r, hp, rfl, hb2⟩
    have hpl := place_of hp HH.out.2
    have HB : Hid (Below w.heap.size w w2) := hb1.trans (hb2.mono hb1.size)
    cases hat : isAtV (st.f key.data.toList) n r with
    | true =>
      rw [hat] at hpl
      have HP : Hid (placeOf (st.f key.data.toList) n = some r ∧ r < (st.f key.data.toList).length) := ⟨by simpa using hpl, (of_decide_eq_true hat).1⟩
      clear hpl hp HF hat
      go_wp2
      go_ret3
      exact ⟨HB.out, Or.inr (Or.inr ⟨HK.out, r, ha, hc, HP.out.1, HP.out.2, HH.out.1.on hb2, rfl⟩)⟩
    | false =>
      rw [hat] at hpl
      have HP : Hid (placeOf (st.f key.data.toList) n = none) := show placeOf (st.f key.data.toList) n = none by simpa using hpl
      clear hpl hp HF hat
      go_wp2
      go_ret3
      exact ⟨HB.out, Or.inr (Or.inl ⟨HK.out, HP.out, rfl⟩)⟩

theorem field_mark (nm : Int) (bd : ByteArray) (mk : Bool) (w : World) : (Instr.field 81 (.agg #[.int .i64 nm, .string bd, .bool mk]) 2).run Tryz.prog w = .ok (.bool mk) w := by kernel_rfl

/-- What Get answers. -/
def getV (st : St) (key : ByteArray) : Ver × Int :=
  if isKeyB key = false then (zeroV, 2)
  else match (st.f key.data.toList).getLast? with
    | none => (zeroV, 5)
    | some v => if v.mark then (zeroV, 5) else (v, 0)

set_option maxHeartbeats 1000000 in
set_option maxRecDepth 100000 in
theorem sget_any (A : Nat → Prop) (k0 : Nat) (st : St) (s : Nat) (key : ByteArray) (w : World) (hk : key.size ≤ maxLen) (S : StoreAt A w k0 st) (hI : Inv st s) (hs : s ≤ 2199023255552) :
    Calls Tryz.prog 36 #[.pointer (some ⟨k0, 0, none⟩), .string key] w fun e w' => e = .returned (.tuple #[verVal (getV st key).1, .int .i64 (getV st key).2]) ∧ Below w.heap.size w w' := by
  have B0 : Below w.heap.size w (w.alloc (.cells #[.int .i64 0, .string ⟨#[]⟩, .bool false] 81)) := (Below.refl _ w).alloc (Nat.le_refl _) _
  have S1 := S.on B0
  obtain ⟨p, c0, hN⟩ := S1.tree
  have HIK := isKey_any key (w.alloc (.cells #[.int .i64 0, .string ⟨#[]⟩, .bool false] 81)) hk
  have a0 : (w.alloc (.cells #[.int .i64 0, .string ⟨#[]⟩, .bool false] 81)).cell? ⟨w.heap.size, 0, none⟩ = some (.int .i64 0) := by rw [World.cell?_alloc_at (w := w) _ _ w.heap.size 0 rfl]; rfl
  have a1 : (w.alloc (.cells #[.int .i64 0, .string ⟨#[]⟩, .bool false] 81)).cell? ⟨w.heap.size, 1, none⟩ = some (.string ⟨#[]⟩) := by rw [World.cell?_alloc_at (w := w) _ _ w.heap.size 1 rfl]; rfl
  have a2 : (w.alloc (.cells #[.int .i64 0, .string ⟨#[]⟩, .bool false] 81)).cell? ⟨w.heap.size, 2, none⟩ = some (.bool false) := by rw [World.cell?_alloc_at (w := w) _ _ w.heap.size 2 rfl]; rfl
  have af : ∀ j, (w.alloc (.cells #[.int .i64 0, .string ⟨#[]⟩, .bool false] 81)).frozen? ⟨w.heap.size, j, none⟩ = false := fun j => World.frozen?_alloc_at (w := w) _ _ w.heap.size j rfl
  have HB0 : Hid (Below w.heap.size w (w.alloc (.cells #[.int .i64 0, .string ⟨#[]⟩, .bool false] 81))) := B0
  have alt : w.heap.size < (w.alloc (.cells #[.int .i64 0, .string ⟨#[]⟩, .bool false] 81)).heap.size := by simp
  clear B0 S S1
  cases hkey : isKeyB key with
  | false =>
    rw [hkey] at HIK
    have HR : Hid (getV st key = (zeroV, 2)) := show getV st key = (zeroV, 2) by simp [getV, hkey]
    clear hkey
    go_enter Tryz.func36, Tryz.ntmps36
    go_wp2_with (go_at_call 59; refine HIK.mono ?_; rintro e w' ⟨rfl, rfl⟩)
    refine bodyPost_ret (v := .tuple #[verVal (getV st key).1, .int .i64 (getV st key).2]) (by rw [HR.out]; simp [results, Tryz.results36, go_sem, verVal, zeroV]) rfl ⟨rfl, ?_⟩
    exact HB0.out
  | true =>
    rw [hkey] at HIK
    have hsz := isKey_size hkey
    have HK : Hid (isKeyB key = true) := hkey
    clear hkey
    have HG := tget_any A 41 p st.f key _ hsz.1 hk hN
    have hle := hI.len key.data.toList
    clear hN
    go_enter Tryz.func36, Tryz.ntmps36
    go_wp2_with (go_at_call 59; refine HIK.mono ?_; rintro e w' ⟨rfl, rfl⟩)
    refine HG.mono ?_
    generalize w.alloc (.cells #[.int .i64 0, .string ⟨#[]⟩, .bool false] 81) = W0 at *
    rintro e w1 ⟨hv, rfl, hh, hb1⟩
    have d0 := cellOn hb1 a0
    have d1 := cellOn hb1 a1
    have d2 := cellOn hb1 a2
    have g0 := (hb1.frozen (p := ⟨w.heap.size, 0, none⟩) alt).trans (af 0)
    have g1 := (hb1.frozen (p := ⟨w.heap.size, 1, none⟩) alt).trans (af 1)
    have g2 := (hb1.frozen (p := ⟨w.heap.size, 2, none⟩) alt).trans (af 2)
    have hb : Below w.heap.size w w1 := HB0.out.trans (hb1.mono HB0.out.size)
    have alt1 : w.heap.size < w1.heap.size := Nat.lt_of_lt_of_le alt hb1.size
    have HB : Hid (Below w.heap.size w w1) := hb
    clear hb hb1 a0 a1 a2 af alt HB0 HIK HG c0
    by_cases hnil : st.f key.data.toList = []
    · have HR : Hid (getV st key = (zeroV, 5)) := show getV st key = (zeroV, 5) by simp [getV, HK.out, hnil]
      have he : (st.f key.data.toList).isEmpty = true := by rw [hnil]; rfl
      clear hh hnil
      go_wp2
      refine bodyPost_ret (v := .tuple #[verVal (getV st key).1, .int .i64 (getV st key).2]) (by rw [HR.out]; simp [results, Tryz.results36, go_sem, verVal, zeroV, d0, d1, d2]) rfl ⟨rfl, ?_⟩
      exact ((HB.out.setCell (Nat.le_refl _) _).setCell (Nat.le_refl _) _).setCell (Nat.le_refl _) _
    · have HN : Hid (∀ wq : World, Below w1.heap.size w1 wq → Calls Tryz.prog 64 #[hv] wq fun e w' => e = .returned (verVal ((st.f key.data.toList).getLast hnil)) ∧ Below wq.heap.size wq w') := fun wq hq =>
        newest_any A hv _ wq (hh.on hq) hnil (by omega)
      have he : (st.f key.data.toList).isEmpty = false := by simp [hnil]
      obtain ⟨v, hv'⟩ : ∃ v, v = (st.f key.data.toList).getLast hnil := ⟨_, rfl⟩
      have hgl : (st.f key.data.toList).getLast? = some v := by rw [hv', List.getLast?_eq_some_getLast hnil]
      have HR : Hid (getV st key = if v.mark then (zeroV, 5) else (v, 0)) := show getV st key = _ by simp [getV, HK.out, hgl]
      rw [← hv'] at HN
      obtain ⟨nm, bd, mk⟩ := v
      obtain ⟨ha, hc, rfl, -⟩ := hh
      clear hnil hv' hgl
      have hfm := field_mark nm bd
      cases mk with
      | true =>
        go_wp2_with fail
        refine (HN.out w1 (Below.refl _ _)).mono ?_
        rintro e w2 ⟨rfl, hb2⟩
        have e0 := cellOn hb2 d0
        have e1 := cellOn hb2 d1
        have e2 := cellOn hb2 d2
        have f0 := (hb2.frozen (p := ⟨w.heap.size, 0, none⟩) alt1).trans g0
        have f1 := (hb2.frozen (p := ⟨w.heap.size, 1, none⟩) alt1).trans g1
        have f2 := (hb2.frozen (p := ⟨w.heap.size, 2, none⟩) alt1).trans g2
        simp only [verVal]
        go_wp2
        refine bodyPost_ret (v := .tuple #[verVal (getV st key).1, .int .i64 (getV st key).2]) (by rw [HR.out]; simp [results, Tryz.results36, go_sem, verVal, zeroV, e0, e1, e2]) rfl ⟨rfl, ?_⟩
        exact (((HB.out.trans (hb2.mono HB.out.size)).setCell (Nat.le_refl _) _).setCell (Nat.le_refl _) _).setCell (Nat.le_refl _) _
      | false =>
        go_wp2_with fail
        refine (HN.out w1 (Below.refl _ _)).mono ?_
        rintro e w2 ⟨rfl, hb2⟩
        simp only [verVal]
        go_wp2_with fail
        refine (HN.out w2 hb2).mono ?_
        rintro e w3 ⟨rfl, hb3⟩
        have hb4 : Below w1.heap.size w1 w3 := hb2.trans (hb3.mono hb2.size)
        have e0 := cellOn hb4 d0
        have e1 := cellOn hb4 d1
        have e2 := cellOn hb4 d2
        have f0 := (hb4.frozen (p := ⟨w.heap.size, 0, none⟩) alt1).trans g0
        have f1 := (hb4.frozen (p := ⟨w.heap.size, 1, none⟩) alt1).trans g1
        have f2 := (hb4.frozen (p := ⟨w.heap.size, 2, none⟩) alt1).trans g2
        have HB4 : Hid (Below w1.heap.size w1 w3) := hb4
        clear hb2 hb3 hb4 d0 d1 d2 g0 g1 g2
        simp only [verVal]
        go_wp2
        refine bodyPost_ret (v := .tuple #[verVal (getV st key).1, .int .i64 (getV st key).2]) (by rw [HR.out]; simp [results, Tryz.results36, go_sem, verVal, e0, e1, e2]) rfl ⟨rfl, ?_⟩
        exact (((HB.out.trans (HB4.out.mono HB.out.size)).setCell (Nat.le_refl _) _).setCell (Nat.le_refl _) _).setCell (Nat.le_refl _) _

end Go.Proofs.YtnapepbdohidgaaGreatDoor
