/- Store: Put, Drop. -/
import Derived.Test.YtnapepbdohidgaaGreatDoorStore3
namespace Go.Proofs.YtnapepbdohidgaaGreatDoor
open Go.RowKit

theorem grow_sub {A : Nat → Prop} {w w1 : World} (h : w.heap.size ≤ w1.heap.size) : ∀ b, Grow A w1 b → Grow A w b := by
  rintro b (⟨h1, h2⟩ | h1)
  · by_cases hlt : b < w.heap.size
    · exact Or.inl ⟨h1, hlt⟩
    · exact Or.inr (by omega)
  · exact Or.inr (by omega)
theorem StoreAt.mono {A A' : Nat → Prop} {w : World} {k0 : Nat} {st : St} (S : StoreAt A w k0 st) (h : ∀ b, A b → A' b) (ha : ∀ b, A' b → b ≠ k0) : StoreAt A' w k0 st := by
  obtain ⟨p, c0, hN⟩ := S.tree
  exact ⟨ha, ⟨p, c0, NodeAt.keep (fun b h1 _ => ⟨h b h1, rfl⟩) _ _ _ hN⟩, S.count, S.last, S.frozen⟩

/-- What a step on the store leaves. -/
def StepPost (A : Nat → Prop) (w : World) (k0 : Nat) (st' : St) (v : Value) (e : Ending) (w' : World) : Prop :=
  e = .returned v ∧ StoreAt (Grow A w) w' k0 st' ∧ GrownT w w' k0

theorem stepPost_same {A : Nat → Prop} {w w' : World} {k0 : Nat} {st : St} {v : Value} (S : StoreAt A w k0 st) (hb : Below w.heap.size w w') : StepPost A w k0 st v (.returned v) w' :=
  ⟨rfl, S.grow.on hb, gt_of_below S.lt hb⟩

def putR (st : St) (key body : ByteArray) : St × Int × Int :=
  if isKeyB key = false then (st, 0, 2) else if 100 < body.size then (st, 0, 3) else if fullB st then (st, 0, 4) else (addSt st key body false, st.last + 1, 0)
def dropR (st : St) (key : ByteArray) : St × Int × Int :=
  if isKeyB key = false then (st, 0, 2) else if fullB st then (st, 0, 4) else (addSt st key ⟨#[]⟩ true, st.last + 1, 0)

set_option maxHeartbeats 1000000 in
theorem sput_any (A : Nat → Prop) (k0 : Nat) (st : St) (s : Nat) (key body : ByteArray) (w : World) (hk : key.size ≤ maxLen) (hbd : body.size ≤ maxLen) (S : StoreAt A w k0 st) (hI : Inv st s) (hs : s < 2199023255552) :
    Calls Tryz.prog 35 #[.pointer (some ⟨k0, 0, none⟩), .string key, .string body] w (StepPost A w k0 (putR st key body).1 (.tuple #[.int .i64 (putR st key body).2.1, .int .i64 (putR st key body).2.2])) := by
  have HIK := isKey_any key w hk
  have HS : Hid (StoreAt A w k0 st) := S
  unfold maxLen at hbd
  cases hkey : isKeyB key with
  | false =>
    rw [hkey] at HIK
    have e : putR st key body = (st, 0, 2) := by simp [putR, hkey]
    rw [e]
    clear hkey S e
    go_enter Tryz.func35, Tryz.ntmps35
    go_wp2_with (go_at_call 59; refine HIK.mono ?_; rintro e w' ⟨rfl, rfl⟩)
    go_ret2
    exact stepPost_same HS.out (Below.refl _ _)
  | true =>
    rw [hkey] at HIK
    have hsz := isKey_size hkey
    by_cases h100 : 100 < body.size
    · have e : putR st key body = (st, 0, 3) := by simp [putR, hkey, h100]
      rw [e]
      clear hkey S e
      go_enter Tryz.func35, Tryz.ntmps35
      go_wp2_with (go_at_call 59; refine HIK.mono ?_; rintro e w' ⟨rfl, rfl⟩)
      go_ret2
      exact stepPost_same HS.out (Below.refl _ _)
    · have HIF := isFull_any k0 st w S.count S.last hI.last0 (by have := hI.lastS; omega)
      cases hfull : fullB st with
      | true =>
        rw [hfull] at HIF
        have e : putR st key body = (st, 0, 4) := by simp [putR, hkey, h100, hfull]
        rw [e]
        clear hkey S e hfull
        go_enter Tryz.func35, Tryz.ntmps35
        go_wp2_with (first | (go_at_call 59; refine HIK.mono ?_; rintro e w' ⟨rfl, rfl⟩) | (go_at_call 60; refine HIF.mono ?_; rintro e w' ⟨rfl, rfl⟩))
        go_ret2
        exact stepPost_same HS.out (Below.refl _ _)
      | false =>
        rw [hfull] at HIF
        have e : putR st key body = (addSt st key body false, st.last + 1, 0) := by simp [putR, hkey, h100, hfull]
        rw [e]
        clear hkey S e hfull
        go_enter Tryz.func35, Tryz.ntmps35
        go_wp2_with (first | (go_at_call 59; refine HIK.mono ?_; rintro e w' ⟨rfl, rfl⟩) | (go_at_call 60; refine HIF.mono ?_; rintro e w' ⟨rfl, rfl⟩))
        refine (sclone_any body w (by omega)).mono ?_
        rintro e w1 ⟨rfl, hb1⟩
        have HA := sadd_any A k0 st s key 0 body false w1 hsz.1 (HS.out.on hb1) hI hs
        go_wp2_with (go_at_call 61; refine HA.mono ?_; rintro e w2 ⟨rfl, S2, hg2⟩)
        go_ret2
        exact ⟨rfl, S2.mono (grow_sub hb1.size) (grow_avoid HS.out.avoid HS.out.lt), gt_trans (gt_of_below HS.out.lt hb1) hg2⟩

set_option maxHeartbeats 1000000 in
theorem sdrop_any (A : Nat → Prop) (k0 : Nat) (st : St) (s : Nat) (key : ByteArray) (w : World) (hk : key.size ≤ maxLen) (S : StoreAt A w k0 st) (hI : Inv st s) (hs : s < 2199023255552) :
    Calls Tryz.prog 38 #[.pointer (some ⟨k0, 0, none⟩), .string key] w (StepPost A w k0 (dropR st key).1 (.tuple #[.int .i64 (dropR st key).2.1, .int .i64 (dropR st key).2.2])) := by
  have HIK := isKey_any key w hk
  have HS : Hid (StoreAt A w k0 st) := S
  cases hkey : isKeyB key with
  | false =>
    rw [hkey] at HIK
    have e : dropR st key = (st, 0, 2) := by simp [dropR, hkey]
    rw [e]
    clear hkey S e
    go_enter Tryz.func38, Tryz.ntmps38
    go_wp2_with (go_at_call 59; refine HIK.mono ?_; rintro e w' ⟨rfl, rfl⟩)
    go_ret2
    exact stepPost_same HS.out (Below.refl _ _)
  | true =>
    rw [hkey] at HIK
    have hsz := isKey_size hkey
    have HIF := isFull_any k0 st w S.count S.last hI.last0 (by have := hI.lastS; omega)
    cases hfull : fullB st with
    | true =>
      rw [hfull] at HIF
      have e : dropR st key = (st, 0, 4) := by simp [dropR, hkey, hfull]
      rw [e]
      clear hkey S e hfull
      go_enter Tryz.func38, Tryz.ntmps38
      go_wp2_with (first | (go_at_call 59; refine HIK.mono ?_; rintro e w' ⟨rfl, rfl⟩) | (go_at_call 60; refine HIF.mono ?_; rintro e w' ⟨rfl, rfl⟩))
      go_ret2
      exact stepPost_same HS.out (Below.refl _ _)
    | false =>
      rw [hfull] at HIF
      have e : dropR st key = (addSt st key ⟨#[]⟩ true, st.last + 1, 0) := by simp [dropR, hkey, hfull]
      rw [e]
      clear hkey S e hfull
      have HA := sadd_any A k0 st s key 0 ⟨#[]⟩ true w hsz.1 HS.out hI hs
      go_enter Tryz.func38, Tryz.ntmps38
      go_wp2_with (first | (go_at_call 59; refine HIK.mono ?_; rintro e w' ⟨rfl, rfl⟩) | (go_at_call 60; refine HIF.mono ?_; rintro e w' ⟨rfl, rfl⟩) | (go_at_call 61; refine HA.mono ?_; rintro e w2 ⟨rfl, S2, hg2⟩))
      go_ret2
      exact ⟨rfl, S2, hg2⟩

end Go.Proofs.YtnapepbdohidgaaGreatDoor
