/- Tree.Get, and the way that a text leads. -/
import Derived.Test.YtnapepbdohidgaaGreatDoorNodeRd
namespace Go.Proofs.YtnapepbdohidgaaGreatDoor
open Go.RowKit

theorem take_snoc (s : ByteArray) (k : Nat) (h : k < s.size) : s.data.toList.take (k + 1) = s.data.toList.take k ++ [s[k]] := by
  rw [List.take_succ_eq_append_getElem (by simpa using h)]; rfl

theorem hist_nil (A : Nat → Prop) (w : World) : HistAt A w (.slice none 0 0) [] := ⟨none, 0, rfl, fun _ => rfl, fun h => absurd rfl h⟩

set_option maxHeartbeats 400000 in
theorem follow_any (A : Nat → Prop) (n : Nat) (p : Option Addr) (f : List UInt8 → List Ver) (key : ByteArray) (w : World) (h63 : key.size ≤ maxLen) (h : NodeAt A n w p f) :
    Calls Tryz.prog 91 #[.pointer p, .string key] w fun e w' => ∃ q, e = .returned (.pointer q) ∧ NodeAt A (n - key.size) w' q (fun x => f (key.data.toList ++ x)) ∧ Below w.heap.size w w' := by
  unfold maxLen at h63
  have H : Hid (NodeAt A n w p f) := h
  clear h
  go_enter Tryz.func91, Tryz.ntmps91
  go_wp2
  go_loopw [0, 5] (fun q i wr => ∃ (k : Nat) (qa : Option Addr), k ≤ key.size ∧ q = .pointer qa ∧ i = .int .i64 k ∧ NodeAt A (n - k) wr qa (fun x => f (key.data.toList.take k ++ x)) ∧ Below w.heap.size w wr) (fun _ i _ => key.size - (intOf i).toNat)
  case atStart => exact ⟨0, p, Nat.zero_le _, rfl, rfl, by simpa using H.out, Below.refl _ _⟩
  case round =>
    obtain ⟨k, qa, hk, rfl, rfl, hq, hb⟩ := hrel
    cases qa with
    | none =>
      have hnil : ∀ x, f (key.data.toList ++ x) = [] := fun x => by
        have := hq.of_nil (key.data.toList.drop k ++ x)
        rwa [← List.append_assoc, List.take_append_drop] at this
      have HN : Hid (∀ x, f (key.data.toList ++ x) = []) := hnil
      clear hnil hq
      go_wp2
      go_ret
      exact ⟨none, rfl, NodeAt.nil HN.out, hb⟩
    | some a =>
      by_cases hlt : k < key.size
      · obtain ⟨m, hm⟩ : ∃ m, n - k = m + 1 := by
          cases hnk : n - k with
          | zero => rw [hnk] at hq; exact absurd hq.1 (by simp)
          | succ m => exact ⟨m, rfl⟩
        rw [hm] at hq
        have HM : Hid (n - k = m + 1) := hm
        clear hm
        have hch := child_any A m a _ key[k] wr hq
        clear hq
        go_wp2_with (go_at_call 111; refine hch.mono ?_; rintro e w' ⟨q, rfl, hq', hb'⟩)
        refine ⟨⟨k + 1, q, by omega, rfl, by go_num, ?_, hb.trans (hb'.mono hb.size)⟩, by simp [intOf]; omega⟩
        have e : n - (k + 1) = m := by have := HM.out; omega
        rw [e, take_snoc key k hlt]
        simpa using hq'.on hb'
      · have hke : key.data.toList.take k = key.data.toList := by
          rw [List.take_of_length_le]
          have : key.data.toList.length = key.size := by simp
          omega
        have hkk : k = key.size := by omega
        rw [hke, hkk] at hq
        have HQ : Hid (NodeAt A (n - key.size) wr (some a) (fun x => f (key.data.toList ++ x))) := hq
        clear hq hke hkk
        go_wp2
        go_ret
        exact ⟨some a, rfl, HQ.out, hb⟩

set_option maxHeartbeats 400000 in
theorem tget_any (A : Nat → Prop) (n : Nat) (p : Option Addr) (f : List UInt8 → List Ver) (key : ByteArray) (w : World) (hn : key.size < n) (h63 : key.size ≤ maxLen) (h : NodeAt A n w p f) :
    Calls Tryz.prog 63 #[.agg #[.pointer p], .string key] w fun e w' => ∃ hv, e = .returned (.tuple #[hv, .bool (!(f key.data.toList).isEmpty)]) ∧ HistAt A w' hv (f key.data.toList) ∧ Below w.heap.size w w' := by
  have hfo := fun w' (h' : NodeAt A n w' p f) => follow_any A n p f key w' h63 h'
  have H : Hid (NodeAt A n w p f) := h
  clear h
  go_enter Tryz.func63, Tryz.ntmps63
  go_wp2_with fail
  refine (hfo _ (H.out.on ((Below.refl _ _).alloc (Nat.le_refl _) _))).mono ?_
  rintro e w1 ⟨q, rfl, hq, hb1⟩
  have hb : Below w.heap.size w w1 := ((Below.refl _ w).alloc (Nat.le_refl _) _).trans (hb1.mono (by simp))
  cases q with
  | none =>
    have hnil : f key.data.toList = [] := by
      have := hq.of_nil []
      simpa using this
    have HN : Hid (f key.data.toList = [] ∧ Below w.heap.size w w1) := ⟨hnil, hb⟩
    clear hnil hq hb hb1
    go_wp2
    go_ret2
    refine ⟨.slice none 0 0, ?_, ?_, HN.out.2⟩
    · rw [HN.out.1]; rfl
    · rw [HN.out.1]; exact hist_nil A _
  | some a =>
    obtain ⟨m, hm⟩ : ∃ m, n - key.size = m + 1 := ⟨n - key.size - 1, by omega⟩
    rw [hm] at hq
    rcases hq with hq | ⟨g, hv, kv, ks, hp, hA, c0, c1, c2, hh, hks, hs, hch, hno⟩
    · cases hq.1
    · cases hp
      simp only [List.append_nil] at c0 hh
      clear hch hno hs hks hm
      cases he : (f key.data.toList).isEmpty with
      | true =>
        rw [he] at c0
        have HE : Hid ((f key.data.toList).isEmpty = true ∧ Below w.heap.size w w1) := ⟨he, hb⟩
        clear he hb hb1
        go_wp2
        go_ret2
        have hnil := List.isEmpty_iff.1 HE.out.1
        refine ⟨.slice none 0 0, ?_, ?_, HE.out.2⟩
        · rw [HE.out.1]; rfl
        · rw [hnil]; exact hist_nil A _
      | false =>
        rw [he] at c0
        have HE : Hid ((f key.data.toList).isEmpty = false ∧ Below w.heap.size w w1) := ⟨he, hb⟩
        clear he hb hb1
        go_wp2
        go_ret2
        refine ⟨hv, ?_, hh, HE.out.2⟩
        rw [HE.out.1]; rfl

end Go.Proofs.YtnapepbdohidgaaGreatDoor
