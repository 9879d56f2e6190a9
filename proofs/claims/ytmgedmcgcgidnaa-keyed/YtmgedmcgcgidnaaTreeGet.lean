/- Tree.Get. -/
import Derived.Test.YtmgedmcgcgidnaaNodeRd
namespace Go.Proofs.Ytmgedmcgcgidnaa
open Go.RowKit

theorem take_snoc (s : ByteArray) (k : Nat) (h : k < s.size) : s.data.toList.take (k + 1) = s.data.toList.take k ++ [s[k]] := by
  rw [List.take_succ_eq_append_getElem (by simpa using h)]; rfl

theorem hist_nil (A : Nat → Prop) (w : World) : HistAt A w (.slice none 0 0) [] := ⟨none, 0, rfl, fun _ => rfl, fun h => absurd rfl h⟩

set_option maxHeartbeats 400000 in
theorem tget_any (A : Nat → Prop) (n : Nat) (p : Option Addr) (f : List UInt8 → List Ver) (key : ByteArray) (w : World) (hn : key.size < n) (h63 : key.size ≤ maxLen) (h : NodeAt A n w p f) :
    Calls Try.prog 35 #[.agg #[.pointer p], .string key] w fun e w' => ∃ hv, e = .returned (.tuple #[hv, .bool (!(f key.data.toList).isEmpty)]) ∧ HistAt A w' hv (f key.data.toList) ∧ Below w.heap.size w w' := by
  unfold maxLen at h63
  have H : Hid (NodeAt A n w p f) := h
  clear h
  go_enter Try.func35, Try.ntmps35
  go_wp2
  go_loopw [7, 8] (fun q i wr => ∃ (k : Nat) (qa : Option Addr), k ≤ key.size ∧ q = .pointer qa ∧ i = .int .i64 k ∧ NodeAt A (n - k) wr qa (fun x => f (key.data.toList.take k ++ x)) ∧ Below w.heap.size w wr) (fun _ i _ => key.size - (intOf i).toNat)
  case atStart => exact ⟨0, p, Nat.zero_le _, rfl, rfl, by simpa using H.out.on ((Below.refl _ _).alloc (Nat.le_refl _) _), (Below.refl _ _).alloc (Nat.le_refl _) _⟩
  case round =>
    obtain ⟨k, qa, hk, rfl, rfl, hq, hb⟩ := hrel
    cases qa with
    | none =>
      have hnil : f key.data.toList = [] := by
        have := hq.of_nil (key.data.toList.drop k)
        simpa using this
      have HN : Hid (f key.data.toList = []) := hnil
      clear hnil hq
      go_wp2
      go_ret2
      refine ⟨.slice none 0 0, ?_, ?_, hb⟩
      · rw [HN.out]; rfl
      · rw [HN.out]; exact hist_nil A _
    | some a =>
      obtain ⟨m, hm⟩ : ∃ m, n - k = m + 1 := ⟨n - k - 1, by omega⟩
      rw [hm] at hq
      have HM : Hid (n - k = m + 1) := hm
      clear hm
      by_cases hlt : k < key.size
      · have hch := child_any A m a _ key[k] wr hq
        clear hq
        go_wp2_with (go_at_call 51; refine hch.mono ?_; rintro e w' ⟨q, rfl, hq', hb'⟩)
        refine ⟨⟨k + 1, q, by omega, rfl, by go_num, ?_, hb.trans (hb'.mono hb.size)⟩, by simp [intOf]; omega⟩
        have e : n - (k + 1) = m := by have := HM.out; omega
        rw [e, take_snoc key k hlt]
        simpa using hq'.on hb'
      · rcases hq with hq | ⟨g, hv, kv, ks, hp, hA, c0, c1, c2, hh, hks, hs, hch, hno⟩
        · cases hq.1
        · cases hp
          have hke : key.data.toList.take k ++ [] = key.data.toList := by
            rw [List.append_nil, List.take_of_length_le]
            have : key.data.toList.length = key.size := by simp
            omega
          simp only [hke] at c0 hh
          clear hke hch hno hs hks
          cases he : (f key.data.toList).isEmpty with
          | true =>
            rw [he] at c0
            have HE : Hid ((f key.data.toList).isEmpty = true) := he
            clear he
            go_wp2
            go_ret2
            have hnil := List.isEmpty_iff.1 HE.out
            refine ⟨.slice none 0 0, ?_, ?_, hb⟩
            · rw [HE.out]; rfl
            · rw [hnil]; exact hist_nil A _
          | false =>
            rw [he] at c0
            have HE : Hid ((f key.data.toList).isEmpty = false) := he
            clear he
            go_wp2
            go_ret2
            refine ⟨hv, ?_, hh, hb⟩
            rw [HE.out]; rfl

end Go.Proofs.Ytmgedmcgcgidnaa
