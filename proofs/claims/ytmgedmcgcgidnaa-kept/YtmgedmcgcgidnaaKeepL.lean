/- shelfkeep: op, pick, sameItems. -/
import Derived.Test.YtmgedmcgcgidnaaRunF
import Derived.Deep.QuietTactic
import Derived.BigQuiet
namespace Go.Proofs.Ytmgedmcgcgidnaa
open Go.RowKit

set_option maxHeartbeats 400000 in
theorem kop_any (kind : Int) (key body : ByteArray) (w : World) : Calls Try.prog 11 #[.int .i64 kind, .string key, .string body] w fun e w' =>
    e = .returned (.agg #[.int .i64 kind, .string key, .string body, .string ⟨#[]⟩, .string ⟨#[]⟩, .int .i64 0, .int .i64 0]) ∧ Below w.heap.size w w' := by
  go_enter Try.func11, Try.ntmps11
  go_wp2
  exact bodyPost_ret (v := .agg #[.int .i64 kind, .string key, .string body, .string ⟨#[]⟩, .string ⟨#[]⟩, .int .i64 0, .int .i64 0]) (by simp [results, Try.results11, go_sem]) rfl ⟨rfl, (Below.refl _ _).alloc (Nat.le_refl _) _⟩

set_option maxHeartbeats 400000 in
theorem same_none (a b : Option Addr) (c d : Nat) (w : World) : Calls Try.prog 13 #[.slice a 0 c, .slice b 0 d] w fun e w' => e = .returned (.bool true) ∧ w = w' := by
  go_enter Try.func13, Try.ntmps13
  go_wp2
  refine wp_loop_rounds 1 ?_
  rw [rounds_succ]
  go_wp2
  go_ret
  exact ⟨rfl, rfl⟩

set_option maxHeartbeats 400000 in
theorem pick_any (c : Int) (m : Nat) (w : World) (h1 : -9223372036854775808 ≤ c) (h2 : c ≤ 9223372036854775807) (hm : 0 < m) (hm2 : m ≤ 9223372036854775807) :
    Calls Try.prog 12 #[.int .i64 c, .int .i64 m] w fun e w' => ∃ k : Nat, k < m ∧ e = .returned (.int .i64 k) ∧ w = w' := by
  have hm0 : ((m : Int) == 0) = false := by simp; omega
  by_cases hc : c < 0
  · have e : -((c + 1).tmod (m : Int)) = (((-(c + 1)) % (m : Int)).toNat : Int) := by
      rw [← Int.neg_tmod, Int.tmod_eq_emod_of_nonneg (by omega)]
      have := Int.emod_nonneg (-(c + 1)) (b := (m : Int)) (by omega)
      omega
    have hk : ((-(c + 1)) % (m : Int)).toNat < m := by
      have h3 := Int.emod_nonneg (-(c + 1)) (b := (m : Int)) (by omega)
      have h4 := Int.emod_lt_of_pos (-(c + 1)) (b := (m : Int)) (by omega)
      omega
    have HE : Hid (-((c + 1).tmod (m : Int)) = (((-(c + 1)) % (m : Int)).toNat : Int) ∧ ((-(c + 1)) % (m : Int)).toNat < m) := ⟨e, hk⟩
    clear e hk
    go_enter Try.func12, Try.ntmps12
    go_wp2
    go_ret
    exact ⟨_, HE.out.2, ret_int HE.out.1, rfl⟩
  · have e : c % (m : Int) = ((c % (m : Int)).toNat : Int) := by
      have := Int.emod_nonneg c (b := (m : Int)) (by omega)
      omega
    have hk : (c % (m : Int)).toNat < m := by
      have h3 := Int.emod_nonneg c (b := (m : Int)) (by omega)
      have h4 := Int.emod_lt_of_pos c (b := (m : Int)) (by omega)
      omega
    have HE : Hid (c % (m : Int) = ((c % (m : Int)).toNat : Int) ∧ (c % (m : Int)).toNat < m) := ⟨e, hk⟩
    clear e hk
    go_enter Try.func12, Try.ntmps12
    go_wp2
    go_ret
    exact ⟨_, HE.out.2, ret_int HE.out.1, rfl⟩

end Go.Proofs.Ytmgedmcgcgidnaa
