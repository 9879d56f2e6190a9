/- shelfkeep.Prefix. -/
import Derived.Test.YtmgedmcgcgidnaaKeyed0
namespace Go.Proofs.Ytmgedmcgcgidnaa
open Go.RowKit

/-- The cells of an answer in a row of answers. -/
theorem ans_cells {w : World} {base g n cap : Nat} {l : List AnsD} (h : w.ownsRow base 36 5 (.slice (some ⟨g, 0, none⟩) n cap) n (ansCells l)) (hn : n = l.length) (i : Nat) (hi : i < l.length) :
    w.cell? ⟨g, i * 5, none⟩ = some (.int .i64 l[i].code) ∧ w.cell? ⟨g, i * 5 + 1, none⟩ = some (.int .i64 l[i].ver) ∧ w.cell? ⟨g, i * 5 + 2, none⟩ = some (.string l[i].body) ∧ w.cell? ⟨g, i * 5 + 3, none⟩ = some (.slice none 0 0) ∧ w.cell? ⟨g, i * 5 + 4, none⟩ = some (.string ⟨#[]⟩) := by
  subst hn
  have hl := ansCells_len l
  have hc : ∀ j, j < 5 → w.cell? ⟨g, i * 5 + j, none⟩ = (ansCells l)[i * 5 + j]? := fun j hj => h.cellAt (i * 5 + j) (by omega)
  have hf : ∀ j, j < 5 → (ansCells l)[i * 5 + j]? = [Value.int .i64 l[i].code, .int .i64 l[i].ver, .string l[i].body, .slice none 0 0, .string ⟨#[]⟩][j]? := fun j hj => flat_get 5 _ (fun _ => rfl) l i j hi hj
  refine ⟨?_, ?_, ?_, ?_, ?_⟩
  · exact (hc 0 (by omega)).trans (hf 0 (by omega))
  · exact (hc 1 (by omega)).trans (hf 1 (by omega))
  · exact (hc 2 (by omega)).trans (hf 2 (by omega))
  · exact (hc 3 (by omega)).trans (hf 3 (by omega))
  · exact (hc 4 (by omega)).trans (hf 4 (by omega))

theorem ScrAt.take {w : World} {a : Option Addr} {n cap : Nat} {ops : List OpD} (h : ScrAt w (.slice a n cap) ops) (k : Nat) (hk : k ≤ n) : ScrAt w (.slice a k cap) (ops.take k) := by
  obtain ⟨a', cap', he, hx⟩ := h.form
  cases he
  refine ⟨⟨a, cap, by rw [List.length_take, Nat.min_eq_left hk], fun hne => ?_⟩, fun o ho => h.sized o (List.mem_of_mem_take ho), by rw [List.length_take]; have := h.len; omega⟩
  have hne' : ops ≠ [] := by intro e; subst e; simp at hne
  obtain ⟨b, off, ha, hS⟩ := hx hne'
  refine ⟨b, off, ha, fun i hi => ?_⟩
  rw [List.length_take] at hi
  have := hS i (by omega)
  simpa [List.getElem_take] using this

set_option maxHeartbeats 4000000 in
set_option maxRecDepth 100000 in
theorem prefix_any (a : Option Addr) (n cap : Nat) (c : Int) (ops : List OpD) (w : World) (h : ScrAt w (.slice a n cap) ops) (hcap : n ≤ cap) (_hcap2 : cap ≤ 9223372036854775807) (h1 : -9223372036854775808 ≤ c) (h2 : c ≤ 9223372036854775807) :
    Calls Try.prog 5 #[.slice a n cap, .int .i64 c] w fun e w' => e = .returned (.bool true) ∧ Below w.heap.size w w' := by
  have hnl : n = ops.length := by
    obtain ⟨a', cap', he, _⟩ := h.form
    cases he; rfl
  have hn := h.len
  rw [← hnl] at hn
  have HS : Hid (ScrAt w (.slice a n cap) ops ∧ n = ops.length) := ⟨h, hnl⟩
  clear h hnl
  go_enter Try.func5, Try.ntmps5
  go_wp2_with fail
  refine (keyed_any w).mono ?_
  rintro e w1 ⟨rfl, b1⟩
  go_wp2_with fail
  have hpk := pick_any c (n + 1) w1 h1 h2 (by omega) (by omega)
  rw [show ((n + 1 : Nat) : Int) = (n : Int) + 1 by omega] at hpk
  refine hpk.mono ?_
  rintro e w1' ⟨k, hk, rfl, rfl⟩
  clear hpk
  go_wp2_with fail
  refine (run_scr _ ops w1 (HS.out.1.on b1)).mono ?_
  rintro e w2 ⟨ga, rfl, oa, b2⟩
  have b2' : Below w.heap.size w w2 := b1.trans (b2.mono b1.size)
  rw [← HS.out.2] at oa ⊢
  have hkn : k ≤ n := by omega
  have HT : Hid (ScrAt w2 (.slice a k cap) (ops.take k) ∧ (ops.take k).length = k) := ⟨(HS.out.1.take k hkn).on b2', by rw [List.length_take, ← HS.out.2, Nat.min_eq_left hkn]⟩
  go_wp2_with fail
  refine (run_scr _ (ops.take k) w2 HT.out.1).mono ?_
  rintro e w3 ⟨gb, rfl, ob, b3⟩
  rw [HT.out.2] at ob ⊢
  have oa3 := oa.kept (below_grown b3 none) (by simp [Value.ownBlock])
  have HB3 : Hid (Below w.heap.size w w3) := b2'.trans (b3.mono b2'.size)
  have hrl := runF_len ops
  have HO : Hid (∀ i, i < k → ∃ A : AnsD, (w3.cell? ⟨ga, i * 5, none⟩ = some (.int .i64 A.code) ∧ w3.cell? ⟨ga, i * 5 + 1, none⟩ = some (.int .i64 A.ver) ∧ w3.cell? ⟨ga, i * 5 + 2, none⟩ = some (.string A.body) ∧ w3.cell? ⟨ga, i * 5 + 3, none⟩ = some (.slice none 0 0) ∧ w3.cell? ⟨ga, i * 5 + 4, none⟩ = some (.string ⟨#[]⟩)) ∧
      (w3.cell? ⟨gb, i * 5, none⟩ = some (.int .i64 A.code) ∧ w3.cell? ⟨gb, i * 5 + 1, none⟩ = some (.int .i64 A.ver) ∧ w3.cell? ⟨gb, i * 5 + 2, none⟩ = some (.string A.body) ∧ w3.cell? ⟨gb, i * 5 + 3, none⟩ = some (.slice none 0 0) ∧ w3.cell? ⟨gb, i * 5 + 4, none⟩ = some (.string ⟨#[]⟩))) := by
    intro i hi
    have hla : i < (runF ops).length := by rw [hrl, ← HS.out.2]; omega
    have hlb : i < (runF (ops.take k)).length := by rw [runF_len, HT.out.2]; exact hi
    refine ⟨(runF ops)[i], ans_cells oa3 (by rw [hrl, ← HS.out.2]) i hla, ?_⟩
    have hb := ans_cells ob (by rw [runF_len, HT.out.2]) i hlb
    have e : (runF (ops.take k))[i] = (runF ops)[i] := by simp only [runF_take, List.getElem_take]
    rw [e] at hb
    exact hb
  clear oa ob oa3 b1 b2 b3 b2' hrl
  have hnn : ((n : Int) != (n : Int)) = false := by simp
  have hkk : ((k : Int) != (k : Int)) = false := by simp
  go_wp2_with fail
  go_loopw [9, 10] (fun s9 _ wr => ∃ i : Nat, i ≤ k ∧ s9 = .int .i64 i ∧ Below w3.heap.size w3 wr) (fun s9 _ _ => k - (intOf s9).toNat)
  case atStart => exact ⟨0, Nat.zero_le _, rfl, Below.refl _ _⟩
  case round =>
    obtain ⟨i, hik, rfl, hb⟩ := hrel
    have HB : Hid (Below w3.heap.size w3 wr) := hb
    by_cases hlt : i < k
    · obtain ⟨A, ⟨x0, x1, x2, x3, x4⟩, y0, y1, y2, y3, y4⟩ := HO.out i hlt
      replace x0 := cellOn hb x0
      replace x1 := cellOn hb x1
      replace x2 := cellOn hb x2
      replace x3 := cellOn hb x3
      replace x4 := cellOn hb x4
      replace y0 := cellOn hb y0
      replace y1 := cellOn hb y1
      replace y2 := cellOn hb y2
      replace y3 := cellOn hb y3
      replace y4 := cellOn hb y4
      have hi1 : (i : Int) < (n : Int) := by omega
      have hi2 : (i : Int) < (k : Int) := by omega
      clear hb
      go_wp2_with fail
      go_quiet ((go_at_call 13; exact Calls.quiet_of_same ((same_none none none 0 0 _).mono (fun e w' h => ⟨h.1, h.2.symm⟩))))
      have z0 : (A.code != A.code) = false := by simp
      have z1 : (A.ver != A.ver) = false := by simp
      go_wp2_with fail
      go_quiet (fail)
      go_wp2_with fail
      exact ⟨⟨i + 1, by omega, by go_num, below_drewN HB.out _⟩, by simp [intOf]; omega⟩
    · have hie : i = k := by omega
      subst hie
      clear hb
      go_wp2
      go_ret
      exact ⟨rfl, HB3.out.trans (HB.out.mono HB3.out.size)⟩

end Go.Proofs.Ytmgedmcgcgidnaa
