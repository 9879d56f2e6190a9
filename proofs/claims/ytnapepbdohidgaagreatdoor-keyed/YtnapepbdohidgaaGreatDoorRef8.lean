/- shelfref: DROPV: what it leaves. -/
import Derived.Test.YtnapepbdohidgaaGreatDoorRef7
namespace Go.Proofs.YtnapepbdohidgaaGreatDoor
open Go.RowKit

theorem step_dropv_none' {st : St} {o : OpD} (hkind : o.kind = 5) (hk : isKeyB o.key = true) (hp : placeOf (st.f o.key.data.toList) o.n = none) : stepSt st o = (st, ⟨5, 0, ⟨#[]⟩⟩) := by
  simp [stepSt, hkind, hk, hp]
theorem step_dropv_at {st : St} {o : OpD} {r : Nat} (hkind : o.kind = 5) (hk : isKeyB o.key = true) (hp : placeOf (st.f o.key.data.toList) o.n = some r) : stepSt st o = (dropSt st o.key r, ⟨0, 0, ⟨#[]⟩⟩) := by
  simp [stepSt, hkind, hk, hp]

theorem Sim.dropSome {st : St} {R : List RefE} {nx : Int} (S : Sim st R nx) {i : Nat} (hi : i < R.length) {key : ByteArray} (hk : R[i].key = key) {r : Nat} (hr : r < R[i].h.length) (v : Value) (hne : R[i].h.take r ++ R[i].h.drop (r + 1) ≠ []) : Sim (dropSt st key r) (R.set i ⟨R[i].key, R[i].h.take r ++ R[i].h.drop (r + 1), v⟩) nx := by
  subst hk
  have ht := tot_set R i hi ⟨R[i].key, R[i].h.take r ++ R[i].h.drop (r + 1), v⟩
  have hl : (R[i].h.take r ++ R[i].h.drop (r + 1)).length = R[i].h.length - 1 := by rw [List.length_append, List.length_take, List.length_drop]; omega
  simp only [hl] at ht
  have hcnt := S.count
  have hlim := S.lim
  refine ⟨S.next, ?_, ?_, ?_, ?_, ?_, by omega⟩
  · intro e he
    rcases mem_set he with rfl | ⟨j, hj, -, rfl⟩
    · exact hne
    · exact S.full _ (List.getElem_mem hj)
  · rw [List.pairwise_iff_getElem]
    intro a b ha hb hab
    rw [List.length_set] at ha hb
    rw [List.getElem_set, List.getElem_set]
    by_cases h1 : i = a
    · have h2 : ¬ i = b := by omega
      rw [if_pos h1, if_neg h2]
      exact fun e => S.other hi hb (by omega) e.symm
    · rw [if_neg h1]
      by_cases h2 : i = b
      · rw [if_pos h2]; exact S.other hi ha (by omega)
      · rw [if_neg h2]; have hp := S.keys; rw [List.pairwise_iff_getElem] at hp; exact hp a b ha hb hab
  · intro e he
    rcases mem_set he with rfl | ⟨j, hj, hji, rfl⟩
    · simp [dropSt, upd, S.here _ (List.getElem_mem hi)]
    · have hne : R[j].key.data.toList ≠ R[i].key.data.toList := fun e => S.other hi hj hji (bytes_inj e)
      simp [dropSt, upd, hne, S.here _ (List.getElem_mem hj)]
  · intro k hk
    have h1 := hk _ (mem_set_at (x := ⟨R[i].key, R[i].h.take r ++ R[i].h.drop (r + 1), v⟩) hi)
    have h2 : st.f k = [] := S.gone k (fun e he => by
      obtain ⟨j, hj, rfl⟩ := List.getElem_of_mem he
      by_cases hji : j = i
      · subst hji; exact h1
      · exact hk _ (mem_set_of hj hji))
    simp only [dropSt, upd]
    rw [if_neg (fun e => h1 e.symm)]; exact h2
  · show st.count - 1 = _
    omega

theorem Sim.dropLast {st : St} {R : List RefE} {nx : Int} (S : Sim st R nx) {i : Nat} (hi : i < R.length) {key : ByteArray} (hk : R[i].key = key) {r : Nat} (hr : r < R[i].h.length) (hne : R[i].h.take r ++ R[i].h.drop (r + 1) = []) : Sim (dropSt st key r) (R.take i ++ R.drop (i + 1)) nx := by
  subst hk
  have h1 : R = R.take i ++ ([R[i]] ++ R.drop (i + 1)) := by simp
  have hl : (R[i].h.take r ++ R[i].h.drop (r + 1)).length = R[i].h.length - 1 := by rw [List.length_append, List.length_take, List.length_drop]; omega
  rw [hne] at hl
  have ht : tot R = tot (R.take i ++ R.drop (i + 1)) + 1 := by
    have h3 := congrArg tot h1
    rw [h3, tot_append, tot_append, tot_append]
    have : tot [R[i]] = R[i].h.length := by simp [tot]
    simp only [List.length_nil] at hl
    omega
  have hcnt := S.count
  have hlim := S.lim
  have hsub : ∀ e ∈ R.take i ++ R.drop (i + 1), e ∈ R := fun e he => by
    rcases List.mem_append.1 he with h | h
    · exact List.mem_of_mem_take h
    · exact List.mem_of_mem_drop h
  have hpk := S.keys
  rw [h1, List.pairwise_append] at hpk
  obtain ⟨hp1, hp2, hp3⟩ := hpk
  have hp2' := List.pairwise_append.1 hp2
  have hoth : ∀ e ∈ R.take i ++ R.drop (i + 1), e.key ≠ R[i].key := fun e he => by
    rcases List.mem_append.1 he with h | h
    · exact hp3 e h R[i] (List.mem_append_left _ (List.mem_singleton.2 rfl))
    · exact fun h2 => hp2'.2.2 R[i] (List.mem_singleton.2 rfl) e h h2.symm
  refine ⟨S.next, fun e he => S.full e (hsub e he), ?_, ?_, ?_, ?_, by omega⟩
  · rw [List.pairwise_append]
    exact ⟨hp1, hp2'.2.1, fun a ha b hb => hp3 a ha b (List.mem_append_right _ hb)⟩
  · intro e he
    have hk : e.key.data.toList ≠ R[i].key.data.toList := fun h => hoth e he (bytes_inj h)
    simp [dropSt, upd, hk, S.here _ (hsub e he)]
  · intro k hk
    simp only [dropSt, upd]
    by_cases hki : k = R[i].key.data.toList
    · rw [if_pos hki, S.here _ (List.getElem_mem hi)]; exact hne
    · rw [if_neg hki]
      refine S.gone k (fun e he => ?_)
      rw [h1] at he
      rcases List.mem_append.1 he with h | h
      · exact hk e (List.mem_append_left _ h)
      · rcases List.mem_append.1 h with h2 | h2
        · simp only [List.mem_cons, List.not_mem_nil, or_false] at h2
          subst h2
          exact fun e => hki e.symm
        · exact hk e (List.mem_append_right _ h2)
  · show st.count - 1 = _
    omega

/-- The entries' row, a new one (or none). -/
theorem RefAt.putNew {B : Nat} {w w1 : World} {k : Nat} {sl sl' : Value} {R R' : List RefE} {nx tm : Int} (H : RefAt B w k sl R nx tm) (hg : Below w.heap.size w w1) (ho : w1.ownsRow w.heap.size 154 2 sl' R'.length (entCells R')) (hB : B ≤ w.heap.size) (hv : ∀ e ∈ R', e ∈ R) (hpw : R'.Pairwise (fun a b => a.v.ownBlock ≠ b.v.ownBlock)) (hsome : ∀ e ∈ R', e.v.ownBlock ≠ none) :
    RefAt B (w1.setCell ⟨k, 0, none⟩ sl') k sl' R' nx tm := by
  have hk := H.lt
  have hset := grown_self w1 k 0 sl'
  have hsk : sl'.ownBlock ≠ some k := fun e => by have := (ho.lt k e).1; omega
  have H1 := H.below hg
  refine ⟨H1.cells.set0 _, (owns_base ho hB).kept hset (Or.inr hsk), fun e he => (H1.vers e (hv e he)).kept hset (Or.inr (H1.apartV e (hv e he))), hsk, fun e he => H1.apartV e (hv e he), ?_, hpw⟩
  intro e he h2
  cases hb : e.v.ownBlock with
  | none => exact hsome e he hb
  | some b =>
    have h3 := ((H.vers e (hv e he)).lt b hb).2
    rw [hb] at h2
    have := (ho.lt b h2.symm).1
    omega

end Go.Proofs.YtnapepbdohidgaaGreatDoor
