/- What the steps of shelfkeep.Kept are answered, told plainly. -/
import Derived.Test.YtmgedmcgcgidnaaRunF
namespace Go.Proofs.Ytmgedmcgcgidnaa
open Go.RowKit

def eB : ByteArray := ⟨#[]⟩
def mkOp (kind : Int) (key body : ByteArray) (n : Int) : OpD := ⟨kind, key, body, eB, eB, n, 0⟩

theorem inv_le {st : St} {s : Nat} (h : Inv st s) (k : List UInt8) : ∀ x ∈ st.f k, x.num ≤ st.last := by
  intro x hx
  obtain ⟨i, hi, e⟩ := List.getElem_of_mem hx
  have := (h.bounds k i hi).2
  rw [nums_eq hi, e] at this
  exact this

theorem findIdx_skip {h : List Ver} {L n : Int} (hle : ∀ x ∈ h, x.num ≤ L) (hn : L < n) (r : List Ver) : placeOf (h ++ r) n = (placeOf r n).map (· + h.length) := by
  unfold placeOf
  rw [List.findIdx?_append]
  have e : List.findIdx? (fun v => v.num == n) h = none := by
    rw [List.findIdx?_eq_none_iff]
    intro x hx
    have := hle x hx
    simp; omega
  rw [e]; simp

theorem isKey_false {key : ByteArray} (h : isKeyB key = true) : ¬ isKeyB key = false := by rw [h]; simp

theorem step_put {st : St} {key body : ByteArray} (hk : isKeyB key = true) (hb : body.size ≤ 100) (hc : ¬ 200 ≤ st.count) : stepSt st (mkOp 1 key body 0) = (addSt st key body false, ⟨0, st.last + 1, eB⟩) := by
  simp [stepSt, mkOp, hk, hc, eB]; omega
theorem step_put_full {st : St} {key body : ByteArray} (hk : isKeyB key = true) (hb : body.size ≤ 100) (hc : 200 ≤ st.count) : stepSt st (mkOp 1 key body 0) = (st, ⟨4, 0, eB⟩) := by
  simp [stepSt, mkOp, hk, hc, eB]; omega
theorem step_drop {st : St} {key : ByteArray} (hk : isKeyB key = true) (hc : ¬ 200 ≤ st.count) : stepSt st (mkOp 4 key eB 0) = (addSt st key eB true, ⟨0, st.last + 1, eB⟩) := by
  simp [stepSt, mkOp, hk, hc, eB]
theorem step_drop_full {st : St} {key : ByteArray} (hk : isKeyB key = true) (hc : 200 ≤ st.count) : stepSt st (mkOp 4 key eB 0) = (st, ⟨4, 0, eB⟩) := by
  simp [stepSt, mkOp, hk, hc, eB]
theorem step_get {st : St} {key : ByteArray} {v : Ver} (hk : isKeyB key = true) (hl : (st.f key.data.toList).getLast? = some v) : stepSt st (mkOp 2 key eB 0) = (st, if v.mark then ⟨5, 0, eB⟩ else ⟨0, v.num, v.body⟩) := by
  cases hm : v.mark <;> simp [stepSt, mkOp, hk, hl, hm, eB]
theorem step_getv {st : St} {key : ByteArray} {n : Int} {r : Nat} {v : Ver} (hk : isKeyB key = true) (hp : placeOf (st.f key.data.toList) n = some r) (hv : (st.f key.data.toList)[r]? = some v) : stepSt st (mkOp 3 key eB n) = (st, if v.mark then ⟨6, 0, eB⟩ else ⟨0, 0, v.body⟩) := by
  cases hm : v.mark <;> simp [stepSt, mkOp, hk, hp, hv, hm, eB]
theorem step_dropv {st : St} {key : ByteArray} {n : Int} {r : Nat} (hk : isKeyB key = true) (hp : placeOf (st.f key.data.toList) n = some r) : stepSt st (mkOp 5 key eB n) = (dropSt st key r, ⟨0, 0, eB⟩) := by
  simp [stepSt, mkOp, hk, hp, eB]
theorem step_dropv_none {st : St} {key : ByteArray} {n : Int} (hk : isKeyB key = true) (hp : placeOf (st.f key.data.toList) n = none) : stepSt st (mkOp 5 key eB n) = (st, ⟨5, 0, eB⟩) := by
  simp [stepSt, mkOp, hk, hp, eB]

theorem add_f (st : St) (key body : ByteArray) (m : Bool) : (addSt st key body m).f key.data.toList = st.f key.data.toList ++ [⟨st.last + 1, body, m⟩] := by simp [addSt, upd]
theorem drop_f (st : St) (key : ByteArray) (r : Nat) : (dropSt st key r).f key.data.toList = (st.f key.data.toList).take r ++ (st.f key.data.toList).drop (r + 1) := by simp [dropSt, upd]

def opsA (key body : ByteArray) : List OpD := [mkOp 1 key body 0, mkOp 2 key eB 0, mkOp 4 key eB 0]
def opsB (key body : ByteArray) (v d : Int) : List OpD := [mkOp 1 key body 0, mkOp 4 key eB 0, mkOp 2 key eB 0, mkOp 3 key eB v, mkOp 3 key eB d, mkOp 5 key eB d, mkOp 2 key eB 0, mkOp 5 key eB d]

theorem ansA {st : St} {key body : ByteArray} (hk : isKeyB key = true) (hb : body.size ≤ 100) (hc : ¬ 200 ≤ st.count) :
    answers st (opsA key body) = [⟨0, st.last + 1, eB⟩, ⟨0, st.last + 1, body⟩, if 200 ≤ st.count + 1 then ⟨4, 0, eB⟩ else ⟨0, st.last + 2, eB⟩] := by
  have h2 := step_get (st := addSt st key body false) (v := ⟨st.last + 1, body, false⟩) hk (by rw [add_f]; simp)
  have hcc : (addSt st key body false).count = st.count + 1 := rfl
  have hll : (addSt st key body false).last = st.last + 1 := rfl
  by_cases h3 : 200 ≤ st.count + 1
  · have h4 := step_drop_full (st := addSt st key body false) hk (by rw [hcc]; exact h3)
    simp [opsA, answers, step_put hk hb hc, h2, h4, h3]
  · have h4 := step_drop (st := addSt st key body false) hk (by rw [hcc]; exact h3)
    rw [hll, show st.last + 1 + 1 = st.last + 2 by omega] at h4
    simp [opsA, answers, step_put hk hb hc, h2, h4, h3]

theorem ansA_full {st : St} {key body : ByteArray} (hk : isKeyB key = true) (hb : body.size ≤ 100) (hc : 200 ≤ st.count) : ∃ x y, answers st (opsA key body) = [⟨4, 0, eB⟩, x, y] := by
  simp only [opsA, answers, step_put_full hk hb hc]
  exact ⟨_, _, rfl⟩

theorem ansB {st : St} {s : Nat} {key body : ByteArray} (hI : Inv st s) (hk : isKeyB key = true) (hb : body.size ≤ 100) (hc : ¬ 200 ≤ st.count) (hc2 : ¬ 200 ≤ st.count + 1) :
    answers st (opsB key body (st.last + 1) (st.last + 2)) = [⟨0, st.last + 1, eB⟩, ⟨0, st.last + 2, eB⟩, ⟨5, 0, eB⟩, ⟨0, 0, body⟩, ⟨6, 0, eB⟩, ⟨0, 0, eB⟩, ⟨0, st.last + 1, body⟩, ⟨5, 0, eB⟩] := by
  have hle := inv_le hI key.data.toList
  obtain ⟨h, hh⟩ : ∃ h, h = st.f key.data.toList := ⟨_, rfl⟩
  rw [← hh] at hle
  obtain ⟨st1, hs1⟩ : ∃ st1, st1 = addSt st key body false := ⟨_, rfl⟩
  have f1 : st1.f key.data.toList = h ++ [⟨st.last + 1, body, false⟩] := by rw [hs1, add_f, hh]
  have l1 : st1.last = st.last + 1 := by rw [hs1]; rfl
  have c1 : st1.count = st.count + 1 := by rw [hs1]; rfl
  obtain ⟨st2, hs2⟩ : ∃ st2, st2 = addSt st1 key eB true := ⟨_, rfl⟩
  have f2 : st2.f key.data.toList = h ++ [⟨st.last + 1, body, false⟩, ⟨st.last + 2, eB, true⟩] := by
    rw [hs2, add_f, f1, l1, show st.last + 1 + 1 = st.last + 2 by omega]; simp
  have p1 : placeOf (st2.f key.data.toList) (st.last + 1) = some h.length := by
    rw [f2, findIdx_skip hle (by omega)]; simp [placeOf, List.findIdx?_cons]
  have p2 : placeOf (st2.f key.data.toList) (st.last + 2) = some (h.length + 1) := by
    rw [f2, findIdx_skip hle (by omega)]; simp [placeOf, List.findIdx?_cons] <;> omega
  obtain ⟨st3, hs3⟩ : ∃ st3, st3 = dropSt st2 key (h.length + 1) := ⟨_, rfl⟩
  have f3 : st3.f key.data.toList = h ++ [⟨st.last + 1, body, false⟩] := by
    rw [hs3, drop_f, f2]
    rw [show (h ++ [⟨st.last + 1, body, false⟩, ⟨st.last + 2, eB, true⟩] : List Ver) = (h ++ [⟨st.last + 1, body, false⟩]) ++ [⟨st.last + 2, eB, true⟩] by simp]
    rw [List.take_left' (by simp), List.drop_eq_nil_of_le (by simp), List.append_nil]
  have p3 : placeOf (st3.f key.data.toList) (st.last + 2) = none := by
    rw [f3, findIdx_skip hle (by omega)]; simp [placeOf, List.findIdx?_cons] <;> omega
  have e1 : stepSt st (mkOp 1 key body 0) = (st1, ⟨0, st.last + 1, eB⟩) := by rw [hs1]; exact step_put hk hb hc
  have e2 : stepSt st1 (mkOp 4 key eB 0) = (st2, ⟨0, st.last + 2, eB⟩) := by
    have := step_drop (st := st1) hk (by rw [c1]; exact hc2)
    rw [l1, show st.last + 1 + 1 = st.last + 2 by omega, ← hs2] at this
    exact this
  have e3 : stepSt st2 (mkOp 2 key eB 0) = (st2, ⟨5, 0, eB⟩) := by
    have := step_get (st := st2) (v := ⟨st.last + 2, eB, true⟩) hk (by rw [f2]; simp)
    simpa using this
  have e4 : stepSt st2 (mkOp 3 key eB (st.last + 1)) = (st2, ⟨0, 0, body⟩) := by
    have := step_getv (st := st2) (v := ⟨st.last + 1, body, false⟩) hk p1 (by rw [f2]; simp)
    simpa using this
  have e5 : stepSt st2 (mkOp 3 key eB (st.last + 2)) = (st2, ⟨6, 0, eB⟩) := by
    have := step_getv (st := st2) (v := ⟨st.last + 2, eB, true⟩) hk p2 (by rw [f2, List.getElem?_append_right (by omega)]; simp)
    simpa using this
  have e6 : stepSt st2 (mkOp 5 key eB (st.last + 2)) = (st3, ⟨0, 0, eB⟩) := by rw [hs3]; exact step_dropv hk p2
  have e7 : stepSt st3 (mkOp 2 key eB 0) = (st3, ⟨0, st.last + 1, body⟩) := by
    have := step_get (st := st3) (v := ⟨st.last + 1, body, false⟩) hk (by rw [f3]; simp)
    simpa using this
  have e8 : stepSt st3 (mkOp 5 key eB (st.last + 2)) = (st3, ⟨5, 0, eB⟩) := step_dropv_none hk p3
  simp only [opsB, answers, e1, e2, e3, e4, e5, e6, e7, e8]

end Go.Proofs.Ytmgedmcgcgidnaa
