/- shelfref: no, same, find, count. -/
import Derived.Test.YtnapepbdohidgaaGreatDoorRunF
import Derived.Test.YtnapepbdohidgaaGreatDoorStore3
import Derived.Deep.QuietTactic
import Derived.BigQuiet
namespace Go.Proofs.YtnapepbdohidgaaGreatDoor
open Go.RowKit

theorem rno_any (c : Int) (w : World) : Calls Tryz.prog 55 #[.int .i64 c] w fun e w' => e = .returned (ansVal ⟨c, 0, ⟨#[]⟩⟩) ∧ Below w.heap.size w w' := by
  go_enter Tryz.func55, Tryz.ntmps55
  go_wp2
  exact bodyPost_ret (v := ansVal ⟨c, 0, ⟨#[]⟩⟩) (by simp [ansVal, results, Tryz.results55, go_sem]) rfl ⟨rfl, (Below.refl _ _).alloc (Nat.le_refl _) _⟩

theorem rsame_any (x : AnsD) (w : World) : Calls Tryz.prog 51 #[ansVal x, ansVal x] w fun e w' => e = .returned (.bool true) ∧ Below w.heap.size w w' := by
  have z0 : (x.code == x.code) = true := by simp
  have z1 : (x.ver == x.ver) = true := by simp
  unfold ansVal
  go_enter Tryz.func51, Tryz.ntmps51
  go_wp2
  go_ret
  exact ⟨rfl, ((Below.refl _ _).alloc (Nat.le_refl _) _).alloc (by simp) _⟩

/-- An entry of the document's shelf: its key, its versions, and the row that they lie in. -/
structure RefE where
  key : ByteArray
  h : List Ver
  v : Value
def entCells (R : List RefE) : List Value := R.flatMap fun e => [.string e.key, e.v]
theorem entCells_len (R : List RefE) : (entCells R).length = R.length * 2 := flat_len 2 _ (fun _ => rfl) R

/-- The document's shelf in memory. -/
structure RefAt (B : Nat) (w : World) (k : Nat) (sl : Value) (R : List RefE) (nx tm : Int) : Prop where
  cells : Cells3 w k sl (.int .i64 nx) (.int .i64 tm)
  row : w.ownsRow B 154 2 sl R.length (entCells R)
  vers : ∀ e ∈ R, w.ownsRow B 145 3 e.v e.h.length (verCells e.h)
  apart : sl.ownBlock ≠ some k
  apartV : ∀ e ∈ R, e.v.ownBlock ≠ some k
  apartE : ∀ e ∈ R, e.v.ownBlock ≠ sl.ownBlock
  pw : R.Pairwise (fun a b => a.v.ownBlock ≠ b.v.ownBlock)

theorem RefAt.ent {B : Nat} {w : World} {k : Nat} {sl : Value} {R : List RefE} {nx tm : Int} (h : RefAt B w k sl R nx tm) (i : Nat) (hi : i < R.length) :
    ∃ g cap, sl = .slice (some ⟨g, 0, none⟩) R.length cap ∧ B ≤ g ∧ g < w.heap.size ∧ w.cell? ⟨g, i * 2, none⟩ = some (.string R[i].key) ∧ w.cell? ⟨g, i * 2 + 1, none⟩ = some R[i].v := by
  obtain ⟨g, cap, rfl, h1, h2, h3⟩ := owns_some h.row (by omega)
  refine ⟨g, cap, rfl, h1, h2, ?_, ?_⟩
  · have := h.row.cellAt (i * 2 + 0) (by omega)
    rw [entCells, flat_get 2 _ (fun _ => rfl) R i 0 hi (by omega)] at this
    simpa using this
  · have := h.row.cellAt (i * 2 + 1) (by omega)
    rw [entCells, flat_get 2 _ (fun _ => rfl) R i 1 hi (by omega)] at this
    simpa using this

theorem str_eq (a : ByteArray) : (a.toList == a.toList) = true := by simp
theorem str_ne {a b : ByteArray} (h : a ≠ b) : (a.toList == b.toList) = false := by
  rw [ByteArray.toList_eq, ByteArray.toList_eq]
  have : a.data.toList ≠ b.data.toList := fun e => h (by cases a; cases b; simp only [ByteArray.mk.injEq]; exact Array.toList_inj.1 e)
  simpa using this

def FoundPost (R : List RefE) (key : ByteArray) (w : World) (e : Ending) (w' : World) : Prop :=
  w = w' ∧ ((∃ (i : Nat) (h : i < R.length), R[i].key = key ∧ e = .returned (.int .i64 i)) ∨ ((∀ x ∈ R, x.key ≠ key) ∧ e = .returned (.int .i64 (-1))))

set_option maxHeartbeats 1000000 in
set_option maxRecDepth 100000 in
theorem rfind_any (B k : Nat) (sl : Value) (R : List RefE) (nx tm : Int) (key : ByteArray) (w : World) (H : RefAt B w k sl R nx tm) (hn : R.length ≤ 1000) :
    Calls Tryz.prog 107 #[.pointer (some ⟨k, 0, none⟩), .string key] w (FoundPost R key w) := by
  obtain ⟨va, vc, rfl, -⟩ := owns_form H.row
  have c0 := H.cells.c0
  have HH : Hid (RefAt B w k (.slice va R.length vc) R nx tm) := H
  clear H
  unfold FoundPost
  go_enter Tryz.func107, Tryz.ntmps107
  go_wp2_with fail
  go_loopw [5] (fun s4 wr => ∃ i : Nat, i ≤ R.length ∧ s4 = .int .i64 i ∧ (∀ j (h : j < R.length), j < i → R[j].key ≠ key) ∧ wr = w) (fun s4 _ => R.length - (intOf s4).toNat)
  case atStart => exact ⟨0, Nat.zero_le _, rfl, fun j h hj => absurd hj (by omega), rfl⟩
  case round =>
    obtain ⟨i, hin, rfl, hno, rfl⟩ := hrel
    have HNO : Hid (∀ j (h : j < R.length), j < i → R[j].key ≠ key) := hno
    clear hno
    by_cases hlo : i < R.length
    · skip
      obtain ⟨g, cap, he, -, -, e0, e1⟩ := HH.out.ent i hlo
      cases he
      have hii : (i : Int) < (R.length : Int) := by omega
      by_cases hk : R[i].key = key
      · have HE : Hid (R[i].key = key) := hk
        rw [hk] at e0
        clear hk e1
        have hs := str_eq key
        go_wp2_with fail
        go_ret
        exact ⟨rfl, Or.inl ⟨i, hlo, HE.out, rfl⟩⟩
      · have HE : Hid (R[i].key ≠ key) := hk
        have hs := str_ne hk
        generalize R[i].key = kk at e0 hs
        clear e1 hk
        go_wp2_with fail
        refine ⟨⟨i + 1, hlo, by go_num, fun j hj hji => ?_, trivial⟩, by simp [intOf]; omega⟩
        rcases Nat.lt_or_ge j i with h1 | h1
        · exact HNO.out j hj h1
        · have : j = i := by omega
          subst this
          exact HE.out
    · have hie : i = R.length := by omega
      subst hie
      go_wp2
      go_ret
      refine ⟨rfl, Or.inr ⟨fun x hx => ?_, rfl⟩⟩
      obtain ⟨j, hj, rfl⟩ := List.getElem_of_mem hx
      exact HNO.out j hj hj

def tot (R : List RefE) : Nat := (R.map (·.h.length)).sum
theorem tot_snoc (R : List RefE) (i : Nat) (h : i < R.length) : tot (R.take (i + 1)) = tot (R.take i) + R[i].h.length := by
  unfold tot
  rw [List.take_succ_eq_append_getElem h, List.map_append, List.sum_append]; simp
theorem tot_split (R : List RefE) (i : Nat) : tot R = tot (R.take i) + tot (R.drop i) := by
  unfold tot
  conv => lhs; rw [← List.take_append_drop i R]
  rw [List.map_append, List.sum_append]
theorem len_tot (R : List RefE) (h : ∀ e ∈ R, e.h ≠ []) : R.length ≤ tot R := by
  induction R with
  | nil => simp [tot]
  | cons a r ih =>
    have h1 := ih (fun e he => h e (List.mem_cons_of_mem _ he))
    have h2 := List.length_pos_iff.2 (h a (List.mem_cons_self ..))
    simp only [tot, List.map_cons, List.sum_cons, List.length_cons] at *
    omega

set_option maxHeartbeats 1000000 in
set_option maxRecDepth 100000 in
theorem rcount_any (B k : Nat) (sl : Value) (R : List RefE) (nx tm : Int) (w : World) (H : RefAt B w k sl R nx tm) (hlt : R.length ≤ tot R) (hn : tot R ≤ 1000) :
    Calls Tryz.prog 88 #[.pointer (some ⟨k, 0, none⟩)] w fun e w' => e = .returned (.int .i64 (tot R : Int)) ∧ w = w' := by
  obtain ⟨va, vc, rfl, -⟩ := owns_form H.row
  have c0 := H.cells.c0
  have HH : Hid (RefAt B w k (.slice va R.length vc) R nx tm) := H
  clear H
  go_enter Tryz.func88, Tryz.ntmps88
  go_wp2_with fail
  go_loopw [3, 4] (fun s3 s4 wr => ∃ i : Nat, i ≤ R.length ∧ s3 = .int .i64 (tot (R.take i) : Int) ∧ s4 = .int .i64 i ∧ wr = w) (fun _ s4 _ => R.length - (intOf s4).toNat)
  case atStart => exact ⟨0, Nat.zero_le _, rfl, rfl, rfl⟩
  case round =>
    obtain ⟨i, hin, rfl, rfl, rfl⟩ := hrel
    have hts := tot_split R i
    by_cases hlo : i < R.length
    · skip
      obtain ⟨g, cap, he, -, -, e0, e1⟩ := HH.out.ent i hlo
      obtain ⟨vb, vd, hev, -⟩ := owns_form (HH.out.vers R[i] (List.getElem_mem hlo))
      rw [hev] at e1
      cases he
      have hts2 := tot_split R (i + 1)
      have HTS := tot_snoc R i hlo
      rw [HTS] at hts2
      have HT : Hid (tot (R.take (i + 1)) = tot (R.take i) + R[i].h.length) := HTS
      clear hev HTS e0
      have hii : (i : Int) < (R.length : Int) := by omega
      generalize R[i].h.length = m at *
      generalize tot (R.take i) = t at *
      go_wp2_with fail
      refine ⟨⟨i + 1, hlo, by rw [HT.out]; go_num, by go_num, trivial⟩, by simp [intOf]; omega⟩
    · have hie : i = R.length := by omega
      subst hie
      have HT : Hid (R.take R.length = R) := List.take_length
      go_wp2
      go_ret
      exact ⟨ret_int (congrArg (fun l => (tot l : Int)) HT.out), rfl⟩

end Go.Proofs.YtnapepbdohidgaaGreatDoor
