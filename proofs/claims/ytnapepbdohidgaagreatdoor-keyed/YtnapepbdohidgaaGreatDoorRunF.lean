/- A script's answers, told plainly. -/
import Derived.Test.YtnapepbdohidgaaGreatDoorAnswer2
namespace Go.Proofs.YtnapepbdohidgaaGreatDoor
open Go.RowKit

def st0 : St := ⟨fun _ => [], 0, 0⟩
def stAfter (st : St) (ops : List OpD) : St := ops.foldl (fun s o => (stepSt s o).1) st
def answers (st : St) : List OpD → List AnsD
  | [] => []
  | o :: r => (stepSt st o).2 :: answers (stepSt st o).1 r
def runF (ops : List OpD) : List AnsD := answers st0 ops

theorem answers_len (ops : List OpD) : ∀ st, (answers st ops).length = ops.length := by
  induction ops with
  | nil => intro st; rfl
  | cons o r ih => intro st; simp [answers, ih]
theorem runF_len (ops : List OpD) : (runF ops).length = ops.length := answers_len ops st0
theorem answers_append (a b : List OpD) : ∀ st, answers st (a ++ b) = answers st a ++ answers (stAfter st a) b := by
  induction a with
  | nil => intro st; rfl
  | cons o r ih => intro st; simp [answers, ih, stAfter]
theorem stAfter_append (a b : List OpD) (st : St) : stAfter st (a ++ b) = stAfter (stAfter st a) b := by simp [stAfter]
theorem runF_snoc (a : List OpD) (o : OpD) : runF (a ++ [o]) = runF a ++ [(stepSt (stAfter st0 a) o).2] := by
  unfold runF; rw [answers_append]; rfl
theorem stAfter_snoc (a : List OpD) (o : OpD) : stAfter st0 (a ++ [o]) = (stepSt (stAfter st0 a) o).1 := by rw [stAfter_append]; rfl
theorem runF_take (ops : List OpD) (k : Nat) : runF (ops.take k) = (runF ops).take k := by
  unfold runF
  by_cases hk : k ≤ ops.length
  · have e : answers st0 ops = answers st0 (ops.take k) ++ answers (stAfter st0 (ops.take k)) (ops.drop k) := by rw [← answers_append, List.take_append_drop]
    rw [e]
    exact (List.take_left' (by rw [answers_len, List.length_take]; omega)).symm
  · rw [List.take_of_length_le (by omega), List.take_of_length_le (by rw [answers_len]; omega)]

theorem inv0 : Inv st0 0 := by
  refine ⟨by simp [st0], by simp [st0], by simp [st0], by simp [st0], ?_, ?_⟩
  · intro k i j _ hj; simp [st0] at hj
  · intro k i hi; simp [st0] at hi
theorem inv_after (ops : List OpD) : ∀ (st : St) (s : Nat), Inv st s → Inv (stAfter st ops) (s + ops.length) := by
  induction ops with
  | nil => intro st s h; exact h
  | cons o r ih => intro st s h; have := ih (stepSt st o).1 (s + 1) (h.step o); simp only [List.length_cons]; rw [show s + (r.length + 1) = s + 1 + r.length by omega]; exact this
theorem inv_run (ops : List OpD) : Inv (stAfter st0 ops) ops.length := by have := inv_after ops st0 0 inv0; rwa [Nat.zero_add] at this

def opCells (o : OpD) : List Value := [.int .i64 o.kind, .string o.key, .string o.body, .string o.delim, .string o.past, .int .i64 o.n, .int .i64 o.src]
def ansCells (l : List AnsD) : List Value := l.flatMap fun a => [.int .i64 a.code, .int .i64 a.ver, .string a.body, .slice none 0 0, .string ⟨#[]⟩]
theorem ansCells_len (l : List AnsD) : (ansCells l).length = l.length * 5 := flat_len 5 _ (fun _ => rfl) l
theorem ansCells_snoc (l : List AnsD) (a : AnsD) : ansCells (l ++ [a]) = ansCells l ++ [.int .i64 a.code, .int .i64 a.ver, .string a.body, .slice none 0 0, .string ⟨#[]⟩] := by simp [ansCells]

/-- A script in memory: its steps lie one behind the other. -/
def ScriptAt (w : World) (b off : Nat) (ops : List OpD) : Prop :=
  ∀ i (h : i < ops.length), w.cell? ⟨b, off + i * 7, none⟩ = some (.int .i64 ops[i].kind) ∧ w.cell? ⟨b, off + i * 7 + 1, none⟩ = some (.string ops[i].key) ∧ w.cell? ⟨b, off + i * 7 + 2, none⟩ = some (.string ops[i].body) ∧
    w.cell? ⟨b, off + i * 7 + 3, none⟩ = some (.string ops[i].delim) ∧ w.cell? ⟨b, off + i * 7 + 4, none⟩ = some (.string ops[i].past) ∧ w.cell? ⟨b, off + i * 7 + 5, none⟩ = some (.int .i64 ops[i].n) ∧ w.cell? ⟨b, off + i * 7 + 6, none⟩ = some (.int .i64 ops[i].src)
def Sized (ops : List OpD) : Prop := ∀ o ∈ ops, o.key.size ≤ maxLen ∧ o.body.size ≤ maxLen

theorem StoreAt.other {A : Nat → Prop} {w w' : World} {k0 k1 : Nat} {st : St} (S : StoreAt A w k0 st) (hg : w.grownBy w' (some k1)) (hk : k1 ≠ k0) (hA : ¬ A k1) : StoreAt A w' k0 st := by
  obtain ⟨p, C, hN⟩ := S.cells
  have hlt := S.lt
  have hne : ∀ o, some (⟨k0, o, none⟩ : Addr).block ≠ some k1 := fun o e => hk (by simpa using e.symm)
  refine storeAt_of (p := p) ⟨hg.cell C.c0 (hne 0), hg.cell C.c1 (hne 1), hg.cell C.c2 (hne 2), fun j => (grown_frozen hg ⟨k0, j, none⟩ hlt (hne j)).trans (C.fz j)⟩ ?_ S.avoid
  exact NodeAt.keep (fun b h1 h2 => ⟨h1, hg.block b h2 (by intro e; cases e; exact hA h1)⟩) 41 p st.f hN

theorem Tryz.infoAns : (Tryz.prog.info? 36).map (fun i => (i.zero, i.size, i.bytes)) = some (some (.agg #[.int .i64 0, .int .i64 0, .string ⟨#[]⟩, .slice none 0 0, .string ⟨#[]⟩]), 5, 72) := by kernel_rfl

end Go.Proofs.YtnapepbdohidgaaGreatDoor
