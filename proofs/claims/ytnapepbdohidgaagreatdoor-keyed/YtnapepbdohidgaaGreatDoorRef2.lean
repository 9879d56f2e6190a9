/- shelfref: the shelf in memory, changed. -/
import Derived.Test.YtnapepbdohidgaaGreatDoorRef1
import Derived.Deep.AppendLies
namespace Go.Proofs.YtnapepbdohidgaaGreatDoor
open Go.RowKit

theorem Cells3.grown {w w' : World} {b : Nat} {x y z : Value} {row : Option Nat} (h : Cells3 w b x y z) (hg : w.grownBy w' row) (hne : row ≠ some b) : Cells3 w' b x y z :=
  ⟨hg.cell h.c0 (fun e => hne e.symm), hg.cell h.c1 (fun e => hne e.symm), hg.cell h.c2 (fun e => hne e.symm), fun j => (grown_frozen hg ⟨b, j, none⟩ h.lt (fun e => hne e.symm)).trans (h.fz j)⟩

theorem RefAt.grown {B : Nat} {w w' : World} {k : Nat} {sl : Value} {R : List RefE} {nx tm : Int} {row : Option Nat} (H : RefAt B w k sl R nx tm) (hg : w.grownBy w' row) (h1 : row ≠ some k) (h2 : sl.ownBlock = none ∨ sl.ownBlock ≠ row) (h3 : ∀ e ∈ R, e.v.ownBlock = none ∨ e.v.ownBlock ≠ row) :
    RefAt B w' k sl R nx tm :=
  ⟨H.cells.grown hg h1, H.row.kept hg h2, fun e he => (H.vers e he).kept hg (h3 e he), H.apart, H.apartV, H.apartE, H.pw⟩
theorem none_or (o : Option Nat) : o = none ∨ o ≠ none := by cases o <;> simp
theorem RefAt.below {B : Nat} {w w' : World} {k : Nat} {sl : Value} {R : List RefE} {nx tm : Int} (H : RefAt B w k sl R nx tm) (hb : Below w.heap.size w w') : RefAt B w' k sl R nx tm :=
  H.grown (below_grown hb none) (by simp) (none_or _) (fun _ _ => none_or _)
theorem RefAt.alloc {B : Nat} {w : World} {k : Nat} {sl : Value} {R : List RefE} {nx tm : Int} (H : RefAt B w k sl R nx tm) (o : Obj) : RefAt B (w.alloc o) k sl R nx tm :=
  H.below ((Below.refl _ _).alloc (Nat.le_refl _) _)
theorem RefAt.lt {B : Nat} {w : World} {k : Nat} {sl : Value} {R : List RefE} {nx tm : Int} (H : RefAt B w k sl R nx tm) : k < w.heap.size := H.cells.lt
theorem grown_self (w : World) (k o : Nat) (v : Value) : w.grownBy (w.setCell ⟨k, o, none⟩ v) (some k) := grown_set_row (World.grownBy.refl w _) _ _

theorem RefAt.set1 {B : Nat} {w : World} {k : Nat} {sl : Value} {R : List RefE} {nx tm : Int} (H : RefAt B w k sl R nx tm) (nx' : Int) : RefAt B (w.setCell ⟨k, 1, none⟩ (.int .i64 nx')) k sl R nx' tm :=
  ⟨H.cells.set1 _, H.row.kept (grown_self w k 1 _) (Or.inr H.apart), fun e he => (H.vers e he).kept (grown_self w k 1 _) (Or.inr (H.apartV e he)), H.apart, H.apartV, H.apartE, H.pw⟩

theorem row_some {w : World} {B : Nat} {e : TypeId} {size : Nat} {v : Value} {n : Nat} {xs : List Value} (h : w.ownsRow B e size v n xs) (hn : 0 < n) : v.ownBlock ≠ none := by
  obtain ⟨g, cap, rfl, -⟩ := owns_some h hn
  simp [Value.ownBlock]

/-- The entries' row, another one: its first cell's store. -/
theorem RefAt.put0 {B : Nat} {w w1 : World} {k g : Nat} {sl sl' : Value} {R R' : List RefE} {nx tm : Int} (H : RefAt B w k sl R nx tm) (hg : w.grownBy w1 sl.ownBlock) (ho : w1.ownsRow B 154 2 sl' R'.length (entCells R')) (hs : sl'.ownBlock = some g)
    (hgs : sl.ownBlock = some g ∨ w.heap.size ≤ g) (hv : ∀ e ∈ R', (e ∈ R) ∨ (e.h = [] ∧ e.v = .slice none 0 0)) (hpw : R'.Pairwise (fun a b => a.v.ownBlock ≠ b.v.ownBlock)) :
    RefAt B (w1.setCell ⟨k, 0, none⟩ sl') k sl' R' nx tm := by
  have hk := H.lt
  have hgk : g ≠ k := by
    rcases hgs with h | h
    · intro e; subst e; exact H.apart h
    · omega
  have hE : ∀ e ∈ R, e.v.ownBlock ≠ some g := fun e he => by
    rcases hgs with h | h
    · rw [← h]; exact H.apartE e he
    · intro hb; have := (H.vers e he).lt g hb; omega
  have hset := grown_self w1 k 0 sl'
  refine ⟨(H.cells.grown hg (fun e => H.apart e)).set0 _, ho.kept hset (Or.inr (by rw [hs]; simpa using hgk)), ?_, by rw [hs]; simpa using hgk, ?_, ?_, hpw⟩
  · intro e he
    rcases hv e he with h | ⟨h1, h2⟩
    · exact ((H.vers e h).kept hg (Or.inr (H.apartE e h))).kept hset (Or.inr (H.apartV e h))
    · rw [h1, h2]; exact World.ownsRow_nil _ _ _ _
  · intro e he
    rcases hv e he with h | ⟨h1, h2⟩
    · exact H.apartV e h
    · rw [h2]; simp [Value.ownBlock]
  · intro e he
    rw [hs]
    rcases hv e he with h | ⟨h1, h2⟩
    · exact hE e h
    · rw [h2]; simp [Value.ownBlock]

theorem entCells_set (R : List RefE) (i : Nat) (hi : i < R.length) (h : List Ver) (v : Value) : (entCells R).set (i * 2 + 1) v = entCells (R.set i ⟨R[i].key, h, v⟩) := by
  have h1 : R = R.take i ++ R[i] :: R.drop (i + 1) := by simp
  have h2 : (R.take i).length = i := by rw [List.length_take]; omega
  have h3 : (entCells (R.take i)).length = i * 2 := by rw [entCells_len, h2]
  have e1 : entCells R = entCells (R.take i) ++ ([.string R[i].key, R[i].v] ++ entCells (R.drop (i + 1))) :=
    (congrArg entCells h1).trans (by unfold entCells; rw [List.flatMap_append, List.flatMap_cons])
  have e2 : R.set i ⟨R[i].key, h, v⟩ = R.take i ++ ⟨R[i].key, h, v⟩ :: R.drop (i + 1) := by
    rw [List.set_eq_take_append_cons_drop, if_pos hi]
  rw [e2, e1, List.set_append_right _ _ (by omega), h3, Nat.add_sub_cancel_left]
  simp [entCells]

theorem pw_set {R : List RefE} {i : Nat} (_hi : i < R.length) {x : RefE} (hp : R.Pairwise (fun a b => a.v.ownBlock ≠ b.v.ownBlock)) (hx : ∀ j (hj : j < R.length), j ≠ i → R[j].v.ownBlock ≠ x.v.ownBlock) : (R.set i x).Pairwise (fun a b => a.v.ownBlock ≠ b.v.ownBlock) := by
  rw [List.pairwise_iff_getElem] at hp ⊢
  intro a b ha hb hab
  rw [List.length_set] at ha hb
  rw [List.getElem_set, List.getElem_set]
  by_cases h1 : i = a
  · have h2 : ¬ i = b := by omega
    rw [if_pos h1, if_neg h2]
    exact fun e => hx b hb (by omega) e.symm
  · rw [if_neg h1]
    by_cases h2 : i = b
    · rw [if_pos h2]; exact hx a ha (by omega)
    · rw [if_neg h2]; exact hp a b ha hb hab

/-- An entry's row, another one. -/
theorem RefAt.putV {B : Nat} {w w1 : World} {k ge : Nat} {cap : Nat} {R : List RefE} {nx tm : Int} {i : Nat} (H : RefAt B w k (.slice (some ⟨ge, 0, none⟩) R.length cap) R nx tm) (hi : i < R.length) {v' : Value} {h' : List Ver} {row : Option Nat} (hg : w.grownBy w1 row) (hrow : row = none ∨ row = R[i].v.ownBlock)
    (ho : w1.ownsRow B 145 3 v' h'.length (verCells h')) (hv : v'.ownBlock = none ∨ v'.ownBlock = R[i].v.ownBlock ∨ ∃ g, v'.ownBlock = some g ∧ w.heap.size ≤ g) (hfull : ∀ j (hj : j < R.length), j ≠ i → R[j].h ≠ []) :
    RefAt B (w1.setCell ⟨ge, i * 2 + 1, none⟩ v') k (.slice (some ⟨ge, 0, none⟩) R.length cap) (R.set i ⟨R[i].key, h', v'⟩) nx tm := by
  have hk := H.lt
  have hmem : R[i] ∈ R := List.getElem_mem hi
  have hge := H.row.lt ge rfl
  have hrk : row ≠ some k := by
    rcases hrow with h | h
    · rw [h]; simp
    · rw [h]; exact H.apartV _ hmem
  have hrs : row ≠ some ge := by
    rcases hrow with h | h
    · rw [h]; simp
    · rw [h]; exact H.apartE _ hmem
  have hne : ∀ b, b < w.heap.size → R[i].v.ownBlock ≠ some b → v'.ownBlock ≠ some b := by
    intro b hb hn
    rcases hv with h | h | ⟨g, h, hgg⟩
    · rw [h]; simp
    · rw [h]; exact hn
    · rw [h]; simp; omega
  have hvk : v'.ownBlock ≠ some k := hne k hk (H.apartV _ hmem)
  have hvs : v'.ownBlock ≠ some ge := hne ge hge.2 (H.apartE _ hmem)
  have hpw := H.pw
  rw [List.pairwise_iff_getElem] at hpw
  have hoth : ∀ j (hj : j < R.length), j ≠ i → R[j].v.ownBlock ≠ R[i].v.ownBlock := fun j hj hji => by
    rcases Nat.lt_or_gt_of_ne hji with h | h
    · exact hpw j i hj hi h
    · exact fun e => hpw i j hi hj h e.symm
  have hothv : ∀ j (hj : j < R.length), j ≠ i → R[j].v.ownBlock ≠ v'.ownBlock := fun j hj hji => by
    cases hb : R[j].v.ownBlock with
    | none => exact absurd hb (row_some (H.vers _ (List.getElem_mem hj)) (List.length_pos_iff.2 (hfull j hj hji)))
    | some b =>
      have hlt := (H.vers _ (List.getElem_mem hj)).lt b hb
      exact fun e => hne b hlt.2 (fun e2 => hoth j hj hji (by rw [hb, e2])) e.symm
  have hs := (H.row.kept hg (Or.inr (fun e => hrs e.symm))).stored (i * 2 + 1) v'
  have hset := hs.2
  have hc := (H.cells.grown hg hrk).grown hset (fun e => H.apart (by simpa [Value.ownBlock] using e))
  have hmem' : ∀ e ∈ R.set i ⟨R[i].key, h', v'⟩, e = ⟨R[i].key, h', v'⟩ ∨ ∃ j, ∃ hj : j < R.length, j ≠ i ∧ e = R[j] := fun e he => by
    obtain ⟨j, hj, rfl⟩ := List.getElem_of_mem he
    rw [List.length_set] at hj
    rw [List.getElem_set]
    by_cases hij : i = j
    · rw [if_pos hij]; exact Or.inl rfl
    · rw [if_neg hij]; exact Or.inr ⟨j, hj, fun e => hij e.symm, rfl⟩
  refine ⟨hc, ?_, ?_, H.apart, ?_, ?_, pw_set hi H.pw hothv⟩
  · rw [List.length_set, ← entCells_set R i hi h' v']; exact hs.1
  · intro e he
    rcases hmem' e he with rfl | ⟨j, hj, hji, rfl⟩
    · exact ho.kept hset (Or.inr hvs)
    · have hjm := List.getElem_mem hj
      refine ((H.vers _ hjm).kept hg ?_).kept hset (Or.inr (H.apartE _ hjm))
      rcases hrow with h | h
      · rw [h]; exact none_or _
      · rw [h]; exact Or.inr (hoth j hj hji)
  · intro e he
    rcases hmem' e he with rfl | ⟨j, hj, hji, rfl⟩
    · exact hvk
    · exact H.apartV _ (List.getElem_mem hj)
  · intro e he
    rcases hmem' e he with rfl | ⟨j, hj, hji, rfl⟩
    · exact hvs
    · exact H.apartE _ (List.getElem_mem hj)

end Go.Proofs.YtnapepbdohidgaaGreatDoor
