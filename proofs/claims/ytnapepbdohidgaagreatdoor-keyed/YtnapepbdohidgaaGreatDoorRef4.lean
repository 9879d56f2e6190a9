/- shelfref: add, where there is room: what it leaves. -/
import Derived.Test.YtnapepbdohidgaaGreatDoorRef3
namespace Go.Proofs.YtnapepbdohidgaaGreatDoor
open Go.RowKit

/-- Ahead of the version's append: the entry is there. -/
def Mid (B k : Nat) (tm : Int) (st : St) (key bd : ByteArray) (mk : Bool) (w : World) (sl : Value) (R : List RefE) (wx : World) (i : Nat) : Prop :=
  ∃ sl1 R1, ∃ hi : i < R1.length, RefAt B wx k sl1 R1 (st.last + 1 + 1) tm ∧ (∀ j (hj : j < R1.length), j ≠ i → R1[j].h ≠ []) ∧ R1.length ≤ 1000 ∧ R1[i].h.length ≤ 1000 ∧ ResR (w.heap.size + 1) wx ∧
    Cells3 wx w.heap.size (.int .i64 (st.last + 1)) (.string bd) (.bool mk) ∧ RFrame w wx k sl R ∧ w.heap.size + 2 ≤ wx.heap.size ∧
    (∀ v', Sim (addSt st key bd mk) (R1.set i ⟨R1[i].key, R1[i].h ++ [⟨st.last + 1, bd, mk⟩], v'⟩) (st.last + 1 + 1)) ∧
    (∀ b, b < w.heap.size + 2 → sl1.ownBlock = some b → b < w.heap.size ∧ sl.ownBlock = some b) ∧ (∀ e ∈ R1, ∀ b, e.v.ownBlock = some b → b < w.heap.size ∧ ∃ e' ∈ R, e'.v.ownBlock = some b)

theorem frame_set0 {w w1 : World} {k : Nat} {sl : Value} {R : List RefE} (h : RFrame w w1 k sl R) (v : Value) (_hk : k < w1.heap.size) : RFrame w (w1.setCell ⟨k, 0, none⟩ v) k sl R :=
  ⟨h.os, h.tape, h.output, by simpa [World.setCell] using h.size, fun b h1 h2 h3 h4 => (Below.heap_setCell _ _ _ _ h2).trans (h.block b h1 h2 h3 h4),
    fun j hj => (World.cell?_setCell_other w1 ⟨k, 0, none⟩ ⟨k, j, none⟩ v (fun e => by have := congrArg Addr.off e; simp only at this; omega)).trans (h.cells j hj), fun j => (by simp : (w1.setCell ⟨k, 0, none⟩ v).frozen? ⟨k, j, none⟩ = w1.frozen? ⟨k, j, none⟩).trans (h.frozen j)⟩

theorem len_le (R : List RefE) (i : Nat) (hi : i < R.length) : R[i].h.length ≤ tot R := by
  have h1 := tot_split R i
  have h2 := tot_split R (i + 1)
  have h3 := tot_snoc R i hi
  omega

theorem midFound {B k : Nat} {tm nx : Int} {st : St} {key bd : ByteArray} {mk : Bool} {w : World} {sl : Value} {R : List RefE} {W0 : World} (H : RefAt B w k sl R nx tm) (S : Sim st R nx) (hc : ¬ 200 ≤ st.count) {i : Nat} (hi : i < R.length) (hk : R[i].key = key)
    (X : RefAt B W0 k sl R (st.last + 1 + 1) tm ∧ ResR (w.heap.size + 1) W0 ∧ Cells3 W0 w.heap.size (.int .i64 (st.last + 1)) (.string bd) (.bool mk) ∧ RFrame w W0 k sl R ∧ W0.heap.size = w.heap.size + 2) : Mid B k tm st key bd mk w sl R W0 i := by
  have h1 := len_tot R S.full
  have h2 := S.lim
  have h3 := len_le R i hi
  refine ⟨sl, R, hi, X.1, fun j hj _ => S.full _ (List.getElem_mem hj), by omega, by omega, X.2.1, X.2.2.1, X.2.2.2.1, by omega, fun v' => S.addFound hi hk bd mk v' hc, fun b _ hb => ⟨(H.row.lt b hb).2, hb⟩, fun e he b hb => ⟨((H.vers e he).lt b hb).2, e, he, hb⟩⟩

theorem midNew {B k : Nat} {tm nx : Int} {st : St} {key bd : ByteArray} {mk : Bool} {w : World} {sl : Value} {R : List RefE} {W0 : World} (H : RefAt B w k sl R nx tm) (S : Sim st R nx) (hc : ¬ 200 ≤ st.count) (hno : ∀ x ∈ R, x.key ≠ key)
    (X : RefAt B W0 k sl R (st.last + 1 + 1) tm ∧ ResR (w.heap.size + 1) W0 ∧ Cells3 W0 w.heap.size (.int .i64 (st.last + 1)) (.string bd) (.bool mk) ∧ RFrame w W0 k sl R ∧ W0.heap.size = w.heap.size + 2) (o : Obj) {w3 : World} {g cap : Nat}
    (ho : w3.ownsRow B 154 2 (.slice (some ⟨g, 0, none⟩) (R.length + 1) cap) (R.length + 1) (entCells R ++ [.string key, .slice none 0 0])) (hg3 : (W0.alloc o).grownBy w3 sl.ownBlock) (hgg : sl.ownBlock = some g ∨ g = W0.heap.size + 1) :
    Mid B k tm st key bd mk w sl R (w3.setCell ⟨k, 0, none⟩ (.slice (some ⟨g, 0, none⟩) (R.length + 1) cap)) R.length := by
  obtain ⟨X1, X2, X3, X4, X5⟩ := X
  have h1 := len_tot R S.full
  have h2 := S.lim
  have hk := H.lt
  have hkW := X1.lt
  have hEA : entCells (R ++ [⟨key, [], .slice none 0 0⟩]) = entCells R ++ [.string key, .slice none 0 0] := by unfold entCells; rw [List.flatMap_append]; rfl
  have hlen : (R ++ [⟨key, [], .slice none 0 0⟩] : List RefE).length = R.length + 1 := by simp
  have hlast : ∀ (h : R.length < (R ++ [⟨key, [], .slice none 0 0⟩] : List RefE).length), (R ++ [⟨key, [], .slice none 0 0⟩] : List RefE)[R.length] = ⟨key, [], .slice none 0 0⟩ := fun h => by simp
  have hsl : ∀ b, sl.ownBlock = some b → b < w.heap.size := fun b hb => (H.row.lt b hb).2
  have hslk : sl.ownBlock ≠ some k := H.apart
  have hA := X1.alloc o
  have hpw : (R ++ [⟨key, [], .slice none 0 0⟩] : List RefE).Pairwise (fun a b => a.v.ownBlock ≠ b.v.ownBlock) := by
    rw [List.pairwise_append]
    refine ⟨X1.pw, List.pairwise_singleton _ _, fun a ha b hb => ?_⟩
    simp only [List.mem_cons, List.not_mem_nil, or_false] at hb
    subst hb
    exact row_some (X1.vers a ha) (List.length_pos_iff.2 (S.full a ha))
  have hgs : sl.ownBlock = some g ∨ (W0.alloc o).heap.size ≤ g := by
    rcases hgg with h | h
    · exact Or.inl h
    · exact Or.inr (by simp; omega)
  have hput := hA.put0 (g := g) (sl' := .slice (some ⟨g, 0, none⟩) (R.length + 1) cap) (R' := R ++ [⟨key, [], .slice none 0 0⟩]) hg3 (by rw [hlen, hEA]; exact ho) rfl hgs
    (fun e he => by
      rcases List.mem_append.1 he with h | h
      · exact Or.inl h
      · simp only [List.mem_cons, List.not_mem_nil, or_false] at h; subst h; exact Or.inr ⟨rfl, rfl⟩) hpw
  have hs0 := grown_self w3 k 0 (.slice (some ⟨g, 0, none⟩) (R.length + 1) cap)
  have hAb : Below W0.heap.size W0 (W0.alloc o) := (Below.refl _ _).alloc (Nat.le_refl _) _
  have hne1 : sl.ownBlock ≠ some (w.heap.size + 1) := fun e => by have := hsl _ e; omega
  have hne0 : sl.ownBlock ≠ some w.heap.size := fun e => by have := hsl _ e; omega
  have hsz3 := hg3.size
  have hsza : (W0.alloc o).heap.size = W0.heap.size + 1 := by simp
  have hszs : (w3.setCell ⟨k, 0, none⟩ (.slice (some ⟨g, 0, none⟩) (R.length + 1) cap)).heap.size = w3.heap.size := by simp [World.setCell]
  refine ⟨_, _, by rw [hlen]; omega, hput, ?_, by rw [hlen]; omega, by rw [hlast]; simp, ?_, ?_, ?_, by omega, ?_, ?_, ?_⟩
  · intro j hj hji
    rw [hlen] at hj
    rw [List.getElem_append_left (by omega)]
    exact S.full _ (List.getElem_mem _)
  · exact ((X2.on hAb).grown hg3 hne1).grown hs0 (by simp; omega)
  · exact ((X3.on hAb).grown hg3 hne0).grown hs0 (by simp; omega)
  · refine frame_set0 (((X4.below hAb hkW).step hg3 (fun b _ h => Or.inl h) (by omega) hslk)) _ (by omega)
  · intro v'
    rw [hlast, List.set_append_right _ _ (Nat.le_refl _), Nat.sub_self]
    exact S.addNew hno bd mk v' hc
  · intro b hb he
    simp only [Value.ownBlock, Option.some.injEq] at he
    rcases hgg with h | h
    · exact ⟨hsl b (by rw [h, he]), by rw [h, he]⟩
    · omega
  · intro e he b hb
    rcases List.mem_append.1 he with h | h
    · exact ⟨((H.vers e h).lt b hb).2, e, h, hb⟩
    · simp only [List.mem_cons, List.not_mem_nil, or_false] at h
      subst h
      simp [Value.ownBlock] at hb

/-- Behind the version's append and the store of its row. -/
def Put (B k : Nat) (tm : Int) (st' : St) (nx' : Int) (ver : Int) (bd : ByteArray) (mk : Bool) (w : World) (sl : Value) (R : List RefE) (wx : World) : Prop :=
  ∃ sl' R', RefAt B wx k sl' R' nx' tm ∧ Sim st' R' nx' ∧ RFrame w wx k sl R ∧ ResR (w.heap.size + 1) wx ∧ Cells3 wx w.heap.size (.int .i64 ver) (.string bd) (.bool mk) ∧ w.heap.size + 2 ≤ wx.heap.size ∧ sl'.ownBlock ≠ some (w.heap.size + 1) ∧ (∀ e ∈ R', e.v.ownBlock ≠ some (w.heap.size + 1))

theorem midPut {B k : Nat} {tm : Int} {st : St} {key bd : ByteArray} {mk : Bool} {w : World} {sl : Value} {R R1 : List RefE} {wc w3 : World} {ge ecap g cap i : Nat} {va : Option Addr} {vc : Nat} (hi : i < R1.length)
    (Y : RefAt B wc k (.slice (some ⟨ge, 0, none⟩) R1.length ecap) R1 (st.last + 1 + 1) tm ∧ ResR (w.heap.size + 1) wc ∧ Cells3 wc w.heap.size (.int .i64 (st.last + 1)) (.string bd) (.bool mk) ∧ RFrame w wc k sl R ∧ R1[i].v = .slice va R1[i].h.length vc)
    (Z : (∀ j (hj : j < R1.length), j ≠ i → R1[j].h ≠ []) ∧ (∀ v', Sim (addSt st key bd mk) (R1.set i ⟨R1[i].key, R1[i].h ++ [⟨st.last + 1, bd, mk⟩], v'⟩) (st.last + 1 + 1)) ∧ (∀ b, b < w.heap.size + 2 → (Value.slice (some ⟨ge, 0, none⟩) R1.length ecap).ownBlock = some b → b < w.heap.size ∧ sl.ownBlock = some b) ∧ (∀ e ∈ R1, ∀ b, e.v.ownBlock = some b → b < w.heap.size ∧ ∃ e' ∈ R, e'.v.ownBlock = some b) ∧ w.heap.size + 2 ≤ wc.heap.size) (o : Obj)
    (ho : w3.ownsRow B 145 3 (.slice (some ⟨g, 0, none⟩) (R1[i].h.length + 1) cap) (R1[i].h.length + 1) (verCells R1[i].h ++ [.int .i64 (st.last + 1), .string bd, .bool mk])) (hg3' : (wc.alloc o).grownBy w3 (Value.slice va R1[i].h.length vc).ownBlock) (hgg' : (Value.slice va R1[i].h.length vc).ownBlock = some g ∨ g = wc.heap.size + 1) :
    Put B k tm (addSt st key bd mk) (st.last + 1 + 1) (st.last + 1) bd mk w sl R (w3.setCell ⟨ge, i * 2 + 1, none⟩ (.slice (some ⟨g, 0, none⟩) (R1[i].h.length + 1) cap)) := by
  obtain ⟨Y1, Y2, Y3, Y4, Y5⟩ := Y
  obtain ⟨Z1, Z2, Z3, Z4, Z5⟩ := Z
  rw [← Y5] at hg3' hgg'
  have hmem : R1[i] ∈ R1 := List.getElem_mem hi
  have hkc := Y1.lt
  have hA := Y1.alloc o
  have hAb : Below wc.heap.size wc (wc.alloc o) := (Below.refl _ _).alloc (Nat.le_refl _) _
  have hsza : (wc.alloc o).heap.size = wc.heap.size + 1 := by simp
  have hold : ∀ b, w.heap.size ≤ b → R1[i].v.ownBlock ≠ some b := fun b hb e => by have := (Z4 _ hmem b e).1; omega
  have hgeb : ∀ b, w.heap.size ≤ b → b < w.heap.size + 2 → ge ≠ b := fun b h1 h2 e => by have := (Z3 b h2 (by rw [← e]; rfl)).1; omega
  have hsz3 := hg3'.size
  have hszs : (w3.setCell ⟨ge, i * 2 + 1, none⟩ (.slice (some ⟨g, 0, none⟩) (R1[i].h.length + 1) cap)).heap.size = w3.heap.size := by simp [World.setCell]
  have hs0 := grown_self w3 ge (i * 2 + 1) (.slice (some ⟨g, 0, none⟩) (R1[i].h.length + 1) cap)
  have hput := hA.putV (v' := .slice (some ⟨g, 0, none⟩) (R1[i].h.length + 1) cap) (h' := R1[i].h ++ [⟨st.last + 1, bd, mk⟩]) hi hg3' (Or.inr rfl) (by rw [verCells_snoc]; simpa using ho)
    (by rcases hgg' with h | h
        · exact Or.inr (Or.inl h.symm)
        · exact Or.inr (Or.inr ⟨g, rfl, by omega⟩)) Z1
  have hgk : ge ≠ k := fun e => Y1.apart (by rw [← e]; rfl)
  refine ⟨_, _, hput, Z2 _, ?_, ((Y2.on hAb).grown hg3' (hold _ (by omega))).grown hs0 (by simpa using hgeb _ (by omega) (by omega)), ((Y3.on hAb).grown hg3' (hold _ (by omega))).grown hs0 (by simpa using hgeb _ (by omega) (by omega)), by omega, by simpa [Value.ownBlock] using hgeb _ (by omega) (by omega), ?_⟩
  · refine ((Y4.below hAb hkc).step hg3' (fun b hb e => Or.inr (Z4 _ hmem b e).2) (by omega) (Y1.apartV _ hmem)).step hs0 (fun b hb e => Or.inl ?_) (by omega) (by simpa using hgk)
    exact (Z3 b (by omega) e).2
  · intro e he
    rcases mem_set he with rfl | ⟨j, hj, -, rfl⟩
    · intro hb
      simp only [Value.ownBlock, Option.some.injEq] at hb
      rcases hgg' with h | h
      · exact hold (w.heap.size + 1) (by omega) (by rw [h, hb])
      · omega
    · intro hb
      have := (Z4 _ (List.getElem_mem hj) _ hb).1
      omega

end Go.Proofs.YtnapepbdohidgaaGreatDoor
