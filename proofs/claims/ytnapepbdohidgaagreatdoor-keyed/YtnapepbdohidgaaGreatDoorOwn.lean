/- Rows of the call's own, as blocks: copy, clear, append in place. -/
import Derived.Test.YtnapepbdohidgaaGreatDoorSlc
import Derived.Deep.RegionLaw
import Derived.Deep.RegionHeld3
import Derived.Lib.AppendZerosOnto
import Derived.Lib.Overlaps
import Derived.Laws.Externs
import Derived.Laws.NewBlocks
namespace Go.Proofs.YtnapepbdohidgaaGreatDoor
open Go.RowKit

section
variable {P : Program}

theorem run_copy_rows (w : World) (dT sT ty elem : TypeId) (i : TypeInfo) (g o dLen dCap : Nat) (a : Addr) (sLen sCap : Nat) (cur : Array Value) (t : TypeId) (cs : List Value)
    (hu : P.underlying dT = some (.slice elem)) (hi : P.info? elem = some i)
    (hg : w.heap[g]? = some (.cells cur t (0, 0))) (hn : cs.length = Nat.min sLen dLen * i.size)
    (hsrc : ∀ j v, cs[j]? = some v → w.cell? (a.add j) = some v) (hfit : o + cs.length ≤ cur.size) (h1 : ∀ v ∈ cs, v.oneCell' = true) :
    (Builtin.copy_ #[dT, sT] ty #[.slice (some ⟨g, o, none⟩) dLen dCap, .slice (some a) sLen sCap]).run P w =
      .ok (goInt (Nat.min sLen dLen)) (w.setRow g (cur.toList.take o ++ cs ++ cur.toList.drop (o + cs.length)).toArray) := by
  have hl := run_loadCells_list (P := P) w a cs hsrc
  have hst := run_storeCells_at P g o t cs 0 cur w hg (by simpa using hfit) h1
  simp [Builtin.copy_, run_underlying hu, Builtin.lenOf, Builtin.firstCells, sizeOf, typeInfo, hi, ← hn, hl, hst]

theorem run_clear_one (w : World) (t e ty : TypeId) (z : Value) (ht : P.underlying t = some (.slice e)) (hv : ∀ w, (zeroValue e).run P w = .ok z w) (h1 : ∀ v ∈ z.cells.toList, v.oneCell' = true)
    (g o c : Nat) (cur : Array Value) (T : TypeId) (hg : w.heap[g]? = some (.cells cur T (0, 0))) (hfit : o + z.cells.size ≤ cur.size) :
    (Builtin.clear_ #[t] ty #[.slice (some ⟨g, o, none⟩) 1 c]).run P w = .ok (.tuple #[]) (w.setRow g (cur.toList.take o ++ z.cells.toList ++ cur.toList.drop (o + z.cells.size)).toArray) := by
  have hzc : (Builtin.zeroCells z.cells 1) = z.cells := by
    apply Array.ext
    · simp [Builtin.zeroCells]
    · intro i h1 h2
      simp [Builtin.zeroCells, Nat.mod_eq_of_lt h2, h2]
  have hst := run_storeCells_at P g o T z.cells.toList 0 cur w hg (by simpa using hfit) h1
  simp only [Nat.add_zero, Array.length_toList] at hst
  simp [Builtin.clear_, run_underlying ht, hv, hzc, hst]

theorem step_copy_run {ops : Array Oper} {o : Oper} {a : Act} {w : World} {K : Act → World → Prop} {Q : Exit → Act → World → Prop} {E : Prop}
    (hg : o.guard = none) (d x : Operand) (dT sT : TypeId) (hop : o.op = Op.call { callee := Callee.builtin Builtin.copy, args := #[d, x], argTypes := #[dT, sT] })
    (v u : Value) (hd : a.eval d = v) (hx : a.eval x = u) {v' : Value} {w' : World} (hr : (Builtin.copy_ #[dT, sT] o.type #[v, u]).run P w = .ok v' w') (hK : K (a.put o.dst v') w') :
    if Region.wanted o (yielded ops a.tmps) = true then Oper.wp P o a w K Q else E := by
  have hw : Region.wanted o (yielded ops a.tmps) = true := by simp [Region.wanted, hg]
  rw [if_pos hw]
  unfold Oper.wp
  simp [execOp, hop, resolve, invoke, builtin, hd, hx, hr, Result.andThen]
  exact hK

theorem step_append_run {ops : Array Oper} {o : Oper} {a : Act} {w : World} {K : Act → World → Prop} {Q : Exit → Act → World → Prop} {E : Prop}
    (hg : o.guard = none) (d x : Operand) (dT sT : TypeId) (hop : o.op = Op.call { callee := Callee.builtin Builtin.append, args := #[d, x], argTypes := #[dT, sT] })
    (v u : Value) (hd : a.eval d = v) (hx : a.eval x = u) {v' : Value} {w' : World} (hr : (Builtin.append_ #[dT, sT] o.type #[v, u]).run P w = .ok v' w') (hK : K (a.put o.dst v') w') :
    if Region.wanted o (yielded ops a.tmps) = true then Oper.wp P o a w K Q else E := by
  have hw : Region.wanted o (yielded ops a.tmps) = true := by simp [Region.wanted, hg]
  rw [if_pos hw]
  unfold Oper.wp
  simp [execOp, hop, resolve, invoke, builtin, hd, hx, hr, Result.andThen]
  exact hK

theorem wp_copy_run (w : World) {o : Oper} {a : Act} {K : Act → World → Prop} {Q : Exit → Act → World → Prop} (d s : Operand) (t t' : TypeId)
    (ho : o.op = .call { callee := .builtin .copy, args := #[d, s], argTypes := #[t, t'] }) (v u : Value) (hd : a.eval d = v) (hs : a.eval s = u) {v' : Value} {w' : World}
    (hr : (Builtin.copy_ #[t, t'] o.type #[v, u]).run P w = .ok v' w') (h : K (a.put o.dst v') w') : o.wp P a w K Q := by
  unfold Oper.wp execOp
  simp only [ho, resolve, invoke, builtin, Sem.run_bind, Sem.run_pure, Result.andThen_ok, List.map_toArray, List.map_cons, List.map_nil, hd, hs, hr]
  exact h

theorem wpList_copy_run (w : World) {ops : Array Oper} {rest : List Oper} {o : Oper} {a : Act} {Q : Exit → Act → World → Prop} (hgd : o.guard = none) (d s : Operand) (t t' : TypeId)
    (ho : o.op = .call { callee := .builtin .copy, args := #[d, s], argTypes := #[t, t'] }) (v u : Value) (hd : a.eval d = v) (hs : a.eval s = u) {v' : Value} {w' : World}
    (hr : (Builtin.copy_ #[t, t'] o.type #[v, u]).run P w = .ok v' w') (h : wpList P ops Q rest (a.put o.dst v') w') : wpList P ops Q (o :: rest) a w :=
  wpList_plain hgd fun _ hK => wp_copy_run w d s t t' ho v u hd hs hr (hK _ _ h)
end

theorem owns_of_block {w : World} {base : Nat} {e : TypeId} {size g n cap : Nat} {cur : Array Value} {xs : List Value} (hb : base ≤ g) (hg : w.heap[g]? = some (.cells cur e (0, 0))) (hn : n ≤ cap) (hm : cap ≤ maxLen)
    (hs : cur.size = cap * size) (hx : cur.toList.take (n * size) = xs) : w.ownsRow base e size (.slice (some ⟨g, 0, none⟩) n cap) n xs := by
  refine ⟨?_, Or.inr ⟨g, cap, cur, rfl, hb, hg, hn, hm, hs, hx⟩⟩
  rw [← hx, List.length_take, Array.length_toList, hs]
  exact Nat.min_eq_left (Nat.mul_le_mul_right _ hn)

theorem grown_setRow (w : World) (g : Nat) (cs : Array Value) : w.grownBy (w.setRow g cs) (some g) :=
  ⟨rfl, rfl, rfl, by simp, fun k _ hk => setRow_other w g k _ (fun e => hk (by rw [e]))⟩

theorem grown_drew {w w' : World} {r : Option Nat} (h : w.grownBy w' r) : w.grownBy w'.drew r := ⟨h.os, h.tape, h.output, h.size, h.block⟩
theorem grown_trans {a b c : World} {r : Option Nat} (h : a.grownBy b r) (k : b.grownBy c r) : a.grownBy c r :=
  ⟨k.os.trans h.os, k.tape.trans h.tape, k.output.trans h.output, Nat.le_trans h.size k.size, fun i hi hr => (k.block i (Nat.lt_of_lt_of_le hi h.size) hr).trans (h.block i hi hr)⟩

theorem Tryz.zeroKid (w : World) : (zeroValue 190).run Tryz.prog w = .ok (.agg #[.int .u8 0, .pointer none]) w := by kernel_rfl
theorem Tryz.zeroVer (w : World) : (zeroValue 81).run Tryz.prog w = .ok (.agg #[.int .i64 0, .string ⟨#[]⟩, .bool false]) w := by kernel_rfl

theorem take_del {α : Type} (cur xs C1 Z : List α) (s k i cap : Nat) (hcl : cur.length = cap * s) (hk : k + 1 ≤ cap) (hi : i ≤ k) (hx : cur.take ((k + 1) * s) = xs)
    (hC1 : C1 = cur.take (i * s) ++ xs.drop ((i + 1) * s) ++ cur.drop (i * s + (xs.drop ((i + 1) * s)).length)) :
    (C1.take (k * s) ++ Z ++ C1.drop (k * s + s)).take (k * s) = xs.take (i * s) ++ xs.drop ((i + 1) * s) := by
  have m1 : (k + 1) * s = k * s + s := by rw [Nat.add_mul, Nat.one_mul]
  have m2 : (i + 1) * s = i * s + s := by rw [Nat.add_mul, Nat.one_mul]
  have m3 : (k + 1) * s ≤ cap * s := Nat.mul_le_mul_right _ hk
  have m4 : i * s ≤ k * s := Nat.mul_le_mul_right _ hi
  have hxl : xs.length = (k + 1) * s := by rw [← hx, List.length_take, hcl]; omega
  have e1 : cur.take (i * s) = xs.take (i * s) := by rw [← hx, List.take_take, Nat.min_eq_left (by omega)]
  have hl : (cur.take (i * s) ++ xs.drop ((i + 1) * s)).length = k * s := by
    rw [List.length_append, List.length_take, List.length_drop, hcl, hxl]; omega
  have e2 : C1.take (k * s) = cur.take (i * s) ++ xs.drop ((i + 1) * s) := by rw [hC1]; exact List.take_left' hl
  rw [e2, List.append_assoc, List.take_left' hl, e1]

set_option maxHeartbeats 1000000 in
set_option maxRecDepth 100000 in
theorem delK_any (base g k cap i : Nat) (xs : List Value) (w : World) (hown : w.ownsRow base 190 2 (.slice (some ⟨g, 0, none⟩) (k + 1) cap) (k + 1) xs) (hi : i ≤ k) (hn : k ≤ 2199023255552) (h1 : ∀ u ∈ xs, u.oneCell' = true) :
    Calls Tryz.prog 117 #[.slice (some ⟨g, 0, none⟩) (k + 1) cap, .int .i64 i, .int .i64 ((i : Int) + 1)] w fun e w' => e = .returned (.slice (some ⟨g, 0, none⟩) k cap) ∧
      w'.ownsRow base 190 2 (.slice (some ⟨g, 0, none⟩) k cap) k (xs.take (i * 2) ++ xs.drop ((i + 1) * 2)) ∧ w.grownBy w' (some g) := by
  obtain ⟨i0, hi0, hz0, hz1, hz2⟩ := info_parts Tryz.infoKid
  obtain ⟨hlen, hr⟩ := hown
  rcases hr with ⟨h0, _⟩ | ⟨g', cap', cur, hv, hbg, hg, hnc, hcm, hcs, htake⟩
  · cases h0
  cases hv
  obtain ⟨Z, hZ⟩ : ∃ Z : List Value, Z = (Value.agg #[.int .u8 0, .pointer none]).cells.toList := ⟨_, rfl⟩
  obtain ⟨news, hnews⟩ : ∃ news, news = xs.drop ((i + 1) * 2) := ⟨_, rfl⟩
  have hnl : news.length = (k - i) * 2 := by rw [hnews, List.length_drop, hlen]; omega
  obtain ⟨A, hA, hsrc⟩ : ∃ A : Addr, (if cap = i + 1 then some (⟨g, 0, none⟩ : Addr) else some ⟨g, (i + 1) * 2, none⟩) = some A ∧ Hid (∀ t u, news[t]? = some u → w.drew.cell? (A.add t) = some u) := by
    by_cases h : cap = i + 1
    · refine ⟨⟨g, 0, none⟩, by simp [h], fun t u hu => ?_⟩
      have h0 : news = [] := List.eq_nil_of_length_eq_zero (by omega)
      rw [h0] at hu; simp at hu
    · refine ⟨⟨g, (i + 1) * 2, none⟩, by simp [h], fun t u hu => ?_⟩
      rw [Addr.add_lit, hnews, List.getElem?_drop, ← htake, List.getElem?_take] at *
      have hu2 : (if (i + 1) * 2 + t < (k + 1) * 2 then cur.toList[(i + 1) * 2 + t]? else none) = some u := hu
      split at hu2
      · show w.cell? _ = _
        rw [World.cell?]
        simpa [hg] using hu2
      · cases hu2
  have hcl : cur.toList.length = cap * 2 := by rw [Array.length_toList, hcs]
  obtain ⟨C1, hC1⟩ : ∃ C1, C1 = cur.toList.take (i * 2) ++ news ++ cur.toList.drop (i * 2 + news.length) := ⟨_, rfl⟩
  have hC1l : C1.length = cap * 2 := by rw [hC1]; simp only [List.length_append, List.length_take, List.length_drop, hcl, hnl]; omega
  obtain ⟨W1, hW1⟩ : ∃ W1, W1 = w.drew.setRow g C1.toArray := ⟨_, rfl⟩
  have hW1g : W1.heap[g]? = some (.cells C1.toArray 190 (0, 0)) := by rw [hW1]; exact setRow_heap w.drew g cur _ _ _ hg
  have hap : ∀ ty c, (Builtin.append_ #[157, 157] ty #[.slice (some ⟨g, 0, none⟩) i cap, .slice (some A) (k - i) c]).run Tryz.prog w.drew = .ok (.slice (some ⟨g, 0, none⟩) k cap) W1 := fun ty c => by
    have := run_append_room (P := Tryz.prog) w.drew 157 ty 190 i0 Tryz.underlying157 hi0 g i cap cur hg A (k - i) c news (by rw [hz1]; exact hnl) hsrc.out (fun u hu => h1 u (by rw [hnews] at hu; exact List.mem_of_mem_drop hu)) (by omega) (by rw [hz1, hnl, hcs]; omega)
    rw [this, hz1, hW1, hC1, show i + (k - i) = k by omega]
  obtain ⟨C2, hC2⟩ : ∃ C2, C2 = C1.take (k * 2) ++ Z ++ C1.drop (k * 2 + 2) := ⟨_, rfl⟩
  obtain ⟨W2, hW2⟩ : ∃ W2, W2 = W1.setRow g C2.toArray := ⟨_, rfl⟩
  have hcr : ∀ ty c, (Builtin.clear_ #[157] ty #[.slice (some ⟨g, k * 2, none⟩) 1 c]).run Tryz.prog W1 = .ok (.tuple #[]) W2 := fun ty c => by
    rw [hW2, hC2, hZ]
    exact run_clear_one W1 157 190 ty (Value.agg #[.int .u8 0, .pointer none]) Tryz.underlying157 Tryz.zeroKid (by simp [Value.cells, Value.oneCell']) g (k * 2) c C1.toArray _ hW1g (by simp [Value.cells, hC1l]; omega)
  have hfin : W2.ownsRow base 190 2 (.slice (some ⟨g, 0, none⟩) k cap) k (xs.take (i * 2) ++ xs.drop ((i + 1) * 2)) := by
    rw [hW2]
    refine owns_of_block hbg (setRow_heap W1 g _ _ _ _ hW1g) (by omega) hcm ?_ ?_
    · rw [hC2, hZ]; simp only [List.size_toArray, List.length_append, List.length_take, List.length_drop, hC1l, Value.cells, List.length_cons, List.length_nil]; omega
    · rw [hC2]; exact take_del cur.toList xs C1 Z 2 k i cap hcl hnc hi htake (by rw [hC1, hnews])
  have hgr : w.grownBy W2 (some g) := by
    rw [hW2]
    refine grown_trans (b := W1) ?_ (grown_setRow _ _ _)
    rw [hW1]; exact grown_trans (grown_drew (World.grownBy.refl w _)) (grown_setRow _ _ _)
  have hb0 : (0 : Int) ≤ (i : Int) + 1 := by omega
  have hic : i ≤ cap := by omega
  have hjc : i + 1 ≤ cap := by omega
  have hkc : k + 1 ≤ cap := hnc
  have hc63 : cap ≤ 9223372036854775807 := by unfold maxLen at hcm; omega
  have hap' : Hid (∀ ty c, (Builtin.append_ #[157, 157] ty #[.slice (some ⟨g, 0, none⟩) i cap, .slice (some A) (k - i) c]).run Tryz.prog w.drew = .ok (.slice (some ⟨g, 0, none⟩) k cap) W1) := hap
  clear hlen hg hcs htake hnews hnl hcl hC1 hC1l hW1 hW1g hap hnc hcm hC2 hW2 hZ h1
  go_enter Tryz.func117, Tryz.ntmps117
  go_wp2_with fail
  go_region_law (refine step_append_run rfl (.tmp 22) (.tmp 25) 157 157 rfl (.slice (some ⟨g, 0, none⟩) i cap) (.slice (some A) (k - i) (cap - (i + 1))) (by simp [Act.eval, Act.put]) (by simp [Act.eval, Act.put]) (hap'.out _ _) ?_)
  go_wp2
  go_ret
  exact ⟨rfl, hfin, hgr⟩

set_option maxHeartbeats 1000000 in
set_option maxRecDepth 100000 in
theorem delV_any (base g k cap i : Nat) (xs : List Value) (w : World) (hown : w.ownsRow base 81 3 (.slice (some ⟨g, 0, none⟩) (k + 1) cap) (k + 1) xs) (hi : i ≤ k) (hn : k ≤ 2199023255552) (h1 : ∀ u ∈ xs, u.oneCell' = true) :
    Calls Tryz.prog 95 #[.slice (some ⟨g, 0, none⟩) (k + 1) cap, .int .i64 i, .int .i64 ((i : Int) + 1)] w fun e w' => e = .returned (.slice (some ⟨g, 0, none⟩) k cap) ∧
      w'.ownsRow base 81 3 (.slice (some ⟨g, 0, none⟩) k cap) k (xs.take (i * 3) ++ xs.drop ((i + 1) * 3)) ∧ w.grownBy w' (some g) := by
  obtain ⟨i0, hi0, hz0, hz1, hz2⟩ := info_parts Tryz.infoVer
  obtain ⟨hlen, hr⟩ := hown
  rcases hr with ⟨h0, _⟩ | ⟨g', cap', cur, hv, hbg, hg, hnc, hcm, hcs, htake⟩
  · cases h0
  cases hv
  obtain ⟨Z, hZ⟩ : ∃ Z : List Value, Z = (Value.agg #[.int .i64 0, .string ⟨#[]⟩, .bool false]).cells.toList := ⟨_, rfl⟩
  obtain ⟨news, hnews⟩ : ∃ news, news = xs.drop ((i + 1) * 3) := ⟨_, rfl⟩
  have hnl : news.length = (k - i) * 3 := by rw [hnews, List.length_drop, hlen]; omega
  obtain ⟨A, hA, hsrc⟩ : ∃ A : Addr, (if cap = i + 1 then some (⟨g, 0, none⟩ : Addr) else some ⟨g, (i + 1) * 3, none⟩) = some A ∧ Hid (∀ t u, news[t]? = some u → w.drew.cell? (A.add t) = some u) := by
    by_cases h : cap = i + 1
    · refine ⟨⟨g, 0, none⟩, by simp [h], fun t u hu => ?_⟩
      have h0 : news = [] := List.eq_nil_of_length_eq_zero (by omega)
      rw [h0] at hu; simp at hu
    · refine ⟨⟨g, (i + 1) * 3, none⟩, by simp [h], fun t u hu => ?_⟩
      rw [Addr.add_lit, hnews, List.getElem?_drop, ← htake, List.getElem?_take] at *
      have hu2 : (if (i + 1) * 3 + t < (k + 1) * 3 then cur.toList[(i + 1) * 3 + t]? else none) = some u := hu
      split at hu2
      · show w.cell? _ = _
        rw [World.cell?]
        simpa [hg] using hu2
      · cases hu2
  have hcl : cur.toList.length = cap * 3 := by rw [Array.length_toList, hcs]
  obtain ⟨C1, hC1⟩ : ∃ C1, C1 = cur.toList.take (i * 3) ++ news ++ cur.toList.drop (i * 3 + news.length) := ⟨_, rfl⟩
  have hC1l : C1.length = cap * 3 := by rw [hC1]; simp only [List.length_append, List.length_take, List.length_drop, hcl, hnl]; omega
  obtain ⟨W1, hW1⟩ : ∃ W1, W1 = w.drew.setRow g C1.toArray := ⟨_, rfl⟩
  have hW1g : W1.heap[g]? = some (.cells C1.toArray 81 (0, 0)) := by rw [hW1]; exact setRow_heap w.drew g cur _ _ _ hg
  have hap : ∀ ty c, (Builtin.append_ #[114, 114] ty #[.slice (some ⟨g, 0, none⟩) i cap, .slice (some A) (k - i) c]).run Tryz.prog w.drew = .ok (.slice (some ⟨g, 0, none⟩) k cap) W1 := fun ty c => by
    have := run_append_room (P := Tryz.prog) w.drew 114 ty 81 i0 Tryz.underlying114 hi0 g i cap cur hg A (k - i) c news (by rw [hz1]; exact hnl) hsrc.out (fun u hu => h1 u (by rw [hnews] at hu; exact List.mem_of_mem_drop hu)) (by omega) (by rw [hz1, hnl, hcs]; omega)
    rw [this, hz1, hW1, hC1, show i + (k - i) = k by omega]
  obtain ⟨C2, hC2⟩ : ∃ C2, C2 = C1.take (k * 3) ++ Z ++ C1.drop (k * 3 + 3) := ⟨_, rfl⟩
  obtain ⟨W2, hW2⟩ : ∃ W2, W2 = W1.setRow g C2.toArray := ⟨_, rfl⟩
  have hcr : ∀ ty c, (Builtin.clear_ #[114] ty #[.slice (some ⟨g, k * 3, none⟩) 1 c]).run Tryz.prog W1 = .ok (.tuple #[]) W2 := fun ty c => by
    rw [hW2, hC2, hZ]
    exact run_clear_one W1 114 81 ty (Value.agg #[.int .i64 0, .string ⟨#[]⟩, .bool false]) Tryz.underlying114 Tryz.zeroVer (by simp [Value.cells, Value.oneCell']) g (k * 3) c C1.toArray _ hW1g (by simp [Value.cells, hC1l]; omega)
  have hfin : W2.ownsRow base 81 3 (.slice (some ⟨g, 0, none⟩) k cap) k (xs.take (i * 3) ++ xs.drop ((i + 1) * 3)) := by
    rw [hW2]
    refine owns_of_block hbg (setRow_heap W1 g _ _ _ _ hW1g) (by omega) hcm ?_ ?_
    · rw [hC2, hZ]; simp only [List.size_toArray, List.length_append, List.length_take, List.length_drop, hC1l, Value.cells, List.length_cons, List.length_nil]; omega
    · rw [hC2]; exact take_del cur.toList xs C1 Z 3 k i cap hcl hnc hi htake (by rw [hC1, hnews])
  have hgr : w.grownBy W2 (some g) := by
    rw [hW2]
    refine grown_trans (b := W1) ?_ (grown_setRow _ _ _)
    rw [hW1]; exact grown_trans (grown_drew (World.grownBy.refl w _)) (grown_setRow _ _ _)
  have hb0 : (0 : Int) ≤ (i : Int) + 1 := by omega
  have hic : i ≤ cap := by omega
  have hjc : i + 1 ≤ cap := by omega
  have hkc : k + 1 ≤ cap := hnc
  have hc63 : cap ≤ 9223372036854775807 := by unfold maxLen at hcm; omega
  have hap' : Hid (∀ ty c, (Builtin.append_ #[114, 114] ty #[.slice (some ⟨g, 0, none⟩) i cap, .slice (some A) (k - i) c]).run Tryz.prog w.drew = .ok (.slice (some ⟨g, 0, none⟩) k cap) W1) := hap
  clear hlen hg hcs htake hnews hnl hcl hC1 hC1l hW1 hW1g hap hnc hcm hC2 hW2 hZ h1
  go_enter Tryz.func95, Tryz.ntmps95
  go_wp2_with fail
  go_region_law (refine step_append_run rfl (.tmp 22) (.tmp 25) 114 114 rfl (.slice (some ⟨g, 0, none⟩) i cap) (.slice (some A) (k - i) (cap - (i + 1))) (by simp [Act.eval, Act.put]) (by simp [Act.eval, Act.put]) (hap'.out _ _) ?_)
  go_wp2
  go_ret
  exact ⟨rfl, hfin, hgr⟩

end Go.Proofs.YtnapepbdohidgaaGreatDoor
