/- Histories: newest, find, with, without. -/
import Derived.Test.YtnapepbdohidgaaGreatDoorKids
import Derived.Test.YtnapepbdohidgaaGreatDoorWith
namespace Go.Proofs.YtnapepbdohidgaaGreatDoor
open Go.RowKit

def nums (h : List Ver) (i : Nat) : Int := ((h[i]?).map (·.num)).getD 0
def bods (h : List Ver) (i : Nat) : ByteArray := ((h[i]?).map (·.body)).getD ⟨#[]⟩
def mrks (h : List Ver) (i : Nat) : Bool := ((h[i]?).map (·.mark)).getD false
theorem nums_eq {h : List Ver} {i : Nat} (hi : i < h.length) : nums h i = h[i].num := by simp [nums, hi]
theorem bods_eq {h : List Ver} {i : Nat} (hi : i < h.length) : bods h i = h[i].body := by simp [bods, hi]
theorem mrks_eq {h : List Ver} {i : Nat} (hi : i < h.length) : mrks h i = h[i].mark := by simp [mrks, hi]

/-- Where a number stands in a history. -/
structure PlaceV (h : List Ver) (n : Int) (r : Nat) : Prop where
  le : r ≤ h.length
  lo : ∀ j, j < h.length → j < r → nums h j < n
  hi : ∀ j, j < h.length → r ≤ j → n ≤ nums h j
def isAtV (h : List Ver) (n : Int) (r : Nat) : Bool := decide (r < h.length ∧ nums h r = n)

set_option maxHeartbeats 400000 in
theorem hfind_any (A : Nat → Prop) (hv : Value) (h : List Ver) (n : Int) (w : World) (hh : HistAt A w hv h) (hs : ∀ i j, i < j → j < h.length → nums h i < nums h j) (hl : h.length ≤ 2199023255552) :
    Calls Tryz.prog 92 #[hv, .int .i64 n] w fun e w' => ∃ r : Nat, PlaceV h n r ∧ e = .returned (.tuple #[.int .i64 r, .bool (isAtV h n r)]) ∧ Below w.heap.size w w' := by
  by_cases hne : h = []
  · subst hne
    obtain ⟨a, cap, rfl, -, -⟩ := hh
    go_enter Tryz.func92, Tryz.ntmps92
    go_wp2_with (go_at_call 112; refine (bsV_none _ _ _ _).mono ?_; rintro e w' ⟨rfl, rfl⟩)
    go_ret2
    exact ⟨0, ⟨Nat.le_refl _, fun j h => absurd h (Nat.not_lt_zero _), fun j h => absurd h (Nat.not_lt_zero _)⟩, by simp [isAtV], Below.refl _ _⟩
  · obtain ⟨gk, cap, rfl, -, -, hc, -⟩ := hh.cells hne
    have hbs : Calls Tryz.prog 112 #[.slice (some ⟨gk, 0, none⟩) h.length cap, .int .i64 n, .func (.func 113) #[] #[]] w fun e w' => ∃ r : Nat, PlaceV h n r ∧
        e = .returned (.tuple #[.int .i64 r, .bool (isAtV h n r)]) ∧ Below w.heap.size w w' := by
      refine (bsV_any gk h.length cap (nums h) (bods h) (mrks h) n w hl (fun i hi => by rw [nums_eq hi, bods_eq hi, mrks_eq hi]; exact hc i hi) hs).mono ?_
      rintro e w' ⟨r, h1, h2, h3, rfl, h5⟩
      exact ⟨r, ⟨h1, fun j _ hj => h2 j hj, fun j h hj => h3 j hj h⟩, rfl, h5⟩
    clear hc hs
    go_enter Tryz.func92, Tryz.ntmps92
    go_wp2_with (go_at_call 112; refine hbs.mono ?_; rintro e w' ⟨r, h1, rfl, h5⟩)
    go_ret2
    exact ⟨r, h1, rfl, h5⟩

def verVal (v : Ver) : Value := .agg #[.int .i64 v.num, .string v.body, .bool v.mark]

set_option maxHeartbeats 400000 in
theorem newest_raw (g k cap : Nat) (nm : Int) (bd : ByteArray) (mk : Bool) (w : World) (hk : k ≤ 2199023255552) (c0 : w.cell? ⟨g, k * 3, none⟩ = some (.int .i64 nm)) (c1 : w.cell? ⟨g, k * 3 + 1, none⟩ = some (.string bd)) (c2 : w.cell? ⟨g, k * 3 + 2, none⟩ = some (.bool mk)) :
    Calls Tryz.prog 64 #[.slice (some ⟨g, 0, none⟩) (k + 1) cap] w fun e w' => e = .returned (.agg #[.int .i64 nm, .string bd, .bool mk]) ∧ Below w.heap.size w w' := by
  have hg := World.block_lt_of_cell? w _ c0
  go_enter Tryz.func64, Tryz.ntmps64
  go_wp2
  exact bodyPost_ret (v := .agg #[.int .i64 nm, .string bd, .bool mk]) (by simp [results, Tryz.results64, go_sem]) rfl ⟨rfl, (Below.refl _ _).alloc (Nat.le_refl _) _⟩

theorem newest_any (A : Nat → Prop) (hv : Value) (h : List Ver) (w : World) (hh : HistAt A w hv h) (hne : h ≠ []) (hl : h.length ≤ 2199023255552) :
    Calls Tryz.prog 64 #[hv] w fun e w' => e = .returned (verVal (h.getLast hne)) ∧ Below w.heap.size w w' := by
  obtain ⟨g, cap, rfl, -, -, hc, -⟩ := hh.cells hne
  have hlen : 0 < h.length := List.length_pos_iff.2 hne
  obtain ⟨k, hk⟩ : ∃ k, h.length = k + 1 := ⟨h.length - 1, by omega⟩
  obtain ⟨c0, c1, c2⟩ := hc k (by omega)
  have e : h.getLast hne = h[k] := by rw [List.getLast_eq_getElem]; congr 1; omega
  rw [e]
  generalize h[k] = v at *
  rw [hk]
  exact newest_raw g k cap _ _ _ w (by omega) c0 c1 c2

set_option maxHeartbeats 1000000 in
theorem hwithout_any (A : Nat → Prop) (hv : Value) (h : List Ver) (r : Nat) (w : World) (hh : HistAt A w hv h) (hr : r < h.length) (hl : h.length ≤ 2199023255552) :
    Calls Tryz.prog 68 #[hv, .int .i64 r] w fun e w' => ∃ va vl vc, e = .returned (.slice va vl vc) ∧ HistAt (fun b => w.heap.size ≤ b) w' (.slice va vl vc) (h.take r ++ h.drop (r + 1)) ∧ Below w.heap.size w w' := by
  have hcl := cloneV_any A hv h w hh hl
  obtain ⟨k, hk⟩ : ∃ k, h.length = k + 1 := ⟨h.length - 1, by omega⟩
  obtain ⟨ha, hc, rfl, -⟩ := hh
  have HK : Hid (h.length = k + 1) := hk
  rw [hk] at hcl ⊢
  clear hk
  go_enter Tryz.func68, Tryz.ntmps68
  go_wp2_with fail
  refine hcl.mono ?_
  rintro e w1 ⟨v', rfl, hown, hb⟩
  obtain ⟨g, cap, rfl, -, -, -⟩ := owns_some hown (Nat.succ_pos _)
  have hdl := delV_any w.heap.size g k cap r (verCells h) w1 hown (by have := HK.out; omega) (by have := HK.out; omega) (verCells_one h)
  have hr' : (r : Int) ≤ 2199023255552 := by omega
  go_wp2_with (go_at_call 95; refine hdl.mono ?_; rintro e w2 ⟨rfl, ho2, hg2⟩)
  go_ret
  refine ⟨_, _, _, rfl, ?_, hb.grown hg2 hb.size (fun j e => by cases e; exact (hown.lt g rfl).1)⟩
  rw [verCells_del] at ho2
  exact hist_of_owns (by have := HK.out; rw [List.length_append, List.length_take, List.length_drop]; omega) ho2 (fun j e => (ho2.lt j e).1)

theorem step_append_own {P : Program} {ops : Array Oper} {o : Oper} {a : Act} {w : World} {K : Act → World → Prop} {Q : Exit → Act → World → Prop} {E : Prop}
    (hg : o.guard = none) (s x : Operand) (t : TypeId) (hop : o.op = Op.call { callee := Callee.builtin Builtin.append, args := #[s, x], argTypes := #[t, t] })
    (base : Nat) (e : TypeId) (i : TypeInfo) (z : Value) (size bytes : Nat) (ht : P.underlying t = some (.slice e)) (hi : P.info? e = some i) (hz : i.zero = some z)
    (hsize : i.size = size) (hby : i.bytes = bytes) (hzs : z.cells.size = size) (hsz : 0 < size)
    (v : Value) (n : Nat) (xs : List Value) (hs : a.eval s = v) (hown : w.ownsRow base e size v n xs)
    (ad : Addr) (m c : Nat) (news : List Value) (hx : a.eval x = .slice (some ad) m c) (hl : news.length = m * size) (hnews : ∀ j u, news[j]? = some u → w.cell? (ad.add j) = some u) (h1 : ∀ u ∈ news, u.oneCell' = true)
    (h63 : n + m ≤ maxLen) (hbytes : (n + m) * bytes ≤ 140737488355328) (hbase : base ≤ w.heap.size)
    (h : ∀ v' w', w'.ownsRow base e size v' (n + m) (xs ++ news) → w.grownBy w' v.ownBlock → K (a.put o.dst v') w') :
    if Region.wanted o (yielded ops a.tmps) = true then Oper.wp P o a w K Q else E := by
  obtain ⟨v', w', hr, h2, h3, _⟩ := run_append_own (P := P) w base t o.type e i z size bytes ht hi hz hsize hby hzs hsz v n xs hown ad m c news hl hnews h1 h63 hbytes hbase
  exact step_append_run hg s x t t hop v _ hs hx hr (h v' w' h2 h3)

theorem verCells_snoc (h : List Ver) (v : Ver) : verCells (h ++ [v]) = verCells h ++ [.int .i64 v.num, .string v.body, .bool v.mark] := by simp [verCells]

theorem cellsOn3 {W w1 : World} (hb : Below W.heap.size W w1) {a b c : Addr} {x y z : Value} (h : W.cell? a = some x ∧ W.cell? b = some y ∧ W.cell? c = some z) : w1.cell? a = some x ∧ w1.cell? b = some y ∧ w1.cell? c = some z :=
  ⟨cellOn hb h.1, cellOn hb h.2.1, cellOn hb h.2.2⟩
theorem cellsGrown3 {w w' : World} {row : Option Nat} (hg : w.grownBy w' row) {b o1 o2 o3 : Nat} {x y z : Value} (hne : row ≠ some b) (h : w.cell? ⟨b, o1, none⟩ = some x ∧ w.cell? ⟨b, o2, none⟩ = some y ∧ w.cell? ⟨b, o3, none⟩ = some z) : w'.cell? ⟨b, o1, none⟩ = some x ∧ w'.cell? ⟨b, o2, none⟩ = some y ∧ w'.cell? ⟨b, o3, none⟩ = some z :=
  ⟨hg.cell h.1 (fun e => hne e.symm), hg.cell h.2.1 (fun e => hne e.symm), hg.cell h.2.2 (fun e => hne e.symm)⟩
theorem owns_base {w : World} {base base' : Nat} {e : TypeId} {size : Nat} {v : Value} {n : Nat} {xs : List Value} (h : w.ownsRow base e size v n xs) (hb : base' ≤ base) : w.ownsRow base' e size v n xs := by
  refine ⟨h.1, ?_⟩
  rcases h.2 with h2 | ⟨g, cap, cur, hv, hg, r⟩
  · exact Or.inl h2
  · exact Or.inr ⟨g, cap, cur, hv, Nat.le_trans hb hg, r⟩
theorem news3 (W : World) (x y z : Value) (T : TypeId) : ∀ j u, [x, y, z][j]? = some u → (W.alloc (.cells #[x, y, z] T)).cell? ((⟨W.heap.size, 0, none⟩ : Addr).add j) = some u := by
  intro j u hj
  rw [Addr.add_lit, World.cell?_alloc_at (w := W) _ _ W.heap.size _ rfl]
  simpa using hj
theorem one3 (nm : Int) (bd : ByteArray) (mk : Bool) : ∀ u ∈ [Value.int .i64 nm, .string bd, .bool mk], u.oneCell' = true := by
  intro u hu; simp at hu; rcases hu with rfl | rfl | rfl <;> rfl

set_option maxHeartbeats 2000000 in
set_option maxRecDepth 100000 in
theorem hwith_any (A : Nat → Prop) (hv : Value) (h : List Ver) (nm : Int) (bd : ByteArray) (mk : Bool) (w : World) (hh : HistAt A w hv h) (hl : h.length ≤ 2199023255552) :
    Calls Tryz.prog 89 #[hv, .agg #[.int .i64 nm, .string bd, .bool mk]] w fun e w' => ∃ va vl vc, e = .returned (.slice va vl vc) ∧ HistAt (fun b => w.heap.size ≤ b) w' (.slice va vl vc) (h ++ [⟨nm, bd, mk⟩]) ∧ Below w.heap.size w w' := by
  obtain ⟨i0, hi0, hz0, hz1, hz2⟩ := info_parts Tryz.infoVer
  have HCL : Hid (∀ wq : World, Below w.heap.size w wq → Calls Tryz.prog 96 #[hv] wq fun e w' => ∃ v', e = .returned v' ∧ w'.ownsRow wq.heap.size 81 3 v' h.length (verCells h) ∧ Below wq.heap.size wq w') := fun wq hq =>
    cloneV_any A _ h wq (RowAt.keep hh (fun b hb hlt => ⟨hb, hq.block b hlt⟩)) hl
  obtain ⟨ha, hc, rfl, -⟩ := hh
  have b1 : Below w.heap.size w (w.alloc (.cells #[.int .i64 nm, .string bd, .bool mk] 81)) := (Below.refl _ w).alloc (Nat.le_refl _) _
  have HB1 : Hid (Below w.heap.size w (w.alloc (.cells #[.int .i64 nm, .string bd, .bool mk] 81))) := b1
  have B0 : (w.alloc (.cells #[.int .i64 nm, .string bd, .bool mk] 81)).cell? ⟨w.heap.size, 0, none⟩ = some (.int .i64 nm) := by rw [World.cell?_alloc_at (w := w) _ _ w.heap.size 0 rfl]; rfl
  have B1 : (w.alloc (.cells #[.int .i64 nm, .string bd, .bool mk] 81)).cell? ⟨w.heap.size, 1, none⟩ = some (.string bd) := by rw [World.cell?_alloc_at (w := w) _ _ w.heap.size 1 rfl]; rfl
  have B2 : (w.alloc (.cells #[.int .i64 nm, .string bd, .bool mk] 81)).cell? ⟨w.heap.size, 2, none⟩ = some (.bool mk) := by rw [World.cell?_alloc_at (w := w) _ _ w.heap.size 2 rfl]; rfl
  clear b1
  go_enter Tryz.func89, Tryz.ntmps89
  go_wp2_with fail
  go_region_held3 (fun w' => w'.cell? ⟨w.heap.size, 0, none⟩ = some (.int .i64 nm) ∧ w'.cell? ⟨w.heap.size, 1, none⟩ = some (.string bd) ∧ w'.cell? ⟨w.heap.size, 2, none⟩ = some (.bool mk)) (first | assumption | go_keep)
    (first
      | (refine step_append_own rfl _ _ 114 rfl w.heap.size 81 i0 _ 3 32 Tryz.underlying114 hi0 hz0 hz1 hz2 rfl (by decide) (.slice va h.length vc) h.length (verCells h) (by simp [Act.eval]) (hown.alloc _) ⟨w2.heap.size, 0, none⟩ 1 1 [.int .i64 nm, .string bd, .bool mk] (by simp [Act.eval]) rfl (news3 _ _ _ _ _) (one3 _ _ _) (by simp only [maxLen]; omega) (by omega) (Nat.le_trans hbs (by simp)) ?_; intro v2 w3 ho3 hg3; have hb3 : Below w.heap.size w w3 := (hbw.alloc hbw.size _).grown hg3 (Nat.le_trans hbs (by simp)) (fun k e => (hown.lt k e).1); have kS3 := cellsGrown3 hg3 hnb (by assumption))
      | (refine step_append_own rfl _ _ 114 rfl w.heap.size 81 i0 _ 3 32 Tryz.underlying114 hi0 hz0 hz1 hz2 rfl (by decide) (.slice va h.length vc) h.length (verCells h) (by simp [Act.eval]) hown ⟨w.heap.size + 1, 0, none⟩ 1 1 [.int .i64 nm, .string bd, .bool mk] (by simp [Act.eval]) rfl (fun j u hj => cellOn hb (by have := news3 (w.alloc (.cells #[.int .i64 nm, .string bd, .bool mk] 81)) _ _ _ 81 j u hj; simpa using this)) (one3 _ _ _) (by simp only [maxLen]; omega) (by omega) hbs ?_; intro v2 w3 ho3 hg3; have hb3 : Below w.heap.size w w3 := hbw.grown hg3 hbw.size (fun k e => (hown.lt k e).1); have kS3 := cellsGrown3 hg3 hnb (by assumption))
      | (go_at_call 96; go_loud (refine (HCL.out _ ?_).mono ?_); go_loud (first | exact HB1.out | exact HB1.out.drew | exact (HB1.out.alloc (by simp) _).drew); rintro e w2 ⟨v', rfl, hown0, hb⟩; obtain ⟨va, vc, rfl, -⟩ := owns_form hown0; have hown := owns_base (base' := w.heap.size) hown0 (by simp <;> omega); have hnb : (Value.slice va h.length vc).ownBlock ≠ some w.heap.size := fun e => absurd (hown0.lt _ e).1 (by simp <;> omega); have hbs : w.heap.size ≤ w2.heap.size := Nat.le_trans (by simp <;> omega) hb.size; have hbw : Below w.heap.size w w2 := (by first | exact HB1.out.drew.trans (hb.mono HB1.out.size) | exact ((HB1.out.alloc (by simp) _).drew).trans (hb.mono (by simp <;> omega))); have kS := cellsOn3 hb (by assumption)))
  all_goals
    obtain ⟨va2, vc2, rfl, -⟩ := owns_form ho3
    go_wp2
    go_ret
    have ho4 := ho3
    rw [show verCells h ++ [.int .i64 nm, .string bd, .bool mk] = verCells (h ++ [⟨nm, bd, mk⟩]) from (verCells_snoc h ⟨nm, bd, mk⟩).symm] at ho4
    exact ⟨va2, h.length + 1, vc2, rfl, hist_of_owns (by simp) ho4 (fun j e => (ho4.lt j e).1), hb3⟩

end Go.Proofs.YtnapepbdohidgaaGreatDoor
