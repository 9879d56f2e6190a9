/- shelfkeep.Kept. -/
import Derived.Test.YtmgedmcgcgidnaaKeepS
import Derived.Test.YtmgedmcgcgidnaaKeptF
import Derived.Test.YtmgedmcgcgidnaaPrefix
namespace Go.Proofs.Ytmgedmcgcgidnaa
open Go.RowKit

theorem ans_at {w : World} {base g N cap : Nat} {s more : List OpD} {X : List AnsD} (h : w.ownsRow base 36 5 (.slice (some ⟨g, 0, none⟩) N cap) N (ansCells (runF (s ++ more)))) (hN : N = (s ++ more).length) (hX : answers (stAfter st0 s) more = X) (j : Nat) (x : AnsD) (hj : X[j]? = some x) :
    w.cell? ⟨g, (s.length + j) * 5, none⟩ = some (.int .i64 x.code) ∧ w.cell? ⟨g, (s.length + j) * 5 + 1, none⟩ = some (.int .i64 x.ver) ∧ w.cell? ⟨g, (s.length + j) * 5 + 2, none⟩ = some (.string x.body) := by
  have hl : (runF (s ++ more)).length = (s ++ more).length := runF_len _
  have hlt := (List.getElem?_eq_some_iff.1 hj).1
  have hXl : X.length = more.length := by rw [← hX, answers_len]
  have e : runF (s ++ more) = runF s ++ X := by unfold runF; rw [answers_append, hX]
  have hi : s.length + j < (runF (s ++ more)).length := by rw [hl, List.length_append]; omega
  have hg : (runF (s ++ more))[s.length + j]? = some x := by
    rw [e, List.getElem?_append_right (by rw [runF_len]; omega), runF_len, Nat.add_sub_cancel_left]; exact hj
  obtain ⟨c0, c1, c2, -, -⟩ := ans_cells h (by rw [hN, hl]) (s.length + j) hi
  rw [(List.getElem?_eq_some_iff.1 hg).2] at c0 c1 c2
  exact ⟨c0, c1, c2⟩

theorem sized_append {a b : List OpD} (ha : Sized a) (hb : Sized b) : Sized (a ++ b) := fun o ho => by
  rcases List.mem_append.1 ho with h | h
  · exact ha o h
  · exact hb o h
theorem sized_noLoad {ops : List OpD} (h : Sized ops) : Sized (noLoad ops) := fun o ho => h o (List.mem_filter.1 ho).1
theorem sized_mk (kind : Int) (key body : ByteArray) (n : Int) (h1 : key.size ≤ 40) (h2 : body.size ≤ 100) : (mkOp kind key body n).key.size ≤ maxLen ∧ (mkOp kind key body n).body.size ≤ maxLen := by
  simp only [mkOp, maxLen]; omega
theorem eB_size : eB.size ≤ 100 := by simp [eB]; decide
theorem sizedA (key body : ByteArray) (h1 : key.size ≤ 40) (h2 : body.size ≤ 100) : Sized (opsA key body) := fun o ho => by
  simp only [opsA, List.mem_cons, List.not_mem_nil, or_false] at ho
  rcases ho with rfl | rfl | rfl <;> first | exact sized_mk _ _ _ _ h1 h2 | exact sized_mk _ _ _ _ h1 eB_size
theorem sizedB (key body : ByteArray) (v d : Int) (h1 : key.size ≤ 40) (h2 : body.size ≤ 100) : Sized (opsB key body v d) := fun o ho => by
  simp only [opsB, List.mem_cons, List.not_mem_nil, or_false] at ho
  rcases ho with rfl | rfl | rfl | rfl | rfl | rfl | rfl | rfl <;> first | exact sized_mk _ _ _ _ h1 h2 | exact sized_mk _ _ _ _ h1 eB_size

set_option maxHeartbeats 4000000 in
set_option maxRecDepth 100000 in
theorem kept_any (a : Option Addr) (n cap : Nat) (key body : ByteArray) (ops : List OpD) (w : World) (h : ScrAt w (.slice a n cap) ops) (hn : n * 88 ≤ 140737488351232) (hk : key.size ≤ maxLen) (hbd : body.size ≤ maxLen) :
    Calls Try.prog 4 #[.slice a n cap, .string key, .string body] w fun e w' => e = .returned (.bool true) ∧ Below w.heap.size w w' := by
  have hnl : n = ops.length := by
    obtain ⟨a', cap', he, _⟩ := h.form
    cases he; rfl
  have HS : Hid (ScrAt w (.slice a n cap) ops ∧ n = ops.length) := ⟨h, hnl⟩
  clear h hnl
  unfold maxLen at hk hbd
  go_enter Try.func4, Try.ntmps4
  go_wp2_with fail
  refine (keyed_any w).mono ?_
  rintro e w1 ⟨rfl, b1⟩
  have HB1 : Hid (Below w.heap.size w w1) := b1
  clear b1
  go_upto_if 19 with fail
  go_cut [1] (fun s1 wx => ∃ key', s1 = .string key' ∧ key'.size ≤ 40 ∧ wx = w1)
  case first =>
    by_cases h40 : 40 < key.size
    · go_wp2
      go_meet
      case rel => exact ⟨_, rfl, by simp; omega, rfl⟩
    · go_wp2
      go_meet
      case rel => exact ⟨_, rfl, by omega, rfl⟩
  case rest =>
  obtain ⟨key1, rfl, hk1, rfl⟩ := hcut
  go_upto_if 23 with fail
  go_cut [1] (fun s1 wx => ∃ key', s1 = .string key' ∧ isKeyB key' = true ∧ wx = wc)
  case first =>
    by_cases h0 : key1.size = 0
    · have hkl : key1.data.toList = [] := List.eq_nil_of_length_eq_zero (by simpa using h0)
      have hke : key1.toList.isEmpty = true := by rw [ByteArray.toList_eq, hkl]; rfl
      rw [hke]
      clear hkl h0 hke
      go_wp2
      go_meet
      case rel => exact ⟨_, rfl, by decide, rfl⟩
    · have hke : key1.toList.isEmpty = false := by rw [ByteArray.toList_eq, key_cons key1 (by omega)]; rfl
      rw [hke]
      clear hke
      go_wp2
      go_meet
      case rel => exact ⟨_, rfl, by simp [isKeyB]; omega, rfl⟩
  case rest =>
  obtain ⟨key2, rfl, hkey, rfl⟩ := hcut
  go_upto_if 26 with fail
  go_cut [2] (fun s2 wx => ∃ body', s2 = .string body' ∧ body'.size ≤ 100 ∧ wx = wc)
  case first =>
    by_cases h100 : 100 < body.size
    · go_wp2
      go_meet
      case rel => exact ⟨_, rfl, by simp; omega, rfl⟩
    · go_wp2
      go_meet
      case rel => exact ⟨_, rfl, by omega, rfl⟩
  case rest =>
  obtain ⟨body2, rfl, hb2, rfl⟩ := hcut
  have HK : Hid (isKeyB key2 = true) := hkey
  have hks : key2.size ≤ 40 := by have := of_decide_eq_true hkey; omega
  clear hkey hk1 hk hbd
  have HW := kwithout_any a n cap ops wc (HS.out.1.on HB1.out) hn
  have hlen : (noLoad ops).length * 88 ≤ 140737488351232 := by have := noLoad_len ops; have := HS.out.2; omega
  have HSZ : Hid (Sized (noLoad ops)) := sized_noLoad HS.out.1.sized
  obtain ⟨s, hs⟩ : ∃ s, s = noLoad ops := ⟨_, rfl⟩
  rw [← hs] at HW hlen HSZ
  clear hs
  go_wp2_with fail
  refine HW.mono ?_
  rintro e w2 ⟨v2, rfl, own2, b2⟩
  obtain ⟨va2, vc2, rfl, -⟩ := owns_form own2
  have bb2 : Below w.heap.size w w2 := HB1.out.trans (b2.mono HB1.out.size)
  have HSC : Hid (ScrAt w2 (.slice va2 s.length vc2) s ∧ Below w.heap.size w w2) := ⟨scr_of_owns own2 rfl HSZ.out (by omega), bb2⟩
  clear own2 b2 bb2 HW
  go_wp2_with fail
  refine (kop_any _ _ _ w2).mono ?_
  rintro e x1 ⟨rfl, y1⟩
  go_wp2_with fail
  refine (kop_any _ _ _ x1).mono ?_
  rintro e x2 ⟨rfl, y2⟩
  replace y2 := y1.trans (y2.mono y1.size)
  go_wp2_with fail
  refine (kop_any _ _ _ x2).mono ?_
  rintro e x3 ⟨rfl, y3⟩
  replace y3 := y2.trans (y3.mono y2.size)
  clear y1 y2
  go_wp2_with fail
  have y4 : Below w2.heap.size w2 (x3.alloc (.cells ((opsA key2 body2).flatMap opCells).toArray 31)) := y3.alloc y3.size _
  have hmA := scr_new x3 (opsA key2 body2) _ 31 rfl 3 rfl (sizedA key2 body2 hks hb2) (by simp [opsA])
  refine (kwith_any _ s x3.heap.size 3 (opsA key2 body2) _ (HSC.out.1.on y4) hmA hlen (by omega)).mono ?_
  rintro e x5 ⟨v5, rfl, own5, y5⟩
  obtain ⟨va5, vc5, rfl, -⟩ := owns_form own5
  replace y5 := y4.trans (y5.mono y4.size)
  have hsc5 : ScrAt x5 (.slice va5 (s.length + 3) vc5) (s ++ opsA key2 body2) := scr_of_owns own5 (by simp [opsA]) (sized_append HSZ.out (sizedA key2 body2 hks hb2)) (by simp [opsA]; omega)
  clear y3 y4 hmA own5
  go_wp2_with fail
  refine (run_scr _ _ x5 hsc5).mono ?_
  rintro e x6 ⟨ga, rfl, own6, y6⟩
  replace y6 := y5.trans (y6.mono y5.size)
  have HY6 : Hid (Below w.heap.size w x6 ∧ Below w2.heap.size w2 x6) := ⟨HSC.out.2.trans (y6.mono HSC.out.2.size), y6⟩
  clear y5 hsc5 y6
  obtain ⟨st, hst⟩ : ∃ st, st = stAfter st0 s := ⟨_, rfl⟩
  have hI : Inv st s.length := by rw [hst]; exact inv_run s
  have hN6 : (s ++ opsA key2 body2).length = s.length + 3 := by simp [opsA]
  rw [hN6] at own6 ⊢
  have l0 := hI.last0
  have l1 := hI.lastS
  have HI : Hid (Inv st s.length ∧ st = stAfter st0 s) := ⟨hI, hst⟩
  clear hI hst
  by_cases hfull : 200 ≤ st.count
  · obtain ⟨x, y, hX⟩ := ansA_full (st := st) HK.out hb2 hfull
    rw [HI.out.2] at hX
    obtain ⟨c0, c1, -⟩ := ans_at own6 hN6.symm hX 0 _ rfl
    rw [Nat.add_zero s.length] at c0 c1
    clear own6 hX hfull hN6
    go_wp2
    go_ret
    exact ⟨rfl, HY6.out.1⟩
  · have hX : answers (stAfter st0 s) (opsA key2 body2) = [⟨0, st.last + 1, eB⟩, ⟨0, st.last + 1, body2⟩, if 200 ≤ st.count + 1 then ⟨4, 0, eB⟩ else ⟨0, st.last + 2, eB⟩] := by
      rw [← HI.out.2]; exact ansA HK.out hb2 hfull
    by_cases h3 : 200 ≤ st.count + 1
    · rw [if_pos h3] at hX
      obtain ⟨c0, c1, -⟩ := ans_at own6 hN6.symm hX 0 _ rfl
      obtain ⟨d0, d1, d2⟩ := ans_at own6 hN6.symm hX 1 _ rfl
      obtain ⟨e0, -, -⟩ := ans_at own6 hN6.symm hX 2 _ rfl
      rw [Nat.add_zero s.length] at c0 c1
      dsimp only at c0 c1 d0 d1 d2 e0
      clear own6 hX hfull hN6
      go_wp2
      go_ret
      exact ⟨rfl, HY6.out.1⟩
    · rw [if_neg h3] at hX
      obtain ⟨c0, c1, -⟩ := ans_at own6 hN6.symm hX 0 _ rfl
      obtain ⟨d0, d1, d2⟩ := ans_at own6 hN6.symm hX 1 _ rfl
      obtain ⟨e0, e1, -⟩ := ans_at own6 hN6.symm hX 2 _ rfl
      rw [Nat.add_zero s.length] at c0 c1
      dsimp only at c0 c1 d0 d1 d2 e0 e1
      clear own6 hX hN6
      go_wp2_with fail
      refine (kop_any _ _ _ x6).mono ?_
      rintro e z1 ⟨rfl, y1⟩
      go_wp2_with fail
      refine (kop_any _ _ _ z1).mono ?_
      rintro e z2 ⟨rfl, y2⟩
      replace y2 := y1.trans (y2.mono y1.size)
      go_wp2_with fail
      refine (kop_any _ _ _ z2).mono ?_
      rintro e z3 ⟨rfl, y3⟩
      replace y3 := y2.trans (y3.mono y2.size)
      go_wp2_with fail
      refine (kop_any _ _ _ z3).mono ?_
      rintro e z4 ⟨rfl, y4⟩
      replace y4 := y3.trans (y4.mono y3.size)
      clear y1 y2 y3
      go_wp2_with fail
      have y5 : Below x6.heap.size x6 (z4.alloc (.cells ((opsB key2 body2 (st.last + 1) (st.last + 2)).flatMap opCells).toArray 31)) := y4.alloc y4.size _
      have y6 : Below w2.heap.size w2 (z4.alloc (.cells ((opsB key2 body2 (st.last + 1) (st.last + 2)).flatMap opCells).toArray 31)) := HY6.out.2.trans (y5.mono HY6.out.2.size)
      have hmB := scr_new z4 (opsB key2 body2 (st.last + 1) (st.last + 2)) _ 31 rfl 8 rfl (sizedB key2 body2 _ _ hks hb2) (by simp [opsB])
      have HWB := kwith_any _ s z4.heap.size 8 (opsB key2 body2 (st.last + 1) (st.last + 2)) _ (HSC.out.1.on y6) hmB hlen (by omega)
      refine HWB.mono ?_
      rintro e z5 ⟨v5, rfl, own5, q5⟩
      obtain ⟨vb5, vd5, rfl, -⟩ := owns_form own5
      replace q5 := y5.trans (q5.mono y5.size)
      have hsc7 : ScrAt z5 (.slice vb5 (s.length + 8) vd5) (s ++ opsB key2 body2 (st.last + 1) (st.last + 2)) := scr_of_owns own5 (by simp [opsB]) (sized_append HSZ.out (sizedB key2 body2 _ _ hks hb2)) (by simp [opsB]; omega)
      clear y4 y5 y6 hmB HWB own5
      go_wp2_with fail
      refine (run_scr _ _ z5 hsc7).mono ?_
      rintro e z6 ⟨gb, rfl, own7, q6⟩
      replace q6 := q5.trans (q6.mono q5.size)
      have HY7 : Hid (Below w.heap.size w z6) := HY6.out.1.trans (q6.mono HY6.out.1.size)
      have hN7 : (s ++ opsB key2 body2 (st.last + 1) (st.last + 2)).length = s.length + 8 := by simp [opsB]
      have hX : answers (stAfter st0 s) (opsB key2 body2 (st.last + 1) (st.last + 2)) = [⟨0, st.last + 1, eB⟩, ⟨0, st.last + 2, eB⟩, ⟨5, 0, eB⟩, ⟨0, 0, body2⟩, ⟨6, 0, eB⟩, ⟨0, 0, eB⟩, ⟨0, st.last + 1, body2⟩, ⟨5, 0, eB⟩] := by
        rw [← HI.out.2]; exact ansB HI.out.1 HK.out hb2 (by omega) (by omega)
      rw [hN7] at own7 ⊢
      obtain ⟨g2, -, -⟩ := ans_at own7 hN7.symm hX 2 _ rfl
      obtain ⟨g3, -, g3'⟩ := ans_at own7 hN7.symm hX 3 _ rfl
      obtain ⟨g4, -, -⟩ := ans_at own7 hN7.symm hX 4 _ rfl
      obtain ⟨g5, -, -⟩ := ans_at own7 hN7.symm hX 5 _ rfl
      obtain ⟨g6, g6', g6''⟩ := ans_at own7 hN7.symm hX 6 _ rfl
      obtain ⟨g7, -, -⟩ := ans_at own7 hN7.symm hX 7 _ rfl
      dsimp only at g2 g3 g3' g4 g5 g6 g6' g6'' g7
      clear own7 hX hN7 hfull h3 q5 q6 hsc7 c0 c1 d0 d1 d2 e0 e1
      go_wp2
      go_ret
      exact ⟨rfl, HY7.out⟩

end Go.Proofs.Ytmgedmcgcgidnaa
