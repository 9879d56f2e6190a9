/- shelfref: add, where there is room. -/
import Derived.Test.YtnapepbdohidgaaGreatDoorRef4
import Derived.Deep.RegionLaw
namespace Go.Proofs.YtnapepbdohidgaaGreatDoor
open Go.RowKit

set_option maxHeartbeats 2000000 in
set_option maxRecDepth 100000 in
theorem radd_more (B k : Nat) (sl : Value) (R : List RefE) (nx tm : Int) (st : St) (s : Nat) (key : ByteArray) (n0 : Int) (bd : ByteArray) (mk : Bool) (w : World) (H : RefAt B w k sl R nx tm) (S : Sim st R nx) (hI : Inv st s) (hs : s < 2199023255552) (hB : B ≤ w.heap.size) (hfull : ¬ 200 ≤ st.count) :
    Calls Tryz.prog 81 #[.pointer (some ⟨k, 0, none⟩), .string key, .agg #[.int .i64 n0, .string bd, .bool mk]] w (RefPost B k (addSt st key bd mk) ⟨0, st.last + 1, ⟨#[]⟩⟩ w sl R tm) := by
  obtain ⟨i0, hi0, hz0, hz1, hz2⟩ := info_parts Tryz.infoRver
  obtain ⟨j0, hj0, hy0, hy1, hy2⟩ := info_parts Tryz.infoEnt
  have hlen := len_tot R S.full
  have hlim := S.lim
  have hc := S.count
  have hkw := H.lt
  have c0 := H.cells.c0
  have c1 := H.cells.c1
  have f0 := H.cells.fz 0
  have f1 := H.cells.fz 1
  have HH : Hid (RefAt B w k sl R nx tm ∧ Sim st R nx) := ⟨H, S⟩
  have ht : ¬ (200 : Int) ≤ (tot R : Int) := by omega
  have hnx := S.next
  have l0 := hI.last0
  have l1 := hI.lastS
  clear H S
  unfold RefPost
  go_enter Tryz.func81, Tryz.ntmps81
  go_wp2_with fail
  refine (rcount_any B k sl R nx tm _ ((HH.out.1.alloc _).alloc _) hlen (by omega)).mono ?_
  rintro e w1 ⟨rfl, rfl⟩
  have hk1 : ¬ w.heap.size = k := by omega
  have hk2 : ¬ w.heap.size + 1 = k := by omega
  go_wp2_with fail
  have H1 : RefAt B (((w.setCell ⟨k, 1, none⟩ (.int .i64 (st.last + 1 + 1))).alloc (.cells #[.int .i64 (st.last + 1), .string bd, .bool mk] 145)).alloc (.cells #[.int .i64 0, .int .i64 0, .string ⟨#[]⟩, .slice none 0 0, .string ⟨#[]⟩] 36)) k sl R (st.last + 1 + 1) tm := ((HH.out.1.set1 _).alloc _).alloc _
  have RA := resR ((w.setCell ⟨k, 1, none⟩ (.int .i64 (st.last + 1 + 1))).alloc (.cells #[.int .i64 (st.last + 1), .string bd, .bool mk] 145)) (w.heap.size + 1) (by simp [World.setCell]) 36
  have CV : Cells3 (((w.setCell ⟨k, 1, none⟩ (.int .i64 (st.last + 1 + 1))).alloc (.cells #[.int .i64 (st.last + 1), .string bd, .bool mk] 145)).alloc (.cells #[.int .i64 0, .int .i64 0, .string ⟨#[]⟩, .slice none 0 0, .string ⟨#[]⟩] 36)) w.heap.size (.int .i64 (st.last + 1)) (.string bd) (.bool mk) := by
    have h1 := (cells3_new (w.setCell ⟨k, 1, none⟩ (.int .i64 (st.last + 1 + 1))) (.int .i64 (st.last + 1)) (.string bd) (.bool mk) 145).on ((Below.refl _ _).alloc (Nat.le_refl _) (.cells #[.int .i64 0, .int .i64 0, .string ⟨#[]⟩, .slice none 0 0, .string ⟨#[]⟩] 36))
    simpa [World.setCell] using h1
  have FR : RFrame w (((w.setCell ⟨k, 1, none⟩ (.int .i64 (st.last + 1 + 1))).alloc (.cells #[.int .i64 (st.last + 1), .string bd, .bool mk] 145)).alloc (.cells #[.int .i64 0, .int .i64 0, .string ⟨#[]⟩, .slice none 0 0, .string ⟨#[]⟩] 36)) k sl R :=
    (rframe_set w k 1 _ (by omega) sl R).below (((Below.refl _ _).alloc (Nat.le_refl _) _).alloc (by simp) _) (by simpa [World.setCell] using hkw)
  have hsz : (((w.setCell ⟨k, 1, none⟩ (.int .i64 (st.last + 1 + 1))).alloc (.cells #[.int .i64 (st.last + 1), .string bd, .bool mk] 145)).alloc (.cells #[.int .i64 0, .int .i64 0, .string ⟨#[]⟩, .slice none 0 0, .string ⟨#[]⟩] 36)).heap.size = w.heap.size + 2 := by simp [World.setCell]
  have HF := rfind_any B k sl R (st.last + 1 + 1) tm key _ H1 (by omega)
  generalize ((w.setCell ⟨k, 1, none⟩ (.int .i64 (st.last + 1 + 1))).alloc (.cells #[.int .i64 (st.last + 1), .string bd, .bool mk] 145)).alloc (.cells #[.int .i64 0, .int .i64 0, .string ⟨#[]⟩, .slice none 0 0, .string ⟨#[]⟩] 36) = W0 at *
  refine HF.mono ?_
  rintro e w2 ⟨rfl, hcase⟩
  have HX : Hid (RefAt B W0 k sl R (st.last + 1 + 1) tm ∧ ResR (w.heap.size + 1) W0 ∧ Cells3 W0 w.heap.size (.int .i64 (st.last + 1)) (.string bd) (.bool mk) ∧ RFrame w W0 k sl R ∧ W0.heap.size = w.heap.size + 2) := ⟨H1, RA, CV, FR, hsz⟩
  clear H1 RA CV FR HF c0 c1 f0 f1 hsz
  have hE : ∃ ei : Int, e = .returned (.int .i64 ei) ∧ ((∃ (i : Nat) (h : i < R.length), R[i].key = key ∧ ei = i) ∨ ((∀ x ∈ R, x.key ≠ key) ∧ ei = -1)) := by
    rcases hcase with ⟨i, hi, hk, rfl⟩ | ⟨hno, rfl⟩
    · exact ⟨_, rfl, Or.inl ⟨i, hi, hk, rfl⟩⟩
    · exact ⟨_, rfl, Or.inr ⟨hno, rfl⟩⟩
  obtain ⟨ei, rfl, hcase'⟩ := hE
  have HCS : Hid ((∃ (i : Nat) (h : i < R.length), R[i].key = key ∧ ei = i) ∨ ((∀ x ∈ R, x.key ≠ key) ∧ ei = -1)) := hcase'
  clear hcase hcase'
  go_upto_if 30 with fail
  go_cut [8] (fun s8 wx => ∃ i : Nat, s8 = .int .i64 i ∧ Mid B k tm st key bd mk w sl R wx i)
  case first =>
    rcases HCS.out with ⟨i, hi, hik, rfl⟩ | ⟨hno, rfl⟩
    · go_wp2_with fail
      go_meet
      case rel => exact ⟨i, rfl, midFound HH.out.1 HH.out.2 (by omega) hi hik HX.out⟩
    · obtain ⟨va, vc, rfl, -⟩ := owns_form HH.out.1.row
      have b0 := HX.out.1.cells.c0
      have b1 := HX.out.1.cells.fz 0
      have HOWN : Hid (∀ X : Obj, (W0.alloc X).ownsRow B 154 2 (.slice va R.length vc) R.length (entCells R)) := fun X => HX.out.1.row.alloc X
      have HNEW : Hid (∀ T, ∀ j u, [.string key, .slice none 0 0][j]? = some u → (W0.alloc (.cells #[.string key, .slice none 0 0] T)).cell? ((⟨W0.heap.size, 0, none⟩ : Addr).add j) = some u) := fun T j u hj => by
        rw [Addr.add_lit, World.cell?_alloc_at (w := W0) _ _ W0.heap.size _ rfl]
        simpa using hj
      have HFT : Hid (∀ w3 : World, (W0.alloc (.cells #[.string key, .slice none 0 0] 154)).grownBy w3 (Value.slice va R.length vc).ownBlock → w3.cell? ⟨k, 0, none⟩ = some (.slice va R.length vc) ∧ w3.frozen? ⟨k, 0, none⟩ = false) := fun w3 hg3 => by
        have hc := (HX.out.1.alloc (.cells #[.string key, .slice none 0 0] 154)).cells.grown hg3 HX.out.1.apart
        exact ⟨hc.c0, hc.fz 0⟩
      have h5 : B ≤ W0.heap.size := by have := HX.out.2.2.2.2; omega
      go_wp2_with (at_builtin; go_loud (refine wpList_append_lies _ rfl _ _ 68 rfl B 154 j0 _ 2 40 Tryz.underlying68 hj0 hy0 hy1 hy2 rfl (by decide) (.slice va R.length vc) R.length (entCells R) rfl (HOWN.out _) ⟨W0.heap.size, 0, none⟩ 1 1 [.string key, .slice none 0 0] rfl rfl (HNEW.out _) (by intro u hu; simp at hu; rcases hu with rfl | rfl <;> rfl) (by omega) (by simp only [maxLen]; omega) (by omega) (by simp; omega) (W0.heap.size + 1) (by simp) ?_); intro g cap' w3 ho3 hg3 hgg hlt3; obtain ⟨y0, y1⟩ := HFT.out w3 hg3)
      go_meet
      case rel => exact ⟨R.length, by go_num, midNew HH.out.1 HH.out.2 (by omega) hno HX.out _ ho3 hg3 hgg⟩
  case rest =>
  obtain ⟨i, rfl, hmid⟩ := hcut
  obtain ⟨sl1, R1, hi, M1, M2, M3, M4, M5, M6, M7, M8, M9, M10, M11⟩ := hmid
  obtain ⟨ge, ecap, rfl, -, hgl, x0, x1⟩ := M1.ent i hi
  have hmem : R1[i] ∈ R1 := List.getElem_mem hi
  obtain ⟨va, vc, hev, -⟩ := owns_form (M1.vers R1[i] hmem)
  have b0 := M1.cells.c0
  have v0 := M6.c0
  have v1 := M6.c1
  have v2 := M6.c2
  have hkc := M1.lt
  have HY : Hid (RefAt B wc k (.slice (some ⟨ge, 0, none⟩) R1.length ecap) R1 (st.last + 1 + 1) tm ∧ ResR (w.heap.size + 1) wc ∧ Cells3 wc w.heap.size (.int .i64 (st.last + 1)) (.string bd) (.bool mk) ∧ RFrame w wc k sl R ∧ R1[i].v = .slice va R1[i].h.length vc) := ⟨M1, M5, M6, M7, hev⟩
  have HZ : Hid ((∀ j (hj : j < R1.length), j ≠ i → R1[j].h ≠ []) ∧ (∀ v', Sim (addSt st key bd mk) (R1.set i ⟨R1[i].key, R1[i].h ++ [⟨st.last + 1, bd, mk⟩], v'⟩) (st.last + 1 + 1)) ∧ (∀ b, b < w.heap.size + 2 → (Value.slice (some ⟨ge, 0, none⟩) R1.length ecap).ownBlock = some b → b < w.heap.size ∧ sl.ownBlock = some b) ∧ (∀ e ∈ R1, ∀ b, e.v.ownBlock = some b → b < w.heap.size ∧ ∃ e' ∈ R, e'.v.ownBlock = some b) ∧ w.heap.size + 2 ≤ wc.heap.size) := ⟨M2, M9, M10, M11, M8⟩
  have hge1 : ¬ ge = w.heap.size := fun e => by have := (M10 ge (by omega) rfl).1; omega
  have hge2 : ¬ ge = w.heap.size + 1 := fun e => by have := (M10 ge (by omega) rfl).1; omega
  have hBc : B ≤ wc.heap.size := by omega
  rw [hev] at x1
  have x1a := cellOn ((Below.refl wc.heap.size wc).alloc (Nat.le_refl _) (.cells #[.int .i64 (st.last + 1), .string bd, .bool mk] 145)) x1
  have b0a := cellOn ((Below.refl wc.heap.size wc).alloc (Nat.le_refl _) (.cells #[.int .i64 (st.last + 1), .string bd, .bool mk] 145)) b0
  clear M1 M5 M6 M7 M2 M9 M10 M11 M8
  have HOWN : Hid (∀ X : Obj, (wc.alloc X).ownsRow B 145 3 (.slice va R1[i].h.length vc) R1[i].h.length (verCells R1[i].h)) := fun X => by
    have := (HY.out.1.vers _ hmem).alloc X
    rwa [HY.out.2.2.2.2] at this
  have HNEW : Hid (∀ T, ∀ j u, [.int .i64 (st.last + 1), .string bd, .bool mk][j]? = some u → (wc.alloc (.cells #[.int .i64 (st.last + 1), .string bd, .bool mk] T)).cell? ((⟨wc.heap.size, 0, none⟩ : Addr).add j) = some u) := fun T => news3 wc _ _ _ T
  have HFACT : Hid (∀ w3 : World, (wc.alloc (.cells #[.int .i64 (st.last + 1), .string bd, .bool mk] 145)).grownBy w3 (Value.slice va R1[i].h.length vc).ownBlock →
      w3.cell? ⟨k, 0, none⟩ = some (.slice (some ⟨ge, 0, none⟩) R1.length ecap) ∧ w3.cell? ⟨ge, i * 2 + 1, none⟩ = some (.slice va R1[i].h.length vc) ∧ w3.frozen? ⟨ge, i * 2 + 1, none⟩ = false) := fun w3 hg3 => by
    obtain ⟨H1, -, -, -, hev⟩ := HY.out
    have hrow : (Value.slice va R1[i].h.length vc).ownBlock = R1[i].v.ownBlock := by rw [hev]
    rw [hrow] at hg3
    have Ha := H1.alloc (.cells #[.int .i64 (st.last + 1), .string bd, .bool mk] 145)
    have Hs := (Ha.row.kept hg3 (Or.inr (fun e => H1.apartE _ hmem e.symm)))
    have hc1 := Hs.cellAt (i * 2 + 1) (by omega)
    rw [entCells, flat_get 2 _ (fun _ => rfl) R1 i 1 hi (by omega)] at hc1
    exact ⟨(Ha.cells.grown hg3 (H1.apartV _ hmem)).c0, by rw [hc1, ← hev]; rfl, Hs.frozenAt _⟩
  have HFIN : Hid (∀ (g cap : Nat) (w3 : World), w3.ownsRow B 145 3 (.slice (some ⟨g, 0, none⟩) (R1[i].h.length + 1) cap) (R1[i].h.length + 1) (verCells R1[i].h ++ [.int .i64 (st.last + 1), .string bd, .bool mk]) → (wc.alloc (.cells #[.int .i64 (st.last + 1), .string bd, .bool mk] 145)).grownBy w3 (Value.slice va R1[i].h.length vc).ownBlock →
      ((Value.slice va R1[i].h.length vc).ownBlock = some g ∨ g = wc.heap.size + 1) → Put B k tm (addSt st key bd mk) (st.last + 1 + 1) (st.last + 1) bd mk w sl R (w3.setCell ⟨ge, i * 2 + 1, none⟩ (.slice (some ⟨g, 0, none⟩) (R1[i].h.length + 1) cap))) := fun g cap w3 h1 h2 h3 => midPut hi HY.out HZ.out _ h1 h2 h3
  clear hev hmem x0
  have hii : (i : Int) < (R1.length : Int) := by omega
  generalize R1[i].h.length = m at *
  go_upto_region 10 with fail
  go_cut [63] (fun _ wx => Put B k tm (addSt st key bd mk) (st.last + 1 + 1) (st.last + 1) bd mk w sl R wx)
  case first =>
    go_region_law (refine step_append_lies _ rfl _ _ 152 rfl B 145 i0 _ 3 32 Tryz.underlying152 hi0 hz0 hz1 hz2 rfl (by decide) (.slice va m vc) m (verCells R1[i].h) (by simp [Act.eval]) (HOWN.out _) ⟨wc.heap.size, 0, none⟩ 1 1 [.int .i64 (st.last + 1), .string bd, .bool mk] (by simp [Act.eval]) rfl (HNEW.out _) (one3 _ _ _) (by omega) (by simp only [maxLen]; omega) (by omega) (by simp; omega) (wc.heap.size + 1) (by simp) ?_; intro g cap' w3 ho3 hg3' hgg hlt3; have hg3 : (wc.alloc (.cells #[.int .i64 (st.last + 1), .string bd, .bool mk] 145)).grownBy w3 (Value.slice va m vc).ownBlock := ⟨hg3'.os, hg3'.tape, hg3'.output, hg3'.size, hg3'.block⟩; obtain ⟨y0, y1, y2⟩ := HFACT.out w3 hg3)
    all_goals
      go_wp2_with fail
      go_meet
      case rel => exact HFIN.out g cap' w3 ho3 hg3 hgg
  case rest =>
  obtain ⟨sl', R', P1, P2, P3, ⟨d0, d1, d2, d3, d4, fz⟩, P5, P6, P7, P8⟩ := hcut
  have g0 := fz 0
  have g1 := fz 1
  have g2 := fz 2
  have g3 := fz 3
  have g4 := fz 4
  have u0 := P5.c0
  have HE : Hid (RefAt B wc k sl' R' (st.last + 1 + 1) tm ∧ Sim (addSt st key bd mk) R' (st.last + 1 + 1) ∧ RFrame w wc k sl R ∧ sl'.ownBlock ≠ some (w.heap.size + 1) ∧ (∀ e ∈ R', e.v.ownBlock ≠ some (w.heap.size + 1))) := ⟨P1, P2, P3, P7, P8⟩
  clear P1 P2 P3 P5 P7 P8 fz
  go_wp2
  refine bodyPost_ret (v := ansVal ⟨0, st.last + 1, ⟨#[]⟩⟩) (by simp [results, Tryz.results81, go_sem, ansVal, d0, d1, d2, d3, d4]) rfl ⟨rfl, ?_⟩
  obtain ⟨P1, P2, P3, P7, P8⟩ := HE.out
  have hg5 := grown_set5 wc (w.heap.size + 1) (.int .i64 0) (.int .i64 (st.last + 1)) (.string ⟨#[]⟩) (.slice none 0 0) (.string ⟨#[]⟩)
  exact ⟨sl', R', _, P1.grown hg5 (by simp; omega) (Or.inr P7) (fun e he => Or.inr (P8 e he)), P2, P3.step hg5 (fun b hb e => by cases e; omega) P1.lt (by simp; omega)⟩

end Go.Proofs.YtnapepbdohidgaaGreatDoor
