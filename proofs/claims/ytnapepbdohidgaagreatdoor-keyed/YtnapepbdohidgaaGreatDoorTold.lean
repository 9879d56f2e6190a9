/- shelflaw.told, as Keyed calls it. -/
import Derived.Test.YtnapepbdohidgaaGreatDoorScr
namespace Go.Proofs.YtnapepbdohidgaaGreatDoor
open Go.RowKit

def noneB : ByteArray := ⟨#[110, 111, 110, 101]⟩
/-- A step as Keyed tells it. -/
def tell (o : OpD) : OpD := if 5 < o.kind ∧ o.kind ≤ 12 then ⟨2, noneB, ⟨#[]⟩, ⟨#[]⟩, ⟨#[]⟩, 0, 0⟩ else o

theorem cells7_next (w : World) (X : Obj) (o : OpD) (T : TypeId) : ∀ j u, (opCells o)[j]? = some u → ((w.alloc X).alloc (.cells #[.int .i64 o.kind, .string o.key, .string o.body, .string o.delim, .string o.past, .int .i64 o.n, .int .i64 o.src] T)).cell? ((⟨w.heap.size + 1, 0, none⟩ : Addr).add j) = some u := by
  intro j u hj
  have := cells7_new (w.alloc X) o T j u hj
  rwa [show (w.alloc X).heap.size = w.heap.size + 1 by simp] at this

set_option maxHeartbeats 2000000 in
set_option maxRecDepth 100000 in
theorem told_any (a : Option Addr) (n cap : Nat) (ops : List OpD) (w : World) (h : ScrAt w (.slice a n cap) ops) (hn : n * 88 ≤ 140737488351232) :
    Calls Tryz.prog 31 #[.slice a n cap, .int .i64 5] w fun e w' => ∃ v', e = .returned v' ∧ w'.ownsRow w.heap.size 31 7 v' n ((ops.map tell).flatMap opCells) ∧ Below w.heap.size w w' := by
  obtain ⟨i0, hi0, hz0, hz1, hz2⟩ := info_parts Tryz.infoOp
  have hnl : n = ops.length := by
    obtain ⟨a', cap', he, _⟩ := h.form
    cases he; rfl
  have HS : Hid (ScrAt w (.slice a n cap) ops ∧ n = ops.length) := ⟨h, hnl⟩
  clear h hnl
  go_enter Tryz.func31, Tryz.ntmps31
  go_wp2_with fail
  go_loopw [5, 6] (fun s3 s4 wr => ∃ i : Nat, i ≤ n ∧ s4 = .int .i64 i ∧ wr.ownsRow w.heap.size 31 7 s3 i (((ops.take i).map tell).flatMap opCells) ∧ Below w.heap.size w wr) (fun _ s4 _ => n - (intOf s4).toNat)
  case atStart => exact ⟨0, Nat.zero_le _, rfl, World.ownsRow_nil _ _ _ _, Below.refl _ _⟩
  case round =>
    obtain ⟨i, hin, rfl, hown, hb⟩ := hrel
    obtain ⟨va, vc, rfl, -⟩ := owns_form hown
    by_cases hlt : i < n
    · have hlo : i < ops.length := by rw [← HS.out.2]; exact hlt
      have hne : ops ≠ [] := by intro e; rw [e] at hlo; simp at hlo
      obtain ⟨a', cap', he, hx⟩ := HS.out.1.form
      obtain ⟨b, off, ha, hSc⟩ := hx hne
      subst ha
      cases he
      obtain ⟨c0, c1, c2, c3, c4, c5, c6⟩ := hSc i hlo
      replace c0 := cellOn hb c0
      replace c1 := cellOn hb c1
      replace c2 := cellOn hb c2
      replace c3 := cellOn hb c3
      replace c4 := cellOn hb c4
      replace c5 := cellOn hb c5
      replace c6 := cellOn hb c6
      have HTK : Hid (((ops.take (i + 1)).map tell).flatMap opCells = ((ops.take i).map tell).flatMap opCells ++ opCells (tell ops[i])) := show _ = _ by
        rw [List.take_succ_eq_append_getElem hlo, List.map_append, List.flatMap_append]; simp
      have HRD : Hid (∀ r : Nat, r < i → ∃ kk : Int, ∃ g, va = some ⟨g, 0, none⟩ ∧ wr.cell? ⟨g, r * 7, none⟩ = some (.int .i64 kk)) := by
        intro r hr
        have hl7 : ((ops.take i).map tell).length = i := by rw [List.length_map, List.length_take]; omega
        rcases hown.2 with ⟨he, h0⟩ | ⟨g, cap1, cur, he, hbg, hg, hnc, hcm, hcs, htake⟩
        · omega
        · cases he
          refine ⟨(((ops.take i).map tell)[r]'(by omega)).kind, g, rfl, ?_⟩
          have := opCells_get ((ops.take i).map tell) r 0 (by omega) (by omega)
          have h2 := hown.cellAt (r * 7 + 0) (by omega)
          rw [this] at h2
          simpa [opCells] using h2
      generalize ops[i] = o at *
      obtain ⟨kind, key, body, delim, past, nn, src⟩ := o
      simp only at c0 c1 c2 c3 c4 c5 c6 HTK
      have HX : Hid (wr.ownsRow w.heap.size 31 7 (.slice va i vc) i (((ops.take i).map tell).flatMap opCells) ∧ Below w.heap.size w wr) := ⟨hown, hb⟩
      clear hown hb hSc hx
      go_upto_region 6 with fail
      go_cut [8] (fun s8 wx => (∃ bl, s8 = .bool bl ∧ (bl = true → kind = 12)) ∧ wx = wr.alloc (.cells #[.int .i64 kind, .string key, .string body, .string delim, .string past, .int .i64 nn, .int .i64 src] 31))
      case first =>
        by_cases hk12 : kind = 12
        · subst hk12
          by_cases h1 : src < 0
          · go_wp2_with fail
            go_meet
            case rel => exact ⟨⟨_, rfl, fun _ => trivial⟩, rfl⟩
          · by_cases h2 : (i : Int) ≤ src
            · go_wp2_with fail
              go_meet
              case rel => exact ⟨⟨_, rfl, fun _ => trivial⟩, rfl⟩
            · obtain ⟨r, hr⟩ : ∃ r : Nat, src = (r : Int) := ⟨src.toNat, by omega⟩
              subst hr
              obtain ⟨kk, g, hg, ck⟩ := HRD.out r (by omega)
              subst hg
              have ck' := cellOn ((Below.refl wr.heap.size wr).alloc (Nat.le_refl _) (.cells #[.int .i64 12, .string key, .string body, .string delim, .string past, .int .i64 nn, .int .i64 r] 31)) ck
              have hri : (r : Int) < (i : Int) := by omega
              clear ck
              go_wp2_with fail
              go_meet
              case rel => exact ⟨⟨_, rfl, fun _ => trivial⟩, rfl⟩
        · have hk' : (kind == 12) = false := by simp [hk12]
          go_wp2_with fail
          go_meet
          case rel => exact ⟨⟨_, rfl, fun h => by cases h⟩, rfl⟩
      case rest =>
      obtain ⟨⟨bl, rfl, hbl⟩, rfl⟩ := hcut
      by_cases hr : 5 < kind ∧ kind ≤ 12
      · obtain ⟨hr1, hr2⟩ := hr
        clear hbl c0 c1 c2 c3 c4 c5 c6 HRD
        have HNR : Hid (tell ⟨kind, key, body, delim, past, nn, src⟩ = ⟨2, noneB, ⟨#[]⟩, ⟨#[]⟩, ⟨#[]⟩, 0, 0⟩) := if_pos ⟨hr1, hr2⟩
        go_wp2_with (at_builtin; refine wpList_append_own _ rfl _ _ 22 rfl w.heap.size 31 i0 _ 7 88 Tryz.underlying22 hi0 hz0 hz1 hz2 rfl (by decide) _ i _ rfl ((HX.out.1.alloc _).alloc _) ⟨wr.heap.size + 1, 0, none⟩ 1 1 (opCells ⟨2, noneB, ⟨#[]⟩, ⟨#[]⟩, ⟨#[]⟩, 0, 0⟩) rfl rfl (cells7_next wr _ ⟨2, noneB, ⟨#[]⟩, ⟨#[]⟩, ⟨#[]⟩, 0, 0⟩ _) (one7 _) (by simp only [maxLen]; omega) (by omega) (by have := HX.out.2.size; simp; omega) ?_; intro v2 w2 ho2 hg2 _)
        have b2 : Below w.heap.size w w2 := ((HX.out.2.alloc HX.out.2.size _).alloc (by have := HX.out.2.size; simp; omega) _).grown hg2 (by have := HX.out.2.size; simp; omega) (fun k e => (HX.out.1.lt k e).1)
        refine ⟨⟨i + 1, by omega, by go_num, ?_, b2⟩, by simp [intOf]; omega⟩
        rw [HTK.out, HNR.out]
        simpa using ho2
      · have hbf : bl = false := by
          cases bl
          · rfl
          · exact absurd (hbl rfl) (by omega)
        subst hbf
        clear hbl c0 c1 c2 c3 c4 c5 c6 HRD
        have HNR : Hid (tell ⟨kind, key, body, delim, past, nn, src⟩ = ⟨kind, key, body, delim, past, nn, src⟩) := if_neg hr
        by_cases h5 : 5 < kind
        · have h12 : ¬ kind ≤ 12 := fun h => hr ⟨h5, h⟩
          clear hr
          go_wp2_with (at_builtin; refine wpList_append_own _ rfl _ _ 22 rfl w.heap.size 31 i0 _ 7 88 Tryz.underlying22 hi0 hz0 hz1 hz2 rfl (by decide) _ i _ rfl ((HX.out.1.alloc _).alloc _) ⟨wr.heap.size + 1, 0, none⟩ 1 1 (opCells ⟨kind, key, body, delim, past, nn, src⟩) rfl rfl (cells7_next wr _ ⟨kind, key, body, delim, past, nn, src⟩ _) (one7 _) (by simp only [maxLen]; omega) (by omega) (by have := HX.out.2.size; simp; omega) ?_; intro v2 w2 ho2 hg2 _)
          have b2 : Below w.heap.size w w2 := ((HX.out.2.alloc HX.out.2.size _).alloc (by have := HX.out.2.size; simp; omega) _).grown hg2 (by have := HX.out.2.size; simp; omega) (fun k e => (HX.out.1.lt k e).1)
          refine ⟨⟨i + 1, by omega, by go_num, ?_, b2⟩, by simp [intOf]; omega⟩
          rw [HTK.out, HNR.out]
          simpa using ho2
        · clear hr
          go_wp2_with (at_builtin; refine wpList_append_own _ rfl _ _ 22 rfl w.heap.size 31 i0 _ 7 88 Tryz.underlying22 hi0 hz0 hz1 hz2 rfl (by decide) _ i _ rfl ((HX.out.1.alloc _).alloc _) ⟨wr.heap.size + 1, 0, none⟩ 1 1 (opCells ⟨kind, key, body, delim, past, nn, src⟩) rfl rfl (cells7_next wr _ ⟨kind, key, body, delim, past, nn, src⟩ _) (one7 _) (by simp only [maxLen]; omega) (by omega) (by have := HX.out.2.size; simp; omega) ?_; intro v2 w2 ho2 hg2 _)
          have b2 : Below w.heap.size w w2 := ((HX.out.2.alloc HX.out.2.size _).alloc (by have := HX.out.2.size; simp; omega) _).grown hg2 (by have := HX.out.2.size; simp; omega) (fun k e => (HX.out.1.lt k e).1)
          refine ⟨⟨i + 1, by omega, by go_num, ?_, b2⟩, by simp [intOf]; omega⟩
          rw [HTK.out, HNR.out]
          simpa using ho2
    · have hie : i = n := by omega
      subst hie
      have HT : Hid (ops.take i = ops) := List.take_of_length_le (by rw [← HS.out.2]; exact Nat.le_refl _)
      have HO : Hid (wr.ownsRow w.heap.size 31 7 (.slice va i vc) i (((ops.take i).map tell).flatMap opCells) ∧ Below w.heap.size w wr) := ⟨hown, hb⟩
      clear hown hb
      go_wp2
      go_ret
      refine ⟨_, rfl, ?_, HO.out.2⟩
      have := HO.out.1
      rw [HT.out] at this
      exact this

end Go.Proofs.YtnapepbdohidgaaGreatDoor
