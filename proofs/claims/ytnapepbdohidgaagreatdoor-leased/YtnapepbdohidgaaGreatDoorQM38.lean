/- Part of a proof. -/
import Derived.Test.YtnapepbdohidgaaGreatDoorQM37
namespace Go.Proofs.YtnapepbdohidgaaGreatDoorQ
open Go
open Go.Conc Go.ConcX Go.ConcX.Gen Go.RowKit
theorem puts_snoc (i : Nat) : puts (i+1)=puts i++[putOp i]:=by simp [puts,List.range_succ]
theorem puts_len (i : Nat) : (puts i).length=i:=by simp [puts]
theorem LeftL.grown {w W w' : World} {row : Option Nat} (h : LeftL w W) (hg : W.grownBy w' row) (hr : ∀ g,row=some g→w.heap.size≤g) : LeftL w w':=
  ⟨hg.os.trans h.os,Nat.le_trans h.size hg.size,fun b hb=>(hg.block b (Nat.lt_of_lt_of_le hb h.size) (fun e=>by have:=hr b e.symm; omega)).trans (h.block b hb)⟩
theorem key_two (b : UInt8) : (⟨#[107]⟩ : ByteArray)++⟨#[b]⟩=⟨#[107,b]⟩:=by
  apply ByteArray.ext
  simp
theorem cells_new (w : World) (cs : List Value) (T : TypeId) : ∀ j u,cs[j]?=some u→(w.alloc (.cells cs.toArray T)).cell? ((⟨w.heap.size,0,none⟩ : Addr).add j)=some u:=by
  intro j u hj
  rw [Addr.add_lit,World.cell?_alloc_at (w:=w) _ _ w.heap.size _ rfl]
  simpa using hj
theorem ls_kind (k : Nat) (x y : Int) : ∀ o∈lsOps k x y,KindOk QKeys o:=by
  intro o ho
  simp only [lsOps,lsHead,lsEnd,puts,listOp,List.mem_append,List.mem_map,List.mem_cons,List.not_mem_nil,or_false] at ho
  rcases ho with ⟨i,-,rfl⟩ | (rfl | rfl | rfl | rfl | rfl) | (rfl | rfl | rfl | rfl | rfl) <;> exact kindOk_of _ (by simp [putOp]) rfl
theorem ls_few (k : Nat) (x y : Int) : ∀ o∈lsOps k x y,Few o:=by
  intro o ho
  simp only [lsOps,lsHead,lsEnd,puts,listOp,List.mem_append,List.mem_map,List.mem_cons,List.not_mem_nil,or_false] at ho
  rcases ho with ⟨i,-,rfl⟩ | (rfl | rfl | rfl | rfl | rfl) | (rfl | rfl | rfl | rfl | rfl) <;> exact few_of _ (by simp [putOp])
theorem ls_small {s : ByteArray} (h : decide (s.size≤2)=true) : s.size≤maxLen:=by
  have:=of_decide_eq_true h
  simp only [maxLen]
  omega
theorem aCells_tail (zp zt : List (AnsL×Value)) (i j c : Nat) (hp : zp.length=i) : (aCells (zp++zt))[(i+j) * 5+c]?=(aCells zt)[j * 5+c]?:=by
  have e : aCells (zp++zt)=aCells zp++aCells zt:=by simp [aCells]
  rw [e,List.getElem?_append_right (by rw [aCells_len]; omega),aCells_len]
  congr 1
  omega
theorem ls_sized (k : Nat) (x y : Int) : Sized (lsOps k x y):=by
  intro o ho
  simp only [lsOps,lsHead,lsEnd,puts,listOp,List.mem_append,List.mem_map,List.mem_cons,List.not_mem_nil,or_false] at ho
  rcases ho with ⟨i,-,rfl⟩ | (rfl | rfl | rfl | rfl | rfl) | (rfl | rfl | rfl | rfl | rfl) <;> exact ⟨ls_small (by rfl),ls_small (by rfl)⟩
theorem ls_len (k : Nat) (x y : Int) : (lsOps k x y).length=k+10:=by simp [lsOps,puts_len,lsHead,lsEnd]
set_option maxHeartbeats 2000000 in
set_option maxRecDepth 100000 in
theorem leased_any (N : Nat) (hAns : AnsAll QKeys Few N) (h6 : 30≤N) (hN : N < 2199023255540) (n t u : Int) (hn : -9223372036854775808≤n∧n≤9223372036854775807) (ht : -9223372036854775808≤t∧t≤9223372036854775807) (hu : -9223372036854775808≤u∧u≤9223372036854775807) (w : World) :
    Calls Tryq.prog 10 #[.int .i64 n,.int .i64 t,.int .i64 u] w fun e w'=>(e=.returned (.bool true)∧LeftL w w')∨Stop QKeys e w':=by
  obtain ⟨i0,hi0,hz0,hz1,hz2⟩:=info_parts Tryq.infoOp
  have HA : Hid (AnsAll QKeys Few N):=hAns
  have HP : Hid (∀ W,Calls Tryq.prog 26 #[] W fun e w'=>(e=.returned (.bool true)∧LeftL W w')∨Stop QKeys e w'):=fun W=>paging_any N hAns (by omega) hN W
  have HPK1 : Hid (∀ W,Calls Tryq.prog 21 #[.int .i64 n,.int .i64 10] W fun e w'=>∃ k : Nat,k < 10∧e=.returned (.int .i64 k)∧W=w'):=fun W=>pick_any n 10 W hn.1 hn.2 (by omega) (by omega)
  have HPK2 : Hid (∀ W,Calls Tryq.prog 21 #[.int .i64 t,.int .i64 13] W fun e w'=>∃ k : Nat,k < 13∧e=.returned (.int .i64 k)∧W=w'):=fun W=>pick_any t 13 W ht.1 ht.2 (by omega) (by omega)
  have HPK3 : Hid (∀ W,Calls Tryq.prog 21 #[.int .i64 u,.int .i64 13] W fun e w'=>∃ k : Nat,k < 13∧e=.returned (.int .i64 k)∧W=w'):=fun W=>pick_any u 13 W hu.1 hu.2 (by omega) (by omega)
  clear hAns hn ht hu
  go_enter Tryq.func10,Tryz.ntmps10
  go_wp2_with fail
  refine (HP.out w).mono ?_
  rintro e w1 (⟨rfl,hl1⟩ | hst)
  rotate_left
  · obtain ⟨x,y,r,rfl,hst⟩:=hst
    exact ⟨rfl,.inr ⟨x,y,r,rfl,hst⟩⟩
  have HL1 : Hid (LeftL w w1):=hl1
  clear hl1
  go_wp2_with fail
  refine (HPK1.out w1).mono ?_
  rintro e w1' ⟨k',hk',rfl,rfl⟩
  go_wp2_with fail
  obtain ⟨k,hk⟩ : ∃ k : Nat,k=3+k':=⟨_,rfl⟩
  have hk2 : (3+(k' : Int))=(k : Int):=by omega
  rw [hk2]
  have hk3 : 3≤k∧k≤12:=by omega
  obtain ⟨hk3,hk4⟩:=hk3
  clear hk hk' hk2
  go_loopw [9,10] (fun s9 s10 wr=>∃ i : Nat,i≤k∧s10=.int .i64 i∧wr.ownsRow w1.heap.size 31 7 s9 i ((puts i).flatMap opCells)∧LeftL w1 wr) (fun _ s10 _=>k - (intOf s10).toNat)
  case atStart=>exact ⟨0,Nat.zero_le _,rfl,World.ownsRow_nil _ _ _ _,LeftL.refl⟩
  case round=>
    obtain ⟨i,hin,rfl,hown,hl⟩:=hrel
    obtain ⟨va,vc,rfl,-⟩:=owns_form hown
    by_cases hlt : i < k
    · obtain ⟨b,hbv⟩ : ∃ b,b=UInt8.ofNat (97+i):=⟨_,rfl⟩
      have hcv : (convert 48 9 (.slice (some ⟨wr.heap.size,0,none⟩) 1 1)).run Tryq.prog (wr.alloc (.cells #[.int .u8 (97+(i : Int))] 5))=.ok (.string ⟨#[b]⟩) (wr.alloc (.cells #[.int .u8 (97+(i : Int))] 5)):=by
        refine run_convert_bytes_back (P:=Tryq.prog) _ 48 9 5 ⟨wr.heap.size,0,none⟩ 1 [b] Tryq.underlying48 Tryq.underlying5 Tryq.underlying9 (fun j hj=>?_)
        have hj0 : j=0:=by simpa using hj
        subst hj0
        rw [Addr.add_lit,World.cell?_alloc_at (w:=wr) _ _ wr.heap.size _ rfl,hbv]
        simp
        omega
      have HX : Hid (wr.ownsRow w1.heap.size 31 7 (.slice va i vc) i ((puts i).flatMap opCells)∧LeftL w1 wr):=⟨hown,hl⟩
      have HBV : Hid (b=UInt8.ofNat (97+i)):=hbv
      clear hown hl hbv
      go_wp2_with fail
      rw [key_two]
      refine (kop_any _ _ _ _).mono ?_
      rintro e w2 ⟨rfl,b2⟩
      have HL2 : Hid (LeftL wr w2):=(LeftL.refl.alloc _).trans (.below b2)
      clear b2 hcv
      go_wp2_with (at_builtin; refine wpList_append_own _ rfl _ _ 22 rfl w1.heap.size 31 i0 _ 7 88 Tryq.underlying22 hi0 hz0 hz1 hz2 rfl (by decide) _ i _ rfl ((owns_same HX.out.1 fun g _ hg=>HL2.out.block g hg).alloc _) ⟨w2.heap.size,0,none⟩ 1 1 (opCells ⟨1,⟨#[107,b]⟩,⟨#[]⟩,⟨#[]⟩,⟨#[]⟩,0,0⟩) rfl rfl (cells7_new w2 ⟨1,⟨#[107,b]⟩,⟨#[]⟩,⟨#[]⟩,⟨#[]⟩,0,0⟩ _) (one7 _) (by simp only [maxLen]; omega) (by omega) (by have:=HX.out.2.size; have:=HL2.out.size; simp; omega) ?_; intro v2 w3 ho2 hg2 _)
      refine ⟨⟨i+1,by omega,by go_num,?_,((HX.out.2.trans HL2.out).alloc _).grown hg2 (fun g hg=>(HX.out.1.lt g hg).1)⟩,by simp [intOf]; omega⟩
      rw [puts_snoc,List.flatMap_append]
      have e : [putOp i].flatMap opCells=opCells ⟨1,⟨#[107,b]⟩,⟨#[]⟩,⟨#[]⟩,⟨#[]⟩,0,0⟩:=by rw [HBV.out]; rfl
      rw [e]
      exact ho2
    · have hie : i=k:=by omega
      subst hie
      have HX : Hid (wr.ownsRow w1.heap.size 31 7 (.slice va i vc) i ((puts i).flatMap opCells)∧LeftL w1 wr):=⟨hown,hl⟩
      clear hown hl
      go_wp2_with fail
      refine (HPK2.out _).mono ?_
      rintro e w2 ⟨x,hx,rfl,rfl⟩
      go_wp2_with fail
      refine (HPK3.out _).mono ?_
      rintro e w2 ⟨y,hy,rfl,rfl⟩
      go_upto_region 11 with fail
      go_cut [9] (fun s9 wx=>∃ va2 vc2,s9=.slice va2 (i+10) vc2∧wx.ownsRow w1.heap.size 31 7 (.slice va2 (i+10) vc2) (i+10) ((lsOps i x y).flatMap opCells)∧LeftL w1 wx)
      case first=>
        have HCN:=cells_new (wr.alloc (.cells #[.int .i64 6,.string ⟨#[]⟩,.string ⟨#[]⟩,.string ⟨#[]⟩,.string ⟨#[]⟩,.int .i64 1,.int .i64 0] 31)) ((lsHead i x y++lsEnd).flatMap opCells) 31
        rw [show (wr.alloc (.cells #[.int .i64 6,.string ⟨#[]⟩,.string ⟨#[]⟩,.string ⟨#[]⟩,.string ⟨#[]⟩,.int .i64 1,.int .i64 0] 31)).heap.size=wr.heap.size+1 by simp] at HCN
        have HCN' : Hid _:=HCN
        clear HCN
        go_wp2_with (at_builtin; go_loud (refine wpList_append_own _ rfl _ _ 22 rfl w1.heap.size 31 i0 _ 7 88 Tryq.underlying22 hi0 hz0 hz1 hz2 rfl (by decide) _ i _ rfl ((HX.out.1.alloc _).alloc _) ⟨wr.heap.size+1,0,none⟩ 10 10 ((lsHead i x y++lsEnd).flatMap opCells) rfl rfl HCN'.out (opsCells_one _) (by simp only [maxLen]; omega) (by omega) (by have:=HX.out.2.size; simp; omega) ?_); intro v2 w3 ho2 hg2 _; obtain ⟨va2,vc2,rfl,-⟩:=owns_form ho2)
        go_meet
        case rel=>
          refine ⟨va2,vc2,rfl,?_,((HX.out.2.alloc _).alloc _).grown hg2 (fun g hg=>(HX.out.1.lt g hg).1)⟩
          rw [lsOps,List.flatMap_append]
          exact ho2
      case rest=>
      obtain ⟨va2,vc2,rfl,hoc,hlc⟩:=hcut
      have HR : Hid (Calls Tryq.prog 18 #[.slice va2 (i+10) vc2] wc fun e w'=>RunQ (lsOps i x y) (i+10) wc e w'∨Stop QKeys e w'):=
        Calls.mono (run_scrL QKeys Few N HA.out _ (lsOps i x y) wc (scr_of_owns hoc (by rw [ls_len]) (ls_sized i x y) (by rw [ls_len]; omega)) (by intro e; have:=ls_len i x y; rw [e] at this; simp at this) (by rw [ls_len]; omega) hN (ls_kind i x y) (ls_few i x y)) fun e w' h=>h.imp (fun h=>h.q (i+10) (ls_len i x y)) id
      have HLC : Hid (LeftL w wc):=HL1.out.trans hlc
      clear hoc hlc HPK1 HPK2 HPK3 HP HX HA
      go_wp2_with fail
      refine HR.out.mono ?_
      rintro e w8 (⟨g,A,zs,rfl,hal,hc,hrows,hl⟩ | hst)
      rotate_left
      · obtain ⟨x,y,r,rfl,hst⟩:=hst
        exact ⟨rfl,.inr ⟨x,y,r,rfl,hst⟩⟩
      have HLF : Hid (LeftL w w8):=HLC.out.trans hl
      clear hl HLC HR HL1
      obtain ⟨pre,a0,a1,a2,a3,a4,a5,a6,a7,a8,a9,hpl,e1,c0,c2,c4,g5,g6,g7,c8,v9,i0',i1',i2',e9,hi9⟩:=leased_as i hk3 hk4 x y (by omega) (by omega)
      rw [e1] at hal
      obtain ⟨zp,zt,rfl,hzp,hzt⟩:=List.map_eq_append_iff.1 hal
      have hzl : zp.length=i:=by rw [←hpl,←hzp,List.length_map]
      obtain ⟨v0',zt1,rfl,hzt1⟩:=map_cons_inv hzt
      obtain ⟨v1',zt2,rfl,hzt2⟩:=map_cons_inv hzt1
      obtain ⟨v2',zt3,rfl,hzt3⟩:=map_cons_inv hzt2
      obtain ⟨v3',zt4,rfl,hzt4⟩:=map_cons_inv hzt3
      obtain ⟨v4',zt5,rfl,hzt5⟩:=map_cons_inv hzt4
      obtain ⟨v5',zt6,rfl,hzt6⟩:=map_cons_inv hzt5
      obtain ⟨v6',zt7,rfl,hzt7⟩:=map_cons_inv hzt6
      obtain ⟨v7',zt8,rfl,hzt8⟩:=map_cons_inv hzt7
      obtain ⟨v8',zt9,rfl,hzt9⟩:=map_cons_inv hzt8
      obtain ⟨v9',zt10,rfl,hzt10⟩:=map_cons_inv hzt9
      have hcl : ∀ j c,j < 10→c < 5→w8.cell? ⟨g,(i+j) * 5+c,none⟩=_:=fun j c hj hc'=>(hc ((i+j) * 5+c) (by omega)).trans (aCells_tail zp _ i j c hzl)
      have r9:=hrows (a9,v9') (by simp)
      simp only [e9] at r9
      obtain ⟨pa,cap9,rfl,-,hx9⟩:=r9
      obtain ⟨g9,rfl,-,-,hc9⟩:=hx9 (by simp [itCells])
      have d2:=hc9 2 (by simp [itCells])
      have k00:=hcl 0 0 (by omega) (by omega)
      have k20:=hcl 2 0 (by omega) (by omega)
      have k40:=hcl 4 0 (by omega) (by omega)
      have k50:=hcl 5 0 (by omega) (by omega)
      have k54:=hcl 5 4 (by omega) (by omega)
      have k60:=hcl 6 0 (by omega) (by omega)
      have k64:=hcl 6 4 (by omega) (by omega)
      have k70:=hcl 7 0 (by omega) (by omega)
      have k74:=hcl 7 4 (by omega) (by omega)
      have k80:=hcl 8 0 (by omega) (by omega)
      have k91:=hcl 9 1 (by omega) (by omega)
      have k93:=hcl 9 3 (by omega) (by omega)
      simp only [aCells,itCells,List.length_cons,List.length_nil,List.flatMap_cons,List.flatMap_nil,List.cons_append,List.nil_append,List.append_nil,List.getElem?_cons_succ,List.getElem?_cons_zero,c0,c2,c4,g5.code,g6.code,c8,v9,hi9,Nat.add_zero,Nat.zero_add,Nat.reduceMul,Nat.reduceAdd] at k00 k20 k40 k50 k54 k60 k64 k70 k74 k80 k91 k93 d2
      have t5:=tok_empty g5.tok
      have t6:=tok_empty g6.tok
      clear hcl hc hrows hal hzt hzt1 hzt2 hzt3 hzt4 hzt5 hzt6 hzt7 hzt8 hzt9 hzt10 hx9 hc9 e9 hi9 e1 hpl hzp c0 c2 c4 g5 g6 c8 v9
      generalize a5.tok=tk5 at *
      generalize a6.tok=tk6 at *
      by_cases hx1 : (x : Int) < 10
      · by_cases hy1 : (y : Int) < 10
        · rw [if_pos hx1] at k20
          rw [if_pos ⟨hx1,hy1⟩] at k40 g7
          rw [g7] at k70
          clear k74 g7
          go_wp2_with fail
          refine wp_loop_rounds 5 ?_
          iterate 5 (rw [rounds_succ]; go_wp2_with fail)
          go_ret
          exact .inl ⟨rfl,HLF.out⟩
        · rw [if_pos hx1] at k20
          rw [if_neg (fun h=>hy1 h.2)] at k40 g7
          have t7:=tok_empty g7.tok
          rw [g7.code] at k70
          clear g7
          generalize a7.tok=tk7 at *
          go_wp2_with fail
          refine wp_loop_rounds 5 ?_
          iterate 5 (rw [rounds_succ]; go_wp2_with fail)
          go_ret
          exact .inl ⟨rfl,HLF.out⟩
      · rw [if_neg hx1] at k20
        rw [if_neg (fun h=>hx1 h.1)] at k40 g7
        have t7:=tok_empty g7.tok
        rw [g7.code] at k70
        clear g7
        generalize a7.tok=tk7 at *
        go_wp2_with fail
        refine wp_loop_rounds 5 ?_
        iterate 5 (rw [rounds_succ]; go_wp2_with fail)
        go_ret
        exact .inl ⟨rfl,HLF.out⟩
end Go.Proofs.YtnapepbdohidgaaGreatDoorQ
