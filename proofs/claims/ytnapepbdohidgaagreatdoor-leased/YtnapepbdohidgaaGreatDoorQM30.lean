/- Part of a proof. -/
import Derived.Test.YtnapepbdohidgaaGreatDoorQM28
namespace Go.Proofs.YtnapepbdohidgaaGreatDoorQ
open Go
open Go.Conc Go.ConcX Go.ConcX.Gen Go.RowKit
def leaseI (x : LsA) : ItD:=⟨0,⟨#[]⟩,x.left⟩
theorem build_item3 (v : Int) (w : World) : (Instr.build 41 #[(2,.int .i64 v)]).run Tryq.prog w=.ok (.agg #[.int .i64 0,.string ⟨#[]⟩,.int .i64 v]) w:=by kernel_rfl
section
variable {A : Nat→Prop} {B k0 : Nat} {L : Lg}
set_option maxHeartbeats 4000000 in
set_option maxRecDepth 100000 in
theorem leases_ok (w : World) (h : LsAt A B w k0 L) (hop : L.opened.length≤3) :
    Calls Tryq.prog 47 #[.pointer (some ⟨k0,4,none⟩)] w fun e w'=>∃ sv,e=.returned sv∧w'.ownsRow w.heap.size 41 3 sv (L.opened.map leaseI).length (itCells (L.opened.map leaseI))∧Below w.heap.size w w':=by
  obtain ⟨v4,c4,zs,z1,z2,z3,z4⟩:=h.opened
  obtain ⟨va4,vc4,rfl,-⟩:=owns_form z2
  have hlz : L.opened.length=zs.length:=by rw [z1]; simp
  have hlt:=h.lt
  obtain ⟨its,hits⟩ : ∃ its : Nat→List ItD,its=fun i=>((zs.map (·.1)).map leaseI).take i:=⟨_,rfl⟩
  have HI : Hid (its=fun i=>((zs.map (·.1)).map leaseI).take i):=hits
  have hil : ∀ i,i≤zs.length→(its i).length=i:=fun i hi=>by rw [hits]; simp; omega
  have HEND : Hid ((L.opened.map leaseI)=its zs.length):=by
    show L.opened.map leaseI=its zs.length
    rw [hits,z1]
    exact (List.take_of_length_le (by simp)).symm
  have hzl : zs.length≤3:=by omega
  rw [HEND.out]
  have HZ : Hid (w.ownsRow B 125 8 (.slice va4 zs.length vc4) zs.length (zCells zs)):=z2
  obtain ⟨i0,hi0,hz0,hz1,hz2⟩:=info_parts Tryq.infoItem
  have hbi:=build_item3
  clear h z1 z2 z3 z4 hits
  go_enter Tryq.func47,Tryz.ntmps47
  go_wp2_with fail
  go_loopw [3,5,11] (fun s3 _ s11 wr=>∃ i : Nat,i≤zs.length∧s11=.int .i64 i∧wr.ownsRow w.heap.size 41 3 s3 i (itCells (its i))∧Below w.heap.size w wr) (fun _ _ s11 _=>zs.length - (intOf s11).toNat)
  case atStart=>exact ⟨0,Nat.zero_le _,rfl,by rw [HI.out]; exact ⟨rfl,.inl ⟨rfl,rfl⟩⟩,Below.refl _ _⟩
  case round=>
    obtain ⟨i,hi,rfl,hown,hb⟩:=hrel
    obtain ⟨so,sc,rfl,-⟩:=owns_form hown
    by_cases hlt2 : i < zs.length
    · obtain ⟨g,cap,he⟩ : ∃ g cap,Value.slice va4 zs.length vc4=.slice (some ⟨g,0,none⟩) zs.length cap:=by
        rcases HZ.out.2 with ⟨h1,h2⟩ | ⟨g,cap,cur,h1,-⟩
        · omega
        · exact ⟨g,cap,h1⟩
      cases he
      obtain ⟨q0,q1,q2,q3,q4,q5,q6,q7⟩:=zCells8 HZ.out i hlt2
      replace q0:=cellOn hb q0
      replace q1:=cellOn hb q1
      replace q2:=cellOn hb q2
      replace q3:=cellOn hb q3
      replace q4:=cellOn hb q4
      replace q5:=cellOn hb q5
      replace q6:=cellOn hb q6
      replace q7:=cellOn hb q7
      have HS : Hid (its (i+1)=its i++[⟨0,⟨#[]⟩,zs[i].1.left⟩]):=by
        show its (i+1)=its i++[⟨0,⟨#[]⟩,zs[i].1.left⟩]
        rw [HI.out]
        simp only
        rw [List.take_succ_eq_append_getElem (by simpa using hlt2)]
        simp [leaseI]
      obtain ⟨O1,hO1⟩ : ∃ O1,O1=Obj.cells #[.int .i64 zs[i].1.num,.pointer zs[i].2,.bool zs[i].1.q.vs,.string zs[i].1.q.p,.string zs[i].1.q.d,.string zs[i].1.q.af,.int .i64 zs[i].1.size,.int .i64 zs[i].1.left] 125:=⟨_,rfl⟩
      obtain ⟨O2,hO2⟩ : ∃ O2,O2=Obj.cells #[.int .i64 0,.string ⟨#[]⟩,.int .i64 zs[i].1.left] 41:=⟨_,rfl⟩
      have HOW : Hid (((wr.alloc O1).alloc O2).ownsRow w.heap.size 41 3 (.slice so i sc) i (itCells (its i))∧Below w.heap.size w wr∧∀ k,(Value.slice so i sc).ownBlock=some k→w.heap.size≤k):=⟨(hown.alloc _).alloc _,hb,fun k e=>(hown.lt k e).1⟩
      have HN : Hid (∀ j u,[Value.int .i64 0,.string ⟨#[]⟩,.int .i64 zs[i].1.left][j]?=some u→((wr.alloc O1).alloc O2).cell? ((⟨wr.heap.size+1,0,none⟩ : Addr).add j)=some u):=by
        rw [hO2]
        have:=cells3_lie (wr.alloc O1) (.int .i64 0) (.string ⟨#[]⟩) (.int .i64 zs[i].1.left) 41
        rwa [World.size_alloc] at this
      have hbs:=hb.size
      rw [hO1,hO2] at HOW HN
      clear hown hb
      go_wp2_with (at_builtin; refine wpList_append_own _ rfl _ _ 34 rfl w.heap.size 41 i0 _ 3 32 Tryq.underlying34 hi0 hz0 hz1 hz2 rfl (by decide) _ _ _ rfl HOW.out.1 ⟨wr.heap.size+1,0,none⟩ 1 1 [.int .i64 0,.string ⟨#[]⟩,.int .i64 zs[i].1.left] ?qa rfl ?qb ?qc ?qd ?qe ?qf ?_)
      case qa=>rfl
      case qb=>exact HN.out
      case qc=>simp [Value.oneCell']
      case qd=>simp only [maxLen]; omega
      case qe=>omega
      case qf=>simp; omega
      intro v' w3 ho hg _
      obtain ⟨so',sc',rfl,-⟩:=owns_form ho
      have HE : Hid (w3.ownsRow w.heap.size 41 3 (.slice so' (i+1) sc') (i+1) (itCells (its i)++[.int .i64 0,.string ⟨#[]⟩,.int .i64 zs[i].1.left])∧Below w.heap.size w w3):=
        ⟨ho,((HOW.out.2.1.alloc HOW.out.2.1.size _).alloc (by have:=HOW.out.2.1.size; simp; omega) _).grown hg (by simp; omega) HOW.out.2.2⟩
      clear ho hg
      go_wp2_with fail
      refine ⟨⟨i+1,by omega,by go_num,?_,HE.out.2⟩,by simp [intOf]; omega⟩
      rw [HS.out,itCells_snoc]
      exact HE.out.1
    · have : i=zs.length:=by omega
      subst this
      go_wp2_with fail
      go_ret
      refine ⟨_,rfl,?_,hb⟩
      rw [hil _ (Nat.le_refl _)]
      exact hown
end
section
variable {A : Nat→Prop} {B k0 : Nat} {L : Lg}
set_option maxHeartbeats 4000000 in
set_option maxRecDepth 100000 in
theorem next_none (w : World) (h : LsAt A B w k0 L) (tok : ByteArray) (hf : tFind tok L.told=none) :
    Calls Tryq.prog 43 #[.pointer (some ⟨k0,4,none⟩),.string tok] w fun e w'=>e=.returned (.tuple #[.agg #[.slice none 0 0,.string ⟨#[]⟩],.int .i64 9])∧LsPost A B k0 w L [] (.slice none 0 0) w':=by
  obtain ⟨mv,c6,hm⟩:=h.told
  have hlt:=h.lt
  have hlk:=lookup_tok (hm.left (LeftL.refl.alloc (.cells #[.slice none 0 0,.string ⟨#[]⟩] 88))) tok
  rw [hf] at hlk
  simp only [Option.getD_none,Option.isSome_none,plV] at hlk
  have HL : Hid (LsAt A B w k0 L):=h
  have hbp:=build_page
  clear h hm
  go_enter Tryq.func43,Tryz.ntmps43
  go_wp2_with fail
  refine bodyPost_ret (v:=.tuple #[.agg #[.slice none 0 0,.string ⟨#[]⟩],.int .i64 9]) (by simp [results,Tryz.results43,go_sem]) rfl ⟨rfl,LsPost.same HL.out ?_⟩
  exact (LeftL.refl.alloc _).alloc _
set_option maxHeartbeats 4000000 in
set_option maxRecDepth 100000 in
theorem next_gone (w : World) (h : LsAt A B w k0 L) (tok : ByteArray) (n pg : Int) (hop : L.opened.length≤3) (hf : tFind tok L.told=some (n,pg)) (hn : numAt n L.opened=none) :
    Calls Tryq.prog 43 #[.pointer (some ⟨k0,4,none⟩),.string tok] w fun e w'=>e=.returned (.tuple #[.agg #[.slice none 0 0,.string ⟨#[]⟩],.int .i64 10])∧LsPost A B k0 w L [] (.slice none 0 0) w':=by
  obtain ⟨mv,c6,hm⟩:=h.told
  obtain ⟨v4,c4,zs,z1,z2,z3,z4⟩:=h.opened
  obtain ⟨va4,vc4,rfl,-⟩:=owns_form z2
  have hlz : L.opened.length=zs.length:=by rw [z1]; simp
  have hlt:=h.lt
  have hk1 : k0 < w.heap.size+1:=by omega
  have hlk:=lookup_tok (hm.left (LeftL.refl.alloc (.cells #[.slice none 0 0,.string ⟨#[]⟩] 88))) tok
  rw [hf] at hlk
  simp only [Option.getD_some,Option.isSome_some,plV] at hlk
  obtain ⟨W,hW⟩ : ∃ W,W=(w.alloc (.cells #[.slice none 0 0,.string ⟨#[]⟩] 88)).alloc (.cells #[.int .i64 n,.int .i64 pg] 129):=⟨_,rfl⟩
  have hLW : LeftL w W:=by rw [hW]; exact (LeftL.refl.alloc _).alloc _
  have hIX:=index_ok B va4 vc4 zs (w.heap.size+1) n W (owns_same z2 fun g _ hg=>hLW.block g hg) (by omega) (by
    rw [hW]
    have:=World.cell?_alloc_at (w:=w.alloc (.cells #[.slice none 0 0,.string ⟨#[]⟩] 88)) #[.int .i64 n,.int .i64 pg] 129 (w.heap.size+1) 0 (by simp)
    rw [this]; rfl)
  rw [←z1,hn] at hIX
  simp only [Option.map_none,Option.getD_none] at hIX
  have HL : Hid (LsAt A B w k0 L∧LeftL w W):=⟨h,hLW⟩
  have HF : Hid (∀ w1,Below W.heap.size W w1→w1.cell? ⟨w.heap.size,0,none⟩=some (.slice none 0 0)∧w1.cell? ⟨w.heap.size,1,none⟩=some (.string ⟨#[]⟩)∧w1.frozen? ⟨w.heap.size,0,none⟩=false∧w1.frozen? ⟨w.heap.size,1,none⟩=false):=fun w1 hb=>by
    have e : w1.heap[w.heap.size]?=some (.cells #[.slice none 0 0,.string ⟨#[]⟩] 88):=by
      rw [hb.block _ (by rw [hW]; simp; omega),hW,Below.heap_alloc _ _ _ (by simp)]
      exact World.alloc_heap_new _ _
    exact ⟨by simp [World.cell?,e],by simp [World.cell?,e],by simp [World.frozen?,e],by simp [World.frozen?,e]⟩
  have HWW : Hid (W=(w.alloc (.cells #[.slice none 0 0,.string ⟨#[]⟩] 88)).alloc (.cells #[.int .i64 n,.int .i64 pg] 129)):=hW
  have hbp:=build_page
  have hWs : W.heap.size=w.heap.size+2:=by rw [hW]; simp
  clear h hm z1 z2 z3 z4 hLW
  subst hW
  go_enter Tryq.func43,Tryz.ntmps43
  go_wp2_with (go_at_call 71; refine hIX.mono ?_; clear hIX; rintro e w1 ⟨rfl,hb1⟩; obtain ⟨s0,s1,u0,u1⟩:=HF.out w1 hb1)
  refine bodyPost_ret (v:=.tuple #[.agg #[.slice none 0 0,.string ⟨#[]⟩],.int .i64 10]) (by simp [results,Tryz.results43,go_sem,s0,s1]) rfl ⟨rfl,LsPost.same HL.out.1 ?_⟩
  exact ((HL.out.2.trans (.below hb1)).set (Nat.le_refl _) _ _).set (Nat.le_refl _) _ _
end
theorem CellB.set {w : World} {b j : Nat} {x : Value} (h : CellB w b) : CellB (w.setCell ⟨b,j,none⟩ x) b:=by
  obtain ⟨ob,e1,e2⟩:=h
  cases ob with
  | cells xs e z=>
    obtain ⟨g1,g2⟩:=Array.getElem?_eq_some_iff.1 e1
    refine ⟨.cells (xs.setIfInBounds j x) e z,?_,rfl⟩
    show (w.heap.modify b _)[b]?=_
    rw [Array.getElem?_eq_getElem (by rw [Array.size_modify]; exact g1),Array.getElem_modify_self,g2]
    rfl
  | _=>cases e2
theorem CellB.of_block {w w' : World} {b : Nat} (h : CellB w b) (e : w'.heap[b]?=w.heap[b]?) : CellB w' b:=by
  obtain ⟨o,h1,h2⟩:=h
  exact ⟨o,e.trans h1,h2⟩
section
variable {A : Nat→Prop} {B k0 : Nat} {L L2 : Lg} {w X W7 w8 : World} {sv : Value} {pg : List ItD} {r0 : Nat}
def withPage (A : Nat→Prop) (sv : Value) : Nat→Prop:=fun b=>A b∨sv.ownBlock=some b
theorem withPage_ls (h : LsAt A B X k0 L) (hl : LeftL X W7) (hrow : W7.ownsRow X.heap.size 41 3 sv pg.length (itCells pg)) : LsAt (withPage A sv) B W7 k0 L:=
  h.more hl (fun _ h=>.inl h) (fun b hb=>hb.imp id fun e=>(hrow.lt b e).1) (fun b hb=>by
    rcases hb with hb | hb
    · exact Nat.lt_of_lt_of_le (h.inn b hb) hl.size
    · exact (hrow.lt b hb).2)
theorem fin_set (hfx : FrC k0 w X) (hk8 : KeepC k0 W7 w8) (hw : ∀ b,A b→b < w.heap.size) (hd : DeskR A B k0 w X) (hl : LeftL X W7) (hrow : W7.ownsRow X.heap.size 41 3 sv pg.length (itCells pg)) (h8 : LsAt (withPage A sv) B w8 k0 L2) (hd8 : DeskR (withPage A sv) B k0 W7 w8) (k4 : w8.cell? ⟨k0,4,none⟩=X.cell? ⟨k0,4,none⟩) (hr1 : w.heap.size≤r0) (hr2 : r0 < X.heap.size) (hB : B≤w.heap.size) (hv : ∀ v g,X.cell? ⟨k0,4,none⟩=some v→v.ownBlock=some g→g≠r0) (hc : CellB w8 r0) (y0 y1 : Value) :
    LsPost A B k0 w L2 pg sv ((w8.setCell ⟨r0,0,none⟩ y0).setCell ⟨r0,1,none⟩ y1):=by
  have hlow:=h8.low
  have hnA : ¬withPage A sv r0:=fun ha=>by
    rcases ha with ha | ha
    · have:=hw _ ha; omega
    · have:=(hrow.lt _ ha).1; omega
  have hk : r0≠k0:=by omega
  have h9:=h8.other (j:=0) (x:=y0) hk hnA hc (fun v g e=>hv v g (k4.symm.trans e))
  have hk9 : (w8.setCell ⟨r0,0,none⟩ y0).cell? ⟨k0,4,none⟩=w8.cell? ⟨k0,4,none⟩:=World.cell?_of_block (a:=⟨k0,4,none⟩) (Below.heap_setCell _ _ _ _ (show k0≠r0 by omega))
  have h10:=h9.other (j:=1) (x:=y1) hk hnA hc.set (fun v g e=>hv v g (k4.symm.trans (hk9.symm.trans e)))
  have hlt : k0 < X.heap.size:=by have:=hd.size; omega
  have hdw : DeskR (withPage A sv) B k0 W7 ((w8.setCell ⟨r0,0,none⟩ y0).setCell ⟨r0,1,none⟩ y1):=(hd8.trans (DeskR.other hk hnA (by omega))).trans (DeskR.other hk hnA (by omega))
  refine ⟨withPage A sv,fun _ h=>.inl h,fun b hb=>?_,h10,(hd.trans (DeskR.left hlt hl)).trans (hdw.mono fun _ h=>.inl h),?_,?_⟩
  · rcases hb with hb | hb
    · exact .inl hb
    · have:=(hrow.lt b hb).1; have:=hd.size; exact .inr (by omega)
  · exact rowAt_owns (owns_at hrow fun g hg=>hdw.tree g (.inr hg) (hrow.lt g hg).2) (fun g hg=>.inr hg)
  · have e7 : W7.cell? ⟨k0,4,none⟩=X.cell? ⟨k0,4,none⟩:=World.cell?_of_block (a:=⟨k0,4,none⟩) (hl.block k0 hlt)
    have q:=(hfx.trans (FrC.left hlt hl)).trans (FrC.keepC hk8 (k4.trans e7.symm))
    exact (q.fresh (by omega) hk).fresh (by omega) hk
theorem fin_last (hfx : FrC k0 w X) (h : LsAt A B X k0 L) (hw : ∀ b,A b→b < w.heap.size) (hd : DeskR A B k0 w X) (hl : LeftL X W7) (hrow : W7.ownsRow X.heap.size 41 3 sv pg.length (itCells pg)) (hr1 : w.heap.size≤r0) (hr2 : r0 < X.heap.size) (hB : B≤w.heap.size) (hv : ∀ v g,X.cell? ⟨k0,4,none⟩=some v→v.ownBlock=some g→g≠r0) (hc : CellB X r0) (y0 y1 : Value) :
    LsPost A B k0 w L pg sv ((W7.setCell ⟨r0,0,none⟩ y0).setCell ⟨r0,1,none⟩ y1):=by
  have h7:=withPage_ls h hl hrow
  exact fin_set hfx (KeepC.refl _ _) hw hd hl hrow h7 DeskR.refl (World.cell?_of_block (a:=⟨k0,4,none⟩) (hl.block k0 h.lt)) hr1 hr2 hB hv (hc.of_block (hl.block r0 hr2)) y0 y1
theorem fin_keep (hfx : FrC k0 w X) (h : LsAt A B X k0 L) (hw : ∀ b,A b→b < w.heap.size) (hd : DeskR A B k0 w X) (hl : LeftL X W7) (hrow : W7.ownsRow X.heap.size 41 3 sv pg.length (itCells pg)) (hr1 : w.heap.size≤r0) (hr2 : r0 < X.heap.size) (hB : B≤w.heap.size) (hv : ∀ v g,X.cell? ⟨k0,4,none⟩=some v→v.ownBlock=some g→g≠r0) (hc : CellB X r0) (tk : ByteArray) (pl : Int×Int) :
    Calls Tryq.prog 70 #[.pointer (some ⟨k0,4,none⟩),.string tk,plV pl] W7 fun e w8=>e=.returned (.tuple #[])∧KeepC k0 W7 w8∧∀ y0 y1,LsPost A B k0 w { L with told:=tPut tk pl L.told } pg sv ((w8.setCell ⟨r0,0,none⟩ y0).setCell ⟨r0,1,none⟩ y1):=by
  have h7:=withPage_ls h hl hrow
  have hlow:=h.low
  have:=hd.size
  have:=hl.size
  refine (keep_ok W7 h7 (by omega) tk pl).mono ?_
  rintro e w8 ⟨rfl,h8,hd8,hk8,hj8⟩
  refine ⟨rfl,hk8,fun y0 y1=>?_⟩
  have hc7:=hc.of_block (hl.block r0 hr2)
  have hc8 : CellB w8 r0:=by
    obtain ⟨o,e1,e2⟩:=hc7
    exact ⟨o,hk8.2.2 r0 o e1 e2 (by omega),e2⟩
  exact fin_set hfx hk8 hw hd hl hrow h8 hd8 ((hj8 4 (by omega)).trans (World.cell?_of_block (a:=⟨k0,4,none⟩) (hl.block k0 h.lt))) hr1 hr2 hB hv hc8 y0 y1
end
theorem step_call2 {P : Program} {ops : Array Oper} {o : Oper} {a : Act} {w : World} {K : Act→World→Prop} {Q : Exit→Act→World→Prop} {E : Prop}
    (hg : o.guard=none) (f : FuncId) (xs : Array Operand) (ts : Array TypeId) (hop : o.op=Op.call { callee:=Callee.value (.func f),args:=xs,argTypes:=ts })
    (args : Array Value) (hx : xs.map a.eval=args) (henter : (callFunc f args).run P w=.ok (.enter f args) w)
    (R : Value→World→Prop) (S : List PanicEntry→World→Prop) (hC : Calls P f args w fun e w'=>(∃ v,e=.returned v∧R v w')∨∃ ch,e=.panicked ch∧S ch w') (hS : ∀ ch w',S ch w'→Q (.panic ch) a w') (hK : ∀ v w',R v w'→K (a.put o.dst v) w') :
    if Region.wanted o (yielded ops a.tmps)=true then Oper.wp P o a w K Q else E:=by
  have hw : Region.wanted o (yielded ops a.tmps)=true:=by simp [Region.wanted,hg]
  rw [if_pos hw]
  subst hx
  unfold Oper.wp
  have e : (execOp a.eval o).run P w=.ok (.enter f (xs.map a.eval)) w:=by
    have e1 : execOp a.eval o=(do let d ←resolve a.eval { callee:=Callee.value (.func f),args:=xs,argTypes:=ts } o.type; invoke d.target d.args):=by simp only [execOp,hop]
    rw [e1]
    simpa [resolve,Deferred.ofValue,Act.eval,invoke] using henter
  rw [e,Oper.upon_enter]
  refine hC.mono ?_
  rintro e w' (⟨v,rfl,hr⟩ | ⟨ch,rfl,hs⟩)
  · exact hK v w' hr
  · exact hS ch w' hs
noncomputable def nxRest : Code:=cSnd (cSnd (cSnd (cSnd (cSnd (cSnd (cSnd (bodyOf Tryz.f43)))))))
def nxTmps (k0 r0 bt bx : Nat) (u : Nat→Value) : Array Value:=
  #[.pointer (some ⟨k0,4,none⟩),u 1,u 2,u 3,.pointer (some ⟨r0,0,none⟩),u 5,.pointer (some ⟨bt,0,none⟩),u 7,u 8,.pointer (some ⟨bx,0,none⟩),u 10,u 11,u 12,u 13,u 14,u 15,u 16,u 17,u 18,u 19,u 20,u 21,u 22,u 23,u 24,u 25,u 26,u 27,u 28,u 29,u 30,u 31,u 32,u 33,u 34,u 35,u 36,u 37,u 38,u 39,u 40,u 41,u 42,u 43,u 44,u 45,u 46,u 47,u 48,u 49,u 50,u 51,u 52,u 53,u 54,u 55,u 56,u 57,u 58,u 59,u 60,u 61]
section
variable {A : Nat→Prop} {B k0 : Nat} {L : Lg}
set_option maxHeartbeats 4000000 in
set_option maxRecDepth 100000 in
theorem next_rest (Qok : Qy→Prop) {w X W7 : World} {r0 bt bx : Nat} {u : Nat→Value} {so : Option Addr} {sn sc : Nat} {tk : ByteArray} {n pg : Int} {pgI : List ItD} (hfx : FrC k0 w X) (h : LsAt A B X k0 L) (hw : ∀ b,A b→b < w.heap.size) (hd : DeskR A B k0 w X) (hl : LeftL X W7) (hrow : W7.ownsRow X.heap.size 41 3 (.slice so sn sc) pgI.length (itCells pgI)) (hr1 : w.heap.size≤r0) (hr2 : r0 < X.heap.size) (hB : B≤w.heap.size) (hv : ∀ v g,X.cell? ⟨k0,4,none⟩=some v→v.ownBlock=some g→g≠r0)
    (b0 : X.heap[r0]?=some (.cells #[.slice none 0 0,.string ⟨#[]⟩] 88)) (b1 : X.heap[bt]?=some (.cells #[.int .i64 n,.int .i64 pg] 129)) (c0 : W7.cell? ⟨bx,0,none⟩=some (.slice so sn sc)) (c1 : W7.cell? ⟨bx,1,none⟩=some (.string tk)) (hbx : X.heap.size≤bx) (_hbt : w.heap.size≤bt) (hpg : 0≤pg∧pg < 2199023255552) :
    nxRest.wp Tryq.prog (bodyPost Tryq.prog Tryz.f43 fun e w'=>(∃ sv,e=.returned (.tuple #[.agg #[sv,.string tk],.int .i64 0])∧LsPost A B k0 w ⟨L.opened,L.begun,if tk=⟨#[]⟩ then L.told else tPut tk (n,pg+1) L.told⟩ pgI sv w')∨Stop Qok e w') ⟨nxTmps k0 r0 bt bx u,[]⟩ W7:=by
  have hlow:=h.low
  have hlt:=h.lt
  have hsX:=hd.size
  have hs7:=hl.size
  have hk : k0≠r0:=by omega
  have hcb : CellB X r0:=⟨_,b0,rfl⟩
  have e0 : W7.heap[r0]?=some (.cells #[.slice none 0 0,.string ⟨#[]⟩] 88):=(hl.block r0 hr2).trans b0
  have hbt2 : bt < X.heap.size:=(Array.getElem?_eq_some_iff.1 b1).1
  have e1 : W7.heap[bt]?=some (.cells #[.int .i64 n,.int .i64 pg] 129):=(hl.block bt hbt2).trans b1
  have s0 : W7.cell? ⟨r0,0,none⟩=some (.slice none 0 0):=by simp [World.cell?,e0]
  have s1 : W7.cell? ⟨r0,1,none⟩=some (.string ⟨#[]⟩):=by simp [World.cell?,e0]
  have y0 : W7.frozen? ⟨r0,0,none⟩=false:=by simp [World.frozen?,e0]
  have y1 : W7.frozen? ⟨r0,1,none⟩=false:=by simp [World.frozen?,e0]
  have p0 : W7.cell? ⟨bt,0,none⟩=some (.int .i64 n):=by simp [World.cell?,e1]
  have p1 : W7.cell? ⟨bt,1,none⟩=some (.int .i64 pg):=by simp [World.cell?,e1]
  have HL:=fin_last hfx h hw hd hl hrow hr1 hr2 hB hv hcb
  have HK:=fin_keep hfx h hw hd hl hrow hr1 hr2 hB hv hcb tk (n,pg+1)
  have hwr : wrap64 (pg+1)=pg+1:=by unfold wrap64; omega
  have hbq:=build_place
  have HHL : Hid (∀ y0 y1,LsPost A B k0 w L pgI (.slice so sn sc) ((W7.setCell ⟨r0,0,none⟩ y0).setCell ⟨r0,1,none⟩ y1)):=HL
  unfold plV at HK
  generalize hQ : bodyPost Tryq.prog Tryz.f43 _=Q
  have HQ : Hid (bodyPost Tryq.prog Tryz.f43 _=Q):=hQ
  clear hQ HL h hw hd hl hrow hfx hv b0 b1 e0 e1 hcb
  unfold nxTmps
  dsimp only [nxRest,bodyOf,Tryz.f43,cFst,cSnd,Option.getD]
  by_cases htk : tk=⟨#[]⟩
  · subst htk
    go_wp2_with fail
    rw [←HQ.out]
    refine bodyPost_ret (v:=.tuple #[.agg #[.slice so sn sc,.string ⟨#[]⟩],.int .i64 0]) (by simp [results,Tryz.results43,go_sem,s0,s1]) rfl (.inl ⟨_,rfl,?_⟩)
    simp only [if_true]
    exact HHL.out _ _
  · have hne' : ¬tk.toList=[]:=fun hx=>by
      have : (tk == (⟨#[]⟩ : ByteArray))=true:=by rw [beq_toListBytes]; simpa using hx
      exact htk ((MapKept.bytes_beq _ _).1 this)
    have hne : (tk.toList == [])=false:=by simpa using hne'
    have hbk : bx≠k0:=by omega
    go_wp2_with (go_at_call 70; refine HK.mono ?_; clear HK; rintro e w8 ⟨rfl,hk8,hfin⟩; have c0':=hk8.cell c0 hbk; have c1':=hk8.cell c1 hbk; have s0':=hk8.cell s0 hk.symm; have s1':=hk8.cell s1 hk.symm; have y0':=(hk8.frozen s0 hk.symm).trans y0; have y1':=(hk8.frozen s1 hk.symm).trans y1)
    rw [←HQ.out]
    refine bodyPost_ret (v:=.tuple #[.agg #[.slice so sn sc,.string tk],.int .i64 0]) (by simp [results,Tryz.results43,go_sem,s0',s1']) rfl (.inl ⟨_,rfl,?_⟩)
    rw [if_neg htk]
    exact hfin _ _
end
end Go.Proofs.YtnapepbdohidgaaGreatDoorQ
