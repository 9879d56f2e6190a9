/- Part of a proof. -/
import Derived.Test.YtnapepbdohidgaaGreatDoorQM32
import Derived.Test.YtnapepbdohidgaaGreatDoorQM33
import Derived.Test.YtnapepbdohidgaaGreatDoorQM29
import Derived.Test.YtnapepbdohidgaaGreatDoorQM30
import Derived.Test.YtnapepbdohidgaaGreatDoorQM20
namespace Go.Proofs.YtnapepbdohidgaaGreatDoorQ
open Go
open Go.Conc Go.ConcX Go.ConcX.Gen Go.RowKit
theorem begin_ok {A : Nat→Prop} {B k0 : Nat} {L : Lg} (Qok : Qy→Prop) (hQ : ∀ q,Qok q→CmnOk q∧SkyOk q) (w : World) (h : LsAt A B w k0 L) (hB : B≤w.heap.size) (root : Option Addr) (f : List UInt8→List Ver) (q : Qy) (size : Int) (hN : NodeAt A 41 w root f) (hq : Qok q) (hsum : sumV (fromL f q.p.data.toList)≤1000) (hp : q.p.size≤maxLen) (hbg : 0≤L.begun∧L.begun < 2199023255552) (hop : L.opened.length≤3) (G : World→Prop) (hG : ∀ w',LeftL w w'→G w') (hT : TokOk G (L.begun+1) 2) :
    Calls Tryq.prog 40 #[.pointer (some ⟨k0,4,none⟩),sV root,qV q.vs q.p q.d q.af,.int .i64 size] w fun e w'=>
      (∃ sv,e=.returned (.tuple #[.agg #[sv,.string (begR L f q size).2.2.1],.int .i64 (begR L f q size).2.2.2])∧LsPost A B k0 w (begR L f q size).1 (begR L f q size).2.1 sv w')∨Stop Qok e w':=by
  by_cases h1 : size < 1∨20 < size
  · exact begin_old Qok hQ w h hB root f q size hN hq hsum hp hbg hop G hG hT (.inl h1)
  · by_cases h2 : (newL L f q size).tok 1=⟨#[]⟩
    · exact begin_old Qok hQ w h hB root f q size hN hq hsum hp hbg hop G hG hT (.inr (.inl h2))
    · by_cases h3 : 3≤L.opened.length
      · exact begin_old Qok hQ w h hB root f q size hN hq hsum hp hbg hop G hG hT (.inr (.inr h3))
      · exact begin_new Qok hQ w h hB root f q size hN hq hsum hp hbg hop G hG hT h1 h2 h3
structure AnsL where
  code : Int
  ver : Int
  body : ByteArray
  items : List ItD
  tok : ByteArray
def ansV (a : AnsL) (sv : Value) : Value:=.agg #[.int .i64 a.code,.int .i64 a.ver,.string a.body,sv,.string a.tok]
def AnsPost (A : Nat→Prop) (B k0 : Nat) (w : World) (st' : St) (L' : Lg) (a : AnsL) (e : Ending) (w' : World) : Prop:=
  ∃ sv,e=.returned (ansV a sv)∧∃ A' : Nat→Prop,(∀ b,A b→A' b)∧(∀ b,A' b→A b∨w.heap.size≤b)∧DeskAt A' B w' k0 st' L'∧DeskW A B k0 w w'∧RowAt A' w' sv a.items.length (itCells a.items)
section
variable {A A' : Nat→Prop} {B k0 : Nat} {w w' w'' : World} {st : St} {L L' : Lg}
theorem DeskW.left (hk : k0 < w.heap.size) (h : LeftL w w') : DeskW A B k0 w w':=(DeskR.left hk h).weak
theorem DeskAt.left (h : DeskAt A B w k0 st L) (hl : LeftL w w') : DeskAt A B w' k0 st L:=h.step (DeskR.left h.ls.lt hl) (fun _ h=>h) (h.ls.left hl)
theorem DeskAt.other {b j : Nat} {x : Value} (h : DeskAt A B w k0 st L) (hb : b≠k0) (hA : ¬A b) (hcl : CellB w b) (hv : ¬OpenB k0 w b) (hB : B≤b) : DeskAt A B (w.setCell ⟨b,j,none⟩ x) k0 st L:=
  h.step (DeskR.other hb hA hB) (fun _ h=>h) (h.ls.other hb hA hcl (fun v _g e1 e2 e3=>hv ⟨v,e1,e3 ▸ e2⟩))
theorem ans_fin {W0 w1 : World} {r : Nat} {sv : Value} {its : List ItD} (hW : LeftL w W0) (hk : k0 < w.heap.size) (hBw : B≤w.heap.size) (hr : w.heap.size≤r) (hrl : r < W0.heap.size) (hrc : CellB W0 r) (_hA1 : ∀ b,A b→A' b) (hA2 : ∀ b,A' b→A b∨W0.heap.size≤b) (hAw : ∀ b,A b→b < w.heap.size) (hd : DeskAt A' B w1 k0 st L') (hdw : DeskW A B k0 W0 w1) (hf : FrC k0 W0 w1) (ho : ∀ g,OpenB k0 W0 g→g < w.heap.size) (hrow : RowAt A' w1 sv its.length (itCells its)) (x0 x1 x2 x3 x4 : Value) :
    (∀ b,A' b→A b∨w.heap.size≤b)∧DeskAt A' B (put5 w1 r x0 x1 x2 x3 x4) k0 st L'∧DeskW A B k0 w (put5 w1 r x0 x1 x2 x3 x4)∧RowAt A' (put5 w1 r x0 x1 x2 x3 x4) sv its.length (itCells its):=by
  have hlow:=hd.ls.low
  have hrk : r≠k0:=by omega
  have hnA : ¬A' r:=fun h=>by
    rcases hA2 r h with h | h
    · have:=hAw r h; omega
    · omega
  have hno : ¬OpenB k0 W0 r:=fun h=>by have:=ho r h; omega
  have e1 : w1.heap[r]?=W0.heap[r]?:=hf.keep r hrc hrk hno
  have hc1 : CellB w1 r:=hrc.same e1
  have hno1 : ¬OpenB k0 w1 r:=fun h=>by
    rcases hf.own r h with h | h
    · exact hno h
    · omega
  have hopen : ∀ (W : World) (j : Nat) (x : Value),¬OpenB k0 W r→¬OpenB k0 (W.setCell ⟨r,j,none⟩ x) r:=fun W j x h=>by
    rintro ⟨v,h1,h2⟩
    exact h ⟨v,(World.cell?_of_block (a:=⟨k0,4,none⟩) (Below.heap_setCell _ _ _ _ (fun e=>hrk e.symm))).symm.trans h1,h2⟩
  have hset : ∀ b,b≠r→(put5 w1 r x0 x1 x2 x3 x4).heap[b]?=w1.heap[b]?:=fun b hb=>by
    unfold put5
    rw [Below.heap_setCell _ _ _ _ hb,Below.heap_setCell _ _ _ _ hb,Below.heap_setCell _ _ _ _ hb,Below.heap_setCell _ _ _ _ hb,Below.heap_setCell _ _ _ _ hb]
  refine ⟨fun b hb=>(hA2 b hb).imp id fun h=>by have:=hW.size; omega,?_,(DeskW.left hk hW).trans (hdw.trans ?_),RowAt.keep hrow fun b hb _=>⟨hb,hset b (fun e=>hnA (e ▸ hb))⟩⟩
  · unfold put5
    exact ((((hd.other hrk hnA hc1 hno1 (by omega)).other hrk hnA hc1.set (hopen _ _ _ hno1) (by omega)).other hrk hnA hc1.set.set (hopen _ _ _ (hopen _ _ _ hno1)) (by omega)).other hrk hnA hc1.set.set.set (hopen _ _ _ (hopen _ _ _ (hopen _ _ _ hno1))) (by omega)).other hrk hnA hc1.set.set.set.set (hopen _ _ _ (hopen _ _ _ (hopen _ _ _ (hopen _ _ _ hno1)))) (by omega)
  · have hkk:=hset k0 (fun e=>hrk e.symm)
    exact ⟨rfl,by simp [put5],fun b h1 _ _=>hset b (by omega),fun b hb _=>hset b (fun e=>by have:=hAw b hb; omega),fun j _=>World.cell?_of_block (a:=⟨k0,j,none⟩) hkk,fun j=>World.frozen?_of_block (a:=⟨k0,j,none⟩) hkk⟩
end
theorem build_ans1 (c : Int) (w : World) : (Instr.build 36 #[(0,.int .i64 c)]).run Tryq.prog w=.ok (.agg #[.int .i64 c,.int .i64 0,.string ⟨#[]⟩,.slice none 0 0,.string ⟨#[]⟩]) w:=by kernel_rfl
theorem build_ans2 (v : Int) (so : Option Addr) (sn sc : Nat) (w : World) : (Instr.build 36 #[(1,.int .i64 v),(3,.slice so sn sc)]).run Tryq.prog w=.ok (.agg #[.int .i64 0,.int .i64 v,.string ⟨#[]⟩,.slice so sn sc,.string ⟨#[]⟩]) w:=by kernel_rfl
theorem build_ans3 (c : Int) (so : Option Addr) (sn sc : Nat) (t : ByteArray) (w : World) : (Instr.build 36 #[(0,.int .i64 c),(3,.slice so sn sc),(4,.string t)]).run Tryq.prog w=.ok (.agg #[.int .i64 c,.int .i64 0,.string ⟨#[]⟩,.slice so sn sc,.string t]) w:=by kernel_rfl
section
variable {A : Nat→Prop} {B k0 : Nat} {w : World} {st : St} {L : Lg}
def ansW (w : World) (o : OpD) : World:=(w.alloc (.cells #[.int .i64 o.kind,.string o.key,.string o.body,.string o.delim,.string o.past,.int .i64 o.n,.int .i64 o.src] 31)).alloc (.cells #[.int .i64 0,.int .i64 0,.string ⟨#[]⟩,.slice none 0 0,.string ⟨#[]⟩] 36)
theorem ansW_left (o : OpD) : LeftL w (ansW w o):=(LeftL.refl.alloc _).alloc _
theorem ansW_size (o : OpD) : (ansW w o).heap.size=w.heap.size+2:=by simp [ansW]
theorem ansW_row (o : OpD) : (ansW w o).heap[w.heap.size+1]?=some (.cells #[.int .i64 0,.int .i64 0,.string ⟨#[]⟩,.slice none 0 0,.string ⟨#[]⟩] 36):=by
  have:=World.alloc_heap_new (w.alloc (.cells #[.int .i64 o.kind,.string o.key,.string o.body,.string o.delim,.string o.past,.int .i64 o.n,.int .i64 o.src] 31)) (.cells #[.int .i64 0,.int .i64 0,.string ⟨#[]⟩,.slice none 0 0,.string ⟨#[]⟩] 36)
  rwa [World.size_alloc] at this
theorem ansW_open (o : OpD) (h : LsAt A B w k0 L) : ∀ g,OpenB k0 (ansW w o) g→g < w.heap.size:=fun g hg=>by
  obtain ⟨v,h1,h2⟩:=hg
  obtain ⟨v4,c4,zs,z1,z2,-⟩:=h.opened
  rw [(ansW_left o).cell c4] at h1
  cases h1
  exact (z2.lt g h2).2
theorem ansW_box (o : OpD) (h : LsAt A B w k0 L) {w1 : World} (hf : FrC k0 (ansW w o) w1) : w1.heap[w.heap.size+1]?=some (.cells #[.int .i64 0,.int .i64 0,.string ⟨#[]⟩,.slice none 0 0,.string ⟨#[]⟩] 36):=by
  have hlt:=h.lt
  rw [hf.keep _ ⟨_,ansW_row o,rfl⟩ (by omega) (fun hx=>by have:=ansW_open o h _ hx; omega)]
  exact ansW_row o
theorem box5 {w1 : World} {r : Nat} (e : w1.heap[r]?=some (.cells #[.int .i64 0,.int .i64 0,.string ⟨#[]⟩,.slice none 0 0,.string ⟨#[]⟩] 36)) :
    (w1.cell? ⟨r,0,none⟩=some (.int .i64 0)∧w1.cell? ⟨r,1,none⟩=some (.int .i64 0)∧w1.cell? ⟨r,2,none⟩=some (.string ⟨#[]⟩)∧w1.cell? ⟨r,3,none⟩=some (.slice none 0 0)∧w1.cell? ⟨r,4,none⟩=some (.string ⟨#[]⟩)) ∧
    (w1.frozen? ⟨r,0,none⟩=false∧w1.frozen? ⟨r,1,none⟩=false∧w1.frozen? ⟨r,2,none⟩=false∧w1.frozen? ⟨r,3,none⟩=false∧w1.frozen? ⟨r,4,none⟩=false):=by
  refine ⟨⟨?_,?_,?_,?_,?_⟩,?_,?_,?_,?_,?_⟩ <;> simp [World.cell?,World.frozen?,e]
set_option maxHeartbeats 2000000 in
set_option maxRecDepth 100000 in
theorem answer_tick (h : DeskAt A B w k0 st L) (hB : B≤w.heap.size) (hop : L.opened.length≤3) (hlf : ∀ x∈L.opened,0≤x.left∧x.left≤10) (o : OpD) (hk : o.kind=9) :
    Calls Tryq.prog 33 #[.pointer (some ⟨k0,0,none⟩),opVal o] w (AnsPost A B k0 w st (tickR L o.n).1 ⟨(tickR L o.n).2,0,⟨#[]⟩,[],⟨#[]⟩⟩):=by
  have HT:=tick_ok (ansW w o) (h.left (ansW_left o)) hop o.n hlf
  have hbx : ∀ w1,FrC k0 (ansW w o) w1→_:=fun w1 hf=>box5 (ansW_box o h.ls hf)
  have HB : Hid (∀ w1,FrC k0 (ansW w o) w1→_):=hbx
  have HF : Hid (∀ w1 x0 x1 x2 x3 x4,DeskAt A B w1 k0 st (tickR L o.n).1→DeskW A B k0 (ansW w o) w1→FrC k0 (ansW w o) w1→AnsPost A B k0 w st (tickR L o.n).1 ⟨(tickR L o.n).2,0,⟨#[]⟩,[],⟨#[]⟩⟩ (.returned (ansV ⟨(tickR L o.n).2,0,⟨#[]⟩,[],⟨#[]⟩⟩ (.slice none 0 0))) (put5 w1 (w.heap.size+1) x0 x1 x2 x3 x4)):=fun w1 x0 x1 x2 x3 x4 d1 d2 d3=>by
    obtain ⟨e1,e2,e3,e4⟩:=ans_fin (A':=A) (sv:=.slice none 0 0) (its:=[]) (r:=w.heap.size+1) (ansW_left o) h.ls.lt hB (by omega) (by rw [ansW_size]; omega) ⟨_,ansW_row o,rfl⟩ (fun _ h=>h) (fun b hb=>.inl hb) h.ls.inn d1 d2 d3 (ansW_open o h.ls) ⟨none,0,rfl,fun _=>rfl,fun h=>absurd rfl h⟩ x0 x1 x2 x3 x4
    exact ⟨_,rfl,A,fun _ h=>h,e1,e2,e3,e4⟩
  have hb1:=build_ans1
  have HD : Hid (DeskAt A B w k0 st L):=h
  generalize hR : (tickR L o.n)=R at *
  obtain ⟨L',c⟩:=R
  simp only at HT HF ⊢
  obtain ⟨kind,key,body,delim,past,n,src⟩:=o
  simp only at hk
  subst hk
  unfold ansW at HT HF HB
  clear h hbx hR
  unfold opVal
  go_enter Tryq.func33,Tryz.ntmps33
  go_wp2_with (go_at_call 45; refine HT.mono ?_; clear HT; rintro e w1 ⟨rfl,d1,d2,d3⟩; obtain ⟨⟨b0,b1,b2,b3,b4⟩,f0,f1,f2,f3,f4⟩:=HB.out w1 d3)
  exact bodyPost_ret (v:=ansV ⟨c,0,⟨#[]⟩,[],⟨#[]⟩⟩ (.slice none 0 0)) (by simp [results,Tryz.results33,go_sem,ansV,b0,b1,b2,b3,b4]) rfl (HF.out w1 _ _ _ _ _ d1 d2 d3)
end
section
variable {A : Nat→Prop} {B k0 : Nat} {w W w2 : World} {st st' : St} {L L' : Lg} {o : OpD} {its : List ItD} {sv : Value}
theorem page_box (h : LsAt A B w k0 L) (hl : LeftL (ansW w o) W) (hp : LsPost A B k0 W L' its sv w2) : w2.heap[w.heap.size+1]?=some (.cells #[.int .i64 0,.int .i64 0,.string ⟨#[]⟩,.slice none 0 0,.string ⟨#[]⟩] 36):=by
  obtain ⟨A',-,-,-,-,-,hf⟩:=hp
  have hlt:=h.lt
  exact ansW_box o h ((FrC.left (by rw [ansW_size]; omega) hl).trans hf)
theorem page_fin (h : DeskAt A B w k0 st L) (hB : B≤w.heap.size) (hl : LeftL (ansW w o) W) (hp : LsPost A B k0 W L' its sv w2) (a : AnsL) (ha : a.items=its) (x0 x1 x2 x3 x4 : Value) : AnsPost A B k0 w st L' a (.returned (ansV a sv)) (put5 w2 (w.heap.size+1) x0 x1 x2 x3 x4):=by
  subst ha
  obtain ⟨A',a1,a2,a3,a4,a5,a6⟩:=hp
  have hlt:=h.ls.lt
  have hdW:=h.left ((ansW_left o).trans hl)
  have hsW:=hl.size
  have d1:=hdW.step a4 a1 a3
  have hkw : k0 < (ansW w o).heap.size:=by rw [ansW_size]; omega
  obtain ⟨e1,e2,e3,e4⟩:=ans_fin (A':=A') (sv:=sv) (its:=a.items) (r:=w.heap.size+1) (ansW_left o) hlt hB (by omega) (by rw [ansW_size]; omega) ⟨_,ansW_row o,rfl⟩ a1 (fun b hb=>(a2 b hb).imp id (by omega)) h.ls.inn d1 ((DeskW.left hkw hl).trans a4.weak) ((FrC.left hkw hl).trans a6) (ansW_open o h.ls) a5 x0 x1 x2 x3 x4
  exact ⟨_,rfl,A',a1,e1,e2,e3,e4⟩
theorem page_fin2 (h : DeskAt A B w k0 st L) (hB : B≤w.heap.size) (hl : LeftL (ansW w o) W) (hp : LsPost A B k0 W L' its sv w2) (a : AnsL) (ha : a.items=its) (bb : Nat) (hb1 : w.heap.size+2≤bb) (hb2 : bb < W.heap.size) (hbc : CellB W bb) (y0 y1 x0 x1 x2 x3 x4 : Value) : AnsPost A B k0 w st L' a (.returned (ansV a sv)) (put5 ((w2.setCell ⟨bb,0,none⟩ y0).setCell ⟨bb,1,none⟩ y1) (w.heap.size+1) x0 x1 x2 x3 x4):=by
  subst ha
  obtain ⟨A',a1,a2,a3,a4,a5,a6⟩:=hp
  have hlt:=h.ls.lt
  have hlow:=h.ls.low
  have hdW:=h.left ((ansW_left o).trans hl)
  have hsW:=hl.size
  have d1:=hdW.step a4 a1 a3
  have hkw : k0 < (ansW w o).heap.size:=by rw [ansW_size]; omega
  have hnA : ¬A' bb:=fun hx=>by
    rcases a2 bb hx with hx | hx
    · have:=h.ls.inn bb hx; omega
    · omega
  have hnoW : ¬OpenB k0 W bb:=by
    rintro ⟨v,h1,h2⟩
    obtain ⟨v4,c4,zs,z1,z2,-⟩:=h.ls.opened
    rw [((ansW_left o).trans hl).cell c4] at h1
    cases h1
    have:=(z2.lt bb h2).2
    omega
  have hno2 : ¬OpenB k0 w2 bb:=fun hx=>by
    rcases a6.own bb hx with hx | hx
    · exact hnoW hx
    · omega
  have hc2 : CellB w2 bb:=hbc.same (a6.keep bb hbc (by omega) hnoW)
  have hno3 : ¬OpenB k0 (w2.setCell ⟨bb,0,none⟩ y0) bb:=by
    rintro ⟨v,h1,h2⟩
    exact hno2 ⟨v,(World.cell?_of_block (a:=⟨k0,4,none⟩) (Below.heap_setCell _ _ _ _ (show k0≠bb by omega))).symm.trans h1,h2⟩
  have hbk : bb≠k0:=by omega
  have d2:=(d1.other (j:=0) (x:=y0) hbk hnA hc2 hno2 (by omega)).other (j:=1) (x:=y1) hbk hnA hc2.set hno3 (by omega)
  have hset : ∀ b,b≠bb→((w2.setCell ⟨bb,0,none⟩ y0).setCell ⟨bb,1,none⟩ y1).heap[b]?=w2.heap[b]?:=fun b hb=>by rw [Below.heap_setCell _ _ _ _ hb,Below.heap_setCell _ _ _ _ hb]
  have hA1' : ¬A bb:=fun hx=>hnA (a1 bb hx)
  have hdw2 : DeskW A B k0 (ansW w o) ((w2.setCell ⟨bb,0,none⟩ y0).setCell ⟨bb,1,none⟩ y1):=(((DeskW.left hkw hl).trans a4.weak).trans (DeskR.other hbk hA1' (by omega)).weak).trans (DeskR.other hbk hA1' (by omega)).weak
  have hfr : FrC k0 (ansW w o) ((w2.setCell ⟨bb,0,none⟩ y0).setCell ⟨bb,1,none⟩ y1):=(((FrC.left hkw hl).trans a6).fresh (by rw [ansW_size]; omega) hbk).fresh (by rw [ansW_size]; omega) hbk
  obtain ⟨e1,e2,e3,e4⟩:=ans_fin (A':=A') (sv:=sv) (its:=a.items) (r:=w.heap.size+1) (ansW_left o) hlt hB (by omega) (by rw [ansW_size]; omega) ⟨_,ansW_row o,rfl⟩ a1 (fun b hb=>(a2 b hb).imp id (by omega)) h.ls.inn d2 hdw2 hfr (ansW_open o h.ls) (RowAt.keep a5 fun b hb _=>⟨hb,hset b (fun e=>hnA (e ▸ hb))⟩) x0 x1 x2 x3 x4
  exact ⟨_,rfl,A',a1,e1,e2,e3,e4⟩
end
def tokenR (toks : List ByteArray) (src : Int) (body : ByteArray) : ByteArray:=
  if 0≤src∧src < toks.length then (if toks[src.toNat]?.getD ⟨#[]⟩=⟨#[]⟩ then body else toks[src.toNat]?.getD ⟨#[]⟩) else body
noncomputable def tkOps : Array Oper:=cOps (cFst (cFst (cSnd (bodyOf Tryz.f44))))
set_option maxHeartbeats 1000000 in
set_option maxRecDepth 100000 in
theorem tk_yes {id m : Nat} {Q : Exit→Act→World→Prop} {a0 : Act} {W : World} {k0 bo g0 n cp : Nat} {src : Int} {t : ByteArray} (hs : a0.tmps.size=32) (e0 : a0.eval (.tmp 0)=ptr k0) (e3 : a0.eval (.tmp 3)=ptr bo) (c6 : W.cell? ⟨bo,6,none⟩=some (.int .i64 src)) (c8 : W.cell? ⟨k0,8,none⟩=some (.slice (some ⟨g0,0,none⟩) n cp)) {s : Nat} (hsrc : src=s) (hsn : s < n) (ct : W.cell? ⟨g0,s * 5+4,none⟩=some (.string t))
    (hA : Calls Tryq.prog 73 #[ptr k0,.int .i64 src] { W with drawn:=W.drawn+1 } fun e w'=>e=.returned (.bool true)∧w'={ W with drawn:=W.drawn+1 })
    (hend : ∀ a,a.tmps.size=32→a.defers=a0.defers→(∀ t,t < 5→a.eval (.tmp t)=a0.eval (.tmp t))→a.eval (.tmp 20)=.bool (!(t.toList == []))→Q .normal a { W with drawn:=W.drawn+1 }) :
    (Code.region id tkOps true).wpIn (wf none) m Tryq.prog Q a0 W:=by
  obtain ⟨W1,hW1⟩ : ∃ W1 : World,W1={ W with drawn:=W.drawn+1 }:=⟨_,rfl⟩
  rw [←hW1] at hA hend
  have hce : ∀ a,W1.cell? a=W.cell? a:=fun a=>by rw [hW1]; rfl
  have d6 : W1.cell? ⟨bo,6,none⟩=some (.int .i64 src):=(hce _).trans c6
  have d8 : W1.cell? ⟨k0,8,none⟩=some (.slice (some ⟨g0,0,none⟩) n cp):=(hce _).trans c8
  have d6s : W1.cell? ⟨bo,6,none⟩=some (.int .i64 (s : Int)):=by rw [d6,hsrc]
  have dt : W1.cell? ⟨g0,s * 5+4,none⟩=some (.string t):=(hce _).trans ct
  have hsn0 : ¬((s : Int) < 0):=by omega
  refine region_vals2 (ro:=none) (a0:=a0) (w0:=W) mixed 5 16 (fun i=>match i with | 0=>ptr k0 | 1=>.pointer (some ⟨bo,6,none⟩) | 2=>.int .i64 src | 3=>.bool true | 4=>.bool true | 5=>ptr k0 | 6=>ptr k0 | 7=>.pointer (some ⟨k0,8,none⟩) | 8=>.slice (some ⟨g0,0,none⟩) n cp | 9=>.pointer (some ⟨bo,6,none⟩) | 10=>.int .i64 (s : Int) | 11=>.pointer (some ⟨g0,s * 5,none⟩) | 12=>.pointer (some ⟨g0,s * 5+4,none⟩) | 13=>.string t | _=>.bool (!(t.toList == []))) (fun _ w=>w=W1) (by omega) (by rfl) (by rfl) (fun listed a w i o hi ho V hdep hcl=>?_) (fun a w h1 h2 h3 h4 h5=>?_) (by rw [hW1])
  · skip
    obtain rfl : w=W1:=V.world
    have hlt : i < 16:=(ready_lt hi).1
    rcases i with - | - | - | - | - | - | - | - | - | - | - | - | - | - | - | - | i
    · have ho1:=ho
      dsimp only [tkOps,bodyOf,Tryz.f44,cFst,cSnd,cOps,Option.getD] at ho1
      simp only [List.getElem?_toArray,List.getElem?_cons_zero,Option.some.injEq] at ho1
      subst ho1
      have q0 : a.eval (.tmp 0)=ptr k0:=(V.old 0 (by omega)).trans e0
      refine opTo_value ho rfl (fun c h=>by cases h) (v:=ptr k0) (w':=w) (by generalize a.eval=ρ at q0 ⊢; simp [go_sem,q0]) ⟨_,rfl,fun _=>rfl,V.world⟩
    · have ho1:=ho
      dsimp only [tkOps,bodyOf,Tryz.f44,cFst,cSnd,cOps,Option.getD] at ho1
      simp only [List.getElem?_toArray,List.getElem?_cons_succ,List.getElem?_cons_zero,Option.some.injEq,Nat.zero_add] at ho1
      subst ho1
      have q0 : a.eval (.tmp 3)=ptr bo:=(V.old 3 (by omega)).trans e3
      refine opTo_value ho rfl (fun c h=>by cases h) (v:=.pointer (some ⟨bo,6,none⟩)) (w':=w) (by generalize a.eval=ρ at q0 ⊢; simp [go_sem,q0,ptr]) ⟨_,rfl,fun _=>rfl,V.world⟩
    · have ho1:=ho
      dsimp only [tkOps,bodyOf,Tryz.f44,cFst,cSnd,cOps,Option.getD] at ho1
      simp only [List.getElem?_toArray,List.getElem?_cons_succ,List.getElem?_cons_zero,Option.some.injEq,Nat.reduceAdd,Nat.zero_add] at ho1
      subst ho1
      have q0 : a.eval (.tmp 6)=.pointer (some ⟨bo,6,none⟩):=V.new 1 (by omega) (hdep ⟨1,.data⟩ (by simp) rfl)
      refine opTo_value ho rfl (fun c h=>by cases h) (v:=.int .i64 src) (w':=w) (by generalize a.eval=ρ at q0 ⊢; simp [go_sem,q0,d6]) ⟨_,rfl,fun _=>rfl,V.world⟩
    · have ho1:=ho
      dsimp only [tkOps,bodyOf,Tryz.f44,cFst,cSnd,cOps,Option.getD] at ho1
      simp only [List.getElem?_toArray,List.getElem?_cons_succ,List.getElem?_cons_zero,Option.some.injEq,Nat.reduceAdd,Nat.zero_add] at ho1
      subst ho1
      have q0 : a.eval (.tmp 5)=ptr k0:=V.new 0 (by omega) (hdep ⟨0,.data⟩ (by simp) rfl)
      have q1 : a.eval (.tmp 7)=.int .i64 src:=V.new 2 (by omega) (hdep ⟨2,.data⟩ (by simp) rfl)
      refine opTo_call (f:=73) (args:=#[ptr k0,.int .i64 src]) (w':=w) ho rfl (fun c h=>by cases h) (by have qf:=hfun a rfl 73; generalize a.eval=ρ at q0 q1 qf ⊢; simp [go_sem,q0,q1,qf]) (hA.mono ?_)
      rintro e X ⟨rfl,rfl⟩
      exact ⟨_,rfl,_,rfl,fun _=>rfl,V.world⟩
    · have ho1:=ho
      dsimp only [tkOps,bodyOf,Tryz.f44,cFst,cSnd,cOps,Option.getD] at ho1
      simp only [List.getElem?_toArray,List.getElem?_cons_succ,List.getElem?_cons_zero,Option.some.injEq,Nat.reduceAdd,Nat.zero_add] at ho1
      subst ho1
      have q0 : a.eval (.tmp 8)=.bool true:=V.new 3 (by omega) (hdep ⟨3,.data⟩ (by simp) rfl)
      refine opTo_value ho rfl (fun c h=>by cases h) (v:=.bool true) (w':=w) (by generalize a.eval=ρ at q0 ⊢; simp [go_sem,q0]) ⟨_,rfl,fun _=>rfl,V.world⟩
    · have ho1:=ho
      dsimp only [tkOps,bodyOf,Tryz.f44,cFst,cSnd,cOps,Option.getD] at ho1
      simp only [List.getElem?_toArray,List.getElem?_cons_succ,List.getElem?_cons_zero,Option.some.injEq,Nat.reduceAdd,Nat.zero_add] at ho1
      subst ho1
      have q0 : a.eval (.tmp 0)=ptr k0:=(V.old 0 (by omega)).trans e0
      have q4 : a.eval (.tmp 9)=.bool true:=V.new 4 (by omega) (hdep ⟨4,.guard⟩ (by simp) rfl)
      have hy:=yielded_of (ops:=tkOps) (a:=a) (j:=4) (show tkOps[4]?=some _ from rfl) rfl (by rw [V.size,hs]; omega) q4
      refine opTo_value ho (by simp [Region.wanted,hy]) (fun c h=>by cases h) (v:=ptr k0) (w':=w) (by generalize a.eval=ρ at q0 ⊢; simp [go_sem,q0]) ⟨_,rfl,fun _=>rfl,V.world⟩
    · have ho1:=ho
      dsimp only [tkOps,bodyOf,Tryz.f44,cFst,cSnd,cOps,Option.getD] at ho1
      simp only [List.getElem?_toArray,List.getElem?_cons_succ,List.getElem?_cons_zero,Option.some.injEq,Nat.reduceAdd,Nat.zero_add] at ho1
      subst ho1
      have q0 : a.eval (.tmp 10)=ptr k0:=V.new 5 (by omega) (hdep ⟨5,.data⟩ (by simp) rfl)
      have q4 : a.eval (.tmp 9)=.bool true:=V.new 4 (by omega) (hdep ⟨4,.guard⟩ (by simp) rfl)
      have hy:=yielded_of (ops:=tkOps) (a:=a) (j:=4) (show tkOps[4]?=some _ from rfl) rfl (by rw [V.size,hs]; omega) q4
      refine opTo_value ho (by simp [Region.wanted,hy]) (fun c h=>by cases h) (v:=ptr k0) (w':=w) (by generalize a.eval=ρ at q0 ⊢; simp [go_sem,q0,ptr]) ⟨_,rfl,fun _=>rfl,V.world⟩
    · have ho1:=ho
      dsimp only [tkOps,bodyOf,Tryz.f44,cFst,cSnd,cOps,Option.getD] at ho1
      simp only [List.getElem?_toArray,List.getElem?_cons_succ,List.getElem?_cons_zero,Option.some.injEq,Nat.reduceAdd,Nat.zero_add] at ho1
      subst ho1
      have q0 : a.eval (.tmp 11)=ptr k0:=V.new 6 (by omega) (hdep ⟨6,.data⟩ (by simp) rfl)
      have q4 : a.eval (.tmp 9)=.bool true:=V.new 4 (by omega) (hdep ⟨4,.guard⟩ (by simp) rfl)
      have hy:=yielded_of (ops:=tkOps) (a:=a) (j:=4) (show tkOps[4]?=some _ from rfl) rfl (by rw [V.size,hs]; omega) q4
      refine opTo_value ho (by simp [Region.wanted,hy]) (fun c h=>by cases h) (v:=.pointer (some ⟨k0,8,none⟩)) (w':=w) (by generalize a.eval=ρ at q0 ⊢; simp [go_sem,q0,ptr]) ⟨_,rfl,fun _=>rfl,V.world⟩
    · have ho1:=ho
      dsimp only [tkOps,bodyOf,Tryz.f44,cFst,cSnd,cOps,Option.getD] at ho1
      simp only [List.getElem?_toArray,List.getElem?_cons_succ,List.getElem?_cons_zero,Option.some.injEq,Nat.reduceAdd,Nat.zero_add] at ho1
      subst ho1
      have q0 : a.eval (.tmp 12)=.pointer (some ⟨k0,8,none⟩):=V.new 7 (by omega) (hdep ⟨7,.data⟩ (by simp) rfl)
      have q4 : a.eval (.tmp 9)=.bool true:=V.new 4 (by omega) (hdep ⟨4,.guard⟩ (by simp) rfl)
      have hy:=yielded_of (ops:=tkOps) (a:=a) (j:=4) (show tkOps[4]?=some _ from rfl) rfl (by rw [V.size,hs]; omega) q4
      refine opTo_value ho (by simp [Region.wanted,hy]) (fun c h=>by cases h) (v:=.slice (some ⟨g0,0,none⟩) n cp) (w':=w) (by generalize a.eval=ρ at q0 ⊢; simp [go_sem,q0,d8]) ⟨_,rfl,fun _=>rfl,V.world⟩
    · have ho1:=ho
      dsimp only [tkOps,bodyOf,Tryz.f44,cFst,cSnd,cOps,Option.getD] at ho1
      simp only [List.getElem?_toArray,List.getElem?_cons_succ,List.getElem?_cons_zero,Option.some.injEq,Nat.reduceAdd,Nat.zero_add] at ho1
      subst ho1
      have q0 : a.eval (.tmp 3)=ptr bo:=(V.old 3 (by omega)).trans e3
      have q4 : a.eval (.tmp 9)=.bool true:=V.new 4 (by omega) (hdep ⟨4,.guard⟩ (by simp) rfl)
      have hy:=yielded_of (ops:=tkOps) (a:=a) (j:=4) (show tkOps[4]?=some _ from rfl) rfl (by rw [V.size,hs]; omega) q4
      refine opTo_value ho (by simp [Region.wanted,hy]) (fun c h=>by cases h) (v:=.pointer (some ⟨bo,6,none⟩)) (w':=w) (by generalize a.eval=ρ at q0 ⊢; simp [go_sem,q0,ptr]) ⟨_,rfl,fun _=>rfl,V.world⟩
    · have ho1:=ho
      dsimp only [tkOps,bodyOf,Tryz.f44,cFst,cSnd,cOps,Option.getD] at ho1
      simp only [List.getElem?_toArray,List.getElem?_cons_succ,List.getElem?_cons_zero,Option.some.injEq,Nat.reduceAdd,Nat.zero_add] at ho1
      subst ho1
      have q0 : a.eval (.tmp 14)=.pointer (some ⟨bo,6,none⟩):=V.new 9 (by omega) (hdep ⟨9,.data⟩ (by simp) rfl)
      have q4 : a.eval (.tmp 9)=.bool true:=V.new 4 (by omega) (hdep ⟨4,.guard⟩ (by simp) rfl)
      have hy:=yielded_of (ops:=tkOps) (a:=a) (j:=4) (show tkOps[4]?=some _ from rfl) rfl (by rw [V.size,hs]; omega) q4
      refine opTo_value ho (by simp [Region.wanted,hy]) (fun c h=>by cases h) (v:=.int .i64 (s : Int)) (w':=w) (by generalize a.eval=ρ at q0 ⊢; simp [go_sem,q0,d6s]) ⟨_,rfl,fun _=>rfl,V.world⟩
    · have ho1:=ho
      dsimp only [tkOps,bodyOf,Tryz.f44,cFst,cSnd,cOps,Option.getD] at ho1
      simp only [List.getElem?_toArray,List.getElem?_cons_succ,List.getElem?_cons_zero,Option.some.injEq,Nat.reduceAdd,Nat.zero_add] at ho1
      subst ho1
      have q0 : a.eval (.tmp 13)=.slice (some ⟨g0,0,none⟩) n cp:=V.new 8 (by omega) (hdep ⟨8,.data⟩ (by simp) rfl)
      have q1 : a.eval (.tmp 15)=.int .i64 (s : Int):=V.new 10 (by omega) (hdep ⟨10,.data⟩ (by simp) rfl)
      have q4 : a.eval (.tmp 9)=.bool true:=V.new 4 (by omega) (hdep ⟨4,.guard⟩ (by simp) rfl)
      have hy:=yielded_of (ops:=tkOps) (a:=a) (j:=4) (show tkOps[4]?=some _ from rfl) rfl (by rw [V.size,hs]; omega) q4
      refine opTo_value ho (by simp [Region.wanted,hy]) (fun c h=>by cases h) (v:=.pointer (some ⟨g0,s * 5,none⟩)) (w':=w) (by generalize a.eval=ρ at q0 q1 ⊢; simp [go_sem,q0,q1,hsn]) ⟨_,rfl,fun _=>rfl,V.world⟩
    · have ho1:=ho
      dsimp only [tkOps,bodyOf,Tryz.f44,cFst,cSnd,cOps,Option.getD] at ho1
      simp only [List.getElem?_toArray,List.getElem?_cons_succ,List.getElem?_cons_zero,Option.some.injEq,Nat.reduceAdd,Nat.zero_add] at ho1
      subst ho1
      have q0 : a.eval (.tmp 16)=.pointer (some ⟨g0,s * 5,none⟩):=V.new 11 (by omega) (hdep ⟨11,.data⟩ (by simp) rfl)
      have q4 : a.eval (.tmp 9)=.bool true:=V.new 4 (by omega) (hdep ⟨4,.guard⟩ (by simp) rfl)
      have hy:=yielded_of (ops:=tkOps) (a:=a) (j:=4) (show tkOps[4]?=some _ from rfl) rfl (by rw [V.size,hs]; omega) q4
      refine opTo_value ho (by simp [Region.wanted,hy]) (fun c h=>by cases h) (v:=.pointer (some ⟨g0,s * 5+4,none⟩)) (w':=w) (by generalize a.eval=ρ at q0 ⊢; simp [go_sem,q0]) ⟨_,rfl,fun _=>rfl,V.world⟩
    · have ho1:=ho
      dsimp only [tkOps,bodyOf,Tryz.f44,cFst,cSnd,cOps,Option.getD] at ho1
      simp only [List.getElem?_toArray,List.getElem?_cons_succ,List.getElem?_cons_zero,Option.some.injEq,Nat.reduceAdd,Nat.zero_add] at ho1
      subst ho1
      have q0 : a.eval (.tmp 17)=.pointer (some ⟨g0,s * 5+4,none⟩):=V.new 12 (by omega) (hdep ⟨12,.data⟩ (by simp) rfl)
      have q4 : a.eval (.tmp 9)=.bool true:=V.new 4 (by omega) (hdep ⟨4,.guard⟩ (by simp) rfl)
      have hy:=yielded_of (ops:=tkOps) (a:=a) (j:=4) (show tkOps[4]?=some _ from rfl) rfl (by rw [V.size,hs]; omega) q4
      refine opTo_value ho (by simp [Region.wanted,hy]) (fun c h=>by cases h) (v:=.string t) (w':=w) (by generalize a.eval=ρ at q0 ⊢; simp [go_sem,q0,dt]) ⟨_,rfl,fun _=>rfl,V.world⟩
    · have ho1:=ho
      dsimp only [tkOps,bodyOf,Tryz.f44,cFst,cSnd,cOps,Option.getD] at ho1
      simp only [List.getElem?_toArray,List.getElem?_cons_succ,List.getElem?_cons_zero,Option.some.injEq,Nat.reduceAdd,Nat.zero_add] at ho1
      subst ho1
      have q0 : a.eval (.tmp 18)=.string t:=V.new 13 (by omega) (hdep ⟨13,.data⟩ (by simp) rfl)
      have q1 : a.eval (.const (.string ⟨#[]⟩))=.string ⟨#[]⟩:=rfl
      have q4 : a.eval (.tmp 9)=.bool true:=V.new 4 (by omega) (hdep ⟨4,.guard⟩ (by simp) rfl)
      have hy:=yielded_of (ops:=tkOps) (a:=a) (j:=4) (show tkOps[4]?=some _ from rfl) rfl (by rw [V.size,hs]; omega) q4
      refine opTo_value ho (by simp [Region.wanted,hy]) (fun c h=>by cases h) (v:=.bool (!(t.toList == []))) (w':=w) (by generalize a.eval=ρ at q0 q1 ⊢; simp [go_sem,q0,q1]) ⟨_,rfl,fun _=>rfl,V.world⟩
    · have ho1:=ho
      dsimp only [tkOps,bodyOf,Tryz.f44,cFst,cSnd,cOps,Option.getD] at ho1
      simp only [List.getElem?_toArray,List.getElem?_cons_succ,List.getElem?_cons_zero,Option.some.injEq,Nat.reduceAdd,Nat.zero_add] at ho1
      subst ho1
      have q0 : a.eval (.tmp 9)=.bool true:=V.new 4 (by omega) (hdep ⟨4,.data⟩ (by simp) rfl)
      have q1 : a.eval (.tmp 19)=.bool (!(t.toList == [])):=V.new 14 (by omega) (hdep ⟨14,.data⟩ (by simp) rfl)
      have q2 : a.eval (.const (.bool false))=.bool false:=rfl
      refine opTo_value ho rfl (fun c h=>by cases h) (v:=.bool (!(t.toList == []))) (w':=w) (by generalize a.eval=ρ at q0 q1 q2 ⊢; simp [go_sem,q0,q1,q2]) ⟨_,rfl,fun _=>rfl,V.world⟩
    · omega
  · obtain ⟨d,-,rfl⟩:=h5
    exact hend a (h1.trans hs) h2 h3 (h4 15 (by omega) (by decide))
set_option maxHeartbeats 1000000 in
set_option maxRecDepth 100000 in
theorem tk_no {id m : Nat} {Q : Exit→Act→World→Prop} {a0 : Act} {W : World} {k0 bo g0 n cp : Nat} {src : Int} (hs : a0.tmps.size=32) (e0 : a0.eval (.tmp 0)=ptr k0) (e3 : a0.eval (.tmp 3)=ptr bo) (c6 : W.cell? ⟨bo,6,none⟩=some (.int .i64 src)) (c8 : W.cell? ⟨k0,8,none⟩=some (.slice (some ⟨g0,0,none⟩) n cp))
    (hA : Calls Tryq.prog 73 #[ptr k0,.int .i64 src] { W with drawn:=W.drawn+1 } fun e w'=>e=.returned (.bool false)∧w'={ W with drawn:=W.drawn+1 })
    (hend : ∀ a,a.tmps.size=32→a.defers=a0.defers→(∀ t,t < 5→a.eval (.tmp t)=a0.eval (.tmp t))→a.eval (.tmp 20)=.bool false→Q .normal a { W with drawn:=W.drawn+1 }) :
    (Code.region id tkOps true).wpIn (wf none) m Tryq.prog Q a0 W:=by
  obtain ⟨W1,hW1⟩ : ∃ W1 : World,W1={ W with drawn:=W.drawn+1 }:=⟨_,rfl⟩
  rw [←hW1] at hA hend
  have hce : ∀ a,W1.cell? a=W.cell? a:=fun a=>by rw [hW1]; rfl
  have d6 : W1.cell? ⟨bo,6,none⟩=some (.int .i64 src):=(hce _).trans c6
  have d8 : W1.cell? ⟨k0,8,none⟩=some (.slice (some ⟨g0,0,none⟩) n cp):=(hce _).trans c8
  refine region_vals2 (ro:=none) (a0:=a0) (w0:=W) mixed 5 16 (fun i=>match i with | 0=>ptr k0 | 1=>.pointer (some ⟨bo,6,none⟩) | 2=>.int .i64 src | 3=>.bool false | 4=>.bool false | 15=>.bool false | _=>undef) (fun _ w=>w=W1) (by omega) (by rfl) (by rfl) (fun listed a w i o hi ho V hdep hcl=>?_) (fun a w h1 h2 h3 h4 h5=>?_) (by rw [hW1])
  · skip
    obtain rfl : w=W1:=V.world
    have hlt : i < 16:=(ready_lt hi).1
    rcases i with - | - | - | - | - | - | - | - | - | - | - | - | - | - | - | - | i
    · have ho1:=ho
      dsimp only [tkOps,bodyOf,Tryz.f44,cFst,cSnd,cOps,Option.getD] at ho1
      simp only [List.getElem?_toArray,List.getElem?_cons_zero,Option.some.injEq] at ho1
      subst ho1
      have q0 : a.eval (.tmp 0)=ptr k0:=(V.old 0 (by omega)).trans e0
      refine opTo_value ho rfl (fun c h=>by cases h) (v:=ptr k0) (w':=w) (by generalize a.eval=ρ at q0 ⊢; simp [go_sem,q0]) ⟨_,rfl,fun _=>rfl,V.world⟩
    · have ho1:=ho
      dsimp only [tkOps,bodyOf,Tryz.f44,cFst,cSnd,cOps,Option.getD] at ho1
      simp only [List.getElem?_toArray,List.getElem?_cons_succ,List.getElem?_cons_zero,Option.some.injEq,Nat.zero_add] at ho1
      subst ho1
      have q0 : a.eval (.tmp 3)=ptr bo:=(V.old 3 (by omega)).trans e3
      refine opTo_value ho rfl (fun c h=>by cases h) (v:=.pointer (some ⟨bo,6,none⟩)) (w':=w) (by generalize a.eval=ρ at q0 ⊢; simp [go_sem,q0,ptr]) ⟨_,rfl,fun _=>rfl,V.world⟩
    · have ho1:=ho
      dsimp only [tkOps,bodyOf,Tryz.f44,cFst,cSnd,cOps,Option.getD] at ho1
      simp only [List.getElem?_toArray,List.getElem?_cons_succ,List.getElem?_cons_zero,Option.some.injEq,Nat.reduceAdd,Nat.zero_add] at ho1
      subst ho1
      have q0 : a.eval (.tmp 6)=.pointer (some ⟨bo,6,none⟩):=V.new 1 (by omega) (hdep ⟨1,.data⟩ (by simp) rfl)
      refine opTo_value ho rfl (fun c h=>by cases h) (v:=.int .i64 src) (w':=w) (by generalize a.eval=ρ at q0 ⊢; simp [go_sem,q0,d6]) ⟨_,rfl,fun _=>rfl,V.world⟩
    · have ho1:=ho
      dsimp only [tkOps,bodyOf,Tryz.f44,cFst,cSnd,cOps,Option.getD] at ho1
      simp only [List.getElem?_toArray,List.getElem?_cons_succ,List.getElem?_cons_zero,Option.some.injEq,Nat.reduceAdd,Nat.zero_add] at ho1
      subst ho1
      have q0 : a.eval (.tmp 5)=ptr k0:=V.new 0 (by omega) (hdep ⟨0,.data⟩ (by simp) rfl)
      have q1 : a.eval (.tmp 7)=.int .i64 src:=V.new 2 (by omega) (hdep ⟨2,.data⟩ (by simp) rfl)
      refine opTo_call (f:=73) (args:=#[ptr k0,.int .i64 src]) (w':=w) ho rfl (fun c h=>by cases h) (by have qf:=hfun a rfl 73; generalize a.eval=ρ at q0 q1 qf ⊢; simp [go_sem,q0,q1,qf]) (hA.mono ?_)
      rintro e X ⟨rfl,rfl⟩
      exact ⟨_,rfl,_,rfl,fun _=>rfl,V.world⟩
    · have ho1:=ho
      dsimp only [tkOps,bodyOf,Tryz.f44,cFst,cSnd,cOps,Option.getD] at ho1
      simp only [List.getElem?_toArray,List.getElem?_cons_succ,List.getElem?_cons_zero,Option.some.injEq,Nat.reduceAdd,Nat.zero_add] at ho1
      subst ho1
      have q0 : a.eval (.tmp 8)=.bool false:=V.new 3 (by omega) (hdep ⟨3,.data⟩ (by simp) rfl)
      refine opTo_value ho rfl (fun c h=>by cases h) (v:=.bool false) (w':=w) (by generalize a.eval=ρ at q0 ⊢; simp [go_sem,q0]) ⟨_,rfl,fun _=>rfl,V.world⟩
    · have ho1:=ho
      dsimp only [tkOps,bodyOf,Tryz.f44,cFst,cSnd,cOps,Option.getD] at ho1
      simp only [List.getElem?_toArray,List.getElem?_cons_succ,List.getElem?_cons_zero,Option.some.injEq,Nat.reduceAdd,Nat.zero_add] at ho1
      subst ho1
      have q4 : a.eval (.tmp 9)=.bool false:=V.new 4 (by omega) (hdep ⟨4,.guard⟩ (by simp) rfl)
      have hy:=yielded_of (ops:=tkOps) (a:=a) (j:=4) (show tkOps[4]?=some _ from rfl) rfl (by rw [V.size,hs]; omega) q4
      exact opTo_skip ho (by simp [Region.wanted,hy]) ⟨_,rfl,fun _=>rfl,V.world⟩
    · have ho1:=ho
      dsimp only [tkOps,bodyOf,Tryz.f44,cFst,cSnd,cOps,Option.getD] at ho1
      simp only [List.getElem?_toArray,List.getElem?_cons_succ,List.getElem?_cons_zero,Option.some.injEq,Nat.reduceAdd,Nat.zero_add] at ho1
      subst ho1
      have q4 : a.eval (.tmp 9)=.bool false:=V.new 4 (by omega) (hdep ⟨4,.guard⟩ (by simp) rfl)
      have hy:=yielded_of (ops:=tkOps) (a:=a) (j:=4) (show tkOps[4]?=some _ from rfl) rfl (by rw [V.size,hs]; omega) q4
      exact opTo_skip ho (by simp [Region.wanted,hy]) ⟨_,rfl,fun _=>rfl,V.world⟩
    · have ho1:=ho
      dsimp only [tkOps,bodyOf,Tryz.f44,cFst,cSnd,cOps,Option.getD] at ho1
      simp only [List.getElem?_toArray,List.getElem?_cons_succ,List.getElem?_cons_zero,Option.some.injEq,Nat.reduceAdd,Nat.zero_add] at ho1
      subst ho1
      have q4 : a.eval (.tmp 9)=.bool false:=V.new 4 (by omega) (hdep ⟨4,.guard⟩ (by simp) rfl)
      have hy:=yielded_of (ops:=tkOps) (a:=a) (j:=4) (show tkOps[4]?=some _ from rfl) rfl (by rw [V.size,hs]; omega) q4
      exact opTo_skip ho (by simp [Region.wanted,hy]) ⟨_,rfl,fun _=>rfl,V.world⟩
    · have ho1:=ho
      dsimp only [tkOps,bodyOf,Tryz.f44,cFst,cSnd,cOps,Option.getD] at ho1
      simp only [List.getElem?_toArray,List.getElem?_cons_succ,List.getElem?_cons_zero,Option.some.injEq,Nat.reduceAdd,Nat.zero_add] at ho1
      subst ho1
      have q4 : a.eval (.tmp 9)=.bool false:=V.new 4 (by omega) (hdep ⟨4,.guard⟩ (by simp) rfl)
      have hy:=yielded_of (ops:=tkOps) (a:=a) (j:=4) (show tkOps[4]?=some _ from rfl) rfl (by rw [V.size,hs]; omega) q4
      exact opTo_skip ho (by simp [Region.wanted,hy]) ⟨_,rfl,fun _=>rfl,V.world⟩
    · have ho1:=ho
      dsimp only [tkOps,bodyOf,Tryz.f44,cFst,cSnd,cOps,Option.getD] at ho1
      simp only [List.getElem?_toArray,List.getElem?_cons_succ,List.getElem?_cons_zero,Option.some.injEq,Nat.reduceAdd,Nat.zero_add] at ho1
      subst ho1
      have q4 : a.eval (.tmp 9)=.bool false:=V.new 4 (by omega) (hdep ⟨4,.guard⟩ (by simp) rfl)
      have hy:=yielded_of (ops:=tkOps) (a:=a) (j:=4) (show tkOps[4]?=some _ from rfl) rfl (by rw [V.size,hs]; omega) q4
      exact opTo_skip ho (by simp [Region.wanted,hy]) ⟨_,rfl,fun _=>rfl,V.world⟩
    · have ho1:=ho
      dsimp only [tkOps,bodyOf,Tryz.f44,cFst,cSnd,cOps,Option.getD] at ho1
      simp only [List.getElem?_toArray,List.getElem?_cons_succ,List.getElem?_cons_zero,Option.some.injEq,Nat.reduceAdd,Nat.zero_add] at ho1
      subst ho1
      have q4 : a.eval (.tmp 9)=.bool false:=V.new 4 (by omega) (hdep ⟨4,.guard⟩ (by simp) rfl)
      have hy:=yielded_of (ops:=tkOps) (a:=a) (j:=4) (show tkOps[4]?=some _ from rfl) rfl (by rw [V.size,hs]; omega) q4
      exact opTo_skip ho (by simp [Region.wanted,hy]) ⟨_,rfl,fun _=>rfl,V.world⟩
    · have ho1:=ho
      dsimp only [tkOps,bodyOf,Tryz.f44,cFst,cSnd,cOps,Option.getD] at ho1
      simp only [List.getElem?_toArray,List.getElem?_cons_succ,List.getElem?_cons_zero,Option.some.injEq,Nat.reduceAdd,Nat.zero_add] at ho1
      subst ho1
      have q4 : a.eval (.tmp 9)=.bool false:=V.new 4 (by omega) (hdep ⟨4,.guard⟩ (by simp) rfl)
      have hy:=yielded_of (ops:=tkOps) (a:=a) (j:=4) (show tkOps[4]?=some _ from rfl) rfl (by rw [V.size,hs]; omega) q4
      exact opTo_skip ho (by simp [Region.wanted,hy]) ⟨_,rfl,fun _=>rfl,V.world⟩
    · have ho1:=ho
      dsimp only [tkOps,bodyOf,Tryz.f44,cFst,cSnd,cOps,Option.getD] at ho1
      simp only [List.getElem?_toArray,List.getElem?_cons_succ,List.getElem?_cons_zero,Option.some.injEq,Nat.reduceAdd,Nat.zero_add] at ho1
      subst ho1
      have q4 : a.eval (.tmp 9)=.bool false:=V.new 4 (by omega) (hdep ⟨4,.guard⟩ (by simp) rfl)
      have hy:=yielded_of (ops:=tkOps) (a:=a) (j:=4) (show tkOps[4]?=some _ from rfl) rfl (by rw [V.size,hs]; omega) q4
      exact opTo_skip ho (by simp [Region.wanted,hy]) ⟨_,rfl,fun _=>rfl,V.world⟩
    · have ho1:=ho
      dsimp only [tkOps,bodyOf,Tryz.f44,cFst,cSnd,cOps,Option.getD] at ho1
      simp only [List.getElem?_toArray,List.getElem?_cons_succ,List.getElem?_cons_zero,Option.some.injEq,Nat.reduceAdd,Nat.zero_add] at ho1
      subst ho1
      have q4 : a.eval (.tmp 9)=.bool false:=V.new 4 (by omega) (hdep ⟨4,.guard⟩ (by simp) rfl)
      have hy:=yielded_of (ops:=tkOps) (a:=a) (j:=4) (show tkOps[4]?=some _ from rfl) rfl (by rw [V.size,hs]; omega) q4
      exact opTo_skip ho (by simp [Region.wanted,hy]) ⟨_,rfl,fun _=>rfl,V.world⟩
    · have ho1:=ho
      dsimp only [tkOps,bodyOf,Tryz.f44,cFst,cSnd,cOps,Option.getD] at ho1
      simp only [List.getElem?_toArray,List.getElem?_cons_succ,List.getElem?_cons_zero,Option.some.injEq,Nat.reduceAdd,Nat.zero_add] at ho1
      subst ho1
      have q4 : a.eval (.tmp 9)=.bool false:=V.new 4 (by omega) (hdep ⟨4,.guard⟩ (by simp) rfl)
      have hy:=yielded_of (ops:=tkOps) (a:=a) (j:=4) (show tkOps[4]?=some _ from rfl) rfl (by rw [V.size,hs]; omega) q4
      exact opTo_skip ho (by simp [Region.wanted,hy]) ⟨_,rfl,fun _=>rfl,V.world⟩
    · have ho1:=ho
      dsimp only [tkOps,bodyOf,Tryz.f44,cFst,cSnd,cOps,Option.getD] at ho1
      simp only [List.getElem?_toArray,List.getElem?_cons_succ,List.getElem?_cons_zero,Option.some.injEq,Nat.reduceAdd,Nat.zero_add] at ho1
      subst ho1
      have q0 : a.eval (.tmp 9)=.bool false:=V.new 4 (by omega) (hdep ⟨4,.data⟩ (by simp) rfl)
      have q2 : a.eval (.const (.bool false))=.bool false:=rfl
      refine opTo_value ho rfl (fun c h=>by cases h) (v:=.bool false) (w':=w) (by generalize a.eval=ρ at q0 q2 ⊢; simp [go_sem,q0,q2]) ⟨_,rfl,fun _=>rfl,V.world⟩
    · omega
  · obtain ⟨d,-,rfl⟩:=h5
    exact hend a (h1.trans hs) h2 h3 (h4 15 (by omega) (by decide))
set_option maxHeartbeats 2000000 in
set_option maxRecDepth 100000 in
theorem token_ok (k0 g0 c : Nat) (toks : List ByteArray) (o : OpD) (w : World) (hn : toks.length≤2199023255552) (c8 : w.cell? ⟨k0,8,none⟩=some (.slice (some ⟨g0,0,none⟩) toks.length c)) (ht : ∀ s (hs : s < toks.length),w.cell? ⟨g0,s * 5+4,none⟩=some (.string toks[s])) :
    Calls Tryq.prog 44 #[.pointer (some ⟨k0,0,none⟩),opVal o] w fun e w'=>e=.returned (.string (tokenR toks o.src o.body))∧Below w.heap.size w w':=by
  obtain ⟨kind,key,body,delim,past,n,src⟩:=o
  have hlt : k0 < w.heap.size:=World.block_lt_of_cell? w _ c8
  obtain ⟨W,hW⟩ : ∃ W,W=w.alloc (.cells #[.int .i64 kind,.string key,.string body,.string delim,.string past,.int .i64 n,.int .i64 src] 31):=⟨_,rfl⟩
  have hbW : Below w.heap.size w W:=by rw [hW]; exact (Below.refl _ _).alloc (Nat.le_refl _) _
  have hbD : Below w.heap.size w { W with drawn:=W.drawn+1 }:=⟨hbW.os,hbW.tape,hbW.output,hbW.size,hbW.block⟩
  have d8:=cellOn hbW c8
  have HA:=ahead_ok k0 (some ⟨g0,0,none⟩) toks.length c src { W with drawn:=W.drawn+1 } hn (cellOn hbD c8)
  have hrow : W.heap[w.heap.size]?=some (.cells #[.int .i64 kind,.string key,.string body,.string delim,.string past,.int .i64 n,.int .i64 src] 31):=by rw [hW]; exact World.alloc_heap_new _ _
  have d6 : W.cell? ⟨w.heap.size,6,none⟩=some (.int .i64 src):=by simp [World.cell?,hrow]
  have HB : Hid (Below w.heap.size w W∧W.cell? ⟨k0,8,none⟩=some (.slice (some ⟨g0,0,none⟩) toks.length c)∧W.cell? ⟨w.heap.size,6,none⟩=some (.int .i64 src)):=⟨hbW,d8,d6⟩
  have HW : Hid (W=w.alloc (.cells #[.int .i64 kind,.string key,.string body,.string delim,.string past,.int .i64 n,.int .i64 src] 31)):=hW
  have hr2 : ({ W with drawn:=W.drawn+1 } : World).cell? ⟨w.heap.size,2,none⟩=some (.string body):=by
    show W.cell? _=_
    simp [World.cell?,hrow]
  have hr6 : ({ W with drawn:=W.drawn+1 } : World).cell? ⟨w.heap.size,6,none⟩=some (.int .i64 src):=d6
  have hr8 : ({ W with drawn:=W.drawn+1 } : World).cell? ⟨k0,8,none⟩=some (.slice (some ⟨g0,0,none⟩) toks.length c):=d8
  obtain ⟨D,hD⟩ : ∃ D : World,D={ W with drawn:=W.drawn+1 }:=⟨_,rfl⟩
  have HDD : Hid (D={ W with drawn:=W.drawn+1 }∧Below w.heap.size w D):=⟨hD,by rw [hD]; exact hbD⟩
  rw [←hD] at hr2 hr6 hr8 HA
  unfold opVal
  simp only
  by_cases ha : 0≤src∧src < toks.length
  · have hd : decide (0≤src∧src < toks.length)=true:=by simp [ha]
    rw [hd] at HA
    obtain ⟨s,rfl⟩ : ∃ s : Nat,src=s:=⟨src.toNat,by omega⟩
    have hs : s < toks.length:=by omega
    have c4:=ht s hs
    have ct:=cellOn hbW c4
    have ctD : D.cell? ⟨g0,s * 5+4,none⟩=some (.string toks[s]):=by rw [hD]; exact ct
    have e0 : toks[(s : Int).toNat]?.getD ⟨#[]⟩=toks[s]:=by simp [hs]
    have hR : tokenR toks s body=if toks[s]=⟨#[]⟩ then body else toks[s]:=by rw [tokenR,if_pos ha,e0]
    rw [hR]
    generalize toks[s]=t at *
    clear hW hbW hbD d8 d6 hrow ht c8 c4 hD
    by_cases htk : t=⟨#[]⟩
    · have hbv : (!(t.toList == []))=false:=by rw [htk]; simp
      rw [if_pos htk]
      go_enter Tryq.func44,Tryz.ntmps44
      go_upto_region 1 with fail
      rename_i K1 hK1 K2 hK2
      rw [←HW.out]
      refine wpIn_wide.1 (show Code.wpIn (wf none) 0 _ _ _ _ _ from tk_yes (id:=1) (m:=0) (t:=t) (s:=s) rfl rfl rfl HB.out.2.2 HB.out.2.1 rfl hs ct (by rw [←HDD.out.1]; exact HA) (fun a h1 h2 h3 h4=>?_))
      rw [←HDD.out.1]
      have h2 : a.defers=[]:=h2
      have ha:=act_lit a 32 h1
      rw [hbv] at h4
      have f0 : a.eval (.tmp 0)=.pointer (some ⟨k0,0,none⟩):=h3 0 (by decide)
      have f3 : a.eval (.tmp 3)=.pointer (some ⟨w.heap.size,0,none⟩):=h3 3 (by decide)
      refine hK2 _ _ ?_
      rw [ha,h2]
      clear ha h1 h2 h3
      generalize a.eval=ρ at f0 f3 h4 ⊢
      simp only [List.range,List.range.loop,List.map_cons,List.map_nil,f0,f3,h4]
      clear f0 f3 h4 hK2 K2 HA ct
      go_wp2_with fail
      go_ret
      exact ⟨rfl,HDD.out.2⟩
    · have hne' : ¬t.toList=[]:=fun hx=>by
        have : (t == (⟨#[]⟩ : ByteArray))=true:=by rw [beq_toListBytes]; simpa using hx
        exact htk ((MapKept.bytes_beq _ _).1 this)
      have hbv : (!(t.toList == []))=true:=by simpa using hne'
      rw [if_neg htk]
      go_enter Tryq.func44,Tryz.ntmps44
      go_upto_region 1 with fail
      rename_i K1 hK1 K2 hK2
      rw [←HW.out]
      refine wpIn_wide.1 (show Code.wpIn (wf none) 0 _ _ _ _ _ from tk_yes (id:=1) (m:=0) (t:=t) (s:=s) rfl rfl rfl HB.out.2.2 HB.out.2.1 rfl hs ct (by rw [←HDD.out.1]; exact HA) (fun a h1 h2 h3 h4=>?_))
      rw [←HDD.out.1]
      have h2 : a.defers=[]:=h2
      have ha:=act_lit a 32 h1
      rw [hbv] at h4
      have f0 : a.eval (.tmp 0)=.pointer (some ⟨k0,0,none⟩):=h3 0 (by decide)
      have f3 : a.eval (.tmp 3)=.pointer (some ⟨w.heap.size,0,none⟩):=h3 3 (by decide)
      refine hK2 _ _ ?_
      rw [ha,h2]
      clear ha h1 h2 h3
      generalize a.eval=ρ at f0 f3 h4 ⊢
      simp only [List.range,List.range.loop,List.map_cons,List.map_nil,f0,f3,h4]
      clear f0 f3 h4 hK2 K2 HA ct
      have h1i : ¬((s : Int) < 0):=by omega
      go_wp2_with fail
      go_region
      all_goals
        go_wp2
        go_ret
        exact ⟨rfl,HDD.out.2.drew⟩
  · have hd : decide (0≤src∧src < toks.length)=false:=by simpa using ha
    rw [hd] at HA
    have hR : tokenR toks src body=body:=by rw [tokenR,if_neg ha]
    rw [hR]
    clear hW hbW hbD d8 d6 hrow ht c8 hD
    go_enter Tryq.func44,Tryz.ntmps44
    go_upto_region 1 with fail
    rename_i K1 hK1 K2 hK2
    rw [←HW.out]
    refine wpIn_wide.1 (show Code.wpIn (wf none) 0 _ _ _ _ _ from tk_no (id:=1) (m:=0) rfl rfl rfl HB.out.2.2 HB.out.2.1 (by rw [←HDD.out.1]; exact HA) (fun a h1 h2 h3 h4=>?_))
    rw [←HDD.out.1]
    have h2 : a.defers=[]:=h2
    have ha:=act_lit a 32 h1
    have f0 : a.eval (.tmp 0)=.pointer (some ⟨k0,0,none⟩):=h3 0 (by decide)
    have f3 : a.eval (.tmp 3)=.pointer (some ⟨w.heap.size,0,none⟩):=h3 3 (by decide)
    refine hK2 _ _ ?_
    rw [ha,h2]
    clear ha h1 h2 h3
    generalize a.eval=ρ at f0 f3 h4 ⊢
    simp only [List.range,List.range.loop,List.map_cons,List.map_nil,f0,f3,h4]
    clear f0 f3 h4 hK2 K2 HA
    go_wp2_with fail
    go_ret
    exact ⟨rfl,HDD.out.2⟩
end Go.Proofs.YtnapepbdohidgaaGreatDoorQ
