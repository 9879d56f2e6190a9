/- Part of a proof. -/
import Derived.Test.YtnapepbdohidgaaGreatDoorQM25
import Derived.Test.YtnapepbdohidgaaGreatDoorQM24
import Derived.Sort.CutIn
namespace Go.Proofs.YtnapepbdohidgaaGreatDoorQ
open Go
open Go.Conc Go.ConcX Go.ConcX.Gen Go.RowKit
def CmnOk (q : Qy) : Prop:=∀ (k : List UInt8) (w : World),k.length≤1000→q.p.data.toList <+: k→Calls Tryq.prog 139 #[qV q.vs q.p q.d q.af,.string ⟨k.toArray⟩] w fun e w'=>e=.returned (.tuple #[.string ⟨((commonOf q k).getD []).toArray⟩,.bool (commonOf q k).isSome])∧Below w.heap.size w w'
def SkyOk (q : Qy) : Prop:=∀ (A : Nat→Prop) (k : List UInt8) (hv : Value) (h : List Ver) (c : Nat) (buf : List Value) (w : World),HistAt A w hv h→h≠[]→h.length≤1000→w.heap[c]?=some (.chan 1000 buf.toArray false buf.length 0 false)→buf.length+(keyItems q.vs k h).length≤1000 →
  Calls Tryq.prog 140 #[qV q.vs q.p q.d q.af,.string ⟨k.toArray⟩,hv,.chan (some c)] w fun e w'=>e=.returned (.tuple #[])∧(∀ b,b < w.heap.size→b≠c→w'.heap[b]?=w.heap[b]?)∧w.heap.size≤w'.heap.size∧w'.os=w.os ∧
    w'.heap[c]?=some (.chan 1000 (buf++(keyItems q.vs k h).map itVal).toArray false (buf.length+(keyItems q.vs k h).length) 0 false)
structure SndI (q : Qy) (w w6 : World) (c : Nat) (pre : KVs) (W : World) : Prop where
  os : W.os=w.os
  size : w6.heap.size≤W.heap.size
  block : ∀ b,b < w6.heap.size→b≠c→b≠w.heap.size+3→W.heap[b]?=w6.heap[b]?
  told : W.heap[w.heap.size+3]?=some (.cells #[.string ⟨(itemsSt q pre).2.toArray⟩] 9)
  ch : W.heap[c]?=some (.chan 1000 ((itemsSt q pre).1.map itVal).toArray false (itemsSt q pre).1.length 0 false)
theorem setChan_at {w : World} {c k s q : Nat} {b : Array Value} {x y : Bool} (h : c < w.heap.size) : (w.setChan c k b x s q y).heap[c]?=some (.chan k b x s q y):=by
  unfold World.setChan
  exact Array.getElem?_setIfInBounds_self_of_lt h
theorem setChan_ne {w : World} {c k s q j : Nat} {b : Array Value} {x y : Bool} (h : j≠c) : (w.setChan c k b x s q y).heap[j]?=w.heap[j]?:=by
  unfold World.setChan
  exact Array.getElem?_setIfInBounds_ne (by omega)
theorem chSize {w : World} {c k s q : Nat} {b : Array Value} {x y : Bool} : (w.setChan c k b x s q y).heap.size=w.heap.size:=by simp [World.setChan]
theorem common_keys (q : Qy) (hd : q.d=⟨#[]⟩) : CmnOk q:=by
  intro k w _ _
  obtain ⟨vs,p,d,af⟩:=q
  simp only at hd
  subst hd
  exact common_none vs p af ⟨k.toArray⟩ w
set_option maxHeartbeats 1000000 in
set_option maxRecDepth 100000 in
theorem sendKey_keys (q : Qy) (hvs : q.vs=false) : SkyOk q:=by
  intro A k hv h c buf w hh hne hl hc hroom
  obtain ⟨vs,p,d,af⟩:=q
  simp only at hvs
  subst hvs
  have hcl : c < w.heap.size:=(Array.getElem?_eq_some_iff.1 hc).1
  simp only [keyItems,Bool.false_eq_true,if_false,List.length_singleton,List.map_cons,List.map_nil] at hroom ⊢
  rw [lastV_eq hne]
  obtain ⟨W,hW⟩ : ∃ W,W=((w.alloc (.cells #[.bool false,.string p,.string d,.string af] 93)).alloc (.cells #[.string ⟨k.toArray⟩] 9)).alloc (.cells #[.chan (some c)] 210):=⟨_,rfl⟩
  have hb : Below w.heap.size w W:=by rw [hW]; exact (((Below.refl _ _).alloc (Nat.le_refl _) _).alloc (by simp) _).alloc (by simp; omega) _
  have HX : Hid (Below w.heap.size w W∧W.cell? ⟨w.heap.size+1,0,none⟩=some (.string ⟨k.toArray⟩)∧W.cell? ⟨w.heap.size+2,0,none⟩=some (.chan (some c))∧HistAt A W hv h∧W.heap[c]?=some (.chan 1000 buf.toArray false buf.length 0 false)):=by
    refine ⟨hb,?_,?_,hh.on hb,(hb.block c hcl).trans hc⟩
    · rw [hW]
      refine cellOn ((Below.refl _ _).alloc (Nat.le_refl _) _) ?_
      have:=World.cell?_alloc_at (w:=w.alloc (.cells #[.bool false,.string p,.string d,.string af] 93)) #[.string ⟨k.toArray⟩] 9 (w.heap.size+1) 0 (by simp)
      rw [this]; rfl
    · rw [hW]
      have:=World.cell?_alloc_at (w:=(w.alloc (.cells #[.bool false,.string p,.string d,.string af] 93)).alloc (.cells #[.string ⟨k.toArray⟩] 9)) #[.chan (some c)] 210 (w.heap.size+2) 0 (by simp)
      rw [this]; rfl
  have HW : Hid (W=((w.alloc (.cells #[.bool false,.string p,.string d,.string af] 93)).alloc (.cells #[.string ⟨k.toArray⟩] 9)).alloc (.cells #[.chan (some c)] 210)):=hW
  clear hW hb hc hh
  unfold qV
  go_enter Tryq.func140,Tryz.ntmps140
  go_upto_region 2 with fail
  rename_i K1 hK1 K2 hK2
  rw [←HW.out]
  obtain ⟨hb,c5,c7,hh,hc⟩:=HX.out
  refine wpIn_wide.1 (show Code.wpIn (wf none) 0 _ _ _ _ _ from sk_region A (id:=2) (n:=0) (b5:=w.heap.size+1) (b7:=w.heap.size+2) rfl rfl rfl rfl c5 c7 hh hne (by omega) hc (by omega) (fun a w1 h1 h2 hb1=>?_))
  refine hK2 _ _ (wp_ret ⟨h2,.tuple #[],by simp [results,Tryz.results140,go_sem],rfl,fun b hb2 hbc=>?_,?_,?_,?_⟩)
  · rw [setChan_ne hbc,hb1.block b (by have:=hb.size; omega)]
    exact hb.block b hb2
  · rw [chSize]
    exact Nat.le_trans hb.size hb1.size
  · exact hb1.os.trans hb.os
  · exact setChan_at (by have:=hb.size; have:=hb1.size; omega)
def cBody : Code→Code
  | .rangeFunc _ _ _ b=>b
  | c=>c
noncomputable def sndBody : Code:=cBody (cIn (cSnd (cSnd (cSnd (bodyOf Tryz.f120)))))
def sndW (w : World) (q : Qy) (root : Option Addr) (c : Nat) : World:=
  (((((w.alloc (.cells #[.bool q.vs,.string q.p,.string q.d,.string q.af] 93)).alloc (.cells #[.pointer root] 56)).alloc (.cells #[.chan (some c)] 210)).alloc (.cells #[.string ⟨#[]⟩] 9)).alloc (.cells #[.pointer root] 56)).alloc (.cells #[.string q.p] 9)
theorem sndW_size (w : World) (q : Qy) (root : Option Addr) (c : Nat) : (sndW w q root c).heap.size=w.heap.size+6:=by simp only [sndW,World.alloc,Array.size_push]
theorem sndW_old (w : World) (q : Qy) (root : Option Addr) (c : Nat) {b : Nat} (h : b < w.heap.size) : (sndW w q root c).heap[b]?=w.heap[b]?:=by
  simp only [sndW,World.alloc,Array.getElem?_push,Array.size_push]
  repeat rw [if_neg (by omega)]
theorem sndW_row (w : World) (q : Qy) (root : Option Addr) (c : Nat) (i : Nat) (h : i < 6) : (sndW w q root c).heap[w.heap.size+i]?=(#[.cells #[.bool q.vs,.string q.p,.string q.d,.string q.af] 93,.cells #[.pointer root] 56,.cells #[.chan (some c)] 210,.cells #[.string ⟨#[]⟩] 9,.cells #[.pointer root] 56,.cells #[.string q.p] 9] : Array Obj)[i]?:=by
  simp only [sndW,World.alloc,Array.getElem?_push,Array.size_push]
  rcases i with - | - | - | - | - | - | i
  all_goals first | omega | skip
  all_goals
    repeat rw [if_neg (by omega)]
    simp
def sndTmps (w : World) (q : Qy) (root : Option Addr) (c : Nat) (x7 x8 x15 x16 : Value) : Array Value:=
  #[.agg #[.bool q.vs,.string q.p,.string q.d,.string q.af],.agg #[.pointer root],.chan (some c),.pointer (some ⟨w.heap.size,0,none⟩),.pointer (some ⟨w.heap.size+1,0,none⟩),.pointer (some ⟨w.heap.size+2,0,none⟩),.pointer (some ⟨w.heap.size+3,0,none⟩),x7,x8,undef,undef,
    .agg #[.pointer root],.pointer (some ⟨w.heap.size,1,none⟩),.string q.p,.func (.func 122) #[] #[ptr (w.heap.size+4),ptr (w.heap.size+5)],x15,x16,undef,undef,undef,undef,undef,undef,undef,undef,undef,undef,undef,undef,undef,undef,undef,undef,undef,undef,undef,undef,undef,undef,undef,undef,undef,undef,undef]
theorem SndI.below {q : Qy} {w w6 : World} {c : Nat} {pre : KVs} {W W' : World} (I : SndI q w w6 c pre W) (hc : c < w6.heap.size) (ht : w.heap.size+3 < w6.heap.size) (hb : Below W.heap.size W W') : SndI q w w6 c pre W':=
  ⟨hb.os.trans I.os,Nat.le_trans I.size hb.size,fun b h1 h2 h3=>(hb.block b (Nat.lt_of_lt_of_le h1 I.size)).trans (I.block b h1 h2 h3),(hb.block _ (Nat.lt_of_lt_of_le ht I.size)).trans I.told,(hb.block _ (Nat.lt_of_lt_of_le hc I.size)).trans I.ch⟩
theorem SndI.items {q : Qy} {w w6 : World} {c : Nat} {pre pre' : KVs} {W : World} (I : SndI q w w6 c pre W) (h : itemsSt q pre'=itemsSt q pre) : SndI q w w6 c pre' W:=
  ⟨I.os,I.size,I.block,by rw [h]; exact I.told,by rw [h]; exact I.ch⟩
theorem wf_round (l : Nat) : (wf (some l)).round=some l:=rfl
section
attribute [local go_sem] Oper.semAt_some wf_round
set_option maxHeartbeats 4000000 in
set_option maxRecDepth 100000 in
theorem snd_body (q : Qy) (hCm : CmnOk q) (hSk : SkyOk q) (root : Option Addr) (c : Nat) (w : World) (hcw : c < w.heap.size) (A : Nat→Prop) (hA : ∀ b,A b→b < w.heap.size∧b≠c) (l : Nat) (pre : KVs) (k : List UInt8) (h : List Ver) (hv : Value) (W : World) (hk : k.length≤1000) (hkp : q.p.data.toList <+: k) (hh : HistAt A (sndW w q root c) hv h) (hne : h≠[]) (hl : h.length≤1000) (hfit : (itemsSt q (pre++[(k,h)])).1.length≤1000) (I : SndI q w (sndW w q root c) c pre W) :
    sndBody.wpIn (wf (some l)) 0 Tryq.prog (fun e _ W'=>e=.normal∧KeepB c (w.heap.size+3) W W'∧SndI q w (sndW w q root c) c (pre++[(k,h)]) W') ⟨sndTmps w q root c (.string ⟨k.toArray⟩) hv (.string ⟨k.toArray⟩) hv,[]⟩ W:=by
  obtain ⟨Q,hQ⟩ : ∃ Q : Exit→Act→World→Prop,Q=fun e _ W'=>e=.normal∧KeepB c (w.heap.size+3) W W'∧SndI q w (sndW w q root c) c (pre++[(k,h)]) W':=⟨_,rfl⟩
  rw [←hQ]
  have HQ : Hid (Q=fun e _ W'=>e=.normal∧KeepB c (w.heap.size+3) W W'∧SndI q w (sndW w q root c) c (pre++[(k,h)]) W'):=hQ
  clear hQ
  have hrow : ∀ i o,i < 6→i≠3→(sndW w q root c).heap[w.heap.size+i]?=some o→W.heap[w.heap.size+i]?=some o:=fun i o h1 h2 h3=>(I.block _ (by rw [sndW_size]; omega) (by omega) (by omega)).trans h3
  have r0:=hrow 0 _ (by omega) (by omega) (sndW_row w q root c 0 (by omega))
  have r2:=hrow 2 _ (by omega) (by omega) (sndW_row w q root c 2 (by omega))
  simp only [Nat.add_zero] at r0
  have c0 : W.cell? ⟨w.heap.size,0,none⟩=some (.bool q.vs):=by simp [World.cell?,r0]
  have c1 : W.cell? ⟨w.heap.size,1,none⟩=some (.string q.p):=by simp [World.cell?,r0]
  have c2 : W.cell? ⟨w.heap.size,2,none⟩=some (.string q.d):=by simp [World.cell?,r0]
  have c3 : W.cell? ⟨w.heap.size,3,none⟩=some (.string q.af):=by simp [World.cell?,r0]
  have d2 : W.cell? ⟨w.heap.size+2,0,none⟩=some (.chan (some c)):=by simp [World.cell?,r2]
  have d3 : W.cell? ⟨w.heap.size+3,0,none⟩=some (.string ⟨(itemsSt q pre).2.toArray⟩):=by simp [World.cell?,I.told]
  have f3 : W.frozen? ⟨w.heap.size+3,0,none⟩=false:=by simp [World.frozen?,I.told]
  have hszW : w.heap.size+6≤W.heap.size:=by have:=I.size; rwa [sndW_size] at this
  have HhW : Hid (HistAt A W hv h):=RowAt.keep hh (fun b hb hlt=>⟨hb,I.block b hlt (hA b hb).2 (by have:=(hA b hb).1; omega)⟩)
  have HI : Hid (SndI q w (sndW w q root c) c pre W):=I
  have HWT:=wants_ok A q k hv h W HhW.out hne (by omega)
  have HCm : Hid (CmnOk q):=hCm
  have HSk : Hid (SkyOk q):=hSk
  have HHF : Hid (∀ b,A b→b < w.heap.size∧b≠c):=hA
  have HFT : Hid ((itemsSt q (pre++[(k,h)])).1.length≤1000∧q.p.data.toList <+: k):=⟨hfit,hkp⟩
  have HST : Hid (itemsSt q (pre++[(k,h)])=itemStep q (itemsSt q pre) (k,h)):=itemsSt_snoc q pre (k,h)
  clear hrow r0 r2 I hCm hSk hA hfit hkp hh
  generalize hwt : wantB q k h=wt at HWT
  have HWB : Hid (wantB q k h=wt):=hwt
  clear hwt
  generalize hcm : commonOf q k=cm
  have HCB : Hid (commonOf q k=cm):=hcm
  clear hcm
  unfold sndTmps
  dsimp only [sndBody,cBody,bodyOf,Tryz.f120,cIn,cFst,cSnd,cOps,Option.getD]
  unfold qV at HWT
  have hc6 : c < (sndW w q root c).heap.size:=by rw [sndW_size]; omega
  have ht6 : w.heap.size+3 < (sndW w q root c).heap.size:=by rw [sndW_size]; omega
  have HCC : Hid (∀ X,Calls Tryq.prog 139 #[.agg #[.bool q.vs,.string q.p,.string q.d,.string q.af],.string ⟨k.toArray⟩] X fun e w'=>e=.returned (.tuple #[.string ⟨(cm.getD []).toArray⟩,.bool cm.isSome])∧Below X.heap.size X w'):=fun X=>by
    rw [←HCB.out]
    exact HCm.out k X hk HFT.out.2
  cases wt
  · gi_wp2_with (refine ⟨trivial,rfl,?_⟩; gi_at_call 138; refine (CallsIn.inRound l (callsIn_wide.2 HWT)).mono ?_; clear HWT; rintro e w1 ⟨rfl,hb1⟩)
    rw [HQ.out]
    exact ⟨rfl,KeepB.below hb1,(HI.out.below hc6 ht6 hb1).items (by rw [HST.out,itemStep,HWB.out]; rfl)⟩
  · have HW1 : Hid (∀ w1 w2 : World,Below W.heap.size W w1→Below w1.heap.size w1 w2→Below W.heap.size W w2):=fun w1 w2 h1 h2=>h1.trans (h2.mono h1.size)
    cases cm with
    | none=>
      have e1 : itemsSt q (pre++[(k,h)])=((itemsSt q pre).1++keyItems q.vs k h,(itemsSt q pre).2):=by
        rw [HST.out,itemStep,HWB.out]
        simp only [HCB.out,if_true]
      have HE1 : Hid (itemsSt q (pre++[(k,h)])=((itemsSt q pre).1++keyItems q.vs k h,(itemsSt q pre).2)):=e1
      have HSS : Hid (∀ X,Below W.heap.size W X→Calls Tryq.prog 140 #[.agg #[.bool q.vs,.string q.p,.string q.d,.string q.af],.string ⟨k.toArray⟩,hv,.chan (some c)] X fun e w'=>e=.returned (.tuple #[])∧KeepB c (w.heap.size+3) W w'∧SndI q w (sndW w q root c) c (pre++[(k,h)]) w'):=fun X hX=>by
        have IX:=HI.out.below hc6 ht6 hX
        have hlen:=HFT.out.1
        rw [HE1.out,List.length_append] at hlen
        have hcX:=IX.ch
        rw [show ((itemsSt q pre).1.length : Nat)=((itemsSt q pre).1.map itVal).length by simp] at hcX
        refine (HSk.out A k hv h c ((itemsSt q pre).1.map itVal) X (RowAt.on HhW.out hX) hne hl hcX (by simpa using hlen)).mono ?_
        rintro e w' ⟨rfl,h1,h2,h3,h4⟩
        refine ⟨rfl,⟨Nat.le_trans hX.size h2,h3.trans hX.os,fun b hb hbc _=>(h1 b (by have:=hX.size; omega) hbc).trans (hX.block b hb)⟩,h3.trans IX.os,Nat.le_trans IX.size h2,fun b hb hbc hbt=>(h1 b (by have:=IX.size; omega) hbc).trans (IX.block b hb hbc hbt),?_,?_⟩
        · rw [HE1.out]
          exact (h1 _ (by have:=IX.size; omega) (by omega)).trans IX.told
        · rw [HE1.out,h4]
          simp
      clear e1
      gi_wp2_with (first
        | (refine ⟨trivial,rfl,?_⟩; gi_at_call 138; refine (CallsIn.inRound l (callsIn_wide.2 HWT)).mono ?_; clear HWT; rintro e w1 ⟨rfl,hb1⟩; replace c0:=cellOn hb1 c0; replace c1:=cellOn hb1 c1; replace c2:=cellOn hb1 c2; replace c3:=cellOn hb1 c3; replace d2:=cellOn hb1 d2)
        | (refine ⟨trivial,rfl,?_⟩; gi_at_call 139; refine (CallsIn.inRound l (callsIn_wide.2 (HCC.out _))).mono ?_; clear HCC; rintro e w2 ⟨rfl,hb2⟩; replace c0:=cellOn hb2 c0; replace c1:=cellOn hb2 c1; replace c2:=cellOn hb2 c2; replace c3:=cellOn hb2 c3; replace d2:=cellOn hb2 d2)
        | (refine ⟨trivial,rfl,?_⟩; gi_at_call 140; refine (CallsIn.inRound l (callsIn_wide.2 (HSS.out _ (HW1.out _ _ hb1 hb2)))).mono ?_; clear HSS; rintro e w3 ⟨rfl,hk3,hI3⟩))
      rw [HQ.out]
      exact ⟨rfl,hk3,hI3⟩
    | some cc=>
      by_cases hct : cc=(itemsSt q pre).2
      · have HE1 : Hid (itemsSt q (pre++[(k,h)])=itemsSt q pre):=by
          show itemsSt q (pre++[(k,h)])=itemsSt q pre
          rw [HST.out,itemStep,HWB.out]
          simp only [HCB.out,if_true,hct]
        rw [←hct] at d3
        gi_wp2_with (first
          | (refine ⟨trivial,rfl,?_⟩; gi_at_call 138; refine (CallsIn.inRound l (callsIn_wide.2 HWT)).mono ?_; clear HWT; rintro e w1 ⟨rfl,hb1⟩; replace c0:=cellOn hb1 c0; replace c1:=cellOn hb1 c1; replace c2:=cellOn hb1 c2; replace c3:=cellOn hb1 c3; replace d3:=cellOn hb1 d3)
          | (refine ⟨trivial,rfl,?_⟩; gi_at_call 139; refine (CallsIn.inRound l (callsIn_wide.2 (HCC.out _))).mono ?_; clear HCC; rintro e w2 ⟨rfl,hb2⟩; replace d3:=cellOn hb2 d3))
        rw [HQ.out]
        exact ⟨rfl,KeepB.below (HW1.out _ _ hb1 hb2),(HI.out.below hc6 ht6 (HW1.out _ _ hb1 hb2)).items HE1.out⟩
      · have e1 : itemsSt q (pre++[(k,h)])=((itemsSt q pre).1++[⟨2,⟨cc.toArray⟩,0⟩],cc):=by
          rw [HST.out,itemStep,HWB.out]
          simp only [HCB.out,if_true,hct,if_false]
        have HE1 : Hid (itemsSt q (pre++[(k,h)])=((itemsSt q pre).1++[⟨2,⟨cc.toArray⟩,0⟩],cc)):=e1
        clear e1
        gi_upto_region 10 with (first
          | (refine ⟨trivial,rfl,?_⟩; gi_at_call 138; refine (CallsIn.inRound l (callsIn_wide.2 HWT)).mono ?_; clear HWT; rintro e w1 ⟨rfl,hb1⟩; replace c0:=cellOn hb1 c0; replace c1:=cellOn hb1 c1; replace c2:=cellOn hb1 c2; replace c3:=cellOn hb1 c3; replace d2:=cellOn hb1 d2; replace d3:=cellOn hb1 d3; replace f3:=(hb1.frozen (p:=⟨w.heap.size+3,0,none⟩) (by show w.heap.size+3 < W.heap.size; omega)).trans f3)
          | (refine ⟨trivial,rfl,?_⟩; gi_at_call 139; refine (CallsIn.inRound l (callsIn_wide.2 (HCC.out _))).mono ?_; clear HCC; rintro e w2 ⟨rfl,hb2⟩; replace d2:=cellOn hb2 d2; replace d3:=cellOn hb2 d3; replace f3:=(hb2.frozen (p:=⟨w.heap.size+3,0,none⟩) (by show w.heap.size+3 < w1.heap.size; have:=hb1.size; omega)).trans f3))
        case refine_2=>rename_i hx; exact absurd (by simpa using hx) hct
        rename_i K1 hK1
        have I2:=HI.out.below hc6 ht6 (HW1.out _ _ hb1 hb2)
        have hc2:=I2.ch
        have hlen:=HFT.out.1
        rw [HE1.out,List.length_append,List.length_singleton] at hlen
        have hbk : ∀ j,j≠c→(w2.setChan c 1000 (((itemsSt q pre).1.map itVal).toArray.push (.agg #[.int .i64 2,.string ⟨cc.toArray⟩,.int .i64 0])) false ((itemsSt q pre).1.length+1) 0 false).heap[j]?=w2.heap[j]?:=fun j hj=>setChan_ne hj
        have hsz2 : w.heap.size+6≤w2.heap.size:=by have:=hb1.size; have:=hb2.size; omega
        have hck : (w2.setChan c 1000 (((itemsSt q pre).1.map itVal).toArray.push (.agg #[.int .i64 2,.string ⟨cc.toArray⟩,.int .i64 0])) false ((itemsSt q pre).1.length+1) 0 false).heap[c]?=some (.chan 1000 (((itemsSt q pre).1.map itVal).toArray.push (.agg #[.int .i64 2,.string ⟨cc.toArray⟩,.int .i64 0])) false ((itemsSt q pre).1.length+1) 0 false):=setChan_at (by omega)
        refine region_to ?_
        show OpsTo _ _ _ _ [0,1,2,3] _ _
        refine opTo_value (v:=.chan (some c)) (w':=w2) rfl rfl (fun c h=>by cases h) (by simp [go_sem,d2]) ?_
        refine opTo_value (v:=.string ⟨cc.toArray⟩) (w':=w2) rfl rfl (fun c h=>by cases h) (by simp [go_sem]) ?_
        refine opTo_value (v:=.agg #[.int .i64 2,.string ⟨cc.toArray⟩,.int .i64 0]) (w':=w2) rfl rfl (fun c h=>by cases h) (by simp [go_sem]) ?_
        refine opTo_send (c:=c) rfl rfl rfl rfl hc2 (by simp; omega) ?_
        refine hK1 _ _ ?_
        show Code.wpIn (wf (some l)) 0 Tryq.prog _ _ _ (w2.setChan c 1000 (((itemsSt q pre).1.map itVal).toArray.push (.agg #[.int .i64 2,.string ⟨cc.toArray⟩,.int .i64 0])) false ((itemsSt q pre).1.length+1) 0 false)
        obtain ⟨w3,hw3⟩ : ∃ w3,w2.setChan c 1000 (((itemsSt q pre).1.map itVal).toArray.push (.agg #[.int .i64 2,.string ⟨cc.toArray⟩,.int .i64 0])) false ((itemsSt q pre).1.length+1) 0 false=w3:=⟨_,rfl⟩
        have hs3 : w3.heap.size=w2.heap.size:=by rw [←hw3]; exact chSize
        have ho3 : w3.os=w2.os:=by rw [←hw3]; rfl
        rw [hw3] at hbk hck ⊢
        have d3' : w3.cell? ⟨w.heap.size+3,0,none⟩=some (.string ⟨(itemsSt q pre).2.toArray⟩):=(World.cell?_of_block (a:=⟨w.heap.size+3,0,none⟩) (hbk _ (show w.heap.size+3≠c by omega))).trans d3
        have f3' : w3.frozen? ⟨w.heap.size+3,0,none⟩=false:=(World.frozen?_of_block (a:=⟨w.heap.size+3,0,none⟩) (hbk _ (show w.heap.size+3≠c by omega))).trans f3
        have HBK : Hid ((∀ j,j≠c→w3.heap[j]?=w2.heap[j]?)∧w3.heap[c]?=some (.chan 1000 (((itemsSt q pre).1.map itVal).toArray.push (.agg #[.int .i64 2,.string ⟨cc.toArray⟩,.int .i64 0])) false ((itemsSt q pre).1.length+1) 0 false)∧SndI q w (sndW w q root c) c pre w2∧w3.heap.size=w2.heap.size∧w3.os=w2.os):=⟨hbk,hck,I2,hs3,ho3⟩
        clear hbk hck I2 hw3 hc2 hs3 ho3 hK1 K1
        gi_wp2
        rw [HQ.out]
        obtain ⟨hbk,hck,I2,hs3,ho3⟩:=HBK.out
        have hot : ∀ j,j≠w.heap.size+3→(w3.setCell ⟨w.heap.size+3,0,none⟩ (.string ⟨cc.toArray⟩)).heap[j]?=w3.heap[j]?:=fun j hj=>Below.heap_setCell _ _ _ _ hj
        have hsz4 : (w3.setCell ⟨w.heap.size+3,0,none⟩ (.string ⟨cc.toArray⟩)).heap.size=w2.heap.size:=by simp [hs3]
        have hos4 : (w3.setCell ⟨w.heap.size+3,0,none⟩ (.string ⟨cc.toArray⟩)).os=w2.os:=((Below.refl 0 w3).setCell (p:=⟨w.heap.size+3,0,none⟩) (Nat.zero_le _) _).os.trans ho3
        have hb12:=HW1.out _ _ hb1 hb2
        refine ⟨rfl,⟨by rw [hsz4]; exact hb12.size,hos4.trans hb12.os,fun b hb hbc hbt=>?_⟩,hos4.trans I2.os,by rw [hsz4]; exact I2.size,fun b hb hbc hbt=>?_,?_,?_⟩
        · rw [hot b hbt,hbk b hbc]
          exact hb12.block b hb
        · rw [hot b hbt,hbk b hbc]
          exact I2.block b hb hbc hbt
        · rw [HE1.out]
          have h3:=(hbk _ (show w.heap.size+3≠c by omega)).trans I2.told
          obtain ⟨h1,h2⟩:=Array.getElem?_eq_some_iff.1 h3
          show (w3.heap.modify (w.heap.size+3) _)[w.heap.size+3]?=_
          rw [Array.getElem?_eq_getElem (by rw [Array.size_modify]; exact h1),Array.getElem_modify_self,h2]
          rfl
        · rw [hot c (by omega),hck,HE1.out]
          simp [itVal]
end
theorem walkL_key (n : Nat) : ∀ (f : List UInt8→List Ver) (bs : List UInt8),∀ x∈walkL n f bs,bs <+: x.1∧x.1.length < bs.length+n:=by
  induction n with
  | zero=>intro f bs x hx; simp [walkL] at hx
  | succ n ih=>
    intro f bs x hx
    simp only [walkL,List.mem_append,List.mem_flatMap] at hx
    rcases hx with hx | ⟨b,-,hx⟩
    · split at hx
      · simp at hx
      · simp at hx; subst hx; exact ⟨List.prefix_refl _,by simp⟩
    · obtain ⟨h1,h2⟩:=ih _ _ x hx
      exact ⟨(List.prefix_append _ _).trans h1,by simp at h2; omega⟩
theorem fromL_key {f : List UInt8→List Ver} {p : List UInt8} {x : List UInt8×List Ver} (h : x∈fromL f p) : p <+: x.1∧x.1.length≤40:=by
  obtain ⟨h1,h2⟩:=walkL_key _ _ _ x h
  have h3:=h1.length_le
  exact ⟨h1,by omega⟩
theorem sumV_mem {l : KVs} {x : List UInt8×List Ver} (h : x∈l) : x.2.length≤sumV l:=by
  induction l with
  | nil=>simp at h
  | cons a r ih=>
    rcases List.mem_cons.1 h with rfl | h
    · simp [sumV]
    · have:=ih h
      simp [sumV] at this ⊢
      omega
theorem SndI.stable {q : Qy} {w w6 : World} {c : Nat} {pre : KVs} {X Y : World} (I : SndI q w w6 c pre X) (hc : c < w6.heap.size) (ht : w.heap.size+3 < w6.heap.size) (h : ∀ b,b < w6.heap.size→Y.heap[b]?=X.heap[b]?) (hs : X.heap.size≤Y.heap.size) (ho : Y.os=X.os) : SndI q w w6 c pre Y:=
  ⟨ho.trans I.os,Nat.le_trans I.size hs,fun b h1 h2 h3=>(h b h1).trans (I.block b h1 h2 h3),(h _ ht).trans I.told,(h _ hc).trans I.ch⟩
section
attribute [local go_sem] Oper.semAt_some wf_round
set_option maxHeartbeats 2000000 in
set_option maxRecDepth 100000 in
theorem send_ok (q : Qy) (hCm : CmnOk q) (hSk : SkyOk q) (root : Option Addr) (f : List UInt8→List Ver) (c : Nat) (w : World) (hT : TreeAt w root f) (hsum : sumV (fromL f q.p.data.toList)≤1000) (hp : q.p.size≤maxLen) (hc : w.heap[c]?=some (.chan 1000 #[] false 0 0 false)) :
    Calls Tryq.prog 120 #[qV q.vs q.p q.d q.af,sV root,.chan (some c)] w fun e w'=>e=.returned (.tuple #[])∧((∀ b,b < w.heap.size→b≠c→w'.heap[b]?=w.heap[b]?)∧w.heap.size≤w'.heap.size∧w'.os=w.os) ∧
      w'.heap[c]?=some (.chan 1000 ((itemsOf q (fromL f q.p.data.toList)).map itVal).toArray false (itemsOf q (fromL f q.p.data.toList)).length 0 false):=by
  have hcw : c < w.heap.size:=(Array.getElem?_eq_some_iff.1 hc).1
  obtain ⟨total,htot⟩ : ∃ total,fromL f q.p.data.toList=total:=⟨_,rfl⟩
  have hsome : ∀ x∈total,x.2≠[]:=by rw [←htot]; exact walkL_some _ _ _
  have hkey : ∀ x∈total,q.p.data.toList <+: x.1∧x.1.length≤40:=by rw [←htot]; exact fun x hx=>fromL_key hx
  obtain ⟨A,hAd⟩ : ∃ A : Nat→Prop,A=CellB w:=⟨_,rfl⟩
  have hA : ∀ b,A b→b < w.heap.size∧b≠c:=fun b hb=>by
    rw [hAd] at hb
    refine ⟨hb.lt,fun e=>?_⟩
    subst e
    obtain ⟨o,h1,h2⟩:=hb
    rw [hc] at h1
    cases h1
    cases h2
  have hN6 : NodeAt A 41 (sndW w q root c) root f:=NodeAt.keep (fun b hb hlt=>⟨by rw [hAd]; exact hb,sndW_old w q root c hlt⟩) 41 root f hT
  rw [htot] at hsum ⊢
  have hc6 : c < (sndW w q root c).heap.size:=by rw [sndW_size]; omega
  have ht6 : w.heap.size+3 < (sndW w q root c).heap.size:=by rw [sndW_size]; omega
  have hI0 : SndI q w (sndW w q root c) c [] (sndW w q root c):=⟨rfl,Nat.le_refl _,fun _ _ _ _=>rfl,sndW_row w q root c 3 (by omega),(sndW_old w q root c hcw).trans hc⟩
  refine (callsIn_wide (n:=0)).1 (callsIn_of_wp_marks (F:=Fence.wide) Tryq.func120 rfl trivial ?_)
  refine (wpIn_wide (n:=0)).2 ?_
  generalize hQ : bodyPostM Fence.wide 0 Tryq.prog Tryz.f120 _=Q
  simp only [Tryz.ntmps120,List.size_toArray,List.length_cons,List.length_nil,Nat.reduceAdd,Nat.reduceSub,Array.replicate_succ,Array.replicate_zero,List.push_toArray,List.append_toArray,List.nil_append,List.cons_append]
  have HQ : Hid (bodyPostM Fence.wide 0 Tryq.prog Tryz.f120 _=Q):=hQ
  have HX : Hid (CmnOk q∧SkyOk q∧NodeAt A 41 (sndW w q root c) root f∧(∀ b,A b→b < w.heap.size∧b≠c)∧SndI q w (sndW w q root c) c [] (sndW w q root c)∧(∀ x∈total,x.2≠[])∧(∀ x∈total,q.p.data.toList <+: x.1∧x.1.length≤40)∧A=CellB w):=⟨hCm,hSk,hN6,hA,hI0,hsome,hkey,hAd⟩
  clear hQ hCm hSk hN6 hA hI0 hsome hkey hT hc hAd
  unfold qV sV
  go_wp2_with (go_at_call 101; refine (from_ok root q.p _).mono ?_; rintro e w6 ⟨rfl,rfl⟩)
  refine wpIn_wide.1 (show Code.wpIn (wf none) 0 Tryq.prog _ (Exit.inBlock 0 Q) ⟨sndTmps w q root c undef undef undef undef,[]⟩ (sndW w q root c) from ?_)
  obtain ⟨hCm,hSk,hN6,hA,hI0,hsome,hkey,hAd⟩:=HX.out
  have hmem : ∀ (pre : KVs) x,pre++[x] <+: total→x∈total:=fun pre x h=>h.subset (by simp)
  refine range_law (α:=List UInt8×List Ver) (β:=List UInt8×List Ver×Value) (encs:=fun x=>#[.string ⟨x.1.toArray⟩,x.2.2]) (gf:=122) (lb:=#[ptr (w.heap.size+4),ptr (w.heap.size+5)]) (fun x=>(x.1,x.2.1)) rfl (fun args wx=>by go_simp) (fun _=>rfl) c (w.heap.size+3) hc6 ht6
    (SndI q w (sndW w q root c) c) (fun pre x=>pre++[(x.1,x.2.1)] <+: total∧HistAt A (sndW w q root c) x.2.2 x.2.1∧x.2.1≠[]) total (fun pre X Y I h1 h2 h3=>I.stable hc6 ht6 h1 h2 h3) (fun pre X I=>⟨_,I.ch,rfl⟩) hI0
    (fun x=>⟨sndTmps w q root c (.string ⟨x.1.toArray⟩) x.2.2 (.string ⟨x.1.toArray⟩) x.2.2,[]⟩) ?call ?assign ?body ?done
  case call=>
    intro l J W hW1 hW2 hst hsz hy hJ0
    have C : WkCtx A (sndW w q root c) ((sndW w q root c).heap.size+2) (w.heap.size+3) l total J:=⟨fun b hb=>by
        obtain ⟨h1,h2⟩:=hA b hb
        rw [hAd] at hb
        obtain ⟨o,h3,h4⟩:=hb
        exact ⟨by rw [sndW_size]; omega,by omega,o,(sndW_old w q root c h1).trans h3,h4⟩,by omega,hst,hsz,fun pre k h hv X h1 h2 h3 h4=>hy pre (k,h,hv) X ⟨h1,h2,h3⟩ h4⟩
    exact from1_ok C root f q.p W (w.heap.size+4) (w.heap.size+5) hN6 htot.symm (fun b hb=>hW2 b (by have:=(hA b hb).1; rw [sndW_size]; omega))
      (by rw [World.cell?_of_block (a:=⟨w.heap.size+4,0,none⟩) (hW2 _ (by rw [sndW_size]; show w.heap.size+4 < _; omega))]; simp [World.cell?,sndW_row w q root c 4 (by omega)])
      (by rw [World.cell?_of_block (a:=⟨w.heap.size+5,0,none⟩) (hW2 _ (by rw [sndW_size]; show w.heap.size+5 < _; omega))]; simp [World.cell?,sndW_row w q root c 5 (by omega)]) hp hJ0
  case assign=>
    intro l x W K hK
    obtain ⟨k,h,hv⟩:=x
    have e : (#[15,16].zip #[Value.string ⟨k.toArray⟩,hv]).foldl (fun t x=>match x with | (p,v)=>t.setIfInBounds p v) (sndTmps w q root c undef undef undef undef)=sndTmps w q root c undef undef (.string ⟨k.toArray⟩) hv:=by
      simp [sndTmps]
    show Code.wpIn _ _ _ _ _ ⟨(#[15,16].zip #[Value.string ⟨k.toArray⟩,hv]).foldl (fun t x=>match x with | (p,v)=>t.setIfInBounds p v) (sndTmps w q root c undef undef undef undef),[]⟩ _
    rw [e]
    unfold sndTmps
    unfold sndTmps at hK
    gi_wp2
    exact hK
  case body=>
    rintro l pre ⟨k,h,hv⟩ W ⟨h1,h2,h3⟩ I
    have hm:=hmem pre (k,h) h1
    exact snd_body q hCm hSk root c w hcw A hA l pre k h hv W (by have:=(hkey _ hm).2; simp only at this; omega) (hkey _ hm).1 h2 h3 (by have:=sumV_mem hm; simp only at this; omega) (by have h5 : (itemsSt q (pre++[(k,h)])).1.length≤(itemsOf q total).length:=items_part q total _ hsome h1; have:=items_le q total hsome; omega) I
  case done=>
    intro D W hD I hK
    have hQ:=HQ.out
    subst hQ
    refine ⟨by simp,.inl ⟨_,_,rfl,run_takeDeferred hK,?_⟩⟩
    have hne : ∀ b,b < (sndW w q root c).heap.size→(W.putObj D (.deferred none)).heap[b]?=W.heap[b]?:=fun b hb=>World.putObj_heap_other (by omega)
    refine ⟨.tuple #[],by simp [results,Tryz.results120,go_sem],rfl,⟨fun b hb hbc=>?_,?_,?_⟩,?_⟩
    · rw [hne b (by rw [sndW_size]; omega),I.block b (by rw [sndW_size]; omega) hbc (by omega),sndW_old w q root c hb]
    · have:=I.size
      rw [sndW_size] at this
      simp
      omega
    · exact I.os
    · rw [hne c hc6]
      exact I.ch
end
end Go.Proofs.YtnapepbdohidgaaGreatDoorQ
namespace Go.Proofs.YtnapepbdohidgaaGreatDoorQ
open Go.RowKit
theorem grow_sub {A : Nat→Prop} {w w1 : World} (h : w.heap.size≤w1.heap.size) : ∀ b,Grow A w1 b→Grow A w b:=by
  rintro b (⟨h1,h2⟩ | h1)
  · by_cases hlt : b < w.heap.size
    · exact Or.inl ⟨h1,hlt⟩
    · exact Or.inr (by omega)
  · exact Or.inr (by omega)
theorem StoreAt.mono {A A' : Nat→Prop} {w : World} {k0 : Nat} {st : St} (S : StoreAt A w k0 st) (h : ∀ b,A b→A' b) (ha : ∀ b,A' b→b≠k0) : StoreAt A' w k0 st:=by
  obtain ⟨p,c0,hN⟩:=S.tree
  exact ⟨ha,⟨p,c0,NodeAt.keep (fun b h1 _=>⟨h b h1,rfl⟩) _ _ _ hN⟩,S.count,S.last,S.frozen⟩
def StepPost (A : Nat→Prop) (w : World) (k0 : Nat) (st' : St) (v : Value) (e : Ending) (w' : World) : Prop:=
  e=.returned v∧StoreAt (Grow A w) w' k0 st'∧GrownT w w' k0
theorem stepPost_same {A : Nat→Prop} {w w' : World} {k0 : Nat} {st : St} {v : Value} (S : StoreAt A w k0 st) (hb : Below w.heap.size w w') : StepPost A w k0 st v (.returned v) w':=
  ⟨rfl,S.grow.on hb,gt_of_below S.lt hb⟩
def putR (st : St) (key body : ByteArray) : St×Int×Int:=
  if isKeyB key=false then (st,0,2) else if 100 < body.size then (st,0,3) else if fullB st then (st,0,4) else (addSt st key body false,st.last+1,0)
def dropR (st : St) (key : ByteArray) : St×Int×Int:=
  if isKeyB key=false then (st,0,2) else if fullB st then (st,0,4) else (addSt st key ⟨#[]⟩ true,st.last+1,0)
set_option maxHeartbeats 1000000 in
theorem sput_any (A : Nat→Prop) (k0 : Nat) (st : St) (s : Nat) (key body : ByteArray) (w : World) (hk : key.size≤maxLen) (hbd : body.size≤maxLen) (S : StoreAt A w k0 st) (hI : Inv st s) (hs : s < 2199023255552) :
    Calls Tryq.prog 35 #[.pointer (some ⟨k0,0,none⟩),.string key,.string body] w (StepPost A w k0 (putR st key body).1 (.tuple #[.int .i64 (putR st key body).2.1,.int .i64 (putR st key body).2.2])):=by
  have HIK:=isKey_any key w hk
  have HS : Hid (StoreAt A w k0 st):=S
  unfold maxLen at hbd
  cases hkey : isKeyB key with
  | false=>
    rw [hkey] at HIK
    have e : putR st key body=(st,0,2):=by simp [putR,hkey]
    rw [e]
    clear hkey S e
    go_enter Tryq.func35,Tryz.ntmps35
    go_wp2_with (go_at_call 59; refine HIK.mono ?_; rintro e w' ⟨rfl,rfl⟩)
    go_ret2
    exact stepPost_same HS.out (Below.refl _ _)
  | true=>
    rw [hkey] at HIK
    have hsz:=isKey_size hkey
    by_cases h100 : 100 < body.size
    · have e : putR st key body=(st,0,3):=by simp [putR,hkey,h100]
      rw [e]
      clear hkey S e
      go_enter Tryq.func35,Tryz.ntmps35
      go_wp2_with (go_at_call 59; refine HIK.mono ?_; rintro e w' ⟨rfl,rfl⟩)
      go_ret2
      exact stepPost_same HS.out (Below.refl _ _)
    · have HIF:=isFull_any k0 st w S.count S.last hI.last0 (by have:=hI.lastS; omega)
      cases hfull : fullB st with
      | true=>
        rw [hfull] at HIF
        have e : putR st key body=(st,0,4):=by simp [putR,hkey,h100,hfull]
        rw [e]
        clear hkey S e hfull
        go_enter Tryq.func35,Tryz.ntmps35
        go_wp2_with (first | (go_at_call 59; refine HIK.mono ?_; rintro e w' ⟨rfl,rfl⟩) | (go_at_call 60; refine HIF.mono ?_; rintro e w' ⟨rfl,rfl⟩))
        go_ret2
        exact stepPost_same HS.out (Below.refl _ _)
      | false=>
        rw [hfull] at HIF
        have e : putR st key body=(addSt st key body false,st.last+1,0):=by simp [putR,hkey,h100,hfull]
        rw [e]
        clear hkey S e hfull
        go_enter Tryq.func35,Tryz.ntmps35
        go_wp2_with (first | (go_at_call 59; refine HIK.mono ?_; rintro e w' ⟨rfl,rfl⟩) | (go_at_call 60; refine HIF.mono ?_; rintro e w' ⟨rfl,rfl⟩))
        refine (sclone_any body w (by omega)).mono ?_
        rintro e w1 ⟨rfl,hb1⟩
        have HA:=sadd_any A k0 st s key 0 body false w1 hsz.1 (HS.out.on hb1) hI hs
        go_wp2_with (go_at_call 61; refine HA.mono ?_; rintro e w2 ⟨rfl,S2,hg2⟩)
        go_ret2
        exact ⟨rfl,S2.mono (grow_sub hb1.size) (grow_avoid HS.out.avoid HS.out.lt),gt_trans (gt_of_below HS.out.lt hb1) hg2⟩
set_option maxHeartbeats 1000000 in
theorem sdrop_any (A : Nat→Prop) (k0 : Nat) (st : St) (s : Nat) (key : ByteArray) (w : World) (hk : key.size≤maxLen) (S : StoreAt A w k0 st) (hI : Inv st s) (hs : s < 2199023255552) :
    Calls Tryq.prog 38 #[.pointer (some ⟨k0,0,none⟩),.string key] w (StepPost A w k0 (dropR st key).1 (.tuple #[.int .i64 (dropR st key).2.1,.int .i64 (dropR st key).2.2])):=by
  have HIK:=isKey_any key w hk
  have HS : Hid (StoreAt A w k0 st):=S
  cases hkey : isKeyB key with
  | false=>
    rw [hkey] at HIK
    have e : dropR st key=(st,0,2):=by simp [dropR,hkey]
    rw [e]
    clear hkey S e
    go_enter Tryq.func38,Tryz.ntmps38
    go_wp2_with (go_at_call 59; refine HIK.mono ?_; rintro e w' ⟨rfl,rfl⟩)
    go_ret2
    exact stepPost_same HS.out (Below.refl _ _)
  | true=>
    rw [hkey] at HIK
    have hsz:=isKey_size hkey
    have HIF:=isFull_any k0 st w S.count S.last hI.last0 (by have:=hI.lastS; omega)
    cases hfull : fullB st with
    | true=>
      rw [hfull] at HIF
      have e : dropR st key=(st,0,4):=by simp [dropR,hkey,hfull]
      rw [e]
      clear hkey S e hfull
      go_enter Tryq.func38,Tryz.ntmps38
      go_wp2_with (first | (go_at_call 59; refine HIK.mono ?_; rintro e w' ⟨rfl,rfl⟩) | (go_at_call 60; refine HIF.mono ?_; rintro e w' ⟨rfl,rfl⟩))
      go_ret2
      exact stepPost_same HS.out (Below.refl _ _)
    | false=>
      rw [hfull] at HIF
      have e : dropR st key=(addSt st key ⟨#[]⟩ true,st.last+1,0):=by simp [dropR,hkey,hfull]
      rw [e]
      clear hkey S e hfull
      have HA:=sadd_any A k0 st s key 0 ⟨#[]⟩ true w hsz.1 HS.out hI hs
      go_enter Tryq.func38,Tryz.ntmps38
      go_wp2_with (first | (go_at_call 59; refine HIK.mono ?_; rintro e w' ⟨rfl,rfl⟩) | (go_at_call 60; refine HIF.mono ?_; rintro e w' ⟨rfl,rfl⟩) | (go_at_call 61; refine HA.mono ?_; rintro e w2 ⟨rfl,S2,hg2⟩))
      go_ret2
      exact ⟨rfl,S2,hg2⟩
def dropvR (st : St) (key : ByteArray) (n : Int) : St×Int:=
  if isKeyB key=false then (st,2)
  else match placeOf (st.f key.data.toList) n with
    | none=>(st,5)
    | some r=>(dropSt st key r,0)
end Go.Proofs.YtnapepbdohidgaaGreatDoorQ
namespace Go.Proofs.YtnapepbdohidgaaGreatDoorQ
open Go
open Go.RowKit
structure InvT (st : St) : Prop where
  cnt : (tot 41 st.f : Int)=st.count
  le : st.count≤200
  long : ∀ k,40 < k.length→st.f k=[]
theorem isKey_len {key : ByteArray} (h : isKeyB key=true) : key.data.toList.length≤40:=by
  have:=of_decide_eq_true h
  have e : key.data.toList.length=key.size:=by simp
  omega
theorem InvT.add {st : St} (h : InvT st) (key body : ByteArray) (mark : Bool) (hk : isKeyB key=true) (hc : ¬200≤st.count) : InvT (addSt st key body mark):=by
  have hl:=isKey_len hk
  have e:=tot_upd 41 st.f key.data.toList (st.f key.data.toList++[⟨st.last+1,body,mark⟩]) (by omega)
  rw [List.length_append,List.length_singleton] at e
  have:=h.cnt
  refine ⟨?_,?_,fun k hk=>?_⟩
  · simp only [addSt]; omega
  · simp only [addSt]; omega
  · simp only [addSt,upd]
    rw [if_neg (by intro e; subst e; omega)]
    exact h.long k hk
theorem InvT.drop {st : St} (h : InvT st) (key : ByteArray) (r : Nat) (hk : isKeyB key=true) (hr : r < (st.f key.data.toList).length) : InvT (dropSt st key r):=by
  have hl:=isKey_len hk
  have e:=tot_upd 41 st.f key.data.toList ((st.f key.data.toList).take r++(st.f key.data.toList).drop (r+1)) (by omega)
  rw [List.length_append,List.length_take,List.length_drop,Nat.min_eq_left (by omega)] at e
  have:=h.cnt
  have:=h.le
  refine ⟨?_,?_,fun k hk=>?_⟩
  · simp only [dropSt]; omega
  · simp only [dropSt]; omega
  · simp only [dropSt,upd]
    rw [if_neg (by intro e; subst e; omega)]
    exact h.long k hk
theorem InvT.step {st : St} (h : InvT st) (o : OpD) : InvT (stepSt st o).1:=by
  unfold stepSt
  simp only
  repeat' split
  all_goals first
    | exact h
    | exact h.add _ _ _ (by simpa using ‹¬isKeyB o.key=false›) (by assumption)
    | (rename_i r hr
       exact h.drop _ _ (by simpa using ‹¬isKeyB o.key=false›) (List.findIdx?_eq_some_iff_getElem.1 hr).1)
theorem invT0 : InvT ⟨fun _=>[],0,0⟩:=⟨by rw [tot_nil]; rfl,by simp,fun _ _=>rfl⟩
end Go.Proofs.YtnapepbdohidgaaGreatDoorQ
namespace Go.Proofs.YtnapepbdohidgaaGreatDoorQ
open Go
open Go.Conc Go.ConcX Go.ConcX.Gen Go.RowKit
theorem verCells_good (h : List Ver) : ∀ v∈verCells h,Good v:=fun v hv=>by
  simp only [verCells,List.mem_flatMap] at hv
  obtain ⟨x,-,hv⟩:=hv
  simp at hv
  rcases hv with rfl | rfl | rfl
  · exact .int _ _
  · exact .string _
  · exact .bool _
theorem kidCells_good (ks : List (UInt8×Option Addr)) : ∀ v∈kidCells ks,Good v:=fun v hv=>by
  simp only [kidCells,List.mem_flatMap] at hv
  obtain ⟨x,-,hv⟩:=hv
  simp at hv
  rcases hv with rfl | rfl
  · exact .int _ _
  · exact .pointer _
section
variable {ρ : Ren} {V W V' : World}
theorem row_low {A : Nat→Prop} {v : Value} {n : Nat} {xs : List Value} (hk : ∀ a y i v,ρ a y→V.cell? ⟨a,i,none⟩=some v→Good v→V'.cell? ⟨a,i,none⟩=some v) (hg : ∀ v∈xs,Good v) (hr : ∃ v',RV ρ v v') (h : RowAt A V v n xs) : RowAt (fun _=>True) V' v n xs:=by
  obtain ⟨a,cap,rfl,ha0,hx⟩:=h
  refine ⟨a,cap,rfl,ha0,fun hne=>?_⟩
  obtain ⟨g,rfl,hA,hgl,hc⟩:=hx hne
  obtain ⟨v',hr⟩:=hr
  obtain ⟨y,hy⟩ : ∃ y,ρ g y:=by
    cases hr with
    | slice n c h=>cases h with | some h=>exact ⟨_,h.1⟩
  have hc2 : ∀ j,j < xs.length→V'.cell? ⟨g,j,none⟩=xs[j]?:=fun j hj=>by
    have h1:=(hc j hj).trans (List.getElem?_eq_getElem hj)
    rw [List.getElem?_eq_getElem hj]
    exact hk g y j _ hy h1 (hg _ (List.getElem_mem hj))
  have h0 : 0 < xs.length:=List.length_pos_iff.2 hne
  exact ⟨g,rfl,trivial,World.block_lt_of_cell? V' _ ((hc2 0 h0).trans (List.getElem?_eq_getElem h0)),hc2⟩
theorem node_low {A : Nat→Prop} (S : SimW ρ V W) (hk : ∀ a y i v,ρ a y→V.cell? ⟨a,i,none⟩=some v→Good v→V'.cell? ⟨a,i,none⟩=some v) : ∀ (n : Nat) (p : Option Addr) (f : List UInt8→List Ver),(∃ r,RAo ρ p r)→NodeAt A n V p f→NodeAt (fun _=>True) n V' p f:=by
  intro n
  induction n with
  | zero=>intro p f _ h; exact h
  | succ n ih=>
    intro p f hr h
    rcases h with h | ⟨g,hv,kv,ks,rfl,hA,c0,c1,c2,hh,hks,hs,hch,hno,hnn⟩
    · exact Or.inl h
    · obtain ⟨r,hr⟩:=hr
      obtain ⟨y,hy⟩ : ∃ y,ρ g y:=by cases hr with | some h=>exact ⟨_,h.1⟩
      have hrel : ∀ (b y j : Nat) (v : Value),ρ b y→V.cell? ⟨b,j,none⟩=some v→∃ v',RV ρ v v':=fun b y j v hb hc=>by
        rcases S.cell (a:=⟨b,j,none⟩) (a':=⟨y,j,none⟩) ⟨hb,rfl,rfl⟩ with h | ⟨v1,v2,h1,h2,h3⟩
        · rw [h] at hc; cases hc
        · rw [h1] at hc; cases hc; exact ⟨_,h3⟩
      have gh : Good hv:=by obtain ⟨a,cap,rfl,-⟩:=hh; exact .slice _ _ _
      have gkv : Good kv:=by obtain ⟨a,cap,rfl,-⟩:=hks; exact .slice _ _ _
      have rk:=hrel g y 2 kv hy c2
      refine Or.inr ⟨g,hv,kv,ks,rfl,trivial,hk g y 0 _ hy c0 (.bool _),hk g y 1 _ hy c1 gh,hk g y 2 _ hy c2 gkv,row_low hk (verCells_good _) (hrel g y 1 hv hy c1) hh,row_low hk (kidCells_good _) rk hks,hs,fun c q hq=>ih q _ ?_ (hch c q hq),hno,hnn⟩
      have hne : ks≠[]:=by intro e; rw [e] at hq; simp at hq
      obtain ⟨gk,cap,rfl,-,-,hce,-⟩:=hks.cells hne
      obtain ⟨i,hi,e⟩:=List.getElem_of_mem hq
      obtain ⟨yk,hyk⟩ : ∃ yk,ρ gk yk:=by
        obtain ⟨v',hv'⟩:=rk
        cases hv' with | slice n c h=>cases h with | some h=>exact ⟨_,h.1⟩
      have h2:=(hce i hi).2
      rw [e] at h2
      obtain ⟨v',hv'⟩:=hrel gk yk _ _ hyk h2
      cases hv' with | pointer h=>exact ⟨_,h⟩
theorem node_cells {A : Nat→Prop} (hk : ∀ b j,b < V.heap.size→V'.cell? ⟨b,j,none⟩=V.cell? ⟨b,j,none⟩) : ∀ (n : Nat) (p : Option Addr) (f : List UInt8→List Ver),NodeAt A n V p f→NodeAt (fun _=>True) n V' p f:=by
  have hrow : ∀ v n xs,RowAt A V v n xs→RowAt (fun _=>True) V' v n xs:=fun v n xs h=>by
    obtain ⟨a,cap,rfl,ha0,hx⟩:=h
    refine ⟨a,cap,rfl,ha0,fun hne=>?_⟩
    obtain ⟨g,rfl,hA,hgl,hc⟩:=hx hne
    have hc2 : ∀ j,j < xs.length→V'.cell? ⟨g,j,none⟩=xs[j]?:=fun j hj=>(hk g j hgl).trans (hc j hj)
    have h0 : 0 < xs.length:=List.length_pos_iff.2 hne
    exact ⟨g,rfl,trivial,World.block_lt_of_cell? V' _ ((hc2 0 h0).trans (List.getElem?_eq_getElem h0)),hc2⟩
  intro n
  induction n with
  | zero=>intro p f h; exact h
  | succ n ih=>
    intro p f h
    rcases h with h | ⟨g,hv,kv,ks,rfl,hA,c0,c1,c2,hh,hks,hs,hch,hno⟩
    · exact Or.inl h
    · have hg:=World.block_lt_of_cell? V _ c0
      exact Or.inr ⟨g,hv,kv,ks,rfl,trivial,(hk g 0 hg).trans c0,(hk g 1 hg).trans c1,(hk g 2 hg).trans c2,hrow _ _ _ hh,hrow _ _ _ hks,hs,fun c q hq=>ih q _ (hch c q hq),hno⟩
end
def lQy (l : Lst) : Qy:=⟨l.vs,l.p,l.d,l.af⟩
def lItems (l : Lst) (f : List UInt8→List Ver) : List ItD:=itemsOf (lQy l) (fromL f l.p.data.toList)
structure PreL (Qok : Qy→Prop) (l : Lst) (f : List UInt8→List Ver) (w : World) : Prop where
  tree : TreeAt w l.root f
  ok : Qok (lQy l)
  sum : sumV (fromL f l.p.data.toList)≤1000
  pre : l.p.size≤maxLen
def PreP (Qok : Qy→Prop) (l : Lst) (L : List Value) (w : World) : Prop:=∃ f,PreL Qok l f w∧L=(lItems l f).map itVal
theorem preP_ok (Qok : Qy→Prop) (hQ : ∀ q,Qok q→CmnOk q∧SkyOk q) : PgPre (PreP Qok) where
  low:=fun ρ V W V' l L S hr hk hsz ⟨f,h,e⟩=>⟨f,⟨.of (node_low S hk 41 l.root f hr h.tree),h.ok,h.sum,h.pre⟩,e⟩
  on:=fun V V' l L hk hsz ⟨f,h,e⟩=>⟨f,⟨.of (node_cells (fun b j hb=>hk ⟨b,j,none⟩ hb) 41 l.root f h.tree),h.ok,h.sum,h.pre⟩,e⟩
  item:=fun l L V ⟨f,h,e⟩ v hv=>by
    rw [e] at hv
    obtain ⟨i,-,rfl⟩:=List.mem_map.1 hv
    exact ⟨_,_,_,rfl⟩
  len:=fun l L V ⟨f,h,e⟩=>by
    rw [e,List.length_map]
    exact Nat.le_trans (items_le (lQy l) _ (walkL_some _ _ _)) h.sum
  send:=fun l L w c ⟨f,h,e⟩ hc=>by
    obtain ⟨h1,h2⟩:=hQ _ h.ok
    have:=send_ok (lQy l) h1 h2 l.root f c w h.tree h.sum h.pre hc
    rw [e,List.length_map]
    exact this
theorem preP_ce (Qok : Qy→Prop) : ∀ l L V u,Ce V u→PreP Qok l L u→PreP Qok l L V:=fun l _L _V _u hc ⟨f,h,e⟩=>
  ⟨f,⟨.of (node_cells (fun _b _j _=>(hc.2 _).symm) 41 l.root f h.tree),h.ok,h.sum,h.pre⟩,e⟩
def QKeys (q : Qy) : Prop:=q.vs=false∧q.d=⟨#[]⟩
theorem qKeys_ok : ∀ q,QKeys q→CmnOk q∧SkyOk q:=fun q h=>⟨common_keys q h.2,sendKey_keys q h.1⟩
end Go.Proofs.YtnapepbdohidgaaGreatDoorQ
