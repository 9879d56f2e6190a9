/- Part of a proof. -/
import Derived.Test.YtnapepbdohidgaaGreatDoorQM26
import Derived.Sort.CutIn
set_option maxHeartbeats 4000000
set_option maxRecDepth 100000
namespace Go.Proofs.YtnapepbdohidgaaGreatDoorQ
section
open Go
open Go.Conc Go.ConcX Go.ConcX.Gen Go.RowKit
def cz (w:World):Prop:=∃m,w.cell? ⟨0,0,none⟩=some (.int .i64 m)
theorem cz.on {w w':World}(h:cz w)(hb:∀b,b<w.heap.size->w'.heap[b]?=w.heap[b]?):cz w':=by
 obtain ⟨m,hm⟩:=h
 exact ⟨m,(cB (a:=⟨0,0,none⟩) (hb 0 (World.block_lt_of_cell? w _ hm))).trans hm⟩
def fG (q:Qy):Prop:=∀ (k:List UInt8)(w:World),cz w->k.length<=1000->q.p.data.toList <+:k->Calls Yq.prog 139 #[qV q.vs q.p q.d q.af,.string ⟨k.toArray⟩] w fun e w'=>e=.returned (.tuple #[.string ⟨((eP q k).getD []).toArray⟩,.bool (eP q k).isSome])/\Below w.heap.size w w'
def fH (q:Qy):Prop:=∀ (A:Nat->Prop)(k:List UInt8)(hv:Value)(h:List Ver)(c:Nat)(buf:List Value)(w:World),aY A w hv h->h≠[]->h.length<=1000->w.heap[c]?=some (.chan 1000 buf.toArray false buf.length 0 false)->buf.length+(dP q.vs k h).length<=1000 ->
 Calls Yq.prog 140 #[qV q.vs q.p q.d q.af,.string ⟨k.toArray⟩,hv,.chan (some c)] w fun e w'=>e=.returned (.tuple #[])/\(∀b,b<w.heap.size->b≠c->w'.heap[b]?=w.heap[b]?)/\w.heap.size<=w'.heap.size/\w'.os=w.os /\
  w'.heap[c]?=some (.chan 1000 (buf++(dP q.vs k h).map itVal).toArray false (buf.length+(dP q.vs k h).length) 0 false)
structure oz (q:Qy)(w w6:World)(c:Nat)(pre:KVs)(W:World):Prop where
 os:W.os=w.os
 size:w6.heap.size<=W.heap.size
 block:∀b,b<w6.heap.size->b≠c->b≠w.heap.size+3->W.heap[b]?=w6.heap[b]?
 told:W.heap[w.heap.size+3]?=some (.cells #[.string ⟨(ay q pre).2.toArray⟩] 9)
 ch:W.heap[c]?=some (.chan 1000 ((ay q pre).1.map itVal).toArray false (ay q pre).1.length 0 false)
theorem jE {w:World}{c k s q:Nat}{b:Array Value}{x y:Bool}(h:c<w.heap.size):(w.setChan c k b x s q y).heap[c]?=some (.chan k b x s q y):=by
 unfold World.setChan
 exact Array.getElem?_setIfInBounds_self_of_lt h
theorem gR {w:World}{c k s q j:Nat}{b:Array Value}{x y:Bool}(h:j≠c):(w.setChan c k b x s q y).heap[j]?=w.heap[j]?:=by
 unfold World.setChan
 exact sN (by omega)
theorem s7 {w:World}{c k s q:Nat}{b:Array Value}{x y:Bool}:(w.setChan c k b x s q y).heap.size=w.heap.size:=by simp [World.setChan]
theorem rM (q:Qy)(hd:q.d=⟨#[]⟩):fG q:=by
 intro k w _ _ _
 obtain ⟨vs,p,d,af⟩:=q
 simp only at hd
 subst hd
 exact rL vs p af ⟨k.toArray⟩ w
theorem qj (q:Qy)(hvs:q.vs=false):fH q:=by
 intro A k hv h c buf w hh hne hl hc hroom
 obtain ⟨vs,p,d,af⟩:=q
 simp only at hvs
 subst hvs
 have hcl:c<w.heap.size:=(eS hc).1
 simp only [dP,Bool.false_eq_true,if_false,List.length_singleton,List.map_cons,List.map_nil] at hroom ⊢
 rw [sX hne]
 obtain ⟨W,hW⟩:∃W,W=((w.alloc (.cells #[.bool false,.string p,.string d,.string af] 93)).alloc (.cells #[.string ⟨k.toArray⟩] 9)).alloc (.cells #[.chan (some c)] 210):=⟨_,rfl⟩
 have hb:Below w.heap.size w W:=by rw [hW];exact (((Below.refl _ _).alloc (lR _) _).alloc (by simp) _).alloc (by simp;omega) _
 have HX:Hid (Below w.heap.size w W/\W.cell? ⟨w.heap.size+1,0,none⟩=some (.string ⟨k.toArray⟩)/\W.cell? ⟨w.heap.size+2,0,none⟩=some (.chan (some c))/\aY A W hv h/\W.heap[c]?=some (.chan 1000 buf.toArray false buf.length 0 false)):=by
  refine ⟨hb,?_,?_,hh.on hb,(hb.block c hcl).trans hc⟩
  ·rw [hW]
   refine ak ((Below.refl _ _).alloc (lR _) _) ?_
   have:=World.cell?_alloc_at (w:=w.alloc (.cells #[.bool false,.string p,.string d,.string af] 93)) #[.string ⟨k.toArray⟩] 9 (w.heap.size+1) 0 (by simp)
   rw [this];rfl
  ·rw [hW]
   have:=World.cell?_alloc_at (w:=(w.alloc (.cells #[.bool false,.string p,.string d,.string af] 93)).alloc (.cells #[.string ⟨k.toArray⟩] 9)) #[.chan (some c)] 210 (w.heap.size+2) 0 (by simp)
   rw [this];rfl
 have HW:Hid (W=((w.alloc (.cells #[.bool false,.string p,.string d,.string af] 93)).alloc (.cells #[.string ⟨k.toArray⟩] 9)).alloc (.cells #[.chan (some c)] 210)):=hW
 clear hW hb hc hh
 unfold qV
 go_enter Yq.func140,Tryz.ntmps140
 go_upto_region 2 with fail
 rename_i K1 hK1 K2 hK2
 rw [<-HW.out]
 obtain ⟨hb,c5,c7,hh,hc⟩:=HX.out
 refine wpIn_wide.1 (show Code.wpIn (wf none) 0 _ _ _ _ _ from w9 A (id:=2) (n:=0) (b5:=w.heap.size+1) (b7:=w.heap.size+2) rfl rfl rfl rfl c5 c7 hh hne (by omega) hc (by omega) (fun a w1 h1 h2 hb1=>?_))
 refine hK2 _ _ (wp_ret ⟨h2,.tuple #[],by simp [results,Tryz.results140,go_sem],rfl,fun b hb2 hbc=>?_,?_,?_,?_⟩)
 ·rw [gR hbc,hb1.block b (by have:=hb.size;omega)]
  exact hb.block b hb2
 ·rw [s7]
  exact Nat.le_trans hb.size hb1.size
 ·exact hb1.os.trans hb.os
 ·exact jE (by have:=hb.size;have:=hb1.size;omega)
def zi:Code->Code
 | .rangeFunc _ _ _ b=>b
 |c=>c
noncomputable def xb:Code:=zi (cIn (aL (aL (aL (ao Tryz.f120)))))
def iC (w:World)(q:Qy)(root:Option Addr)(c:Nat):World:=
 (((((w.alloc (.cells #[.bool q.vs,.string q.p,.string q.d,.string q.af] 93)).alloc (.cells #[.pointer root] 56)).alloc (.cells #[.chan (some c)] 210)).alloc (.cells #[.string ⟨#[]⟩] 9)).alloc (.cells #[.pointer root] 56)).alloc (.cells #[.string q.p] 9)
theorem bY (w:World)(q:Qy)(root:Option Addr)(c:Nat):(iC w q root c).heap.size=w.heap.size+6:=by simp only [iC,World.alloc,Array.size_push]
theorem i8 (w:World)(q:Qy)(root:Option Addr)(c:Nat){b:Nat}(h:b<w.heap.size):(iC w q root c).heap[b]?=w.heap[b]?:=by
 simp only [iC,World.alloc,Array.getElem?_push,Array.size_push]
 repeat rw [if_neg (by omega)]
theorem ja (w:World)(q:Qy)(root:Option Addr)(c:Nat)(i:Nat)(h:i<6):(iC w q root c).heap[w.heap.size+i]?=(#[.cells #[.bool q.vs,.string q.p,.string q.d,.string q.af] 93,.cells #[.pointer root] 56,.cells #[.chan (some c)] 210,.cells #[.string ⟨#[]⟩] 9,.cells #[.pointer root] 56,.cells #[.string q.p] 9]:Array Obj)[i]?:=by
 simp only [iC,World.alloc,Array.getElem?_push,Array.size_push]
 rcases i with - | - | - | - | - | - |i
 all_goals first|omega|skip
 all_goals
  repeat rw [if_neg (by omega)]
  simp
def eZ (w:World)(q:Qy)(root:Option Addr)(c:Nat)(x7 x8 x15 x16:Value):Array Value:=
 #[.agg #[.bool q.vs,.string q.p,.string q.d,.string q.af],.agg #[.pointer root],.chan (some c),.pointer (some ⟨w.heap.size,0,none⟩),.pointer (some ⟨w.heap.size+1,0,none⟩),.pointer (some ⟨w.heap.size+2,0,none⟩),.pointer (some ⟨w.heap.size+3,0,none⟩),x7,x8,undef,undef,
  .agg #[.pointer root],.pointer (some ⟨w.heap.size,1,none⟩),.string q.p,.func (.func 122) #[] #[ptr (w.heap.size+4),ptr (w.heap.size+5)],x15,x16,undef,undef,undef,undef,undef,undef,undef,undef,undef,undef,undef,undef,undef,undef,undef,undef,undef,undef,undef,undef,undef,undef,undef,undef,undef,undef,undef]
theorem oz.below {q:Qy}{w w6:World}{c:Nat}{pre:KVs}{W W':World}(I:oz q w w6 c pre W)(hc:c<w6.heap.size)(ht:w.heap.size+3<w6.heap.size)(hb:Below W.heap.size W W'):oz q w w6 c pre W':=
 ⟨hb.os.trans I.os,Nat.le_trans I.size hb.size,fun b h1 h2 h3=>(hb.block b (Nat.lt_of_lt_of_le h1 I.size)).trans (I.block b h1 h2 h3),(hb.block _ (Nat.lt_of_lt_of_le ht I.size)).trans I.told,(hb.block _ (Nat.lt_of_lt_of_le hc I.size)).trans I.ch⟩
theorem oz.items {q:Qy}{w w6:World}{c:Nat}{pre pre':KVs}{W:World}(I:oz q w w6 c pre W)(h:ay q pre'=ay q pre):oz q w w6 c pre' W:=
 ⟨I.os,I.size,I.block,by rw [h];exact I.told,by rw [h];exact I.ch⟩
theorem oA (l:Nat):(wf (some l)).round=some l:=rfl
section
attribute [local go_sem] Oper.semAt_some oA
theorem zk (q:Qy)(hCm:fG q)(hSk:fH q)(root:Option Addr)(c:Nat)(w:World)(hgl:cz w)(hc0:0≠c)(hcw:c<w.heap.size)(A:Nat->Prop)(hA:∀b,A b->b<w.heap.size/\b≠c)(l:Nat)(pre:KVs)(k:List UInt8)(h:List Ver)(hv:Value)(W:World)(hk:k.length<=1000)(hkp:q.p.data.toList <+:k)(hh:aY A (iC w q root c) hv h)(hne:h≠[])(hl:h.length<=1000)(hfit:(ay q (pre++[(k,h)])).1.length<=1000)(I:oz q w (iC w q root c) c pre W):
  xb.wpIn (wf (some l)) 0 Yq.prog (fun e _ W'=>e=.normal/\kx c (w.heap.size+3) W W'/\oz q w (iC w q root c) c (pre++[(k,h)]) W') ⟨eZ w q root c (.string ⟨k.toArray⟩) hv (.string ⟨k.toArray⟩) hv,[]⟩ W:=by
 obtain ⟨Q,hQ⟩:∃Q:Exit->Act->World->Prop,Q=fun e _ W'=>e=.normal/\kx c (w.heap.size+3) W W'/\oz q w (iC w q root c) c (pre++[(k,h)]) W':=⟨_,rfl⟩
 rw [<-hQ]
 have HQ:Hid (Q=fun e _ W'=>e=.normal/\kx c (w.heap.size+3) W W'/\oz q w (iC w q root c) c (pre++[(k,h)]) W'):=hQ
 clear hQ
 have hrow:∀i o,i<6->i≠3->(iC w q root c).heap[w.heap.size+i]?=some o->W.heap[w.heap.size+i]?=some o:=fun i o h1 h2 h3=>(I.block _ (by rw [bY];omega) (by omega) (by omega)).trans h3
 have r0:=hrow 0 _ (by omega) (by omega) (ja w q root c 0 (by omega))
 have r2:=hrow 2 _ (by omega) (by omega) (ja w q root c 2 (by omega))
 simp only [Nat.add_zero] at r0
 have c0:W.cell? ⟨w.heap.size,0,none⟩=some (.bool q.vs):=by simp [World.cell?,r0]
 have c1:W.cell? ⟨w.heap.size,1,none⟩=some (.string q.p):=by simp [World.cell?,r0]
 have c2:W.cell? ⟨w.heap.size,2,none⟩=some (.string q.d):=by simp [World.cell?,r0]
 have c3:W.cell? ⟨w.heap.size,3,none⟩=some (.string q.af):=by simp [World.cell?,r0]
 have d2:W.cell? ⟨w.heap.size+2,0,none⟩=some (.chan (some c)):=by simp [World.cell?,r2]
 have d3:W.cell? ⟨w.heap.size+3,0,none⟩=some (.string ⟨(ay q pre).2.toArray⟩):=by simp [World.cell?,I.told]
 have f3:W.frozen? ⟨w.heap.size+3,0,none⟩=false:=by simp [World.frozen?,I.told]
 have hszW:w.heap.size+6<=W.heap.size:=by have:=I.size;rwa [bY] at this
 have HhW:Hid (aY A W hv h):=bE.keep hh (fun b hb hlt=>⟨hb,I.block b hlt (hA b hb).2 (by have:=(hA b hb).1;omega)⟩)
 have HI:Hid (oz q w (iC w q root c) c pre W):=I
 have HGL:Hid (cz W):=by
  obtain ⟨m,hm⟩:=hgl
  have h0:=World.block_lt_of_cell? w _ hm
  exact ⟨m,(cB (a:=⟨0,0,none⟩) ((I.block 0 (by rw [bY];omega) hc0 (by omega)).trans (i8 w q root c h0))).trans hm⟩
 have HWT:=zh A q k hv h W HhW.out hne (by omega)
 have HCm:Hid (fG q):=hCm
 have HSk:Hid (fH q):=hSk
 have HHF:Hid (∀b,A b->b<w.heap.size/\b≠c):=hA
 have HFT:Hid ((ay q (pre++[(k,h)])).1.length<=1000/\q.p.data.toList <+:k):=⟨hfit,hkp⟩
 have HST:Hid (ay q (pre++[(k,h)])=ci q (ay q pre) (k,h)):=p9 q pre (k,h)
 clear hrow r0 r2 I hCm hSk hA hfit hkp hh
 generalize hwt:me q k h=wt at HWT
 have HWB:Hid (me q k h=wt):=hwt
 clear hwt
 generalize hcm:eP q k=cm
 have HCB:Hid (eP q k=cm):=hcm
 clear hcm
 unfold eZ
 dsimp only [xb,zi,ao,Tryz.f120,cIn,bj,aL,bQ,Option.getD]
 unfold qV at HWT
 have hc6:c<(iC w q root c).heap.size:=by rw [bY];omega
 have ht6:w.heap.size+3<(iC w q root c).heap.size:=by rw [bY];omega
 have HCC:Hid (∀X,Below W.heap.size W X->Calls Yq.prog 139 #[.agg #[.bool q.vs,.string q.p,.string q.d,.string q.af],.string ⟨k.toArray⟩] X fun e w'=>e=.returned (.tuple #[.string ⟨(cm.getD []).toArray⟩,.bool cm.isSome])/\Below X.heap.size X w'):=fun X hX=>by
  rw [<-HCB.out]
  exact HCm.out k X (HGL.out.on hX.block) hk HFT.out.2
 cases wt
 ·gi_wp2_with (refine ⟨trivial,rfl,?_⟩;gi_at_call 138;refine (CallsIn.inRound l (callsIn_wide.2 HWT)).mono ?_;clear HWT;rintro e w1 ⟨rfl,hb1⟩)
  rw [HQ.out]
  exact ⟨rfl,kx.below hb1,(HI.out.below hc6 ht6 hb1).items (by rw [HST.out,ci,HWB.out];rfl)⟩
 ·have HW1:Hid (∀w1 w2:World,Below W.heap.size W w1->Below w1.heap.size w1 w2->Below W.heap.size W w2):=fun w1 w2 h1 h2=>h1.trans (h2.mono h1.size)
  cases cm with
  |none=>
   have e1:ay q (pre++[(k,h)])=((ay q pre).1++dP q.vs k h,(ay q pre).2):=by
    rw [HST.out,ci,HWB.out]
    simp only [HCB.out,if_true]
   have HE1:Hid (ay q (pre++[(k,h)])=((ay q pre).1++dP q.vs k h,(ay q pre).2)):=e1
   have HSS:Hid (∀X,Below W.heap.size W X->Calls Yq.prog 140 #[.agg #[.bool q.vs,.string q.p,.string q.d,.string q.af],.string ⟨k.toArray⟩,hv,.chan (some c)] X fun e w'=>e=.returned (.tuple #[])/\kx c (w.heap.size+3) W w'/\oz q w (iC w q root c) c (pre++[(k,h)]) w'):=fun X hX=>by
    have IX:=HI.out.below hc6 ht6 hX
    have hlen:=HFT.out.1
    rw [HE1.out,List.length_append] at hlen
    have hcX:=IX.ch
    rw [show ((ay q pre).1.length:Nat)=((ay q pre).1.map itVal).length by simp] at hcX
    refine (HSk.out A k hv h c ((ay q pre).1.map itVal) X (bE.on HhW.out hX) hne hl hcX (by simpa using hlen)).mono ?_
    rintro e w' ⟨rfl,h1,h2,h3,h4⟩
    refine ⟨rfl,⟨Nat.le_trans hX.size h2,h3.trans hX.os,fun b hb hbc _=>(h1 b (by have:=hX.size;omega) hbc).trans (hX.block b hb)⟩,h3.trans IX.os,Nat.le_trans IX.size h2,fun b hb hbc hbt=>(h1 b (by have:=IX.size;omega) hbc).trans (IX.block b hb hbc hbt),?_,?_⟩
    ·rw [HE1.out]
     exact (h1 _ (by have:=IX.size;omega) (by omega)).trans IX.told
    ·rw [HE1.out,h4]
     simp
   clear e1
   gi_wp2_with (first
    |(refine ⟨trivial,rfl,?_⟩;gi_at_call 138;refine (CallsIn.inRound l (callsIn_wide.2 HWT)).mono ?_;clear HWT;rintro e w1 ⟨rfl,hb1⟩;replace c0:=ak hb1 c0;replace c1:=ak hb1 c1;replace c2:=ak hb1 c2;replace c3:=ak hb1 c3;replace d2:=ak hb1 d2)
    |(refine ⟨trivial,rfl,?_⟩;gi_at_call 139;refine (CallsIn.inRound l (callsIn_wide.2 (HCC.out _ hb1))).mono ?_;clear HCC;rintro e w2 ⟨rfl,hb2⟩;replace c0:=ak hb2 c0;replace c1:=ak hb2 c1;replace c2:=ak hb2 c2;replace c3:=ak hb2 c3;replace d2:=ak hb2 d2)
    |(refine ⟨trivial,rfl,?_⟩;gi_at_call 140;refine (CallsIn.inRound l (callsIn_wide.2 (HSS.out _ (HW1.out _ _ hb1 hb2)))).mono ?_;clear HSS;rintro e w3 ⟨rfl,hk3,hI3⟩))
   rw [HQ.out]
   exact ⟨rfl,hk3,hI3⟩
  |some cc=>
   by_cases hct:cc=(ay q pre).2
   ·have HE1:Hid (ay q (pre++[(k,h)])=ay q pre):=by
     show ay q (pre++[(k,h)])=ay q pre
     rw [HST.out,ci,HWB.out]
     simp only [HCB.out,if_true,hct]
    rw [<-hct] at d3
    gi_wp2_with (first
     |(refine ⟨trivial,rfl,?_⟩;gi_at_call 138;refine (CallsIn.inRound l (callsIn_wide.2 HWT)).mono ?_;clear HWT;rintro e w1 ⟨rfl,hb1⟩;replace c0:=ak hb1 c0;replace c1:=ak hb1 c1;replace c2:=ak hb1 c2;replace c3:=ak hb1 c3;replace d3:=ak hb1 d3)
     |(refine ⟨trivial,rfl,?_⟩;gi_at_call 139;refine (CallsIn.inRound l (callsIn_wide.2 (HCC.out _ hb1))).mono ?_;clear HCC;rintro e w2 ⟨rfl,hb2⟩;replace d3:=ak hb2 d3))
    rw [HQ.out]
    exact ⟨rfl,kx.below (HW1.out _ _ hb1 hb2),(HI.out.below hc6 ht6 (HW1.out _ _ hb1 hb2)).items HE1.out⟩
   ·have e1:ay q (pre++[(k,h)])=((ay q pre).1++[⟨2,⟨cc.toArray⟩,0⟩],cc):=by
     rw [HST.out,ci,HWB.out]
     simp only [HCB.out,if_true,hct,if_false]
    have HE1:Hid (ay q (pre++[(k,h)])=((ay q pre).1++[⟨2,⟨cc.toArray⟩,0⟩],cc)):=e1
    clear e1
    gi_upto_region 10 with (first
     |(refine ⟨trivial,rfl,?_⟩;gi_at_call 138;refine (CallsIn.inRound l (callsIn_wide.2 HWT)).mono ?_;clear HWT;rintro e w1 ⟨rfl,hb1⟩;replace c0:=ak hb1 c0;replace c1:=ak hb1 c1;replace c2:=ak hb1 c2;replace c3:=ak hb1 c3;replace d2:=ak hb1 d2;replace d3:=ak hb1 d3;replace f3:=(hb1.frozen (p:=⟨w.heap.size+3,0,none⟩) (by show w.heap.size+3<W.heap.size;omega)).trans f3)
     |(refine ⟨trivial,rfl,?_⟩;gi_at_call 139;refine (CallsIn.inRound l (callsIn_wide.2 (HCC.out _ hb1))).mono ?_;clear HCC;rintro e w2 ⟨rfl,hb2⟩;replace d2:=ak hb2 d2;replace d3:=ak hb2 d3;replace f3:=(hb2.frozen (p:=⟨w.heap.size+3,0,none⟩) (by show w.heap.size+3<w1.heap.size;have:=hb1.size;omega)).trans f3))
    case refine_2=>rename_i hx;exact absurd (by simpa using hx) hct
    rename_i K1 hK1
    have I2:=HI.out.below hc6 ht6 (HW1.out _ _ hb1 hb2)
    have hc2:=I2.ch
    have hlen:=HFT.out.1
    rw [HE1.out,List.length_append,List.length_singleton] at hlen
    have hbk:∀j,j≠c->(w2.setChan c 1000 (((ay q pre).1.map itVal).toArray.push (.agg #[.int .i64 2,.string ⟨cc.toArray⟩,.int .i64 0])) false ((ay q pre).1.length+1) 0 false).heap[j]?=w2.heap[j]?:=fun j hj=>gR hj
    have hsz2:w.heap.size+6<=w2.heap.size:=by have:=hb1.size;have:=hb2.size;omega
    have hck:(w2.setChan c 1000 (((ay q pre).1.map itVal).toArray.push (.agg #[.int .i64 2,.string ⟨cc.toArray⟩,.int .i64 0])) false ((ay q pre).1.length+1) 0 false).heap[c]?=some (.chan 1000 (((ay q pre).1.map itVal).toArray.push (.agg #[.int .i64 2,.string ⟨cc.toArray⟩,.int .i64 0])) false ((ay q pre).1.length+1) 0 false):=jE (by omega)
    refine wI ?_
    show uu _ _ _ _ [0,1,2,3] _ _
    refine am (v:=.chan (some c)) (w':=w2) rfl rfl (fun c h=>by cases h) (by simp [go_sem,d2]) ?_
    refine am (v:=.string ⟨cc.toArray⟩) (w':=w2) rfl rfl (fun c h=>by cases h) (by simp [go_sem]) ?_
    refine am (v:=.agg #[.int .i64 2,.string ⟨cc.toArray⟩,.int .i64 0]) (w':=w2) rfl rfl (fun c h=>by cases h) (by simp [go_sem]) ?_
    refine lN (c:=c) rfl rfl rfl rfl hc2 (by simp;omega) ?_
    refine hK1 _ _ ?_
    show Code.wpIn (wf (some l)) 0 Yq.prog _ _ _ (w2.setChan c 1000 (((ay q pre).1.map itVal).toArray.push (.agg #[.int .i64 2,.string ⟨cc.toArray⟩,.int .i64 0])) false ((ay q pre).1.length+1) 0 false)
    obtain ⟨w3,hw3⟩:∃w3,w2.setChan c 1000 (((ay q pre).1.map itVal).toArray.push (.agg #[.int .i64 2,.string ⟨cc.toArray⟩,.int .i64 0])) false ((ay q pre).1.length+1) 0 false=w3:=⟨_,rfl⟩
    have hs3:w3.heap.size=w2.heap.size:=by rw [<-hw3];exact s7
    have ho3:w3.os=w2.os:=by rw [<-hw3];rfl
    rw [hw3] at hbk hck ⊢
    have d3':w3.cell? ⟨w.heap.size+3,0,none⟩=some (.string ⟨(ay q pre).2.toArray⟩):=(cB (a:=⟨w.heap.size+3,0,none⟩) (hbk _ (show w.heap.size+3≠c by omega))).trans d3
    have f3':w3.frozen? ⟨w.heap.size+3,0,none⟩=false:=(World.frozen?_of_block (a:=⟨w.heap.size+3,0,none⟩) (hbk _ (show w.heap.size+3≠c by omega))).trans f3
    have HBK:Hid ((∀j,j≠c->w3.heap[j]?=w2.heap[j]?)/\w3.heap[c]?=some (.chan 1000 (((ay q pre).1.map itVal).toArray.push (.agg #[.int .i64 2,.string ⟨cc.toArray⟩,.int .i64 0])) false ((ay q pre).1.length+1) 0 false)/\oz q w (iC w q root c) c pre w2/\w3.heap.size=w2.heap.size/\w3.os=w2.os):=⟨hbk,hck,I2,hs3,ho3⟩
    clear hbk hck I2 hw3 hc2 hs3 ho3 hK1 K1
    gi_wp2
    rw [HQ.out]
    obtain ⟨hbk,hck,I2,hs3,ho3⟩:=HBK.out
    have hot:∀j,j≠w.heap.size+3->(w3.setCell ⟨w.heap.size+3,0,none⟩ (.string ⟨cc.toArray⟩)).heap[j]?=w3.heap[j]?:=fun j hj=>Below.heap_setCell _ _ _ _ hj
    have hsz4:(w3.setCell ⟨w.heap.size+3,0,none⟩ (.string ⟨cc.toArray⟩)).heap.size=w2.heap.size:=by simp [hs3]
    have hos4:(w3.setCell ⟨w.heap.size+3,0,none⟩ (.string ⟨cc.toArray⟩)).os=w2.os:=((Below.refl 0 w3).setCell (p:=⟨w.heap.size+3,0,none⟩) (Nat.zero_le _) _).os.trans ho3
    have hb12:=HW1.out _ _ hb1 hb2
    refine ⟨rfl,⟨by rw [hsz4];exact hb12.size,hos4.trans hb12.os,fun b hb hbc hbt=>?_⟩,hos4.trans I2.os,by rw [hsz4];exact I2.size,fun b hb hbc hbt=>?_,?_,?_⟩
    ·rw [hot b hbt,hbk b hbc]
     exact hb12.block b hb
    ·rw [hot b hbt,hbk b hbc]
     exact I2.block b hb hbc hbt
    ·rw [HE1.out]
     have h3:=(hbk _ (show w.heap.size+3≠c by omega)).trans I2.told
     obtain ⟨h1,h2⟩:=eS h3
     show (w3.heap.modify (w.heap.size+3) _)[w.heap.size+3]?=_
     rw [eG (by rw [Array.size_modify];exact h1),Array.getElem_modify_self,h2]
     rfl
    ·rw [hot c (by omega),hck,HE1.out]
     simp [itVal]
end
theorem xc (n:Nat):∀ (f:List UInt8->List Ver)(bs:List UInt8),∀x∈cM n f bs,bs <+:x.1/\x.1.length<bs.length+n:=by
 induction n with
 |zero=>intro f bs x hx;simp [cM] at hx
 |succ n ih=>
  intro f bs x hx
  simp only [cM,List.mem_append,List.mem_flatMap] at hx
  rcases hx with hx|⟨b,-,hx⟩
  ·split at hx
   ·simp at hx
   ·simp at hx;subst hx;exact ⟨List.prefix_refl _,by simp⟩
  ·obtain ⟨h1,h2⟩:=ih _ _ x hx
   exact ⟨(List.prefix_append _ _).trans h1,by simp at h2;omega⟩
theorem xd {f:List UInt8->List Ver}{p:List UInt8}{x:List UInt8×List Ver}(h:x∈cX f p):p <+:x.1/\x.1.length<=40:=by
 obtain ⟨h1,h2⟩:=xc _ _ _ x h
 have h3:=h1.length_le
 exact ⟨h1,by omega⟩
theorem zl {l:KVs}{x:List UInt8×List Ver}(h:x∈l):x.2.length<=gQ l:=by
 induction l with
 |nil=>simp at h
 |cons a r ih=>
  rcases List.mem_cons.1 h with rfl|h
  ·simp [gQ]
  ·have:=ih h
   simp [gQ] at this ⊢
   omega
theorem oz.stable {q:Qy}{w w6:World}{c:Nat}{pre:KVs}{X Y:World}(I:oz q w w6 c pre X)(hc:c<w6.heap.size)(ht:w.heap.size+3<w6.heap.size)(h:∀b,b<w6.heap.size->Y.heap[b]?=X.heap[b]?)(hs:X.heap.size<=Y.heap.size)(ho:Y.os=X.os):oz q w w6 c pre Y:=
 ⟨ho.trans I.os,Nat.le_trans I.size hs,fun b h1 h2 h3=>(h b h1).trans (I.block b h1 h2 h3),(h _ ht).trans I.told,(h _ hc).trans I.ch⟩
section
attribute [local go_sem] Oper.semAt_some oA
theorem Bo (q:Qy)(hCm:fG q)(hSk:fH q)(root:Option Addr)(f:List UInt8->List Ver)(c:Nat)(w:World)(hgl:cz w)(hT:sZ w root f)(hsum:gQ (cX f q.p.data.toList)<=1000)(hp:q.p.size<=maxLen)(hc:w.heap[c]?=some (.chan 1000 #[] false 0 0 false)):
  Calls Yq.prog 120 #[qV q.vs q.p q.d q.af,sV root,.chan (some c)] w fun e w'=>e=.returned (.tuple #[])/\((∀b,b<w.heap.size->b≠c->w'.heap[b]?=w.heap[b]?)/\w.heap.size<=w'.heap.size/\w'.os=w.os) /\
   w'.heap[c]?=some (.chan 1000 ((cT q (cX f q.p.data.toList)).map itVal).toArray false (cT q (cX f q.p.data.toList)).length 0 false):=by
 have hcw:c<w.heap.size:=(eS hc).1
 have HGL:Hid (cz w/\0≠c):=⟨hgl,fun e=>by
  obtain ⟨m,hm⟩:=hgl
  subst e
  simp [World.cell?,hc] at hm⟩
 clear hgl
 obtain ⟨total,htot⟩:∃total,cX f q.p.data.toList=total:=⟨_,rfl⟩
 have hsome:∀x∈total,x.2≠[]:=by rw [<-htot];exact jD _ _ _
 have hkey:∀x∈total,q.p.data.toList <+:x.1/\x.1.length<=40:=by rw [<-htot];exact fun x hx=>xd hx
 obtain ⟨A,hAd⟩:∃A:Nat->Prop,A=cA w:=⟨_,rfl⟩
 have hA:∀b,A b->b<w.heap.size/\b≠c:=fun b hb=>by
  rw [hAd] at hb
  refine ⟨hb.lt,fun e=>?_⟩
  subst e
  obtain ⟨o,h1,h2⟩:=hb
  rw [hc] at h1
  cases h1
  cases h2
 have hN6:ai A 41 (iC w q root c) root f:=ai.keep (fun b hb hlt=>⟨by rw [hAd];exact hb,i8 w q root c hlt⟩) 41 root f hT
 rw [htot] at hsum ⊢
 have hc6:c<(iC w q root c).heap.size:=by rw [bY];omega
 have ht6:w.heap.size+3<(iC w q root c).heap.size:=by rw [bY];omega
 have hI0:oz q w (iC w q root c) c [] (iC w q root c):=⟨rfl,lR _,fun _ _ _ _=>rfl,ja w q root c 3 (by omega),(i8 w q root c hcw).trans hc⟩
 refine (callsIn_wide (n:=0)).1 (callsIn_of_wp_marks (F:=Fence.wide) Yq.func120 rfl trivial ?_)
 refine (wpIn_wide (n:=0)).2 ?_
 generalize hQ:bodyPostM Fence.wide 0 Yq.prog Tryz.f120 _=Q
 simp only [Tryz.ntmps120,List.size_toArray,List.length_cons,List.length_nil,Nat.reduceAdd,Nat.reduceSub,Array.replicate_succ,Array.replicate_zero,List.push_toArray,List.append_toArray,List.nil_append,List.cons_append]
 have HQ:Hid (bodyPostM Fence.wide 0 Yq.prog Tryz.f120 _=Q):=hQ
 have HX:Hid (fG q/\fH q/\ai A 41 (iC w q root c) root f/\(∀b,A b->b<w.heap.size/\b≠c)/\oz q w (iC w q root c) c [] (iC w q root c)/\(∀x∈total,x.2≠[])/\(∀x∈total,q.p.data.toList <+:x.1/\x.1.length<=40)/\A=cA w):=⟨hCm,hSk,hN6,hA,hI0,hsome,hkey,hAd⟩
 clear hQ hCm hSk hN6 hA hI0 hsome hkey hT hc hAd
 unfold qV sV
 go_wp2_with (go_at_call 101;refine (Bn root q.p _).mono ?_;rintro e w6 ⟨rfl,rfl⟩)
 refine wpIn_wide.1 (show Code.wpIn (wf none) 0 Yq.prog _ (Exit.inBlock 0 Q) ⟨eZ w q root c undef undef undef undef,[]⟩ (iC w q root c) from ?_)
 obtain ⟨hCm,hSk,hN6,hA,hI0,hsome,hkey,hAd⟩:=HX.out
 have hmem:∀ (pre:KVs) x,pre++[x] <+:total->x∈total:=fun pre x h=>h.subset (by simp)
 refine wP (α:=List UInt8×List Ver) (β:=List UInt8×List Ver×Value) (encs:=fun x=>#[.string ⟨x.1.toArray⟩,x.2.2]) (gf:=122) (lb:=#[ptr (w.heap.size+4),ptr (w.heap.size+5)]) (fun x=>(x.1,x.2.1)) rfl (fun args wx=>by go_simp) (fun _=>rfl) c (w.heap.size+3) hc6 ht6
  (oz q w (iC w q root c) c) (fun pre x=>pre++[(x.1,x.2.1)] <+:total/\aY A (iC w q root c) x.2.2 x.2.1/\x.2.1≠[]) total (fun pre X Y I h1 h2 h3=>I.stable hc6 ht6 h1 h2 h3) (fun pre X I=>⟨_,I.ch,rfl⟩) hI0
  (fun x=>⟨eZ w q root c (.string ⟨x.1.toArray⟩) x.2.2 (.string ⟨x.1.toArray⟩) x.2.2,[]⟩) ?call ?assign ?body ?done
 case call=>
  intro l J W hW1 hW2 hst hsz hy hJ0
  have C:pI A (iC w q root c) ((iC w q root c).heap.size+2) (w.heap.size+3) l total J:=⟨fun b hb=>by
    obtain ⟨h1,h2⟩:=hA b hb
    rw [hAd] at hb
    obtain ⟨o,h3,h4⟩:=hb
    exact ⟨by rw [bY];omega,by omega,o,(i8 w q root c h1).trans h3,h4⟩,by omega,hst,hsz,fun pre k h hv X h1 h2 h3 h4=>hy pre (k,h,hv) X ⟨h1,h2,h3⟩ h4⟩
  exact yW C root f q.p W (w.heap.size+4) (w.heap.size+5) hN6 htot.symm (fun b hb=>hW2 b (by have:=(hA b hb).1;rw [bY];omega))
   (by rw [cB (a:=⟨w.heap.size+4,0,none⟩) (hW2 _ (by rw [bY];show w.heap.size+4<_;omega))];simp [World.cell?,ja w q root c 4 (by omega)])
   (by rw [cB (a:=⟨w.heap.size+5,0,none⟩) (hW2 _ (by rw [bY];show w.heap.size+5<_;omega))];simp [World.cell?,ja w q root c 5 (by omega)]) hp hJ0
 case assign=>
  intro l x W K hK
  obtain ⟨k,h,hv⟩:=x
  have e:(#[15,16].zip #[Value.string ⟨k.toArray⟩,hv]).foldl (fun t x=>match x with|(p,v)=>t.setIfInBounds p v) (eZ w q root c undef undef undef undef)=eZ w q root c undef undef (.string ⟨k.toArray⟩) hv:=by
   simp [eZ]
  show Code.wpIn _ _ _ _ _ ⟨(#[15,16].zip #[Value.string ⟨k.toArray⟩,hv]).foldl (fun t x=>match x with|(p,v)=>t.setIfInBounds p v) (eZ w q root c undef undef undef undef),[]⟩ _
  rw [e]
  unfold eZ
  unfold eZ at hK
  gi_wp2
  exact hK
 case body=>
  rintro l pre ⟨k,h,hv⟩ W ⟨h1,h2,h3⟩ I
  have hm:=hmem pre (k,h) h1
  exact zk q hCm hSk root c w HGL.out.1 HGL.out.2 hcw A hA l pre k h hv W (by have:=(hkey _ hm).2;simp only at this;omega) (hkey _ hm).1 h2 h3 (by have:=zl hm;simp only at this;omega) (by have h5:(ay q (pre++[(k,h)])).1.length<=(cT q total).length:=uK q total _ hsome h1;have:=ox q total hsome;omega) I
 case done=>
  intro D W hD I hK
  have hQ:=HQ.out
  subst hQ
  refine ⟨by simp,.inl ⟨_,_,rfl,run_takeDeferred hK,?_⟩⟩
  have hne:∀b,b<(iC w q root c).heap.size->(W.putObj D (.deferred none)).heap[b]?=W.heap[b]?:=fun b hb=>World.putObj_heap_other (by omega)
  refine ⟨.tuple #[],by simp [results,Tryz.results120,go_sem],rfl,⟨fun b hb hbc=>?_,?_,?_⟩,?_⟩
  ·rw [hne b (by rw [bY];omega),I.block b (by rw [bY];omega) hbc (by omega),i8 w q root c hb]
  ·have:=I.size
   rw [bY] at this
   simp
   omega
  ·exact I.os
  ·rw [hne c hc6]
   exact I.ch
end
end
section
open Go.RowKit
theorem zm {A:Nat->Prop}{w w1:World}(h:w.heap.size<=w1.heap.size):∀b,Grow A w1 b->Grow A w b:=by
 rintro b (⟨h1,h2⟩|h1)
 ·by_cases hlt:b<w.heap.size
  ·exact Or.inl ⟨h1,hlt⟩
  ·exact Or.inr (by omega)
 ·exact Or.inr (by omega)
theorem az.mono {A A':Nat->Prop}{w:World}{k0:Nat}{st:St}(S:az A w k0 st)(h:∀b,A b->A' b)(ha:∀b,A' b->b≠k0):az A' w k0 st:=by
 obtain ⟨p,c0,hN⟩:=S.tree
 exact ⟨ha,⟨p,c0,ai.keep (fun b h1 _=>⟨h b h1,rfl⟩) _ _ _ hN⟩,S.count,S.last,S.frozen⟩
def cO (A:Nat->Prop)(w:World)(k0:Nat)(st':St)(v:Value)(e:Ending)(w':World):Prop:=
 e=.returned v/\az (Grow A w) w' k0 st'/\cn w w' k0
theorem bf {A:Nat->Prop}{w w':World}{k0:Nat}{st:St}{v:Value}(S:az A w k0 st)(hb:Below w.heap.size w w'):cO A w k0 st v (.returned v) w':=
 ⟨rfl,S.grow.on hb,dJ S.lt hb⟩
def ni (st:St)(key body:ByteArray):St×Int×Int:=
 if aX key=false then (st,0,2) else if 100<body.size then (st,0,3) else if lZ st then (st,0,4) else (dj st key body false,st.last+1,0)
def fT (st:St)(key:ByteArray):St×Int×Int:=
 if aX key=false then (st,0,2) else if lZ st then (st,0,4) else (dj st key ⟨#[]⟩ true,st.last+1,0)
theorem zn (A:Nat->Prop)(k0:Nat)(st:St)(s:Nat)(key body:ByteArray)(w:World)(hk:key.size<=maxLen)(hbd:body.size<=maxLen)(S:az A w k0 st)(hI:Inv st s)(hs:s<2199023255552):
  Calls Yq.prog 35 #[.pointer (some ⟨k0,0,none⟩),.string key,.string body] w (cO A w k0 (ni st key body).1 (.tuple #[.int .i64 (ni st key body).2.1,.int .i64 (ni st key body).2.2])):=by
 have HIK:=i6 key w hk
 have HS:Hid (az A w k0 st):=S
 unfold maxLen at hbd
 cases hkey:aX key with
 |false=>
  rw [hkey] at HIK
  have e:ni st key body=(st,0,2):=by simp [ni,hkey]
  rw [e]
  clear hkey S e
  go_enter Yq.func35,Tryz.ntmps35
  go_wp2_with (go_at_call 59;refine HIK.mono ?_;rintro e w' ⟨rfl,rfl⟩)
  go_ret2
  exact bf HS.out (Below.refl _ _)
 |true=>
  rw [hkey] at HIK
  have hsz:=fq hkey
  by_cases h100:100<body.size
  ·have e:ni st key body=(st,0,3):=by simp [ni,hkey,h100]
   rw [e]
   clear hkey S e
   go_enter Yq.func35,Tryz.ntmps35
   go_wp2_with (go_at_call 59;refine HIK.mono ?_;rintro e w' ⟨rfl,rfl⟩)
   go_ret2
   exact bf HS.out (Below.refl _ _)
  ·have HIF:=nd k0 st w S.count S.last hI.last0 (by have:=hI.lastS;omega)
   cases hfull:lZ st with
   |true=>
    rw [hfull] at HIF
    have e:ni st key body=(st,0,4):=by simp [ni,hkey,h100,hfull]
    rw [e]
    clear hkey S e hfull
    go_enter Yq.func35,Tryz.ntmps35
    go_wp2_with (first|(go_at_call 59;refine HIK.mono ?_;rintro e w' ⟨rfl,rfl⟩)|(go_at_call 60;refine HIF.mono ?_;rintro e w' ⟨rfl,rfl⟩))
    go_ret2
    exact bf HS.out (Below.refl _ _)
   |false=>
    rw [hfull] at HIF
    have e:ni st key body=(dj st key body false,st.last+1,0):=by simp [ni,hkey,h100,hfull]
    rw [e]
    clear hkey S e hfull
    go_enter Yq.func35,Tryz.ntmps35
    go_wp2_with (first|(go_at_call 59;refine HIK.mono ?_;rintro e w' ⟨rfl,rfl⟩)|(go_at_call 60;refine HIF.mono ?_;rintro e w' ⟨rfl,rfl⟩))
    refine (uI body w (by omega)).mono ?_
    rintro e w1 ⟨rfl,hb1⟩
    have HA:=sW A k0 st s key 0 body false w1 hsz.1 (HS.out.on hb1) hI hs
    go_wp2_with (go_at_call 61;refine HA.mono ?_;rintro e w2 ⟨rfl,S2,hg2⟩)
    go_ret2
    exact ⟨rfl,S2.mono (zm hb1.size) (fu HS.out.avoid HS.out.lt),ou (dJ HS.out.lt hb1) hg2⟩
theorem xe (A:Nat->Prop)(k0:Nat)(st:St)(s:Nat)(key:ByteArray)(w:World)(hk:key.size<=maxLen)(S:az A w k0 st)(hI:Inv st s)(hs:s<2199023255552):
  Calls Yq.prog 38 #[.pointer (some ⟨k0,0,none⟩),.string key] w (cO A w k0 (fT st key).1 (.tuple #[.int .i64 (fT st key).2.1,.int .i64 (fT st key).2.2])):=by
 have HIK:=i6 key w hk
 have HS:Hid (az A w k0 st):=S
 cases hkey:aX key with
 |false=>
  rw [hkey] at HIK
  have e:fT st key=(st,0,2):=by simp [fT,hkey]
  rw [e]
  clear hkey S e
  go_enter Yq.func38,Tryz.ntmps38
  go_wp2_with (go_at_call 59;refine HIK.mono ?_;rintro e w' ⟨rfl,rfl⟩)
  go_ret2
  exact bf HS.out (Below.refl _ _)
 |true=>
  rw [hkey] at HIK
  have hsz:=fq hkey
  have HIF:=nd k0 st w S.count S.last hI.last0 (by have:=hI.lastS;omega)
  cases hfull:lZ st with
  |true=>
   rw [hfull] at HIF
   have e:fT st key=(st,0,4):=by simp [fT,hkey,hfull]
   rw [e]
   clear hkey S e hfull
   go_enter Yq.func38,Tryz.ntmps38
   go_wp2_with (first|(go_at_call 59;refine HIK.mono ?_;rintro e w' ⟨rfl,rfl⟩)|(go_at_call 60;refine HIF.mono ?_;rintro e w' ⟨rfl,rfl⟩))
   go_ret2
   exact bf HS.out (Below.refl _ _)
  |false=>
   rw [hfull] at HIF
   have e:fT st key=(dj st key ⟨#[]⟩ true,st.last+1,0):=by simp [fT,hkey,hfull]
   rw [e]
   clear hkey S e hfull
   have HA:=sW A k0 st s key 0 ⟨#[]⟩ true w hsz.1 HS.out hI hs
   go_enter Yq.func38,Tryz.ntmps38
   go_wp2_with (first|(go_at_call 59;refine HIK.mono ?_;rintro e w' ⟨rfl,rfl⟩)|(go_at_call 60;refine HIF.mono ?_;rintro e w' ⟨rfl,rfl⟩)|(go_at_call 61;refine HA.mono ?_;rintro e w2 ⟨rfl,S2,hg2⟩))
   go_ret2
   exact ⟨rfl,S2,hg2⟩
def dF (st:St)(key:ByteArray)(n:Int):St×Int:=
 if aX key=false then (st,2)
 else match dI (st.f key.data.toList) n with
  |none=>(st,5)
  |some r=>(cY st key r,0)
theorem uM (A:Nat->Prop)(k0:Nat)(st:St)(s:Nat)(key:ByteArray)(n:Int)(w:World)(hk:key.size<=maxLen)(S:az A w k0 st)(hI:Inv st s)(hs:s<2199023255552):
  Calls Yq.prog 39 #[.pointer (some ⟨k0,0,none⟩),.string key,.int .i64 n] w (cO A w k0 (dF st key n).1 (.int .i64 (dF st key n).2)):=by
 have HF:=pW A k0 st s key n w hk S hI (by omega)
 have HS:Hid (az A w k0 st):=S
 have hk0:=S.lt
 have l2:=hI.countL
 have l3:=hI.countU
 have hle:=hI.len key.data.toList
 clear S
 go_enter Yq.func39,Tryz.ntmps39
 go_wp2_with fail
 refine HF.mono ?_
 rintro e w1 ⟨hb1,hcase⟩
 rcases hcase with ⟨hkey,rfl⟩|⟨hkey,hpl,rfl⟩|⟨hkey,r,ha,hc,hpl,hr,hh,rfl⟩
 ·have HR:Hid (dF st key n=(st,2)):=show dF st key n=(st,2) by simp [dF,hkey]
  have HB:Hid (Below w.heap.size w w1):=hb1
  clear hkey HF hb1
  go_wp2
  go_ret
  rw [HR.out]
  exact bf HS.out HB.out
 ·have HR:Hid (dF st key n=(st,5)):=show dF st key n=(st,5) by simp [dF,hkey,hpl]
  have HB:Hid (Below w.heap.size w w1):=hb1
  clear hkey HF hb1 hpl
  go_wp2
  go_ret
  rw [HR.out]
  exact bf HS.out HB.out
 ·have HR:Hid (dF st key n=(cY st key r,0)):=show dF st key n=(cY st key r,0) by simp [dF,hkey,hpl]
  have hsz:=fq hkey
  obtain ⟨p,C,hN⟩:=HS.out.cells
  have C1:=C.on hb1
  have c1:=C1.c1
  have f1:=C1.fz 1
  have c0:=C1.c0
  obtain ⟨W2,hW2⟩:∃W2,W2=w1.setCell ⟨k0,1,none⟩ (.int .i64 (st.count-1)):=⟨_,rfl⟩
  have C2:bH W2 k0 (.pointer p) (.int .i64 (st.count-1)) (.int .i64 st.last):=by rw [hW2];exact C1.set1 _
  have hg2:cn w W2 k0:=by rw [hW2];exact ng (dJ hk0 hb1) _ _
  have hh2:aY (fun b=>A b\/w.heap.size<=b) W2 (.slice ha (st.f key.data.toList).length hc) (st.f key.data.toList):=
   bE.keep hh (fun b h1 h2=>⟨Or.inl h1,by rw [hW2];exact Below.heap_setCell _ _ _ _ (HS.out.avoid b h1)⟩)
  have HN2:∀w3:World,W2.grownBy w3 (some k0)->ai (fun b=>(A b/\b<w.heap.size)\/w.heap.size<=b) 41 w3 p st.f:=fun w3 hg3=>
   ai.keep (fun b h1 h2=>⟨Or.inl ⟨h1,h2⟩,(bO hg2.g hg3).block b h2 (by intro e;cases e;exact HS.out.avoid k0 h1 rfl)⟩) 41 p st.f hN
  have hfne:st.f key.data.toList≠[]:=by intro e;rw [e] at hr;simp at hr
  have HW2:Hid (W2=w1.setCell ⟨k0,1,none⟩ (.int .i64 (st.count-1))):=hW2
  clear hkey HF hpl C hN C1
  by_cases hone:(st.f key.data.toList).length=1
  ·have hr0:r=0:=by omega
   have HD:Hid (cY st key r=⟨upd st.f key.data.toList [],st.count-1,st.last⟩):=show cY st key r=_ by
    unfold cY;rw [hr0,List.take_zero,List.nil_append,List.drop_eq_nil_of_le (by omega)]
   have HT:Hid (Calls Yq.prog 66 #[.agg #[.pointer p],.string key] W2 fun e w'=>∃q,e=.returned (.agg #[.pointer q])/\Below W2.heap.size W2 w'/\ai (Grow (fun b=>(A b/\b<w.heap.size)\/w.heap.size<=b) W2) 41 w' q (upd st.f key.data.toList [])):=
    pU _ 41 p st.f key W2 (HN2 W2 (World.grownBy.refl _ _)) hsz.1 hsz.2 hfne
   have HC:Hid (bH W2 k0 (.pointer p) (.int .i64 (st.count-1)) (.int .i64 st.last)/\cn w W2 k0):=⟨C2,hg2⟩
   rw [hone]
   clear hh hh2 HN2 hone hr0 C2 hg2 hfne hW2 hr hle hb1
   go_wp2_with fail
   rw [<-HW2.out]
   refine HT.out.mono ?_
   rintro e w4 ⟨q,rfl,hb4,hN4⟩
   have D4:=HC.out.1.on hb4
   have r1:=D4.c0
   have r2:=D4.fz 0
   have HX:Hid (az (Grow A w) (w4.setCell ⟨k0,0,none⟩ (.pointer q)) k0 (cY st key r)/\cn w (w4.setCell ⟨k0,0,none⟩ (.pointer q)) k0):=by
    refine ⟨?_,ng (eO HC.out.2 hb4) _ _⟩
    rw [HD.out]
    refine ft (p:=q) ?_ ?_ (fu HS.out.avoid hk0)
    ·exact D4.set0 _
    ·exact ma HC.out.2.g.size HS.out.avoid hk0 hN4 _ _
   clear D4 hN4 hb4 HT HC
   go_wp2
   go_ret
   rw [HR.out]
   exact ⟨rfl,HX.out.1,HX.out.2⟩
  ·have HD:Hid (cY st key r=⟨upd st.f key.data.toList ((st.f key.data.toList).take r++(st.f key.data.toList).drop (r+1)),st.count-1,st.last⟩):=rfl
   have HW:Hid (Calls Yq.prog 68 #[.slice ha (st.f key.data.toList).length hc,.int .i64 r] W2.drew fun e w'=>∃va vl vc,e=.returned (.slice va vl vc)/\aY (fun b=>W2.heap.size<=b) w' (.slice va vl vc) ((st.f key.data.toList).take r++(st.f key.data.toList).drop (r+1))/\Below W2.heap.size W2 w'):=by
    refine (pV _ _ _ r W2.drew (bE.keep hh2 (fun b h1 h2=>⟨h1,rfl⟩)) hr (by omega)).mono ?_
    rintro e w' ⟨va,vl,vc,h1,h2,h3⟩
    exact ⟨va,vl,vc,h1,h2,(Below.refl _ W2).drew.trans h3⟩
   have hne2:(st.f key.data.toList).take r++(st.f key.data.toList).drop (r+1)≠[]:=by
    intro e
    have:=congrArg List.length e
    rw [List.length_append,List.length_take,List.length_drop,List.length_nil] at this
    omega
   have HT:Hid (∀ (w3:World) (va:Option Addr) (vl vc:Nat),Below W2.heap.size W2 w3->aY (fun b=>W2.heap.size<=b) w3 (.slice va vl vc) ((st.f key.data.toList).take r++(st.f key.data.toList).drop (r+1)) ->
     Calls Yq.prog 67 #[.agg #[.pointer p],.string key,.slice va vl vc] w3 fun e w'=>∃q,e=.returned (.agg #[.pointer q])/\Below w3.heap.size w3 w'/\ai (Grow (fun b=>(A b/\b<w.heap.size)\/w.heap.size<=b) w3) 41 w' q (upd st.f key.data.toList ((st.f key.data.toList).take r++(st.f key.data.toList).drop (r+1)))):=fun w3 va vl vc hb3 hh3=>by
    refine pT _ 41 p st.f key _ _ w3 (HN2 w3 (di hb3 _)) hsz.1 hsz.2 (bE.keep hh3 (fun b h1 h2=>⟨Or.inr ?_,rfl⟩)) hne2
    have:=hg2.g.size
    omega
   have HC:Hid (bH W2 k0 (.pointer p) (.int .i64 (st.count-1)) (.int .i64 st.last)/\cn w W2 k0):=⟨C2,hg2⟩
   have a0:=C2.c0
   have hone':(((st.f key.data.toList).length:Int)==1)=false:=by simp;omega
   generalize (st.f key.data.toList).take r++(st.f key.data.toList).drop (r+1)=hnew at *
   clear hh hh2 HN2 C2 hg2 hfne hW2 hb1 hne2
   generalize (st.f key.data.toList).length=m at *
   go_wp2_with fail
   rw [<-HW2.out]
   go_region_with (first
    |(go_at_call 68;refine HW.out.mono ?_;rintro e w3 ⟨va,vl,vc,rfl,hh3,hb3⟩;have b0:=ak hb3 a0)
    |(go_at_call 67;refine (HT.out _ va vl vc hb3 hh3).mono ?_;rintro e w4 ⟨q,rfl,hb4,hN4⟩;have E4:=(HC.out.1.on hb3).on hb4;have r1:=E4.c0;have r2:=E4.fz 0))
   all_goals
    go_wp2
    go_ret
    rw [HR.out,HD.out]
    refine ⟨rfl,?_,?_⟩
    ·refine ft (p:=q) ?_ ?_ (fu HS.out.avoid hk0)
     ·exact E4.set0 _
     ·exact ma (by have:=HC.out.2.g.size;have:=hb3.size;omega) HS.out.avoid hk0 hN4 _ _
    ·exact ng (eO (eO HC.out.2 hb3) hb4) _ _
end
section
open Go
open Go.RowKit
structure mF (st:St):Prop where
 cnt:(tot 41 st.f:Int)=st.count
 le:st.count<=200
 long:∀k,40<k.length->st.f k=[]
theorem qk {key:ByteArray}(h:aX key=true):key.data.toList.length<=40:=by
 have:=of_decide_eq_true h
 have e:key.data.toList.length=key.size:=by simp
 omega
theorem mF.add {st:St}(h:mF st)(key body:ByteArray)(mark:Bool)(hk:aX key=true)(hc:¬200<=st.count):mF (dj st key body mark):=by
 have hl:=qk hk
 have e:=wX 41 st.f key.data.toList (st.f key.data.toList++[⟨st.last+1,body,mark⟩]) (by omega)
 rw [List.length_append,List.length_singleton] at e
 have:=h.cnt
 refine ⟨?_,?_,fun k hk=>?_⟩
 ·simp only [dj];omega
 ·simp only [dj];omega
 ·simp only [dj,upd]
  rw [if_neg (by intro e;subst e;omega)]
  exact h.long k hk
theorem mF.drop {st:St}(h:mF st)(key:ByteArray)(r:Nat)(hk:aX key=true)(hr:r<(st.f key.data.toList).length):mF (cY st key r):=by
 have hl:=qk hk
 have e:=wX 41 st.f key.data.toList ((st.f key.data.toList).take r++(st.f key.data.toList).drop (r+1)) (by omega)
 rw [List.length_append,List.length_take,List.length_drop,Nat.min_eq_left (by omega)] at e
 have:=h.cnt
 have:=h.le
 refine ⟨?_,?_,fun k hk=>?_⟩
 ·simp only [cY];omega
 ·simp only [cY];omega
 ·simp only [cY,upd]
  rw [if_neg (by intro e;subst e;omega)]
  exact h.long k hk
theorem mF.step {st:St}(h:mF st)(o:OpD):mF (bF st o).1:=by
  unfold bF
  simp only
  repeat' split
  all_goals first
    |exact h
    |exact h.add _ _ _ (by simpa using ‹¬aX o.key=false›) (by assumption)
    |(rename_i r hr;exact h.drop _ _ (by simpa using ‹¬aX o.key=false›) (List.findIdx?_eq_some_iff_getElem.1 hr).1)
theorem Cz:mF ⟨fun _=>[],0,0⟩:=⟨by rw [Bm];rfl,by simp,fun _ _=>rfl⟩
end
section
open Go
open Go.Conc Go.ConcX Go.ConcX.Gen Go.RowKit
theorem oB (h:List Ver):∀v∈aD h,Good v:=fun v hv=>by
 simp only [aD,List.mem_flatMap] at hv
 obtain ⟨x,-,hv⟩:=hv
 simp at hv
 rcases hv with rfl|rfl|rfl
 ·exact .int _ _
 ·exact .string _
 ·exact .bool _
theorem oC (ks:List (UInt8×Option Addr)):∀v∈aw ks,Good v:=fun v hv=>by
 simp only [aw,List.mem_flatMap] at hv
 obtain ⟨x,-,hv⟩:=hv
 simp at hv
 rcases hv with rfl|rfl
 ·exact .int _ _
 ·exact .pointer _
section
variable {ρ:Ren} {V W V':World}
theorem xh {A:Nat->Prop}{v:Value}{n:Nat}{xs:List Value}(hk:∀a y i v,ρ a y->V.cell? ⟨a,i,none⟩=some v->Good v->V'.cell? ⟨a,i,none⟩=some v)(hg:∀v∈xs,Good v)(hr:∃v',RV ρ v v')(h:bE A V v n xs):bE (fun _=>True) V' v n xs:=by
 obtain ⟨a,cap,rfl,ha0,hx⟩:=h
 refine ⟨a,cap,rfl,ha0,fun hne=>?_⟩
 obtain ⟨g,rfl,hA,hgl,hc⟩:=hx hne
 obtain ⟨v',hr⟩:=hr
 obtain ⟨y,hy⟩:∃y,ρ g y:=by
  cases hr with
  |slice n c h=>cases h with|some h=>exact ⟨_,h.1⟩
 have hc2:∀j,j<xs.length->V'.cell? ⟨g,j,none⟩=xs[j]?:=fun j hj=>by
  have h1:=(hc j hj).trans (List.getElem?_eq_getElem hj)
  rw [List.getElem?_eq_getElem hj]
  exact hk g y j _ hy h1 (hg _ (List.getElem_mem hj))
 have h0:0<xs.length:=List.length_pos_iff.2 hne
 exact ⟨g,rfl,trivial,World.block_lt_of_cell? V' _ ((hc2 0 h0).trans (List.getElem?_eq_getElem h0)),hc2⟩
theorem zo {A:Nat->Prop}(S:bz ρ V W)(hk:∀a y i v,ρ a y->V.cell? ⟨a,i,none⟩=some v->Good v->V'.cell? ⟨a,i,none⟩=some v):∀ (n:Nat)(p:Option Addr)(f:List UInt8->List Ver),(∃r,RAo ρ p r)->ai A n V p f->ai (fun _=>True) n V' p f:=by
 intro n
 induction n with
 |zero=>intro p f _ h;exact h
 |succ n ih=>
  intro p f hr h
  rcases h with h|⟨g,hv,kv,ks,rfl,hA,c0,c1,c2,hh,hks,hs,hch,hno,hnn⟩
  ·exact Or.inl h
  ·obtain ⟨r,hr⟩:=hr
   obtain ⟨y,hy⟩:∃y,ρ g y:=by cases hr with|some h=>exact ⟨_,h.1⟩
   have hrel:∀ (b y j:Nat) (v:Value),ρ b y->V.cell? ⟨b,j,none⟩=some v->∃v',RV ρ v v':=fun b y j v hb hc=>by
    rcases S.cell (a:=⟨b,j,none⟩) (a':=⟨y,j,none⟩) ⟨hb,rfl,rfl⟩ with h|⟨v1,v2,h1,h2,h3⟩
    ·rw [h] at hc;cases hc
    ·rw [h1] at hc;cases hc;exact ⟨_,h3⟩
   have gh:Good hv:=by obtain ⟨a,cap,rfl,-⟩:=hh;exact .slice _ _ _
   have gkv:Good kv:=by obtain ⟨a,cap,rfl,-⟩:=hks;exact .slice _ _ _
   have rk:=hrel g y 2 kv hy c2
   refine Or.inr ⟨g,hv,kv,ks,rfl,trivial,hk g y 0 _ hy c0 (.bool _),hk g y 1 _ hy c1 gh,hk g y 2 _ hy c2 gkv,xh hk (oB _) (hrel g y 1 hv hy c1) hh,xh hk (oC _) rk hks,hs,fun c q hq=>ih q _ ?_ (hch c q hq),hno,hnn⟩
   have hne:ks≠[]:=by intro e;rw [e] at hq;simp at hq
   obtain ⟨gk,cap,rfl,-,-,hce,-⟩:=hks.cells hne
   obtain ⟨i,hi,e⟩:=List.getElem_of_mem hq
   obtain ⟨yk,hyk⟩:∃yk,ρ gk yk:=by
    obtain ⟨v',hv'⟩:=rk
    cases hv' with|slice n c h=>cases h with|some h=>exact ⟨_,h.1⟩
   have h2:=(hce i hi).2
   rw [e] at h2
   obtain ⟨v',hv'⟩:=hrel gk yk _ _ hyk h2
   cases hv' with|pointer h=>exact ⟨_,h⟩
theorem nj {A:Nat->Prop}(hk:∀b j,b<V.heap.size->V'.cell? ⟨b,j,none⟩=V.cell? ⟨b,j,none⟩):∀ (n:Nat)(p:Option Addr)(f:List UInt8->List Ver),ai A n V p f->ai (fun _=>True) n V' p f:=by
 have hrow:∀v n xs,bE A V v n xs->bE (fun _=>True) V' v n xs:=fun v n xs h=>by
  obtain ⟨a,cap,rfl,ha0,hx⟩:=h
  refine ⟨a,cap,rfl,ha0,fun hne=>?_⟩
  obtain ⟨g,rfl,hA,hgl,hc⟩:=hx hne
  have hc2:∀j,j<xs.length->V'.cell? ⟨g,j,none⟩=xs[j]?:=fun j hj=>(hk g j hgl).trans (hc j hj)
  have h0:0<xs.length:=List.length_pos_iff.2 hne
  exact ⟨g,rfl,trivial,World.block_lt_of_cell? V' _ ((hc2 0 h0).trans (List.getElem?_eq_getElem h0)),hc2⟩
 intro n
 induction n with
 |zero=>intro p f h;exact h
 |succ n ih=>
  intro p f h
  rcases h with h|⟨g,hv,kv,ks,rfl,hA,c0,c1,c2,hh,hks,hs,hch,hno⟩
  ·exact Or.inl h
  ·have hg:=World.block_lt_of_cell? V _ c0
   exact Or.inr ⟨g,hv,kv,ks,rfl,trivial,(hk g 0 hg).trans c0,(hk g 1 hg).trans c1,(hk g 2 hg).trans c2,hrow _ _ _ hh,hrow _ _ _ hks,hs,fun c q hq=>ih q _ (hch c q hq),hno⟩
end
def lQy (l:Lst):Qy:=⟨l.vs,l.p,l.d,l.af⟩
def j3 (l:Lst)(f:List UInt8->List Ver):List ItD:=cT (lQy l) (cX f l.p.data.toList)
structure Cd (Qok:Qy->Prop)(l:Lst)(f:List UInt8->List Ver)(w:World):Prop where
 tree:sZ w l.root f
 ok:Qok (lQy l)
 sum:gQ (cX f l.p.data.toList)<=1000
 pre:l.p.size<=maxLen
 glob:cz w
def BH (Qok:Qy->Prop)(l:Lst)(L:List Value)(w:World):Prop:=∃f,Cd Qok l f w/\L=(j3 l f).map itVal
theorem iD:0<Tryz.prog.globals.size:=by
 have:Tryz.prog.globals.size=4:=by kernel_rfl
 omega
theorem xi (Qok:Qy->Prop)(hQ:∀q,Qok q->fG q/\fH q):wl (BH Qok) where
 low:=fun ρ V W V' l L S hr hgl hk hsz ⟨f,h,e⟩=>⟨f,⟨.of (zo S hk 41 l.root f hr h.tree),h.ok,h.sum,h.pre,by
  obtain ⟨m,hm⟩:=h.glob
  obtain ⟨y,hy⟩:=hgl 0 iD
  exact ⟨m,hk 0 y 0 _ hy hm (.int _ _)⟩⟩,e⟩
 on:=fun V V' l L hk hsz ⟨f,h,e⟩=>⟨f,⟨.of (nj (fun b j hb=>hk ⟨b,j,none⟩ hb) 41 l.root f h.tree),h.ok,h.sum,h.pre,by
  obtain ⟨m,hm⟩:=h.glob
  exact ⟨m,(hk _ (World.block_lt_of_cell? V _ hm)).trans hm⟩⟩,e⟩
 item:=fun l L V ⟨f,h,e⟩ v hv=>by
  rw [e] at hv
  obtain ⟨i,-,rfl⟩:=List.mem_map.1 hv
  exact ⟨_,_,_,rfl⟩
 len:=fun l L V ⟨f,h,e⟩=>by
  rw [e,List.length_map]
  exact Nat.le_trans (ox (lQy l) _ (jD _ _ _)) h.sum
 send:=fun l L w c ⟨f,h,e⟩ hc=>by
  obtain ⟨h1,h2⟩:=hQ _ h.ok
  have:=Bo (lQy l) h1 h2 l.root f c w h.glob h.tree h.sum h.pre hc
  rw [e,List.length_map]
  exact this
theorem Bp (Qok:Qy->Prop):∀l L V u,Ce V u->BH Qok l L u->BH Qok l L V:=fun l _L _V _u hc ⟨f,h,e⟩=>
 ⟨f,⟨.of (nj (fun _b _j _=>(hc.2 _).symm) 41 l.root f h.tree),h.ok,h.sum,h.pre,by
  obtain ⟨m,hm⟩:=h.glob
  exact ⟨m,(hc.2 _).symm.trans hm⟩⟩,e⟩
end
end Go.Proofs.YtnapepbdohidgaaGreatDoorQ
