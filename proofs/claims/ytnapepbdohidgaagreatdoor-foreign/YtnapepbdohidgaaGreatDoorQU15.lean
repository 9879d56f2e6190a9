/- A part. -/
import Derived.Test.YtnapepbdohidgaaGreatDoorQU14
import Derived.Sort.CutIn
import Derived.Lib.ItoaNum
import Derived.Shelf.LaysM
import Derived.Shelf.Strconv.Itoa3
import Derived.Conc.LeavingOf
import Derived.Lib.LaidTab
set_option maxHeartbeats 4000000
set_option maxRecDepth 100000
open Go renaming World->Wz,Value->Wq,Program->Wx,TypeId->Wk,Addr->Ww,undef->Wy
namespace Go.Proofs.Qw
section
open Go
open Go.Conc Go.ConcX Go.ConcX.Gen Go.RowKit
def cI (w:Wz):Prop:=∃m,w.cell? ⟨0,0,none⟩=some (.int .i64 m)
theorem cI.on {w w':Wz}(h:cI w)(hb:∀b,b<w.heap.size->w'.heap[b]?=w.heap[b]?):cI w':=by
 obtain ⟨m,hm⟩:=h;exact ⟨m,(cB (a:=⟨0,0,none⟩) (hb 0 (bC w _ hm))).trans hm⟩
def gH (q:Qy):Prop:=∀ (k:List UInt8)(w:Wz),cI w->k.length<=1000->q.p.data.toList <+:k->Calls Yq.prog 139 #[qV q.vs q.p q.d q.af,.string ⟨k.toArray⟩] w fun e w'=>e=.returned (.tuple #[.string ⟨((gG q k).getD []).toArray⟩,.bool (gG q k).isSome])/\Below w.heap.size w w'
def gI (q:Qy):Prop:=∀ (A:Nat->Prop)(k:List UInt8)(hv:Wq)(h:List Ver)(c:Nat)(buf:List Wq)(w:Wz),aT A w hv h->h≠[]->h.length<=1000->w.heap[c]?=some (.chan 1000 buf.toArray false buf.length 0 false)->buf.length+(dW q.vs k h).length<=1000 ->
 Calls Yq.prog 140 #[qV q.vs q.p q.d q.af,.string ⟨k.toArray⟩,hv,.chan (some c)] w fun e w'=>e=.returned (.tuple #[])/\(∀b,b<w.heap.size->b≠c->w'.heap[b]?=w.heap[b]?)/\w.heap.size<=w'.heap.size/\w'.os=w.os /\
  w'.heap[c]?=some (.chan 1000 (buf++(dW q.vs k h).map itVal).toArray false (buf.length+(dW q.vs k h).length) 0 false)
structure ql (q:Qy)(w w6:Wz)(c:Nat)(pre:KVs)(W:Wz):Prop where
 os:W.os=w.os
 size:w6.heap.size<=W.heap.size
 block:∀b,b<w6.heap.size->b≠c->b≠w.heap.size+3->W.heap[b]?=w6.heap[b]?
 told:W.heap[w.heap.size+3]?=some (.cells #[.string ⟨(az q pre).2.toArray⟩] 9)
 ch:W.heap[c]?=some (.chan 1000 ((az q pre).1.map itVal).toArray false (az q pre).1.length 0 false)
theorem kP {w:Wz}{c k s q:Nat}{b:Array Wq}{x y:Bool}(h:c<w.heap.size):(w.setChan c k b x s q y).heap[c]?=some (.chan k b x s q y):=by
 unfold World.setChan;exact sS h
theorem iQ {w:Wz}{c k s q j:Nat}{b:Array Wq}{x y:Bool}(h:j≠c):(w.setChan c k b x s q y).heap[j]?=w.heap[j]?:=by
 unfold World.setChan;exact sN (by omega)
theorem wg {w:Wz}{c k s q:Nat}{b:Array Wq}{x y:Bool}:(w.setChan c k b x s q y).heap.size=w.heap.size:=by simp [World.setChan]
theorem uE (q:Qy)(hd:q.d=⟨#[]⟩):gH q:=by
 intro k w _ _ _;obtain ⟨vs,p,d,af⟩:=q;simp only at hd;subst hd;exact uD vs p af ⟨k.toArray⟩ w
theorem sp (q:Qy)(hvs:q.vs=false):gI q:=by
 intro A k hv h c buf w hh hne hl hc hroom;obtain ⟨vs,p,d,af⟩:=q;simp only at hvs;subst hvs;have hcl:c<w.heap.size:=(eS hc).1;simp only [dW,Bool.false_eq_true,if_false,lS,List.map_cons,List.map_nil] at hroom ⊢;rw [wd hne];obtain ⟨W,hW⟩:∃W,W=((w.alloc (.cells #[.bool false,.string p,.string d,.string af] 93)).alloc (.cells #[.string ⟨k.toArray⟩] 9)).alloc (.cells #[.chan (some c)] 210):=⟨_,rfl⟩;have hb:Below w.heap.size w W:=by rw [hW];exact (((bR _ _).alloc (lR _) _).alloc (by simp) _).alloc (by simp;omega) _
 have HX:Hid (Below w.heap.size w W/\W.cell? ⟨w.heap.size+1,0,none⟩=some (.string ⟨k.toArray⟩)/\W.cell? ⟨w.heap.size+2,0,none⟩=some (.chan (some c))/\aT A W hv h/\W.heap[c]?=some (.chan 1000 buf.toArray false buf.length 0 false)):=by
  refine ⟨hb,?_,?_,hh.on hb,(hb.block c hcl).trans hc⟩
  .rw [hW];refine aj ((bR _ _).alloc (lR _) _) ?_;have:=cA (w:=w.alloc (.cells #[.bool false,.string p,.string d,.string af] 93)) #[.string ⟨k.toArray⟩] 9 (w.heap.size+1) 0 (by simp);rw [this];rfl
  .rw [hW];have:=cA (w:=(w.alloc (.cells #[.bool false,.string p,.string d,.string af] 93)).alloc (.cells #[.string ⟨k.toArray⟩] 9)) #[.chan (some c)] 210 (w.heap.size+2) 0 (by simp);rw [this];rfl
 have HW:Hid (W=((w.alloc (.cells #[.bool false,.string p,.string d,.string af] 93)).alloc (.cells #[.string ⟨k.toArray⟩] 9)).alloc (.cells #[.chan (some c)] 210)):=hW;clear hW hb hc hh;unfold qV;go_enter (Yq.nq Tryz.func140),Tryz.ntmps140
 go_upto_region 2 with fail
 rename_i K1 hK1 K2 hK2;rw [<-HW.out];obtain ⟨hb,c5,c7,hh,hc⟩:=HX.out;refine wpIn_wide.1 (show Code.wpIn (wf none) 0 _ _ _ _ _ from Au A (id:=2) (n:=0) (b5:=w.heap.size+1) (b7:=w.heap.size+2) rfl rfl rfl rfl c5 c7 hh hne (by omega) hc (by omega) (fun a w1 h1 h2 hb1=>?_));refine hK2 _ _ (wp_ret ⟨h2,.tuple #[],by simp [results,Tryz.results140,go_sem],rfl,fun b hb2 hbc=>?_,?_,?_,?_⟩)
 .rw [iQ hbc,hb1.block b (by have:=hb.size;omega)];exact hb.block b hb2
 .rw [wg];exact lT hb.size hb1.size
 .exact hb1.os.trans hb.os
 .exact kP (by have:=hb.size;have:=hb1.size;omega)
def yd:Code->Code
 | .rangeFunc _ _ _ b=>b
 |c=>c
noncomputable def Av:Code:=yd (cIn (bB (bB (bB (aZ Tryz.f120)))))
def jt (w:Wz)(q:Qy)(root:Option Ww)(c:Nat):Wz:=
 (((((w.alloc (.cells #[.bool q.vs,.string q.p,.string q.d,.string q.af] 93)).alloc (.cells #[.pointer root] 56)).alloc (.cells #[.chan (some c)] 210)).alloc (.cells #[.string ⟨#[]⟩] 9)).alloc (.cells #[.pointer root] 56)).alloc (.cells #[.string q.p] 9)
theorem bW (w:Wz)(q:Qy)(root:Option Ww)(c:Nat):(jt w q root c).heap.size=w.heap.size+6:=by simp only [jt,World.alloc,Array.size_push]
theorem jV (w:Wz)(q:Qy)(root:Option Ww)(c:Nat){b:Nat}(h:b<w.heap.size):(jt w q root c).heap[b]?=w.heap[b]?:=by
 simp only [jt,World.alloc,gP,Array.size_push]
 repeat rw [if_neg (by omega)]
theorem jW (w:Wz)(q:Qy)(root:Option Ww)(c:Nat)(i:Nat)(h:i<6):(jt w q root c).heap[w.heap.size+i]?=(#[.cells #[.bool q.vs,.string q.p,.string q.d,.string q.af] 93,.cells #[.pointer root] 56,.cells #[.chan (some c)] 210,.cells #[.string ⟨#[]⟩] 9,.cells #[.pointer root] 56,.cells #[.string q.p] 9]:Array Obj)[i]?:=by
 simp only [jt,World.alloc,gP,Array.size_push];rcases i with - | - | - | - | - | - |i;all_goals first|omega|skip
 all_goals
  repeat rw [if_neg (by omega)]
  simp
def fL (w:Wz)(q:Qy)(root:Option Ww)(c:Nat)(x7 x8 x15 x16:Wq):Array Wq:=
 #[.agg #[.bool q.vs,.string q.p,.string q.d,.string q.af],.agg #[.pointer root],.chan (some c),.pointer (some ⟨w.heap.size,0,none⟩),.pointer (some ⟨w.heap.size+1,0,none⟩),.pointer (some ⟨w.heap.size+2,0,none⟩),.pointer (some ⟨w.heap.size+3,0,none⟩),x7,x8,Wy,Wy,
  .agg #[.pointer root],.pointer (some ⟨w.heap.size,1,none⟩),.string q.p,.func (.func 122) #[] #[ptr (w.heap.size+4),ptr (w.heap.size+5)],x15,x16,Wy,Wy,Wy,Wy,Wy,Wy,Wy,Wy,Wy,Wy,Wy,Wy,Wy,Wy,Wy,Wy,Wy,Wy,Wy,Wy,Wy,Wy,Wy,Wy,Wy,Wy,Wy]
theorem ql.below {q:Qy}{w w6:Wz}{c:Nat}{pre:KVs}{W W':Wz}(I:ql q w w6 c pre W)(hc:c<w6.heap.size)(ht:w.heap.size+3<w6.heap.size)(hb:Below W.heap.size W W'):ql q w w6 c pre W':=
 ⟨hb.os.trans I.os,lT I.size hb.size,fun b h1 h2 h3=>(hb.block b (lL h1 I.size)).trans (I.block b h1 h2 h3),(hb.block _ (lL ht I.size)).trans I.told,(hb.block _ (lL hc I.size)).trans I.ch⟩
theorem ql.items {q:Qy}{w w6:Wz}{c:Nat}{pre pre':KVs}{W:Wz}(I:ql q w w6 c pre W)(h:az q pre'=az q pre):ql q w w6 c pre' W:=
 ⟨I.os,I.size,I.block,by rw [h];exact I.told,by rw [h];exact I.ch⟩
theorem jX (l:Nat):(wf (some l)).round=some l:=rfl
section
attribute [local go_sem] Oper.semAt_some jX
theorem CD (q:Qy)(hCm:gH q)(hSk:gI q)(root:Option Ww)(c:Nat)(w:Wz)(hgl:cI w)(hc0:0≠c)(hcw:c<w.heap.size)(A:Nat->Prop)(hA:∀b,A b->b<w.heap.size/\b≠c)(l:Nat)(pre:KVs)(k:List UInt8)(h:List Ver)(hv:Wq)(W:Wz)(hk:k.length<=1000)(hkp:q.p.data.toList <+:k)(hh:aT A (jt w q root c) hv h)(hne:h≠[])(hl:h.length<=1000)(hfit:(az q (pre++[(k,h)])).1.length<=1000)(I:ql q w (jt w q root c) c pre W):
  Av.wpIn (wf (some l)) 0 Yq.prog (fun e _ W'=>e=.normal/\kJ c (w.heap.size+3) W W'/\ql q w (jt w q root c) c (pre++[(k,h)]) W') ⟨fL w q root c (.string ⟨k.toArray⟩) hv (.string ⟨k.toArray⟩) hv,[]⟩ W:=by
 obtain ⟨Q,hQ⟩:∃Q:Exit->Act->Wz->Prop,Q=fun e _ W'=>e=.normal/\kJ c (w.heap.size+3) W W'/\ql q w (jt w q root c) c (pre++[(k,h)]) W':=⟨_,rfl⟩
 rw [<-hQ];have HQ:Hid (Q=fun e _ W'=>e=.normal/\kJ c (w.heap.size+3) W W'/\ql q w (jt w q root c) c (pre++[(k,h)]) W'):=hQ;clear hQ;have hrow:∀i o,i<6->i≠3->(jt w q root c).heap[w.heap.size+i]?=some o->W.heap[w.heap.size+i]?=some o:=fun i o h1 h2 h3=>(I.block _ (by rw [bW];omega) (by omega) (by omega)).trans h3
 have r0:=hrow 0 _ (by omega) (by omega) (jW w q root c 0 (by omega));have r2:=hrow 2 _ (by omega) (by omega) (jW w q root c 2 (by omega));simp only [Nat.add_zero] at r0;have c0:W.cell? ⟨w.heap.size,0,none⟩=some (.bool q.vs):=by simp [World.cell?,r0]
 have c1:W.cell? ⟨w.heap.size,1,none⟩=some (.string q.p):=by simp [World.cell?,r0]
 have c2:W.cell? ⟨w.heap.size,2,none⟩=some (.string q.d):=by simp [World.cell?,r0]
 have c3:W.cell? ⟨w.heap.size,3,none⟩=some (.string q.af):=by simp [World.cell?,r0]
 have d2:W.cell? ⟨w.heap.size+2,0,none⟩=some (.chan (some c)):=by simp [World.cell?,r2]
 have d3:W.cell? ⟨w.heap.size+3,0,none⟩=some (.string ⟨(az q pre).2.toArray⟩):=by simp [World.cell?,I.told]
 have f3:W.frozen? ⟨w.heap.size+3,0,none⟩=false:=by simp [World.frozen?,I.told]
 have hszW:w.heap.size+6<=W.heap.size:=by have:=I.size;rwa [bW] at this
 have HhW:Hid (aT A W hv h):=bD.keep hh (fun b hb hlt=>⟨hb,I.block b hlt (hA b hb).2 (by have:=(hA b hb).1;omega)⟩);have HI:Hid (ql q w (jt w q root c) c pre W):=I;have HGL:Hid (cI W):=by
  obtain ⟨m,hm⟩:=hgl;have h0:=bC w _ hm;exact ⟨m,(cB (a:=⟨0,0,none⟩) ((I.block 0 (by rw [bW];omega) hc0 (by omega)).trans (jV w q root c h0))).trans hm⟩
 have HWT:=CC A q k hv h W HhW.out hne (by omega);have HCm:Hid (gH q):=hCm;have HSk:Hid (gI q):=hSk;have HHF:Hid (∀b,A b->b<w.heap.size/\b≠c):=hA;have HFT:Hid ((az q (pre++[(k,h)])).1.length<=1000/\q.p.data.toList <+:k):=⟨hfit,hkp⟩;have HST:Hid (az q (pre++[(k,h)])=de q (az q pre) (k,h)):=sg q pre (k,h);clear hrow r0 r2 I hCm hSk hA hfit hkp hh;generalize hwt:uC q k h=wt at HWT;have HWB:Hid (uC q k h=wt):=hwt;clear hwt;generalize hcm:gG q k=cm;have HCB:Hid (gG q k=cm):=hcm;clear hcm;unfold fL;dsimp only [Av,yd,aZ,Tryz.f120,cIn,fI,bB,nt,Option.getD];unfold qV at HWT;have hc6:c<(jt w q root c).heap.size:=by rw [bW];omega
 have ht6:w.heap.size+3<(jt w q root c).heap.size:=by rw [bW];omega
 have HCC:Hid (∀X,Below W.heap.size W X->Calls Yq.prog 139 #[.agg #[.bool q.vs,.string q.p,.string q.d,.string q.af],.string ⟨k.toArray⟩] X fun e w'=>e=.returned (.tuple #[.string ⟨(cm.getD []).toArray⟩,.bool cm.isSome])/\Below X.heap.size X w'):=fun X hX=>by
  rw [<-HCB.out];exact HCm.out k X (HGL.out.on hX.block) hk HFT.out.2
 cases wt
 .gi_wp2_with (refine ⟨trivial,rfl,?_⟩;gi_at_call 138;refine (CallsIn.inRound l (callsIn_wide.2 HWT)).mono ?_;clear HWT;rintro e w1 ⟨rfl,hb1⟩)
  rw [HQ.out];exact ⟨rfl,kJ.below hb1,(HI.out.below hc6 ht6 hb1).items (by rw [HST.out,de,HWB.out];rfl)⟩
 .have HW1:Hid (∀w1 w2:Wz,Below W.heap.size W w1->Below w1.heap.size w1 w2->Below W.heap.size W w2):=fun w1 w2 h1 h2=>h1.trans (h2.mono h1.size)
  cases cm with
  |none=>
   have e1:az q (pre++[(k,h)])=((az q pre).1++dW q.vs k h,(az q pre).2):=by
    rw [HST.out,de,HWB.out];simp only [HCB.out,if_true]
   have HE1:Hid (az q (pre++[(k,h)])=((az q pre).1++dW q.vs k h,(az q pre).2)):=e1;have HSS:Hid (∀X,Below W.heap.size W X->Calls Yq.prog 140 #[.agg #[.bool q.vs,.string q.p,.string q.d,.string q.af],.string ⟨k.toArray⟩,hv,.chan (some c)] X fun e w'=>e=.returned (.tuple #[])/\kJ c (w.heap.size+3) W w'/\ql q w (jt w q root c) c (pre++[(k,h)]) w'):=fun X hX=>by
    have IX:=HI.out.below hc6 ht6 hX;have hlen:=HFT.out.1;rw [HE1.out,lP] at hlen;have hcX:=IX.ch;rw [show ((az q pre).1.length:Nat)=((az q pre).1.map itVal).length by simp] at hcX;refine (HSk.out A k hv h c ((az q pre).1.map itVal) X (bD.on HhW.out hX) hne hl hcX (by simpa using hlen)).mono ?_;rintro e w' ⟨rfl,h1,h2,h3,h4⟩;refine ⟨rfl,⟨lT hX.size h2,h3.trans hX.os,fun b hb hbc _=>(h1 b (by have:=hX.size;omega) hbc).trans (hX.block b hb)⟩,h3.trans IX.os,lT IX.size h2,fun b hb hbc hbt=>(h1 b (by have:=IX.size;omega) hbc).trans (IX.block b hb hbc hbt),?_,?_⟩
    .rw [HE1.out];exact (h1 _ (by have:=IX.size;omega) (by omega)).trans IX.told
    .rw [HE1.out,h4];simp
   clear e1
   gi_wp2_with (first
    |(refine ⟨trivial,rfl,?_⟩;gi_at_call 138;refine (CallsIn.inRound l (callsIn_wide.2 HWT)).mono ?_;clear HWT;rintro e w1 ⟨rfl,hb1⟩;replace c0:=aj hb1 c0;replace c1:=aj hb1 c1;replace c2:=aj hb1 c2;replace c3:=aj hb1 c3;replace d2:=aj hb1 d2)
    |(refine ⟨trivial,rfl,?_⟩;gi_at_call 139;refine (CallsIn.inRound l (callsIn_wide.2 (HCC.out _ hb1))).mono ?_;clear HCC;rintro e w2 ⟨rfl,hb2⟩;replace c0:=aj hb2 c0;replace c1:=aj hb2 c1;replace c2:=aj hb2 c2;replace c3:=aj hb2 c3;replace d2:=aj hb2 d2)
    |(refine ⟨trivial,rfl,?_⟩;gi_at_call 140;refine (CallsIn.inRound l (callsIn_wide.2 (HSS.out _ (HW1.out _ _ hb1 hb2)))).mono ?_;clear HSS;rintro e w3 ⟨rfl,hk3,hI3⟩))
   rw [HQ.out];exact ⟨rfl,hk3,hI3⟩
  |some cc=>
   by_cases hct:cc=(az q pre).2
   .have HE1:Hid (az q (pre++[(k,h)])=az q pre):=by
     show az q (pre++[(k,h)])=az q pre;rw [HST.out,de,HWB.out];simp only [HCB.out,if_true,hct]
    rw [<-hct] at d3
    gi_wp2_with (first
     |(refine ⟨trivial,rfl,?_⟩;gi_at_call 138;refine (CallsIn.inRound l (callsIn_wide.2 HWT)).mono ?_;clear HWT;rintro e w1 ⟨rfl,hb1⟩;replace c0:=aj hb1 c0;replace c1:=aj hb1 c1;replace c2:=aj hb1 c2;replace c3:=aj hb1 c3;replace d3:=aj hb1 d3)
     |(refine ⟨trivial,rfl,?_⟩;gi_at_call 139;refine (CallsIn.inRound l (callsIn_wide.2 (HCC.out _ hb1))).mono ?_;clear HCC;rintro e w2 ⟨rfl,hb2⟩;replace d3:=aj hb2 d3))
    rw [HQ.out];exact ⟨rfl,kJ.below (HW1.out _ _ hb1 hb2),(HI.out.below hc6 ht6 (HW1.out _ _ hb1 hb2)).items HE1.out⟩
   .have e1:az q (pre++[(k,h)])=((az q pre).1++[⟨2,⟨cc.toArray⟩,0⟩],cc):=by
     rw [HST.out,de,HWB.out];simp only [HCB.out,if_true,hct,if_false]
    have HE1:Hid (az q (pre++[(k,h)])=((az q pre).1++[⟨2,⟨cc.toArray⟩,0⟩],cc)):=e1;clear e1
    gi_upto_region 10 with (first
     |(refine ⟨trivial,rfl,?_⟩;gi_at_call 138;refine (CallsIn.inRound l (callsIn_wide.2 HWT)).mono ?_;clear HWT;rintro e w1 ⟨rfl,hb1⟩;replace c0:=aj hb1 c0;replace c1:=aj hb1 c1;replace c2:=aj hb1 c2;replace c3:=aj hb1 c3;replace d2:=aj hb1 d2;replace d3:=aj hb1 d3;replace f3:=(hb1.frozen (p:=⟨w.heap.size+3,0,none⟩) (by show w.heap.size+3<W.heap.size;omega)).trans f3)
     |(refine ⟨trivial,rfl,?_⟩;gi_at_call 139;refine (CallsIn.inRound l (callsIn_wide.2 (HCC.out _ hb1))).mono ?_;clear HCC;rintro e w2 ⟨rfl,hb2⟩;replace d2:=aj hb2 d2;replace d3:=aj hb2 d3;replace f3:=(hb2.frozen (p:=⟨w.heap.size+3,0,none⟩) (by show w.heap.size+3<w1.heap.size;have:=hb1.size;omega)).trans f3))
    case refine_2=>rename_i hx;exact absurd (by simpa using hx) hct
    rename_i K1 hK1;have I2:=HI.out.below hc6 ht6 (HW1.out _ _ hb1 hb2);have hc2:=I2.ch;have hlen:=HFT.out.1;rw [HE1.out,lP,lS] at hlen;have hbk:∀j,j≠c->(w2.setChan c 1000 (((az q pre).1.map itVal).toArray.push (.agg #[.int .i64 2,.string ⟨cc.toArray⟩,.int .i64 0])) false ((az q pre).1.length+1) 0 false).heap[j]?=w2.heap[j]?:=fun j hj=>iQ hj
    have hsz2:w.heap.size+6<=w2.heap.size:=by have:=hb1.size;have:=hb2.size;omega
    have hck:(w2.setChan c 1000 (((az q pre).1.map itVal).toArray.push (.agg #[.int .i64 2,.string ⟨cc.toArray⟩,.int .i64 0])) false ((az q pre).1.length+1) 0 false).heap[c]?=some (.chan 1000 (((az q pre).1.map itVal).toArray.push (.agg #[.int .i64 2,.string ⟨cc.toArray⟩,.int .i64 0])) false ((az q pre).1.length+1) 0 false):=kP (by omega);refine zY ?_;show xK _ _ _ _ [0,1,2,3] _ _;refine am (v:=.chan (some c)) (w':=w2) rfl rfl (fun c h=>by cases h) (by simp [go_sem,d2]) ?_;refine am (v:=.string ⟨cc.toArray⟩) (w':=w2) rfl rfl (fun c h=>by cases h) (by simp [go_sem]) ?_;refine am (v:=.agg #[.int .i64 2,.string ⟨cc.toArray⟩,.int .i64 0]) (w':=w2) rfl rfl (fun c h=>by cases h) (by simp [go_sem]) ?_;refine nz (c:=c) rfl rfl rfl rfl hc2 (by simp;omega) ?_;refine hK1 _ _ ?_;show Code.wpIn (wf (some l)) 0 Yq.prog _ _ _ (w2.setChan c 1000 (((az q pre).1.map itVal).toArray.push (.agg #[.int .i64 2,.string ⟨cc.toArray⟩,.int .i64 0])) false ((az q pre).1.length+1) 0 false);obtain ⟨w3,hw3⟩:∃w3,w2.setChan c 1000 (((az q pre).1.map itVal).toArray.push (.agg #[.int .i64 2,.string ⟨cc.toArray⟩,.int .i64 0])) false ((az q pre).1.length+1) 0 false=w3:=⟨_,rfl⟩;have hs3:w3.heap.size=w2.heap.size:=by rw [<-hw3];exact wg
    have ho3:w3.os=w2.os:=by rw [<-hw3];rfl
    rw [hw3] at hbk hck ⊢;have d3':w3.cell? ⟨w.heap.size+3,0,none⟩=some (.string ⟨(az q pre).2.toArray⟩):=(cB (a:=⟨w.heap.size+3,0,none⟩) (hbk _ (show w.heap.size+3≠c by omega))).trans d3;have f3':w3.frozen? ⟨w.heap.size+3,0,none⟩=false:=(fB (a:=⟨w.heap.size+3,0,none⟩) (hbk _ (show w.heap.size+3≠c by omega))).trans f3;have HBK:Hid ((∀j,j≠c->w3.heap[j]?=w2.heap[j]?)/\w3.heap[c]?=some (.chan 1000 (((az q pre).1.map itVal).toArray.push (.agg #[.int .i64 2,.string ⟨cc.toArray⟩,.int .i64 0])) false ((az q pre).1.length+1) 0 false)/\ql q w (jt w q root c) c pre w2/\w3.heap.size=w2.heap.size/\w3.os=w2.os):=⟨hbk,hck,I2,hs3,ho3⟩;clear hbk hck I2 hw3 hc2 hs3 ho3 hK1 K1;gi_wp2;rw [HQ.out];obtain ⟨hbk,hck,I2,hs3,ho3⟩:=HBK.out;have hot:∀j,j≠w.heap.size+3->(w3.setCell ⟨w.heap.size+3,0,none⟩ (.string ⟨cc.toArray⟩)).heap[j]?=w3.heap[j]?:=fun j hj=>bS _ _ _ _ hj
    have hsz4:(w3.setCell ⟨w.heap.size+3,0,none⟩ (.string ⟨cc.toArray⟩)).heap.size=w2.heap.size:=by simp [hs3]
    have hos4:(w3.setCell ⟨w.heap.size+3,0,none⟩ (.string ⟨cc.toArray⟩)).os=w2.os:=((bR 0 w3).setCell (p:=⟨w.heap.size+3,0,none⟩) (Nat.zero_le _) _).os.trans ho3;have hb12:=HW1.out _ _ hb1 hb2;refine ⟨rfl,⟨by rw [hsz4];exact hb12.size,hos4.trans hb12.os,fun b hb hbc hbt=>?_⟩,hos4.trans I2.os,by rw [hsz4];exact I2.size,fun b hb hbc hbt=>?_,?_,?_⟩
    .rw [hot b hbt,hbk b hbc];exact hb12.block b hb
    .rw [hot b hbt,hbk b hbc];exact I2.block b hb hbc hbt
    .rw [HE1.out];have h3:=(hbk _ (show w.heap.size+3≠c by omega)).trans I2.told;obtain ⟨h1,h2⟩:=eS h3;show (w3.heap.modify (w.heap.size+3) _)[w.heap.size+3]?=_;rw [eG (by rw [Array.size_modify];exact h1),Array.getElem_modify_self,h2];rfl
    .rw [hot c (by omega),hck,HE1.out];simp [itVal]
end
theorem Aw (n:Nat):∀ (f:List UInt8->List Ver)(bs:List UInt8),∀x∈cD n f bs,bs <+:x.1/\x.1.length<bs.length+n:=by
 induction n with
 |zero=>intro f bs x hx;simp [cD] at hx
 |succ n ih=>
  intro f bs x hx;simp only [cD,List.mem_append,List.mem_flatMap] at hx;rcases hx with hx|⟨b,-,hx⟩
  .split at hx
   .simp at hx
   .simp at hx;subst hx;exact ⟨List.prefix_refl _,by simp⟩
  .obtain ⟨h1,h2⟩:=ih _ _ x hx;exact ⟨(List.prefix_append _ _).trans h1,by simp at h2;omega⟩
theorem ss {f:List UInt8->List Ver}{p:List UInt8}{x:List UInt8×List Ver}(h:x∈db f p):p <+:x.1/\x.1.length<=40:=by
 obtain ⟨h1,h2⟩:=Aw _ _ _ x h;have h3:=h1.length_le;exact ⟨h1,by omega⟩
theorem CE {l:KVs}{x:List UInt8×List Ver}(h:x∈l):x.2.length<=gm l:=by
 induction l with
 |nil=>simp at h
 |cons a r ih=>
  rcases List.mem_cons.1 h with rfl|h
  .simp [gm]
  .have:=ih h;simp [gm] at this ⊢;omega
theorem ql.stable {q:Qy}{w w6:Wz}{c:Nat}{pre:KVs}{X Y:Wz}(I:ql q w w6 c pre X)(hc:c<w6.heap.size)(ht:w.heap.size+3<w6.heap.size)(h:∀b,b<w6.heap.size->Y.heap[b]?=X.heap[b]?)(hs:X.heap.size<=Y.heap.size)(ho:Y.os=X.os):ql q w w6 c pre Y:=
 ⟨ho.trans I.os,lT I.size hs,fun b h1 h2 h3=>(h b h1).trans (I.block b h1 h2 h3),(h _ ht).trans I.told,(h _ hc).trans I.ch⟩
section
attribute [local go_sem] Oper.semAt_some jX
theorem ER (q:Qy)(hCm:gH q)(hSk:gI q)(root:Option Ww)(f:List UInt8->List Ver)(c:Nat)(w:Wz)(hgl:cI w)(hT:sk w root f)(hsum:gm (db f q.p.data.toList)<=1000)(hp:q.p.size<=maxLen)(hc:w.heap[c]?=some (.chan 1000 #[] false 0 0 false)):
  Calls Yq.prog 120 #[qV q.vs q.p q.d q.af,sV root,.chan (some c)] w fun e w'=>e=.returned (.tuple #[])/\((∀b,b<w.heap.size->b≠c->w'.heap[b]?=w.heap[b]?)/\w.heap.size<=w'.heap.size/\w'.os=w.os) /\
   w'.heap[c]?=some (.chan 1000 ((fK q (db f q.p.data.toList)).map itVal).toArray false (fK q (db f q.p.data.toList)).length 0 false):=by
 have hcw:c<w.heap.size:=(eS hc).1;have HGL:Hid (cI w/\0≠c):=⟨hgl,fun e=>by
  obtain ⟨m,hm⟩:=hgl;subst e;simp [World.cell?,hc] at hm⟩
 clear hgl;obtain ⟨total,htot⟩:∃total,db f q.p.data.toList=total:=⟨_,rfl⟩;have hsome:∀x∈total,x.2≠[]:=by rw [<-htot];exact kO _ _ _
 have hkey:∀x∈total,q.p.data.toList <+:x.1/\x.1.length<=40:=by rw [<-htot];exact fun x hx=>ss hx
 obtain ⟨A,hAd⟩:∃A:Nat->Prop,A=ce w:=⟨_,rfl⟩;have hA:∀b,A b->b<w.heap.size/\b≠c:=fun b hb=>by
  rw [hAd] at hb;refine ⟨hb.lt,fun e=>?_⟩;subst e;obtain ⟨o,h1,h2⟩:=hb;rw [hc] at h1;cases h1;cases h2
 have hN6:ai A 41 (jt w q root c) root f:=ai.keep (fun b hb hlt=>⟨by rw [hAd];exact hb,jV w q root c hlt⟩) 41 root f hT;rw [htot] at hsum ⊢;have hc6:c<(jt w q root c).heap.size:=by rw [bW];omega
 have ht6:w.heap.size+3<(jt w q root c).heap.size:=by rw [bW];omega
 have hI0:ql q w (jt w q root c) c [] (jt w q root c):=⟨rfl,lR _,fun _ _ _ _=>rfl,jW w q root c 3 (by omega),(jV w q root c hcw).trans hc⟩;refine (callsIn_wide (n:=0)).1 (callsIn_of_wp_marks (F:=Fence.wide) (Yq.nq Tryz.func120) rfl trivial ?_);refine (wpIn_wide (n:=0)).2 ?_;generalize hQ:bodyPostM Fence.wide 0 Yq.prog Tryz.f120 _=Q;simp only [Tryz.ntmps120,lZ,lC,lN,Nat.reduceAdd,Nat.reduceSub,Array.replicate_succ,Array.replicate_zero,List.push_toArray,List.append_toArray,List.nil_append,List.cons_append];have HQ:Hid (bodyPostM Fence.wide 0 Yq.prog Tryz.f120 _=Q):=hQ;have HX:Hid (gH q/\gI q/\ai A 41 (jt w q root c) root f/\(∀b,A b->b<w.heap.size/\b≠c)/\ql q w (jt w q root c) c [] (jt w q root c)/\(∀x∈total,x.2≠[])/\(∀x∈total,q.p.data.toList <+:x.1/\x.1.length<=40)/\A=ce w):=⟨hCm,hSk,hN6,hA,hI0,hsome,hkey,hAd⟩;clear hQ hCm hSk hN6 hA hI0 hsome hkey hT hc hAd;unfold qV sV;go_wp2_with (go_at_call 101;refine (At root q.p _).mono ?_;rintro e w6 ⟨rfl,rfl⟩)
 refine wpIn_wide.1 (show Code.wpIn (wf none) 0 Yq.prog _ (Exit.inBlock 0 Q) ⟨fL w q root c Wy Wy Wy Wy,[]⟩ (jt w q root c) from ?_);obtain ⟨hCm,hSk,hN6,hA,hI0,hsome,hkey,hAd⟩:=HX.out;have hmem:∀ (pre:KVs) x,pre++[x] <+:total->x∈total:=fun pre x h=>h.subset (by simp)
 refine rM (α:=List UInt8×List Ver) (β:=List UInt8×List Ver×Wq) (encs:=fun x=>#[.string ⟨x.1.toArray⟩,x.2.2]) (gf:=122) (lb:=#[ptr (w.heap.size+4),ptr (w.heap.size+5)]) (fun x=>(x.1,x.2.1)) rfl (fun args wx=>by go_simp) (fun _=>rfl) c (w.heap.size+3) ht6 noO (fun _ _ _ _ h=>h)
  (ql q w (jt w q root c) c) (fun pre x=>pre++[(x.1,x.2.1)] <+:total/\aT A (jt w q root c) x.2.2 x.2.1/\x.2.1≠[]) total (fun _ _ _ _ h=>h.elim) (fun pre X Y I h1 _ h2 h3=>I.stable hc6 ht6 h1 h2 h3) (fun pre X I=>⟨.inr hc6,.inr ⟨_,I.ch,rfl⟩⟩) hI0
  (fun x=>⟨fL w q root c (.string ⟨x.1.toArray⟩) x.2.2 (.string ⟨x.1.toArray⟩) x.2.2,[]⟩) ?call ?assign ?body ?done
 case call=>
  intro l J W hW1 hW2 hob hst hsz hy hJ0;have C:pU A (jt w q root c) ((jt w q root c).heap.size+2) (w.heap.size+3) l noO total J:=⟨fun b hb=>by
    obtain ⟨h1,h2⟩:=hA b hb;rw [hAd] at hb;obtain ⟨o,h3,h4⟩:=hb;exact ⟨by rw [bW];omega,by omega,o,(jV w q root c h1).trans h3,h4⟩,by omega,fun _ _ _ _ h=>h,hob,hst,hsz,fun pre k h hv X h1 h2 h3 h4=>hy pre (k,h,hv) X ⟨h1,h2,h3⟩ h4⟩
  exact vV C root f q.p W (w.heap.size+4) (w.heap.size+5) hN6 htot.symm (fun b hb=>hW2 b (by have:=(hA b hb).1;rw [bW];omega))
   (by rw [cB (a:=⟨w.heap.size+4,0,none⟩) (hW2 _ (by rw [bW];show w.heap.size+4<_;omega))];simp [World.cell?,jW w q root c 4 (by omega)])
   (by rw [cB (a:=⟨w.heap.size+5,0,none⟩) (hW2 _ (by rw [bW];show w.heap.size+5<_;omega))];simp [World.cell?,jW w q root c 5 (by omega)]) hp hJ0
 case assign=>
  intro l x W K hK;obtain ⟨k,h,hv⟩:=x;have e:(#[15,16].zip #[Value.string ⟨k.toArray⟩,hv]).foldl (fun t x=>match x with|(p,v)=>t.setIfInBounds p v) (fL w q root c Wy Wy Wy Wy)=fL w q root c Wy Wy (.string ⟨k.toArray⟩) hv:=by
   simp [fL]
  show Code.wpIn _ _ _ _ _ ⟨(#[15,16].zip #[Value.string ⟨k.toArray⟩,hv]).foldl (fun t x=>match x with|(p,v)=>t.setIfInBounds p v) (fL w q root c Wy Wy Wy Wy),[]⟩ _;rw [e];unfold fL;unfold fL at hK;gi_wp2;exact hK
 case body=>
  rintro l pre ⟨k,h,hv⟩ W ⟨h1,h2,h3⟩ I;have hm:=hmem pre (k,h) h1;refine wpIn_mono (CD q hCm hSk root c w HGL.out.1 HGL.out.2 hcw A hA l pre k h hv W (by have:=(hkey _ hm).2;simp only at this;omega) (hkey _ hm).1 h2 h3 (by have:=CE hm;simp only at this;omega) (by have h5:(az q (pre++[(k,h)])).1.length<=(fK q total).length:=yb q total _ hsome h1;have:=vZ q total hsome;omega) I) (fun e a W' h=>⟨h.1,h.2.1.own,h.2.2⟩)
 case done=>
  intro D W hD I hK;have hQ:=HQ.out;subst hQ;refine ⟨by simp,.inl ⟨_,_,rfl,run_takeDeferred hK,?_⟩⟩;have hne:∀b,b<(jt w q root c).heap.size->(W.putObj D (.deferred none)).heap[b]?=W.heap[b]?:=fun b hb=>pO (by omega)
  refine ⟨.tuple #[],by simp [results,Tryz.results120,go_sem],rfl,⟨fun b hb hbc=>?_,?_,?_⟩,?_⟩
  .rw [hne b (by rw [bW];omega),I.block b (by rw [bW];omega) hbc (by omega),jV w q root c hb]
  .have:=I.size;rw [bW] at this;simp;omega
  .exact I.os
  .rw [hne c hc6];exact I.ch
end
end
section
open Go.RowKit
theorem CF {A:Nat->Prop}{w w1:Wz}(h:w.heap.size<=w1.heap.size):∀b,Grow A w1 b->Grow A w b:=by
 rintro b (⟨h1,h2⟩|h1)
 .by_cases hlt:b<w.heap.size
  .exact Or.inl ⟨h1,hlt⟩
  .exact Or.inr (by omega)
 .exact Or.inr (by omega)
theorem ax.mono {A A':Nat->Prop}{w:Wz}{k0:Nat}{st:St}(S:ax A w k0 st)(h:∀b,A b->A' b)(ha:∀b,A' b->b≠k0):ax A' w k0 st:=by
 obtain ⟨p,c0,hN⟩:=S.tree;exact ⟨ha,⟨p,c0,ai.keep (fun b h1 _=>⟨h b h1,rfl⟩) _ _ _ hN⟩,S.count,S.last,S.frozen⟩
def dg (A:Nat->Prop)(w:Wz)(k0:Nat)(st':St)(v:Wq)(e:Ending)(w':Wz):Prop:=
 e=.returned v/\ax (Grow A w) w' k0 st'/\bN w w' k0
theorem aW {A:Nat->Prop}{w w':Wz}{k0:Nat}{st:St}{v:Wq}(S:ax A w k0 st)(hb:Below w.heap.size w w'):dg A w k0 st v (.returned v) w':=
 ⟨rfl,S.grow.on hb,dP S.lt hb⟩
def jd (st:St)(key body:ByteArray):St×Int×Int:=
 if ba key=false then (st,0,2) else if 100<body.size then (st,0,3) else if iY st then (st,0,4) else (d9 st key body false,st.last+1,0)
def dD (st:St)(key:ByteArray):St×Int×Int:=
 if ba key=false then (st,0,2) else if iY st then (st,0,4) else (d9 st key ⟨#[]⟩ true,st.last+1,0)
theorem wh (A:Nat->Prop)(k0:Nat)(st:St)(s:Nat)(key body:ByteArray)(w:Wz)(hk:key.size<=maxLen)(hbd:body.size<=maxLen)(S:ax A w k0 st)(hI:Inv st s)(hs:s<2199023255340):
  Calls Yq.prog 35 #[.pointer (some ⟨k0,0,none⟩),.string key,.string body] w (dg A w k0 (jd st key body).1 (.tuple #[.int .i64 (jd st key body).2.1,.int .i64 (jd st key body).2.2])):=by
 have HIK:=jT key w hk;have HS:Hid (ax A w k0 st):=S;unfold maxLen at hbd;cases hkey:ba key with
 |false=>
  rw [hkey] at HIK;have e:jd st key body=(st,0,2):=by simp [jd,hkey]
  rw [e];clear hkey S e;go_enter (Yq.nq Tryz.func35),Tryz.ntmps35;go_wp2_with (go_at_call 59;refine HIK.mono ?_;rintro e w' ⟨rfl,rfl⟩)
  go_ret2
  exact aW HS.out (bR _ _)
 |true=>
  rw [hkey] at HIK;have hsz:=gi hkey;by_cases h100:100<body.size
  .have e:jd st key body=(st,0,3):=by simp [jd,hkey,h100]
   rw [e];clear hkey S e;go_enter (Yq.nq Tryz.func35),Tryz.ntmps35;go_wp2_with (go_at_call 59;refine HIK.mono ?_;rintro e w' ⟨rfl,rfl⟩)
   go_ret2
   exact aW HS.out (bR _ _)
  .have HIF:=oS k0 st w S.count S.last;cases hfull:iY st with
   |true=>
    rw [hfull] at HIF;have e:jd st key body=(st,0,4):=by simp [jd,hkey,h100,hfull]
    rw [e];clear hkey S e hfull;go_enter (Yq.nq Tryz.func35),Tryz.ntmps35;go_wp2_with (first|(go_at_call 59;refine HIK.mono ?_;rintro e w' ⟨rfl,rfl⟩)|(go_at_call 60;refine HIF.mono ?_;rintro e w' ⟨rfl,rfl⟩))
    go_ret2
    exact aW HS.out (bR _ _)
   |false=>
    rw [hfull] at HIF;have e:jd st key body=(d9 st key body false,st.last+1,0):=by simp [jd,hkey,h100,hfull]
    have hlx:¬st.last=9223372036854775807:=fun h=>by simp [iY,h] at hfull
    rw [e];clear hkey S e hfull;go_enter (Yq.nq Tryz.func35),Tryz.ntmps35;go_wp2_with (first|(go_at_call 59;refine HIK.mono ?_;rintro e w' ⟨rfl,rfl⟩)|(go_at_call 60;refine HIF.mono ?_;rintro e w' ⟨rfl,rfl⟩))
    refine (xY body w (by omega)).mono ?_;rintro e w1 ⟨rfl,hb1⟩;have HA:=vY A k0 st s key 0 body false w1 hsz.1 (HS.out.on hb1) hI hs hlx;go_wp2_with (go_at_call 61;refine HA.mono ?_;rintro e w2 ⟨rfl,S2,hg2⟩)
    go_ret2
    exact ⟨rfl,S2.mono (CF hb1.size) (gl HS.out.avoid HS.out.lt),qi (dP HS.out.lt hb1) hg2⟩
theorem su (A:Nat->Prop)(k0:Nat)(st:St)(s:Nat)(key:ByteArray)(w:Wz)(hk:key.size<=maxLen)(S:ax A w k0 st)(hI:Inv st s)(hs:s<2199023255340):
  Calls Yq.prog 38 #[.pointer (some ⟨k0,0,none⟩),.string key] w (dg A w k0 (dD st key).1 (.tuple #[.int .i64 (dD st key).2.1,.int .i64 (dD st key).2.2])):=by
 have HIK:=jT key w hk;have HS:Hid (ax A w k0 st):=S;cases hkey:ba key with
 |false=>
  rw [hkey] at HIK;have e:dD st key=(st,0,2):=by simp [dD,hkey]
  rw [e];clear hkey S e;go_enter (Yq.nq Tryz.func38),Tryz.ntmps38;go_wp2_with (go_at_call 59;refine HIK.mono ?_;rintro e w' ⟨rfl,rfl⟩)
  go_ret2
  exact aW HS.out (bR _ _)
 |true=>
  rw [hkey] at HIK;have hsz:=gi hkey;have HIF:=oS k0 st w S.count S.last;cases hfull:iY st with
  |true=>
   rw [hfull] at HIF;have e:dD st key=(st,0,4):=by simp [dD,hkey,hfull]
   rw [e];clear hkey S e hfull;go_enter (Yq.nq Tryz.func38),Tryz.ntmps38;go_wp2_with (first|(go_at_call 59;refine HIK.mono ?_;rintro e w' ⟨rfl,rfl⟩)|(go_at_call 60;refine HIF.mono ?_;rintro e w' ⟨rfl,rfl⟩))
   go_ret2
   exact aW HS.out (bR _ _)
  |false=>
   rw [hfull] at HIF;have e:dD st key=(d9 st key ⟨#[]⟩ true,st.last+1,0):=by simp [dD,hkey,hfull]
   have hlx:¬st.last=9223372036854775807:=fun h=>by simp [iY,h] at hfull
   rw [e];clear hkey S e hfull;have HA:=vY A k0 st s key 0 ⟨#[]⟩ true w hsz.1 HS.out hI hs hlx;go_enter (Yq.nq Tryz.func38),Tryz.ntmps38;go_wp2_with (first|(go_at_call 59;refine HIK.mono ?_;rintro e w' ⟨rfl,rfl⟩)|(go_at_call 60;refine HIF.mono ?_;rintro e w' ⟨rfl,rfl⟩)|(go_at_call 61;refine HA.mono ?_;rintro e w2 ⟨rfl,S2,hg2⟩))
   go_ret2
   exact ⟨rfl,S2,hg2⟩
def dM (st:St)(key:ByteArray)(n:Int):St×Int:=
 if ba key=false then (st,2)
 else match dO (st.f key.data.toList) n with
  |none=>(st,5)
  |some r=>(cT st key r,0)
theorem ye (A:Nat->Prop)(k0:Nat)(st:St)(s:Nat)(key:ByteArray)(n:Int)(w:Wz)(hk:key.size<=maxLen)(S:ax A w k0 st)(hI:Inv st s)(hs:s<2199023255340):
  Calls Yq.prog 39 #[.pointer (some ⟨k0,0,none⟩),.string key,.int .i64 n] w (dg A w k0 (dM st key n).1 (.int .i64 (dM st key n).2)):=by
 have HF:=r8 A k0 st s key n w hk S hI (by omega);have HS:Hid (ax A w k0 st):=S;have hk0:=S.lt;have l2:=hI.countL;have l3:=hI.countU;have hle:=hI.len key.data.toList;clear S;go_enter (Yq.nq Tryz.func39),Tryz.ntmps39;go_wp2_with fail
 refine HF.mono ?_;rintro e w1 ⟨hb1,hcase⟩;rcases hcase with ⟨hkey,rfl⟩|⟨hkey,hpl,rfl⟩|⟨hkey,r,ha,hc,hpl,hr,hh,rfl⟩
 .have HR:Hid (dM st key n=(st,2)):=show dM st key n=(st,2) by simp [dM,hkey]
  have HB:Hid (Below w.heap.size w w1):=hb1;clear hkey HF hb1;go_wp2;go_ret;rw [HR.out];exact aW HS.out HB.out
 .have HR:Hid (dM st key n=(st,5)):=show dM st key n=(st,5) by simp [dM,hkey,hpl]
  have HB:Hid (Below w.heap.size w w1):=hb1;clear hkey HF hb1 hpl;go_wp2;go_ret;rw [HR.out];exact aW HS.out HB.out
 .have HR:Hid (dM st key n=(cT st key r,0)):=show dM st key n=(cT st key r,0) by simp [dM,hkey,hpl]
  have hsz:=gi hkey;obtain ⟨p,C,hN⟩:=HS.out.cells;have C1:=C.on hb1;have c1:=C1.c1;have f1:=C1.fz 1;have c0:=C1.c0;obtain ⟨W2,hW2⟩:∃W2,W2=w1.setCell ⟨k0,1,none⟩ (.int .i64 (st.count-1)):=⟨_,rfl⟩;have C2:bF W2 k0 (.pointer p) (.int .i64 (st.count-1)) (.int .i64 st.last):=by rw [hW2];exact C1.set1 _
  have hg2:bN w W2 k0:=by rw [hW2];exact oU (dP hk0 hb1) _ _
  have hh2:aT (fun b=>A b\/w.heap.size<=b) W2 (.slice ha (st.f key.data.toList).length hc) (st.f key.data.toList):=
   bD.keep hh (fun b h1 h2=>⟨Or.inl h1,by rw [hW2];exact bS _ _ _ _ (HS.out.avoid b h1)⟩)
  have HN2:∀w3:Wz,W2.grownBy w3 (some k0)->ai (fun b=>(A b/\b<w.heap.size)\/w.heap.size<=b) 41 w3 p st.f:=fun w3 hg3=>
   ai.keep (fun b h1 h2=>⟨Or.inl ⟨h1,h2⟩,(bK hg2.g hg3).block b h2 (by intro e;cases e;exact HS.out.avoid k0 h1 rfl)⟩) 41 p st.f hN
  have hfne:st.f key.data.toList≠[]:=by intro e;rw [e] at hr;simp at hr
  have HW2:Hid (W2=w1.setCell ⟨k0,1,none⟩ (.int .i64 (st.count-1))):=hW2;clear hkey HF hpl C hN C1;by_cases hone:(st.f key.data.toList).length=1
  .have hr0:r=0:=by omega
   have HD:Hid (cT st key r=⟨upd st.f key.data.toList [],st.count-1,st.last⟩):=show cT st key r=_ by
    unfold cT;rw [hr0,List.take_zero,List.nil_append,List.drop_eq_nil_of_le (by omega)]
   have HT:Hid (Calls Yq.prog 66 #[.agg #[.pointer p],.string key] W2 fun e w'=>∃q,e=.returned (.agg #[.pointer q])/\Below W2.heap.size W2 w'/\ai (Grow (fun b=>(A b/\b<w.heap.size)\/w.heap.size<=b) W2) 41 w' q (upd st.f key.data.toList [])):=
    r6 _ 41 p st.f key W2 (HN2 W2 (World.grownBy.refl _ _)) hsz.1 hsz.2 hfne
   have HC:Hid (bF W2 k0 (.pointer p) (.int .i64 (st.count-1)) (.int .i64 st.last)/\bN w W2 k0):=⟨C2,hg2⟩;rw [hone];clear hh hh2 HN2 hone hr0 C2 hg2 hfne hW2 hr hle hb1;go_wp2_with fail
   rw [<-HW2.out];refine HT.out.mono ?_;rintro e w4 ⟨q,rfl,hb4,hN4⟩;have D4:=HC.out.1.on hb4;have r1:=D4.c0;have r2:=D4.fz 0;have HX:Hid (ax (Grow A w) (w4.setCell ⟨k0,0,none⟩ (.pointer q)) k0 (cT st key r)/\bN w (w4.setCell ⟨k0,0,none⟩ (.pointer q)) k0):=by
    refine ⟨?_,oU (fy HC.out.2 hb4) _ _⟩;rw [HD.out];refine dB (p:=q) ?_ ?_ (gl HS.out.avoid hk0)
    .exact D4.set0 _
    .exact nJ HC.out.2.g.size HS.out.avoid hk0 hN4 _ _
   clear D4 hN4 hb4 HT HC;go_wp2;go_ret;rw [HR.out];exact ⟨rfl,HX.out.1,HX.out.2⟩
  .have HD:Hid (cT st key r=⟨upd st.f key.data.toList ((st.f key.data.toList).take r++(st.f key.data.toList).drop (r+1)),st.count-1,st.last⟩):=rfl;have HW:Hid (Calls Yq.prog 68 #[.slice ha (st.f key.data.toList).length hc,.int .i64 r] W2.drew fun e w'=>∃va vl vc,e=.returned (.slice va vl vc)/\aT (fun b=>W2.heap.size<=b) w' (.slice va vl vc) ((st.f key.data.toList).take r++(st.f key.data.toList).drop (r+1))/\Below W2.heap.size W2 w'):=by
    refine (r7 _ _ _ r W2.drew (bD.keep hh2 (fun b h1 h2=>⟨h1,rfl⟩)) hr (by omega)).mono ?_;rintro e w' ⟨va,vl,vc,h1,h2,h3⟩;exact ⟨va,vl,vc,h1,h2,(bR _ W2).drew.trans h3⟩
   have hne2:(st.f key.data.toList).take r++(st.f key.data.toList).drop (r+1)≠[]:=by
    intro e;have:=congrArg List.length e;rw [lP,tL,lD,lN] at this;omega
   have HT:Hid (∀ (w3:Wz) (va:Option Ww) (vl vc:Nat),Below W2.heap.size W2 w3->aT (fun b=>W2.heap.size<=b) w3 (.slice va vl vc) ((st.f key.data.toList).take r++(st.f key.data.toList).drop (r+1)) ->
     Calls Yq.prog 67 #[.agg #[.pointer p],.string key,.slice va vl vc] w3 fun e w'=>∃q,e=.returned (.agg #[.pointer q])/\Below w3.heap.size w3 w'/\ai (Grow (fun b=>(A b/\b<w.heap.size)\/w.heap.size<=b) w3) 41 w' q (upd st.f key.data.toList ((st.f key.data.toList).take r++(st.f key.data.toList).drop (r+1)))):=fun w3 va vl vc hb3 hh3=>by
    refine rY _ 41 p st.f key _ _ w3 (HN2 w3 (dz hb3 _)) hsz.1 hsz.2 (bD.keep hh3 (fun b h1 h2=>⟨Or.inr ?_,rfl⟩)) hne2;have:=hg2.g.size;omega
   have HC:Hid (bF W2 k0 (.pointer p) (.int .i64 (st.count-1)) (.int .i64 st.last)/\bN w W2 k0):=⟨C2,hg2⟩;have a0:=C2.c0;have hone':(((st.f key.data.toList).length:Int)==1)=false:=by simp;omega
   generalize (st.f key.data.toList).take r++(st.f key.data.toList).drop (r+1)=hnew at *;clear hh hh2 HN2 C2 hg2 hfne hW2 hb1 hne2;generalize (st.f key.data.toList).length=m at *;go_wp2_with fail
   rw [<-HW2.out]
   go_region_with (first
    |(go_at_call 68;refine HW.out.mono ?_;rintro e w3 ⟨va,vl,vc,rfl,hh3,hb3⟩;have b0:=aj hb3 a0)
    |(go_at_call 67;refine (HT.out _ va vl vc hb3 hh3).mono ?_;rintro e w4 ⟨q,rfl,hb4,hN4⟩;have E4:=(HC.out.1.on hb3).on hb4;have r1:=E4.c0;have r2:=E4.fz 0))
   all_goals
    go_wp2;go_ret;rw [HR.out,HD.out];refine ⟨rfl,?_,?_⟩
    .refine dB (p:=q) ?_ ?_ (gl HS.out.avoid hk0)
     .exact E4.set0 _
     .exact nJ (by have:=HC.out.2.g.size;have:=hb3.size;omega) HS.out.avoid hk0 hN4 _ _
    .exact oU (fy (fy HC.out.2 hb3) hb4) _ _
end
section
open Go
open Go.RowKit
structure eh (st:St):Prop where
 cnt:(tot 41 st.f:Int)=st.count
 le:st.count<=200
 long:∀k,40<k.length->st.f k=[]
 body:∀k,∀v∈st.f k,v.body.size<=100
theorem sw {key:ByteArray}(h:ba key=true):key.data.toList.length<=40:=by
 have:=of_decide_eq_true h;have e:key.data.toList.length=key.size:=by simp
 omega
theorem eh.add {st:St}(h:eh st)(key body:ByteArray)(mark:Bool)(hk:ba key=true)(hc:¬200<=st.count)(hbd:body.size<=100):eh (d9 st key body mark):=by
 have hl:=sw hk;have e:=Ap 41 st.f key.data.toList (st.f key.data.toList++[⟨st.last+1,body,mark⟩]) (by omega);rw [lP,lS] at e;have:=h.cnt;refine ⟨?_,?_,fun k hk=>?_,fun k v hv=>?_⟩
 .simp only [d9];omega
 .simp only [d9];omega
 .simp only [d9,upd];rw [if_neg (by intro e;subst e;omega)];exact h.long k hk
 .simp only [d9,upd] at hv;split at hv
  .rcases List.mem_append.1 hv with hv|hv
   .exact h.body _ v hv
   .simp only [List.mem_singleton] at hv;subst hv;exact hbd
  .exact h.body k v hv
theorem eh.drop {st:St}(h:eh st)(key:ByteArray)(r:Nat)(hk:ba key=true)(hr:r<(st.f key.data.toList).length):eh (cT st key r):=by
 have hl:=sw hk;have e:=Ap 41 st.f key.data.toList ((st.f key.data.toList).take r++(st.f key.data.toList).drop (r+1)) (by omega);rw [lP,tL,lD,Nat.min_eq_left (by omega)] at e;have:=h.cnt;have:=h.le;refine ⟨?_,?_,fun k hk=>?_,fun k v hv=>?_⟩
 .simp only [cT];omega
 .simp only [cT];omega
 .simp only [cT,upd];rw [if_neg (by intro e;subst e;omega)];exact h.long k hk
 .simp only [cT,upd] at hv;split at hv
  .rcases List.mem_append.1 hv with hv|hv
   .exact h.body _ v (List.mem_of_mem_take hv)
   .exact h.body _ v (List.mem_of_mem_drop hv)
  .exact h.body k v hv
theorem eh.step {st:St}(h:eh st)(o:OpD):eh (bz st o).1:=by
 unfold bz;simp only
 repeat' split
 all_goals first
  |exact h
  |exact h.add _ _ _ (by simpa using ‹¬ba o.key=false›) (fun h=>‹¬(200<=st.count\/st.last=9223372036854775807)› (.inl h)) (by first|exact Nat.le_of_not_lt ‹_› |exact Nat.zero_le _)
  |(rename_i r hr;exact h.drop _ _ (by simpa using ‹¬ba o.key=false›) (List.findIdx?_eq_some_iff_getElem.1 hr).1)
theorem ES:eh ⟨fun _=>[],0,0⟩:=⟨by rw [EQ];rfl,by simp,fun _ _=>rfl,fun _ _ h=>by simp at h⟩
end
section
open Go
open Go.Conc Go.ConcX Go.ConcX.Gen Go.RowKit
theorem qm (h:List Ver):∀v∈aC h,Good v:=fun v hv=>by
 simp only [aC,List.mem_flatMap] at hv;obtain ⟨x,-,hv⟩:=hv;simp at hv;rcases hv with rfl|rfl|rfl
 .exact .int _ _
 .exact .string _
 .exact .bool _
theorem qn (ks:List (UInt8×Option Ww)):∀v∈au ks,Good v:=fun v hv=>by
 simp only [au,List.mem_flatMap] at hv;obtain ⟨x,-,hv⟩:=hv;simp at hv;rcases hv with rfl|rfl
 .exact .int _ _
 .exact .pointer _
section
variable {ρ:Ren} {V W V':Wz}
theorem Ax {A:Nat->Prop}{v:Wq}{n:Nat}{xs:List Wq}(hk:∀a y i v,ρ a y->V.cell? ⟨a,i,none⟩=some v->Good v->V'.cell? ⟨a,i,none⟩=some v)(hg:∀v∈xs,Good v)(hr:∃v',RV ρ v v')(h:bD A V v n xs):bD (fun _=>True) V' v n xs:=by
 obtain ⟨a,cap,rfl,ha0,hx⟩:=h;refine ⟨a,cap,rfl,ha0,fun hne=>?_⟩;obtain ⟨g,rfl,hA,hgl,hc⟩:=hx hne;obtain ⟨v',hr⟩:=hr;obtain ⟨y,hy⟩:∃y,ρ g y:=by
  cases hr with
  |slice n c h=>cases h with|some h=>exact ⟨_,h.1⟩
 have hc2:∀j,j<xs.length->V'.cell? ⟨g,j,none⟩=xs[j]?:=fun j hj=>by
  have h1:=(hc j hj).trans (eL hj);rw [eL hj];exact hk g y j _ hy h1 (hg _ (List.getElem_mem hj))
 have h0:0<xs.length:=List.length_pos_iff.2 hne;exact ⟨g,rfl,trivial,bC V' _ ((hc2 0 h0).trans (eL h0)),hc2⟩
theorem CG {A:Nat->Prop}(S:bm ρ V W)(hk:∀a y i v,ρ a y->V.cell? ⟨a,i,none⟩=some v->Good v->V'.cell? ⟨a,i,none⟩=some v):∀ (n:Nat)(p:Option Ww)(f:List UInt8->List Ver),(∃r,RAo ρ p r)->ai A n V p f->ai (fun _=>True) n V' p f:=by
 intro n;induction n with
 |zero=>intro p f _ h;exact h
 |succ n ih=>
  intro p f hr h;rcases h with h|⟨g,hv,kv,ks,rfl,hA,c0,c1,c2,hh,hks,hs,hch,hno,hnn⟩
  .exact Or.inl h
  .obtain ⟨r,hr⟩:=hr;obtain ⟨y,hy⟩:∃y,ρ g y:=by cases hr with|some h=>exact ⟨_,h.1⟩
   have hrel:∀ (b y j:Nat) (v:Wq),ρ b y->V.cell? ⟨b,j,none⟩=some v->∃v',RV ρ v v':=fun b y j v hb hc=>by
    rcases S.cell (a:=⟨b,j,none⟩) (a':=⟨y,j,none⟩) ⟨hb,rfl,rfl⟩ with h|⟨v1,v2,h1,h2,h3⟩
    .rw [h] at hc;cases hc
    .rw [h1] at hc;cases hc;exact ⟨_,h3⟩
   have gh:Good hv:=by obtain ⟨a,cap,rfl,-⟩:=hh;exact .slice _ _ _
   have gkv:Good kv:=by obtain ⟨a,cap,rfl,-⟩:=hks;exact .slice _ _ _
   have rk:=hrel g y 2 kv hy c2;refine Or.inr ⟨g,hv,kv,ks,rfl,trivial,hk g y 0 _ hy c0 (.bool _),hk g y 1 _ hy c1 gh,hk g y 2 _ hy c2 gkv,Ax hk (qm _) (hrel g y 1 hv hy c1) hh,Ax hk (qn _) rk hks,hs,fun c q hq=>ih q _ ?_ (hch c q hq),hno,hnn⟩;have hne:ks≠[]:=by intro e;rw [e] at hq;simp at hq
   obtain ⟨gk,cap,rfl,-,-,hce,-⟩:=hks.cells hne;obtain ⟨i,hi,e⟩:=gM hq;obtain ⟨yk,hyk⟩:∃yk,ρ gk yk:=by
    obtain ⟨v',hv'⟩:=rk;cases hv' with|slice n c h=>cases h with|some h=>exact ⟨_,h.1⟩
   have h2:=(hce i hi).2;rw [e] at h2;obtain ⟨v',hv'⟩:=hrel gk yk _ _ hyk h2;cases hv' with|pointer h=>exact ⟨_,h⟩
theorem oW {A:Nat->Prop}(hk:∀b j,b<V.heap.size->V'.cell? ⟨b,j,none⟩=V.cell? ⟨b,j,none⟩):∀ (n:Nat)(p:Option Ww)(f:List UInt8->List Ver),ai A n V p f->ai (fun _=>True) n V' p f:=by
 have hrow:∀v n xs,bD A V v n xs->bD (fun _=>True) V' v n xs:=fun v n xs h=>by
  obtain ⟨a,cap,rfl,ha0,hx⟩:=h;refine ⟨a,cap,rfl,ha0,fun hne=>?_⟩;obtain ⟨g,rfl,hA,hgl,hc⟩:=hx hne;have hc2:∀j,j<xs.length->V'.cell? ⟨g,j,none⟩=xs[j]?:=fun j hj=>(hk g j hgl).trans (hc j hj)
  have h0:0<xs.length:=List.length_pos_iff.2 hne;exact ⟨g,rfl,trivial,bC V' _ ((hc2 0 h0).trans (eL h0)),hc2⟩
 intro n;induction n with
 |zero=>intro p f h;exact h
 |succ n ih=>
  intro p f h;rcases h with h|⟨g,hv,kv,ks,rfl,hA,c0,c1,c2,hh,hks,hs,hch,hno⟩
  .exact Or.inl h
  .have hg:=bC V _ c0;exact Or.inr ⟨g,hv,kv,ks,rfl,trivial,(hk g 0 hg).trans c0,(hk g 1 hg).trans c1,(hk g 2 hg).trans c2,hrow _ _ _ hh,hrow _ _ _ hks,hs,fun c q hq=>ih q _ (hch c q hq),hno⟩
end
def lQy (l:Lst):Qy:=⟨l.vs,l.p,l.d,l.af⟩
def lQ (l:Lst)(f:List UInt8->List Ver):List ItD:=fK (lQy l) (db f l.p.data.toList)
structure F7 (Qok:Qy->Prop)(l:Lst)(f:List UInt8->List Ver)(w:Wz):Prop where
 tree:sk w l.root f
 ok:Qok (lQy l)
 sum:gm (db f l.p.data.toList)<=1000
 pre:l.p.size<=maxLen
 glob:cI w
def FB (Qok:Qy->Prop)(l:Lst)(L:List Wq)(w:Wz):Prop:=∃f,F7 Qok l f w/\L=(lQ l f).map itVal
theorem ju:0<Tryz.prog.globals.size:=by
 have:Tryz.prog.globals.size=4:=by kernel_rfl
 omega
theorem Ay (Qok:Qy->Prop)(hQ:∀q,Qok q->gH q/\gI q):zH (FB Qok) where
 low:=fun ρ V W V' l L S hr hgl hk hsz ⟨f,h,e⟩=>⟨f,⟨.of (CG S hk 41 l.root f hr h.tree),h.ok,h.sum,h.pre,by
  obtain ⟨m,hm⟩:=h.glob;obtain ⟨y,hy⟩:=hgl 0 ju;exact ⟨m,hk 0 y 0 _ hy hm (.int _ _)⟩⟩,e⟩
 on:=fun V V' l L hk hsz ⟨f,h,e⟩=>⟨f,⟨.of (oW (fun b j hb=>hk ⟨b,j,none⟩ hb) 41 l.root f h.tree),h.ok,h.sum,h.pre,by
  obtain ⟨m,hm⟩:=h.glob;exact ⟨m,(hk _ (bC V _ hm)).trans hm⟩⟩,e⟩
 item:=fun l L V ⟨f,h,e⟩ v hv=>by
  rw [e] at hv;obtain ⟨i,-,rfl⟩:=List.mem_map.1 hv;exact ⟨_,_,_,rfl⟩
 len:=fun l L V ⟨f,h,e⟩=>by
  rw [e,lM];exact lT (vZ (lQy l) _ (kO _ _ _)) h.sum
 send:=fun l L w c ⟨f,h,e⟩ hc=>by
  obtain ⟨h1,h2⟩:=hQ _ h.ok;have:=ER (lQy l) h1 h2 l.root f c w h.glob h.tree h.sum h.pre hc;rw [e,lM];exact this
theorem ET (Qok:Qy->Prop):∀l L V u,Ce V u->FB Qok l L u->FB Qok l L V:=fun l _L _V _u hc ⟨f,h,e⟩=>
 ⟨f,⟨.of (oW (fun _b _j _=>(hc.2 _).symm) 41 l.root f h.tree),h.ok,h.sum,h.pre,by
  obtain ⟨m,hm⟩:=h.glob;exact ⟨m,(hc.2 _).symm.trans hm⟩⟩,e⟩
theorem Az (t:Nat):Region.schedule (Yq.prog.follows .mixedOrders) Yq.drawOps t=[0,1]\/Region.schedule (Yq.prog.follows .mixedOrders) Yq.drawOps t=[1,0]:=by
 rw [mixed];rcases Nat.mod_two_eq_zero_or_one t with h|h
 .left
  simp [Region.schedule,Region.linearise,Region.linearise.go,Yq.drawOps,List.range,List.range.loop,h,Nat.mod_one]
 .right
  simp [Region.schedule,Region.linearise,Region.linearise.go,Yq.drawOps,List.range,List.range.loop,h,Nat.mod_one]
theorem sx {a:Act}{w:Wz}{c k s q:Nat}{Q:Exit->Act->Wz->Prop}(h17:a.eval (.tmp 17)=.chan (some c))(hsz:a.tmps.size=49)(hrow:w.heap[c]?=some (.chan k #[] true s q false))
  (h:Q .normal ((a.put (some 18) (.tuple #[.agg #[.int .i64 0,.string ⟨#[]⟩,.int .i64 0],.bool false])).put (some 19) (.bool false)) w):(Code.region 5 ew false).wp Yq.prog Q a w:=by
 intro b kk cs;refine ⟨.normal,_,_,h,?_⟩;refine Steps.head step_region ?_;have hr:List.range ew.size=[0,1]:=rfl;rw [hr];obtain ⟨es,hcomm⟩:∃es,stepG Yq.prog true (G (b.at a (.inRegion ew [0,1]::kk)) cs) w=.comm (G (b.at a (.inRegion ew [0,1]::kk)) cs) #[rcase c (.agg #[.int .i64 0,.string ⟨#[]⟩,.int .i64 0])] true (.recv true) w es:=by
  refine jb (o := { dst := some 18, op := .recv 165 (.tmp 17) true, type := 0, pos := "listing.go:108", after := #[], guard := none }) rfl rfl ?_
  have e : execOp a.eval { dst := some 18, op := .recv 165 (.tmp 17) true, type := 0, pos := "listing.go:108", after := #[], guard := none } = (do
   let .chan _ elem ← underlying 165 | stuck "receive: channel type expected"
   pure (.comm #[{chan:=a.eval (.tmp 17),send:=none,zero:=<-zeroValue elem}] true (.recv true))):=rfl
  rw [e,h17];simp [go_sem,rcase]
 have st1:=step_lone_recv_shut true hcomm hrow;rw [Frame.finish_at] at st1;refine Steps.head st1 ?_;have hput:(a.put ((ew[0]?).bind (·.dst)) (got true (.agg #[.int .i64 0,.string ⟨#[]⟩,.int .i64 0]) false))=a.put (some 18) (.tuple #[.agg #[.int .i64 0,.string ⟨#[]⟩,.int .i64 0],.bool false]):=rfl;rw [hput];have h18:(a.put (some 18) (.tuple #[.agg #[.int .i64 0,.string ⟨#[]⟩,.int .i64 0],.bool false])).eval (.tmp 18)=.tuple #[.agg #[.int .i64 0,.string ⟨#[]⟩,.int .i64 0],.bool false]:=by
  simp [Act.put,Act.eval,hsz]
 have st2 := up (P := Yq.prog) (ops := ew) (a := a.put (some 18) (.tuple #[.agg #[.int .i64 0, .string ⟨#[]⟩, .int .i64 0], .bool false])) (i := 1) (rest := []) (b := b) (k := kk) (cs := cs) (w := w) (w' := w) (v := .bool false) (o := { dst := some 19, op := .extract (.tmp 18) 1, type := 4, pos := "listing.go:108", after := #[{ on := 0, ground := .data }], guard := none }) rfl rfl (by
  have e : execOp (a.put (some 18) (.tuple #[.agg #[.int .i64 0, .string ⟨#[]⟩, .int .i64 0], .bool false])).eval { dst := some 19, op := .extract (.tmp 18) 1, type := 4, pos := "listing.go:108", after := #[{ on := 0, ground := .data }], guard := none } = (do let v ← Instr.extract ((a.put (some 18) (.tuple #[.agg #[.int .i64 0, .string ⟨#[]⟩, .int .i64 0], .bool false])).eval (.tmp 18)) 1; pure (.value v)) := rfl
  rw [e,h18];rfl)
 exact Steps.head st2 (.one step_region_end)
theorem CH (l:Lst)(pn:Int)(n c:Nat)(cnt:Nat)(items:List ItD)(u:Nat->Wq)(w0 w:Wz)(I:PgI w0 w n c items []):
  ci.wp Yq.prog (fun e a w'=>e=.exit 0/\(∃u',a=⟨cG n l pn c cnt u',[]⟩)/\w'=w) ⟨cG n l pn c cnt u,[]⟩ w:=by
 obtain ⟨kc,sc,qc,hrow⟩:=I.ch;show (Code.seq (.region 5 ew false) (bB ci)).wp Yq.prog _ _ _;refine wp_seq (sx (c:=c) rfl rfl hrow ?_);clear hrow I;show Code.wp Yq.prog (bB ci) _ _ _;unfold cG qV sV ptr lV aD;simp only [Act.put];dsimp only [ci,cIn,aZ,bE,Tryz.f69,fI,bB,nt,Option.getD];go_wp2_with fail
 exact ⟨fun i=>if i=18 then .tuple #[.agg #[.int .i64 0,.string ⟨#[]⟩,.int .i64 0],.bool false] else if i=19 then .bool false else u i,by simp⟩
theorem yg (l:Lst)(pn:Int)(n c:Nat)(w0:Wz)(hn:n+2<c)(hc:c<w0.heap.size)(hsize:w0.cell? ⟨n,6,none⟩=some (.int .i64 l.size)):
  ∀ (rest:List ItD) (cnt:Nat) (items:List ItD) (u:Nat->Wq) (w:Wz),PgI w0 w n c items (rest.map itVal)->items.length<=cnt->cnt+rest.length<=1000 ->
   Code.rounds Yq.prog ci (fun e a w'=>e=.exit 0/\(∃u',a=⟨cG n l pn c ((cnt+rest.length:Nat):Int) u',[]⟩)/\PgI w0 w' n c (items++ey l pn cnt rest) []) (rest.length+1) ⟨cG n l pn c cnt u,[]⟩ w:=by
 intro rest;induction rest with
 |nil=>
  intro cnt items u w I _ _;rw [rounds_succ];refine wp_mono (CH l pn n c cnt items u w0 w I) ?_;rintro e a w' ⟨rfl,⟨u',rfl⟩,rfl⟩;exact ⟨rfl,⟨u',by simp⟩,by simpa [ey] using I⟩
 |cons i r ih=>
  intro cnt items u w I hi hl;have hl:cnt+(r.length+1)<=1000:=hl;rw [lC,rounds_succ];refine wp_mono (sa l pn n c cnt i (r.map itVal) items u w0 w hn hc hsize I (by omega) (by omega)) ?_;rintro e a w1 ⟨rfl,ha,I1⟩;show Code.rounds _ _ _ _ a w1;rw [ha];have h2:=ih (cnt+1) _ (fun i=>a.tmps.getD i Wy) w1 I1 (by split<;>(try simp only [lP,lS])<;>omega) (by omega);have e0:(((cnt+1:Nat):Int))=(cnt:Int)+1:=rfl;rw [e0] at h2;have e2:cnt+1+r.length=cnt+(r.length+1):=by omega
  rw [e2] at h2;have e3:(if jc l pn ((cnt:Int)+1) then items++[i] else items)++ey l pn (cnt+1) r=items++ey l pn cnt (i::r):=by
   rw [ey];split<;>simp
  rw [e3] at h2;exact h2
def yh (n pg:Int):ByteArray:=⟨(Lib.itoa n++46::Lib.itoa pg).toArray⟩
def jY (G:Wz->Prop)(n pg:Int):Prop:=∀ (l:Lst)(w:Wz),G w->l.num=n->Calls Yq.prog 98 #[lV l,.int .i64 pg] w fun e w'=>e=.returned (.string (yh n pg))/\Below w.heap.size w w'
def EU (l:Lst)(pn:Int)(n:Nat):ByteArray:=if IntKind.i64.wrap (pn * l.size)<(n:Int) then yh l.num (IntKind.i64.wrap (pn+1)) else ⟨#[]⟩
structure ak (W W':Wz):Prop where
 os:W'.os=W.os
 size:W.heap.size<=W'.heap.size
 block:∀b,b<W.heap.size->W'.heap[b]?=W.heap[b]?
theorem aX {w w':Wz}{base:Nat}{e:Wk}{size:Nat}{v:Wq}{n:Nat}{xs:List Wq}(h:w.ownsRow base e size v n xs)(hb:∀g,base<=g->g<w.heap.size->w'.heap[g]?=w.heap[g]?):w'.ownsRow base e size v n xs:=by
 refine ⟨h.1,?_⟩;rcases h.2 with h2|⟨g,cap,cur,hv,hg,hr,r⟩
 .exact Or.inl h2
 .exact Or.inr ⟨g,cap,cur,hv,hg,(hb g hg (eS hr).1).trans hr,r⟩
theorem AA (l:Lst)(pn:Int)(n c:Nat)(cnt:Nat)(items:List ItD)(u:Nat->Wq)(w0 w:Wz)(G:Wz->Prop)(hn:n+2<c)(hc:c<w0.heap.size)(r0:w0.heap[n]?=some (.cells (aD l) 125))(r1:w0.heap[n+1]?=some (.cells #[.slice none 0 0,.string ⟨#[]⟩] 88))(I:PgI w0 w n c items [])(hG:G w)(hT:IntKind.i64.wrap (pn * l.size)<(cnt:Int)->jY G l.num (IntKind.i64.wrap (pn+1))):
  (bB bE).wp Yq.prog (bodyPost Yq.prog Yq.f69 fun e w'=>∃sv,e=.returned (.agg #[sv,.string (EU l pn cnt)])/\w'.ownsRow w0.heap.size 41 3 sv items.length (ay items)/\(w'.os=w0.os/\w0.heap.size<=w'.heap.size/\∀b,b<n->w'.heap[b]?=w0.heap[b]?)) ⟨cG n l pn c cnt u,[]⟩ w:=by
 have hl0:n<w.heap.size:=lL (by omega) I.size;have e0:=(I.block n (by omega) (by omega) (by omega)).trans r0;have e1:=(I.block (n+1) (by omega) (by omega) (by omega)).trans r1;obtain ⟨sv,c0,hown⟩:=I.row;have c1:=I.tok;have z0:=I.fz 0;have z1:=I.fz 1;have hbk:Hid (∀k,sv.ownBlock=some k->w0.heap.size<=k):=fun k h=>(hown.lt k h).1
 have HI:Hid (PgI w0 w n c items []/\w.ownsRow w0.heap.size 41 3 sv items.length (ay items)):=⟨I,hown⟩;have d0:w.cell? ⟨n+1,0,none⟩=some (.slice none 0 0):=by simp [World.cell?,e1]
 have d1:w.cell? ⟨n+1,1,none⟩=some (.string ⟨#[]⟩):=by simp [World.cell?,e1]
 have y0:w.frozen? ⟨n+1,0,none⟩=false:=by simp [World.frozen?,e1]
 have y1:w.frozen? ⟨n+1,1,none⟩=false:=by simp [World.frozen?,e1]
 have k0:w.cell? ⟨n,0,none⟩=some (.int .i64 l.num):=by simp [World.cell?,e0,aD]
 have k1:w.cell? ⟨n,1,none⟩=some (.pointer l.root):=by simp [World.cell?,e0,aD]
 have k2:w.cell? ⟨n,2,none⟩=some (.bool l.vs):=by simp [World.cell?,e0,aD]
 have k3:w.cell? ⟨n,3,none⟩=some (.string l.p):=by simp [World.cell?,e0,aD]
 have k4:w.cell? ⟨n,4,none⟩=some (.string l.d):=by simp [World.cell?,e0,aD]
 have k5:w.cell? ⟨n,5,none⟩=some (.string l.af):=by simp [World.cell?,e0,aD]
 have k6:w.cell? ⟨n,6,none⟩=some (.int .i64 l.size):=by simp [World.cell?,e0,aD]
 have k7:w.cell? ⟨n,7,none⟩=some (.int .i64 l.left):=by simp [World.cell?,e0,aD]
 have HTK:Hid (wrap64 (pn * l.size)<(cnt:Int)->Calls Yq.prog 98 #[.agg #[.int .i64 l.num,.pointer l.root,.bool l.vs,.string l.p,.string l.d,.string l.af,.int .i64 l.size,.int .i64 l.left],.int .i64 (wrap64 (pn+1))] w fun e w'=>e=.returned (.string (yh l.num (wrap64 (pn+1))))/\Below w.heap.size w w'):=by
  rw [<-kN,<-kN];exact fun h=>hT h l w hG rfl
 clear I hown e0 e1 r0 r1 hT hG;obtain ⟨so,sn,sc,rfl⟩:∃so sn sc,sv=.slice so sn sc:=by
  rcases HI.out.2.2 with ⟨rfl,-⟩|⟨g,cap,cur,rfl,-⟩
  .exact ⟨_,_,_,rfl⟩
  .exact ⟨_,_,_,rfl⟩
 have hszw:w0.heap.size<=w.heap.size:=HI.out.1.size;have hcw:n+2<w.heap.size:=by omega
 generalize hQ:bodyPost Yq.prog Yq.f69 _=Q;have HQ:Hid (bodyPost Yq.prog Yq.f69 _=Q):=hQ;clear hQ;unfold cG qV sV ptr lV aD;dsimp only [aZ,bE,Tryz.f69,fI,bB,Option.getD];by_cases hlt:wrap64 (pn * l.size)<(cnt:Int)
 .have HT2:=HTK.out hlt;have hpt:EU l pn cnt=yh l.num (wrap64 (pn+1)):=by rw [EU,kN,kN,if_pos hlt]
  rw [hpt] at HQ;generalize yh l.num (wrap64 (pn+1))=tk at HT2 HQ;clear hpt;go_wp2_with (go_at_call 98;refine HT2.mono ?_;clear HT2;rintro e w1 ⟨rfl,hb1⟩;replace c0:=aj hb1 c0;replace c1:=aj hb1 c1;replace d0:=aj hb1 d0;replace d1:=aj hb1 d1;replace z0:=(hb1.frozen (p:=⟨n+2,0,none⟩) hcw).trans z0;replace z1:=(hb1.frozen (p:=⟨n+2,1,none⟩) hcw).trans z1;replace y0:=(hb1.frozen (p:=⟨n+1,0,none⟩) (by show n+1<_;omega)).trans y0;replace y1:=(hb1.frozen (p:=⟨n+1,1,none⟩) (by show n+1<_;omega)).trans y1)
  rw [<-HQ.out];obtain ⟨I,hown⟩:=HI.out;have hset:∀b,b≠n+1->b≠n+2->(((w1.setCell ⟨n+2,1,none⟩ (.string tk)).setCell ⟨n+1,0,none⟩ (.slice so sn sc)).setCell ⟨n+1,1,none⟩ (.string tk)).heap[b]?=w1.heap[b]?:=fun b h1 h2=>by
   rw [bS _ _ _ _ h1,bS _ _ _ _ h1,bS _ _ _ _ h2]
  refine bodyPost_ret (v:=.agg #[.slice so sn sc,.string tk]) (by simp [results,Tryz.results69,go_sem,d0,d1]) rfl ⟨_,rfl,aX hown fun g h1 h2=>?_,?_,?_,fun b hb=>?_⟩
  .rw [hset g (by omega) (by omega)];exact hb1.block g h2
  .exact hb1.os.trans I.os
  .have:=hb1.size;simp;omega
  .rw [hset b (by omega) (by omega),hb1.block b (by omega)];exact I.block b (by omega) (by omega) (by omega)
 .have hpt:EU l pn cnt=⟨#[]⟩:=by rw [EU,kN,kN,if_neg hlt]
  rw [hpt] at HQ;clear hpt;go_wp2_with fail
  rw [<-HQ.out];obtain ⟨I,hown⟩:=HI.out;have hset:∀b,b≠n+1->((w.setCell ⟨n+1,0,none⟩ (.slice so sn sc)).setCell ⟨n+1,1,none⟩ (.string ⟨#[]⟩)).heap[b]?=w.heap[b]?:=fun b h1=>by
   rw [bS _ _ _ _ h1,bS _ _ _ _ h1]
  refine bodyPost_ret (v:=.agg #[.slice so sn sc,.string ⟨#[]⟩]) (by simp [results,Tryz.results69,go_sem,d0,d1]) rfl ⟨_,rfl,aX hown fun g h1 h2=>?_,?_,?_,fun b hb=>?_⟩
  .exact hset g (by omega)
  .exact I.os
  .simp;omega
  .rw [hset b (by omega)];exact I.block b (by omega) (by omega) (by omega)
def F8 (V:Wz)(l:Lst)(pn:Int)(its:List ItD)(e:Ending)(w':Wz):Prop:=
 ∃sv,e=.returned (.agg #[sv,.string (EU l pn its.length)])/\w'.ownsRow V.heap.size 41 3 sv (ey l pn 0 its).length (ay (ey l pn 0 its))/\ak V w'
def Stop (Qok:Qy->Prop)(e:Ending)(w':Wz):Prop:=∃x y r,e=.panicked (stopEntry x y::r)/\∃ls pn L,x=lV ls/\y=.int .i64 pn/\FB Qok ls L w'
theorem uF (Qok:Qy->Prop)(hQ:∀q,Qok q->gH q/\gI q)(l:Lst)(pn:Int)(f:List UInt8->List Ver)(V:Wz)(hp:F7 Qok l f V)(G:Wz->Prop)(hG:∀w',ak V w'->G w')(hT:IntKind.i64.wrap (pn * l.size)<((lQ l f).length:Int)->jY G l.num (IntKind.i64.wrap (pn+1))):
  Calls Yq.prog 69 #[lV l,.int .i64 pn] V fun e w'=>F8 V l pn (lQ l f) e w'\/Stop Qok e w':=by
 have hPre:=Ay Qok hQ;have hpp:FB Qok l ((lQ l f).map itVal) V:=⟨f,hp,rfl⟩;intro cs;rcases Az (V.tape V.drawn (.order 69 100)) with hs|hs
 .obtain ⟨fr,hst,hm,hd,hf⟩:=rv (lV l) (.int .i64 pn) cs V hs;refine ⟨.panicked [stopEntry (lV l) (.int .i64 pn)],{V with drawn:=V.drawn+1},fr,.inr ⟨_,_,_,rfl,l,pn,_,rfl,rfl,hPre.on V _ l _ (fun _ _=>rfl) (lR _) hpp⟩,hst,hf,hm,hd,_,by rw [hf];exact Yq.func69⟩
 .obtain ⟨V4,hst,hb4,hc4,hos4⟩:=rz hPre l pn _ V cs hpp hs;have hrow:∀i,i<7->i≠5->V4.heap[V.heap.size+i]?=_:=fun i h1 h2=>(hb4 _ (by omega) (by omega)).trans (bJ V l 1000 i h1)
  have r0:=hrow 0 (by omega) (by omega);have r1:=hrow 1 (by omega) (by omega);have r2:=hrow 2 (by omega) (by omega);have hc:V.heap.size+5<V4.heap.size:=(eS hc4).1;have hlen:(lQ l f).length<=1000:=by have:=hPre.len l _ V hpp;simpa using this
  have hloop:=yg l pn V.heap.size (V.heap.size+5) V4 (by omega) hc (by simp only [Nat.add_zero] at r0;simp [World.cell?,r0,aD]) (lQ l f) 0 [] (fun _=>Wy) V4 (se r2 ⟨_,_,_,hc4⟩) (by simp) (by omega);simp only [zA,List.nil_append] at hloop;have hold:∀b,b<V.heap.size->V4.heap[b]?=V.heap[b]?:=fun b hb=>(hb4 b (by omega) (by omega)).trans (dX V l 1000 hb)
  have hcode:(Code.block 0 (.loop ci)).wp Yq.prog (fun e a w=>e=.normal/\(bB bE).wp Yq.prog (bodyPost Yq.prog Yq.f69 (F8 V l pn (lQ l f))) a w) ⟨cG V.heap.size l pn (V.heap.size+5) 0 (fun _=>Wy),[]⟩ V4:=by
   refine wp_block (wp_mono (wp_loop_rounds _ hloop) ?_);rintro e a w' ⟨rfl,⟨u',rfl⟩,I⟩;have hG':G w':=hG w' ⟨I.os.trans hos4,by have:=I.size;omega,fun b hb=>(I.block b (by omega) (by omega) (by omega)).trans (hold b hb)⟩;simp only [Exit.inBlock,if_true];refine ⟨trivial,wp_mono (AA l pn V.heap.size (V.heap.size+5) (lQ l f).length _ u' V4 w' G (by omega) hc (by simpa using r0) r1 I hG' hT) ?_⟩;intro e a w2 h;cases e with
   |normal=>obtain ⟨h1,v,h2,sv,h3,h4,h5,h6,h7⟩:=h;exact ⟨h1,v,h2,sv,h3,jS h4 (by omega),h5.trans hos4,by omega,fun b hb=>(h7 b hb).trans (hold b hb)⟩
   |ret=>obtain ⟨h1,v,h2,sv,h3,h4,h5,h6,h7⟩:=h;exact ⟨h1,v,h2,sv,h3,jS h4 (by omega),h5.trans hos4,by omega,fun b hb=>(h7 b hb).trans (hold b hb)⟩
   |panic chain=>obtain ⟨h1,sv,h3,-⟩:=h;cases h3
   |outgrown=>obtain ⟨sv,h3,-⟩:=h;cases h3
   |exit id=>exact h.elim
   |goto l=>exact h.elim
  obtain ⟨e1,a1,w1,⟨rfl,hq1⟩,harr1⟩:=hcode (base 69) [.code (bB bE)] cs;obtain ⟨e,a',w',hq,harr2⟩:=hq1 (base 69) [] cs;have hpre:Steps Yq.prog (lone (Frame.enter Yq.prog 69 #[lV l,.int .i64 pn] .normal) cs V) (lone ((base 69).at a1 [.code (bB bE)]) cs w1):=
   Steps.trans hst (Steps.trans (.one (step_region_end (P:=Yq.prog) (b:=base 69) (k:=[.code (.block 0 (.loop ci)),.code (bB bE)]))) harr1)
  cases e with
  |normal=>
   obtain ⟨hd,v,hr,hR⟩:=hq;exact ⟨.returned v,w',_,.inl hR,Steps.trans hpre (Steps.trans harr2 (.one step_end)),rfl,rfl,hd,rfl,_,Yq.func69,hr⟩
  |ret=>
   obtain ⟨hd,v,hr,hR⟩:=hq;obtain ⟨todo,hs⟩:=harr2;exact ⟨.returned v,w',_,.inl hR,Steps.trans hpre hs,rfl,rfl,hd,rfl,_,Yq.func69,hr⟩
  |panic chain=>obtain ⟨-,sv,h3,-⟩:=hq;cases h3
  |outgrown=>obtain ⟨sv,h3,-⟩:=hq;cases h3
  |exit id=>exact hq.elim
  |goto l=>exact hq.elim
end
end Go.Proofs.Qw
namespace Go.Proofs
section
open Go.Shelf Go.Lib Go.Sort
def Yq.laysM171_ren:Go.Shelf.Ren:=⟨fun| 171=>121| 243=>141| 246=>158| 283=>167| 284=>168| 285=>169| 286=>170| 129=>151| 317=>176| 318=>177| 319=>178| 320=>179| 337=>182| 338=>183|n=>n,fun| 3=>3| 9=>9| 2=>2| 4=>4| 171=>239| 0=>0| 53=>57| 37=>48| 5=>5| 173=>241| 212=>249| 51=>222| 20=>20| 213=>250| 46=>199| 232=>253| 233=>254|n=>n,fun| 17=>1| 18=>2| 19=>3|n=>n⟩
theorem Yq.laysM171:Go.Proofs.LaysM.n171 Yq.prog Yq.laysM171_ren:={
 mixed:=by kernel_rfl
 f129:=(Yq.nq Tryz.func151).trans (congrArg some (by kernel_rfl))
 f171:=(Yq.nq Tryz.func121).trans (congrArg some (by kernel_rfl))
 f243:=(Yq.nq Tryz.func141).trans (congrArg some (by kernel_rfl))
 f246:=(Yq.nq Tryz.func158).trans (congrArg some (by kernel_rfl))
 f283:=(Yq.nq Tryz.func167).trans (congrArg some (by kernel_rfl))
 f284:=(Yq.nq Tryz.func168).trans (congrArg some (by kernel_rfl))
 f285:=(Yq.nq Tryz.func169).trans (congrArg some (by kernel_rfl))
 f286:=(Yq.nq Tryz.func170).trans (congrArg some (by kernel_rfl))
 f317:=(Yq.nq Tryz.func176).trans (congrArg some (by kernel_rfl))
 f318:=(Yq.nq Tryz.func177).trans (congrArg some (by kernel_rfl))
 f319:=(Yq.nq Tryz.func178).trans (congrArg some (by kernel_rfl))
 f320:=(Yq.nq Tryz.func179).trans (congrArg some (by kernel_rfl))
 f337:=(Yq.nq Tryz.func182).trans (congrArg some (by kernel_rfl))
 f338:=(Yq.nq Tryz.func183).trans (congrArg some (by kernel_rfl))
 t0:=(Yq.u Tryz.underlying0)
 a0:=(fun w=>Yq.a (Tryz.isAgg0 w))
 z0:=(fun w=>Yq.s (Tryz.sizeOf0 w))
 v0:=(fun w=>Yq.z (Tryz.zeroValue0 w))
 t2:=(Yq.u Tryz.underlying2)
 a2:=(fun w=>Yq.a (Tryz.isAgg2 w))
 z2:=(fun w=>Yq.s (Tryz.sizeOf2 w))
 v2:=(fun w=>Yq.z (Tryz.zeroValue2 w))
 t3:=(Yq.u Tryz.underlying3)
 a3:=(fun w=>Yq.a (Tryz.isAgg3 w))
 z3:=(fun w=>Yq.s (Tryz.sizeOf3 w))
 v3:=(fun w=>Yq.z (Tryz.zeroValue3 w))
 t4:=(Yq.u Tryz.underlying4)
 a4:=(fun w=>Yq.a (Tryz.isAgg4 w))
 z4:=(fun w=>Yq.s (Tryz.sizeOf4 w))
 v4:=(fun w=>Yq.z (Tryz.zeroValue4 w))
 t5:=(Yq.u Tryz.underlying5)
 a5:=(fun w=>Yq.a (Tryz.isAgg5 w))
 z5:=(fun w=>Yq.s (Tryz.sizeOf5 w))
 v5:=(fun w=>Yq.z (Tryz.zeroValue5 w))
 t9:=(Yq.u Tryz.underlying9)
 a9:=(fun w=>Yq.a (Tryz.isAgg9 w))
 z9:=(fun w=>Yq.s (Tryz.sizeOf9 w))
 v9:=(fun w=>Yq.z (Tryz.zeroValue9 w))
 t20:=(Yq.u Tryz.underlying20)
 a20:=(fun w=>Yq.a (Tryz.isAgg20 w))
 z20:=(fun w=>Yq.s (Tryz.sizeOf20 w))
 v20:=(fun w=>Yq.z (Tryz.zeroValue20 w))
 t37:=(Yq.u Tryz.underlying48)
 a37:=(fun w=>Yq.a (Tryz.isAgg48 w))
 z37:=(fun w=>Yq.s (Tryz.sizeOf48 w))
 v37:=(fun w=>Yq.z (Tryz.zeroValue48 w))
 t46:=(Yq.u Tryz.underlying199)
 a46:=(fun w=>Yq.a (Tryz.isAgg199 w))
 z46:=(fun w=>Yq.s (Tryz.sizeOf199 w))
 v46:=(fun w=>Yq.z (Tryz.zeroValue199 w))
 t51:=(Yq.u Tryz.underlying222)
 a51:=(fun w=>Yq.a (Tryz.isAgg222 w))
 z51:=(fun w=>Yq.s (Tryz.sizeOf222 w))
 v51:=(fun w=>Yq.z (Tryz.zeroValue222 w))
 t53:=(Yq.u Tryz.underlying57)
 a53:=(fun w=>Yq.a (Tryz.isAgg57 w))
 z53:=(fun w=>Yq.s (Tryz.sizeOf57 w))
 v53:=(fun w=>Yq.z (Tryz.zeroValue57 w))
 t171:=(Yq.u Tryz.underlying239)
 a171:=(fun w=>Yq.a (Tryz.isAgg239 w))
 z171:=(fun w=>Yq.s (Tryz.sizeOf239 w))
 v171:=(fun w=>Yq.z (Tryz.zeroValue239 w))
 t173:=(Yq.u Tryz.underlying241)
 a173:=(fun w=>Yq.a (Tryz.isAgg241 w))
 z173:=(fun w=>Yq.s (Tryz.sizeOf241 w))
 v173:=(fun w=>Yq.z (Tryz.zeroValue241 w))
 t212:=(Yq.u Tryz.underlying249)
 a212:=(fun w=>Yq.a (Tryz.isAgg249 w))
 z212:=(fun w=>Yq.s (Tryz.sizeOf249 w))
 v212:=(fun w=>Yq.z (Tryz.zeroValue249 w))
 t213:=(Yq.u Tryz.underlying250)
 a213:=(fun w=>Yq.a (Tryz.isAgg250 w))
 z213:=(fun w=>Yq.s (Tryz.sizeOf250 w))
 t232:=(Yq.u Tryz.underlying253)
 a232:=(fun w=>Yq.a (Tryz.isAgg253 w))
 z232:=(fun w=>Yq.s (Tryz.sizeOf253 w))
 v232:=(fun w=>Yq.z (Tryz.zeroValue253 w))
 t233:=(Yq.u Tryz.underlying254)
 a233:=(fun w=>Yq.a (Tryz.isAgg254 w))
 z233:=(fun w=>Yq.s (Tryz.sizeOf254 w))
 v233:=(fun w=>Yq.z (Tryz.zeroValue254 w))
 g17:=by kernel_rfl
 g18:=by kernel_rfl
 g19:=by kernel_rfl
 i0:=by kernel_rfl
 i2:=by kernel_rfl
 i3:=by kernel_rfl
 i4:=by kernel_rfl
 i5:=by kernel_rfl
 i9:=by kernel_rfl
 i20:=by kernel_rfl
 i37:=by kernel_rfl
 i46:=by kernel_rfl
 i51:=by kernel_rfl
 i53:=by kernel_rfl
 i171:=by kernel_rfl
 i173:=by kernel_rfl
 i212:=by kernel_rfl
 i232:=by kernel_rfl
 i233:=by kernel_rfl
 m17:=by kernel_rfl
 m18:=by kernel_rfl
 m19:=by kernel_rfl}
theorem Yq.strconv_Itoa (n : Int) (h0 : -9223372036854775808 ≤ n) (h1 : n ≤ 9223372036854775807) (w : Wz) (htab : Lib.TabIs Yq.prog w "internal/strconv.uint64pow10" .u64 Lib.pow10Tab) :
  Calls Yq.prog 121 #[.int .i64 n] w fun e w'=>e=.returned (.string ⟨(Lib.itoa n).toArray⟩)/\∃k os,w'=grow (w.drewN k) os:=Any.strconv_Itoa Yq.laysM171 n h0 h1 w htab
end
end Go.Proofs
namespace Go.Proofs.Qw
section
open Go
open Go.Conc Go.ConcX Go.ConcX.Gen Go.RowKit
theorem CI (i:Nat):Lib.itoa (i:Int)=Lib.decDigits i:=by simp [Lib.itoa]
theorem wi:∀ (k u:Nat),u<10 ^ (k+1)->(Lib.decDigits u).length<=k+1
 | 0,u,h=>by
  rw [Lib.decDigits,dif_pos (by simpa using h)];simp
 |k+1,u,h=>by
  rw [Lib.decDigits];split
  .simp
  .have h1:u / 10<10 ^ (k+1):=by rw [Nat.pow_succ] at h;omega
   have:=wi k (u / 10) h1;rw [lP,lS];omega
theorem wj {n:Int}(h0:0<=n)(h1:n<=9223372036854775807):(Lib.itoa n).length<=19:=by
 obtain ⟨u,rfl⟩:=Int.eq_ofNat_of_zero_le h0;have e:Lib.itoa ((u:Nat):Int)=Lib.decDigits u:=CI u;rw [e];exact wi 18 u (by have:(u:Int)<=9223372036854775807:=h1;omega)
def qo (w : Wz) : Prop := Lib.TabIs Yq.prog w "internal/strconv.uint64pow10" .u64 Lib.pow10Tab
theorem qo.on {w w':Wz}(h:qo w)(hb:∀b,b<w.heap.size->w'.heap[b]?=w.heap[b]?):qo w':=by
 unfold qo Lib.TabIs World.var? at *
 cases hg : Yq.prog.globalNamed "internal/strconv.uint64pow10" with
 |none=>rw [hg] at h;cases h
 |some g=>
  rw [hg] at h;simp only [Option.bind_some] at h ⊢;have hlt:g<w.heap.size:=by
   cases hh:w.heap[g]? with
   |none=>rw [hh] at h;cases h
   |some o=>exact (eS hh).1
  rw [hb g hlt];exact h
theorem oX (w:Wz)(k:Nat)(os:Array Obj):Below w.heap.size w (Sort.grow (w.drewN k) os):=
 ⟨rfl,rfl,rfl,by simp [Sort.grow,World.drewN],fun b hb=>by simp [Sort.grow,World.drewN,Array.getElem?_append_left hb]⟩
theorem EV (n pg:Int)(hn:0<=n/\n<=9223372036854775807)(hp:0<=pg/\pg<=9223372036854775807):jY qo n pg:=by
 intro l w hG hl;obtain ⟨num,root,vs,p,d,af,size,left⟩:=l;simp only at hl;subst hl;unfold yh;have h1:Hid (∀W,Below w.heap.size w W->Calls Yq.prog 121 #[.int .i64 num] W fun e w'=>e=.returned (.string ⟨(Lib.itoa num).toArray⟩)/\Below W.heap.size W w'):=fun W hb=>by
  refine (Yq.strconv_Itoa num (by omega) hn.2 W (hG.on hb.block)).mono ?_;rintro e w' ⟨rfl,k,os,rfl⟩;exact ⟨rfl,oX W k os⟩
 have h2:Hid (∀W,Below w.heap.size w W->Calls Yq.prog 121 #[.int .i64 pg] W fun e w'=>e=.returned (.string ⟨(Lib.itoa pg).toArray⟩)/\Below W.heap.size W w'):=fun W hb=>by
  refine (Yq.strconv_Itoa pg (by omega) hp.2 W (hG.on hb.block)).mono ?_;rintro e w' ⟨rfl,k,os,rfl⟩;exact ⟨rfl,oX W k os⟩
 have ha:=wj hn.1 hn.2;have hb:=wj hp.1 hp.2;generalize Lib.itoa num=a at *;generalize Lib.itoa pg=b at *;have HW:Hid (∀c,Below w.heap.size w (w.alloc c)):=fun c=>(bR _ _).alloc (lR _) _
 clear hG hn hp;unfold lV aD;go_enter (Yq.nq Tryz.func98),Tryz.ntmps98;go_wp2_with fail
 refine (h1.out _ (HW.out _)).mono ?_;rintro e w1 ⟨rfl,b1⟩;have HB1:Hid (Below w.heap.size w w1):=(HW.out _).trans (b1.mono (by simp));clear b1;go_wp2_with fail
 all_goals try (exfalso;rename_i hx;simp [ByteArray.size_append,ByteArray.size,maxLen] at hx;omega)
 refine (h2.out _ HB1.out).mono ?_;rintro e w2 ⟨rfl,b2⟩;have HB2:Hid (Below w.heap.size w w2):=HB1.out.trans (b2.mono HB1.out.size);clear b2;go_wp2_with fail
 all_goals try (exfalso;rename_i hx;simp [ByteArray.size_append,ByteArray.size,maxLen] at hx;omega)
 go_ret;refine ⟨?_,HB2.out⟩;have e:(⟨a.toArray⟩:ByteArray)++⟨#[46]⟩++⟨b.toArray⟩=⟨(a++46::b).toArray⟩:=by
  apply ByteArray.ext;simp
 rw [<-e];rfl
end
section
open Go
open Go.RowKit
open Go.Conc Go.ConcX Go.ConcX.Gen
def F9 (P:Wx)(u:Wk):Bool:=match P.underlying u with|some (.int _)=>true|_=>false
theorem CJ {P:Wx}{w:Wz}{r:_root_.Go.Reach}{base:Nat}{u:Wk}{v:Wq}(hu:F9 P u=true)(h:Cell.ok P w r base u v):me v=true:=by
 unfold F9 at hu;unfold Cell.ok at h;cases hx:P.underlying u with
 |none=>rw [hx] at hu;cases hu
 |some t=>
  rw [hx] at hu h;cases t<;>first|(cases hu;done)|skip
  cases v<;>first|rfl|(exact h.elim)
theorem EW {P:Wx}{w:Wz}{t:Wk}{cs:Array Wq}(ht:(P.cellTypes P.depth t).map (fun ts=>ts.all (F9 P))=some true)(h:Row.ok P w .any 0 t cs):∀ (i:Nat) v,cs[i]?=some v->me v=true:=by
 obtain ⟨ts,h1,-,h3⟩:=h;rw [h1] at ht;have ht':ts.all (F9 P)=true:=oJ ht;intro i v hv;obtain ⟨u,hu,hc⟩:=h3 i v hv;exact CJ (List.all_eq_true.1 ht' u (List.mem_of_getElem? hu)) hc
theorem CK {α β:Type}{x:Option (α×β)}{t:β}(h:x.map (·.2)=some t):∃z,x=some (z,t):=by
 cases x with
 |none=>cases h
 |some a=>obtain ⟨z,y⟩:=a;cases h;exact ⟨z,rfl⟩
theorem sB {W:Wz}(h:W.ShapedOpen Tryz.prog):∀b,b<Tryz.prog.globals.size->∃c e z,W.heap[b]?=some (.cells c e z)/\∀ (i:Nat) v,c[i]?=some v->me v=true:=by
 have hg:Tryz.prog.globals.size=4:=by kernel_rfl
 intro b hb;have key:∀t,((((begin Tryz.prog (fun _ _=>0) default).world.heap[b]?).bind Obj.row?).map (·.2)=some t)->(Tryz.prog.cellTypes Tryz.prog.depth t).map (fun ts=>ts.all (F9 Tryz.prog))=some true->Tryz.prog.buildable t=true->∃c e z,W.heap[b]?=some (.cells c e z)/\∀ (i:Nat) v,c[i]?=some v->me v=true:=fun t h1 h2 h3=>by
  obtain ⟨z,hz⟩:=CK h1;obtain ⟨cs,e1,-,e3⟩:=h.1 b z t hb hz;exact ⟨cs,t,(0,0),e1,EW h2 (e3 h3)⟩
 rw [hg] at hb;have hb4:b=0\/b=1\/b=2\/b=3:=by omega
 rcases hb4 with rfl|rfl|rfl|rfl
 .exact key 3 (by kernel_rfl) (by kernel_rfl) (by kernel_rfl)
 .exact key 249 (by kernel_rfl) (by kernel_rfl) (by kernel_rfl)
 .exact key 253 (by kernel_rfl) (by kernel_rfl) (by kernel_rfl)
 .exact key 254 (by kernel_rfl) (by kernel_rfl) (by kernel_rfl)
theorem CL {W:Wz}(h:W.ShapedOpen Tryz.prog){X:Nat->Prop}(hX:∀b,X b->∃c e z,W.heap[b]?=some (.cells c e z)):Start W (fun b=>b<Tryz.prog.globals.size\/X b):=
 ⟨fun b hb=>by
  rcases hb with hb|hb
  .obtain ⟨c,e,z,h1,-⟩:=sB h b hb;exact ⟨c,e,z,h1⟩
  .exact hX b hb,fun g hg=>.inl hg⟩
theorem Clean.glob {W V:Wz}{D0:Nat->Prop}(hc:Clean D0 W V)(h:W.ShapedOpen Tryz.prog):∀b,b<Tryz.prog.globals.size->V.heap[b]?=W.heap[b]?:=fun b hb=>by
 by_cases hd:D0 b
 .obtain ⟨c,e,z,h1,h2⟩:=sB h b hb;obtain ⟨c',c0,e',z',k1,k2,k3,k4⟩:=hc.row b hd;rw [h1] at k1;cases k1;rw [h1,k2];refine congrArg (fun x=>some (Obj.cells x e z)) (Array.ext_getElem? fun i=>?_);by_cases hi:i<c.size
  .obtain ⟨u,q1,q2⟩:=k4 i _ (eG hi);rw [q1,q2.one (h2 i _ (eG hi)),eG hi]
  .rw [Array.getElem?_eq_none (by rw [k3];omega),Array.getElem?_eq_none (by omega)]
 .exact hc.rest b hd
theorem EX {W:Wz}(h:W.ShapedOpen Tryz.prog):cI W:=by
 have hg:0<Tryz.prog.globals.size:=ju;have h1:(((begin Tryz.prog (fun _ _=>0) default).world.heap[0]?).bind Obj.row?).map (fun x=>(x.1.size,x.2))=some (1,3):=by kernel_rfl
 have hu:Tryz.prog.underlying 3=some (.int .i64):=Tryz.underlying3;cases hx:((begin Tryz.prog (fun _ _=>0) default).world.heap[0]?).bind Obj.row? with
 |none=>rw [hx] at h1;cases h1
 |some x=>
  obtain ⟨z,t⟩:=x;rw [hx] at h1;simp only [Option.map_some,oI,Prod.mk.injEq] at h1;obtain ⟨hz,rfl⟩:=h1;obtain ⟨cs,e1,e2,e3⟩:=h.1 0 z 3 hg hx;obtain ⟨ts,k1,-,k3⟩:=e3 (by kernel_rfl);have hs:cs.size=1:=by omega
  have hts:ts=[3]:=oJ (k1.symm.trans (show Tryz.prog.cellTypes Tryz.prog.depth 3=some [3] by kernel_rfl));subst hts;obtain ⟨u,hu1,hc⟩:=k3 0 cs[0] (eG (by omega));simp at hu1;subst hu1;unfold Cell.ok at hc;rw [hu] at hc;have hcell:W.cell? ⟨0,0,none⟩=some cs[0]:=by simp [World.cell?,e1]
  generalize cs[0]=v at *;cases v<;>first|(exact hc.elim)|skip
  rename_i k m;obtain ⟨rfl,-⟩:=hc;exact ⟨m,hcell⟩
theorem cI.glob {W V:Wz}(h:cI W)(hb:∀b,b<Tryz.prog.globals.size->V.heap[b]?=W.heap[b]?):cI V:=by
 obtain ⟨m,hm⟩:=h;exact ⟨m,(cB (a:=⟨0,0,none⟩) (hb 0 ju)).trans hm⟩
theorem rE.frame {W w':Wz}(h:rE W w')(may:MemPlace->Prop):W.keptBut w' may:=by
 refine ⟨h.os,h.output,fun i hi=>?_⟩;rw [h.block i hi];split<;>simp_all
theorem rE.trod {H:Type}{enc:Wk×Wq->H}{P:Wx}{t:Wk}(hl:laidOutB P=true)(hr:P.readableRec t=true)(hrow:t<P.types.size){W W':Wz}{v:Wq}{d:DataW H}{ps:List MemPlace}(h:DataW.Trod enc P W 0 (fun _=>true) true t v d ps)(hb:rE W W')(hlt:∀x∈ps,x.block<W.heap.size):DataW.Trod enc P W' 0 (fun b=>decide (b<W.heap.size)) true t v d ps:=by
 have:=Below.trod (W':={W' with tape:=W.tape}) hl hr hrow h ⟨hb.os,rfl,hb.output,hb.size,hb.block⟩ hlt;exact DataW.Trod.of_heap (w:={W' with tape:=W.tape}) (w':=W') rfl this
theorem lU {P:Wx}{w:Wz}{x:String×DataW Unit}{l:List (String×DataW Unit)}(h:laidMet P (x::l) w):laidMet P l w:=by
 obtain ⟨ps,⟨g,t,cs,fuel,p,q,-,-,-,-,hq,rfl⟩,hn,hm⟩:=h;exact ⟨q,hq,(List.nodup_append.1 hn).2.1,fun b off hb=>hm b off (List.mem_append_right _ hb)⟩
end
section
open Go.RowKit
def dQ (st:St)(key:ByteArray)(n:Int):Ver×Int:=
 if ba key=false then (dC,2)
 else match dO (st.f key.data.toList) n with
  |none=>(dC,5)
  |some r=>match (st.f key.data.toList)[r]? with
   |none=>(dC,5)
   |some v=>if v.mark then (dC,6) else (v,0)
structure Ga (w W0:Wz):Prop where
 below:Below w.heap.size w W0
 c0:W0.cell? ⟨w.heap.size,0,none⟩=some (.int .i64 0)
 c1:W0.cell? ⟨w.heap.size,1,none⟩=some (.string ⟨#[]⟩)
 c2:W0.cell? ⟨w.heap.size,2,none⟩=some (.bool false)
 fz:∀j,W0.frozen? ⟨w.heap.size,j,none⟩=false
theorem GX (w:Wz):Ga w (w.alloc (.cells #[.int .i64 0,.string ⟨#[]⟩,.bool false] 81)):=
 ⟨(bR _ w).alloc (lR _) _,by rw [cA (w:=w) _ _ w.heap.size 0 rfl];rfl,by rw [cA (w:=w) _ _ w.heap.size 1 rfl];rfl,by rw [cA (w:=w) _ _ w.heap.size 2 rfl];rfl,fun j=>World.frozen?_alloc_at (w:=w) _ _ w.heap.size j rfl⟩
theorem Ga.on {w W0 w1:Wz}(h:Ga w W0)(hb:Below W0.heap.size W0 w1):Ga w w1:=
 ⟨h.below.trans (hb.mono h.below.size),aj hb h.c0,aj hb h.c1,aj hb h.c2,fun j=>(hb.frozen (p:=⟨w.heap.size,j,none⟩) (show w.heap.size<W0.heap.size from bC W0 ⟨w.heap.size,0,none⟩ h.c0)).trans (h.fz j)⟩
theorem AB (A:Nat->Prop)(k0:Nat)(st:St)(s:Nat)(key:ByteArray)(n:Int)(w:Wz)(hk:key.size<=maxLen)(S:ax A w k0 st)(hI:Inv st s)(hs:s<=2199023255340):
  Calls Yq.prog 37 #[.pointer (some ⟨k0,0,none⟩),.string key,.int .i64 n] w fun e w'=>e=.returned (.tuple #[bL (dQ st key n).1,.int .i64 (dQ st key n).2])/\Below w.heap.size w w':=by
 have R0:=GX w;have HF:=r8 A k0 st s key n _ hk (S.on R0.below) hI hs;have HR0:Hid (Ga w (w.alloc (.cells #[.int .i64 0,.string ⟨#[]⟩,.bool false] 81))):=R0;have hle:=hI.len key.data.toList;clear R0 S;go_enter (Yq.nq Tryz.func37),Tryz.ntmps37;go_wp2_with fail
 refine HF.mono ?_;generalize w.alloc (.cells #[.int .i64 0,.string ⟨#[]⟩,.bool false] 81)=W0 at *;rintro e w1 ⟨hb1,hcase⟩;have R1:=HR0.out.on hb1;have d0:=R1.c0;have d1:=R1.c1;have d2:=R1.c2;have g0:=R1.fz 0;have g1:=R1.fz 1;have g2:=R1.fz 2;have HB:Hid (Below w.heap.size w w1):=R1.below;clear R1 HR0 HF hb1;rcases hcase with ⟨hkey,rfl⟩|⟨hkey,hpl,rfl⟩|⟨hkey,r,ha,hc,hpl,hr,hh,rfl⟩
 .have HR:Hid (dQ st key n=(dC,2)):=show dQ st key n=(dC,2) by simp [dQ,hkey]
  clear hkey;go_wp2;refine bodyPost_ret (v:=.tuple #[bL (dQ st key n).1,.int .i64 (dQ st key n).2]) (by rw [HR.out];simp [results,Tryz.results37,go_sem,bL,dC,d0,d1,d2]) rfl ⟨rfl,?_⟩;exact ((HB.out.setCell (lR _) _).setCell (lR _) _).setCell (lR _) _
 .have HR:Hid (dQ st key n=(dC,5)):=show dQ st key n=(dC,5) by simp [dQ,hkey,hpl]
  clear hkey hpl;go_wp2;refine bodyPost_ret (v:=.tuple #[bL (dQ st key n).1,.int .i64 (dQ st key n).2]) (by rw [HR.out];simp [results,Tryz.results37,go_sem,bL,dC,d0,d1,d2]) rfl ⟨rfl,?_⟩;exact ((HB.out.setCell (lR _) _).setCell (lR _) _).setCell (lR _) _
 .have hne:st.f key.data.toList≠[]:=by intro e;rw [e] at hr;simp at hr
  obtain ⟨g,cap,he,-,-,hcc,-⟩:=hh.cells hne;cases he;obtain ⟨x0,x1,x2⟩:=hcc r hr;have HR:Hid (dQ st key n=if (st.f key.data.toList)[r].mark then (dC,6) else ((st.f key.data.toList)[r],0)):=show dQ st key n=_ by simp [dQ,hkey,hpl,hr]
  generalize (st.f key.data.toList)[r]=v at *;obtain ⟨nm,bd,mk⟩:=v;simp only at x0 x1 x2;clear hcc hh hkey hpl hne;generalize (st.f key.data.toList).length=m at *;have hri:(r:Int)<(m:Int):=by omega
  cases mk with
  |true=>
   go_wp2;refine bodyPost_ret (v:=.tuple #[bL (dQ st key n).1,.int .i64 (dQ st key n).2]) (by rw [HR.out];simp [results,Tryz.results37,go_sem,bL,dC,d0,d1,d2]) rfl ⟨rfl,?_⟩;exact ((HB.out.setCell (lR _) _).setCell (lR _) _).setCell (lR _) _
  |false=>
   go_wp2;refine bodyPost_ret (v:=.tuple #[bL (dQ st key n).1,.int .i64 (dQ st key n).2]) (by rw [HR.out];simp [results,Tryz.results37,go_sem,bL,d0,d1,d2]) rfl ⟨rfl,?_⟩;exact ((HB.out.setCell (lR _) _).setCell (lR _) _).setCell (lR _) _
structure j8 (w W0:Wz):Prop where
 below:Below w.heap.size w W0
 lt:w.heap.size+1<W0.heap.size
 c0:W0.cell? ⟨w.heap.size+1,0,none⟩=some (.int .i64 0)
 c1:W0.cell? ⟨w.heap.size+1,1,none⟩=some (.int .i64 0)
 c2:W0.cell? ⟨w.heap.size+1,2,none⟩=some (.string ⟨#[]⟩)
 c3:W0.cell? ⟨w.heap.size+1,3,none⟩=some (.slice none 0 0)
 c4:W0.cell? ⟨w.heap.size+1,4,none⟩=some (.string ⟨#[]⟩)
 fz:∀j,W0.frozen? ⟨w.heap.size+1,j,none⟩=false
theorem Gc (w:Wz)(cs:Array Wq):j8 w ((w.alloc (.cells cs 31)).alloc (.cells #[.int .i64 0,.int .i64 0,.string ⟨#[]⟩,.slice none 0 0,.string ⟨#[]⟩] 36)):=by
 have h:∀j,((w.alloc (.cells cs 31)).alloc (.cells #[.int .i64 0,.int .i64 0,.string ⟨#[]⟩,.slice none 0 0,.string ⟨#[]⟩] 36)).cell? ⟨w.heap.size+1,j,none⟩=(#[.int .i64 0,.int .i64 0,.string ⟨#[]⟩,.slice none 0 0,.string ⟨#[]⟩]:Array Wq)[j]?:=fun j=>
  cA (w:=w.alloc (.cells cs 31)) _ _ (w.heap.size+1) j (by simp)
 refine ⟨((bR _ w).alloc (lR _) _).alloc (by simp) _,by simp,h 0,h 1,h 2,h 3,h 4,fun j=>World.frozen?_alloc_at (w:=w.alloc (.cells cs 31)) _ _ (w.heap.size+1) j (by simp)⟩
theorem j8.on {w W0 w1:Wz}{k0:Nat}(h:j8 w W0)(hk:k0<w.heap.size)(hg:W0.grownBy w1 (some k0)):
  (w1.cell? ⟨w.heap.size+1,0,none⟩=some (.int .i64 0)/\w1.cell? ⟨w.heap.size+1,1,none⟩=some (.int .i64 0)/\w1.cell? ⟨w.heap.size+1,2,none⟩=some (.string ⟨#[]⟩)/\w1.cell? ⟨w.heap.size+1,3,none⟩=some (.slice none 0 0)/\w1.cell? ⟨w.heap.size+1,4,none⟩=some (.string ⟨#[]⟩)) /\
  (w1.frozen? ⟨w.heap.size+1,0,none⟩=false/\w1.frozen? ⟨w.heap.size+1,1,none⟩=false/\w1.frozen? ⟨w.heap.size+1,2,none⟩=false/\w1.frozen? ⟨w.heap.size+1,3,none⟩=false/\w1.frozen? ⟨w.heap.size+1,4,none⟩=false):=by
 have hne:∀o,some (⟨w.heap.size+1,o,none⟩:Ww).block≠some k0:=fun o e=>by simp at e;omega
 have hf:∀j,w1.frozen? ⟨w.heap.size+1,j,none⟩=false:=fun j=>(fx hg ⟨w.heap.size+1,j,none⟩ h.lt (hne j)).trans (h.fz j)
 exact ⟨⟨hg.cell h.c0 (hne 0),hg.cell h.c1 (hne 1),hg.cell h.c2 (hne 2),hg.cell h.c3 (hne 3),hg.cell h.c4 (hne 4)⟩,hf 0,hf 1,hf 2,hf 3,hf 4⟩
theorem j8.drew {w W0:Wz}(h:j8 w W0):j8 w W0.drew:=⟨h.below.drew,h.lt,h.c0,h.c1,h.c2,h.c3,h.c4,h.fz⟩
def put5 (w1:Wz)(b:Nat)(x0 x1 x2 x3 x4:Wq):Wz:=((((w1.setCell ⟨b,0,none⟩ x0).setCell ⟨b,1,none⟩ x1).setCell ⟨b,2,none⟩ x2).setCell ⟨b,3,none⟩ x3).setCell ⟨b,4,none⟩ x4
theorem nO {A:Nat->Prop}{w W0 w1:Wz}{k0:Nat}{st':St}{v:Wq}(hk:k0<w.heap.size)(ha:∀b,A b->b≠k0)(hW:Below w.heap.size w W0)(hlt:w.heap.size+1<W0.heap.size)(S1:ax (Grow (fun b=>A b/\b<w.heap.size) W0) w1 k0 st')(hg:bN W0 w1 k0)(x0 x1 x2 x3 x4:Wq):
  dg A w k0 st' v (.returned v) (put5 w1 (w.heap.size+1) x0 x1 x2 x3 x4):=by
 have hne:w.heap.size+1≠k0:=by omega
 have hg1:bN w w1 k0:=qi (dP hk hW) hg;refine ⟨rfl,?_,?_⟩
 .obtain ⟨p,C,hN⟩:=S1.cells;unfold put5;refine dB (p:=p) (((((C.far _ _ _ hne).far _ _ _ hne).far _ _ _ hne).far _ _ _ hne).far _ _ _ hne) ?_ (gl ha hk);refine ai.keep (fun b hb _=>?_) 41 p st'.f hN;have hb1:b≠w.heap.size+1:=by
   rcases hb with ⟨⟨_,h⟩,_⟩|h<;>omega
  have hb2:Grow A w b:=by
   rcases hb with ⟨⟨h1,h2⟩,_⟩|h
   .exact Or.inl ⟨h1,h2⟩
   .exact Or.inr (by omega)
  refine ⟨hb2,?_⟩;rw [bS _ _ _ _ hb1,bS _ _ _ _ hb1,bS _ _ _ _ hb1,bS _ _ _ _ hb1,bS _ _ _ _ hb1]
 .unfold put5;exact r9 (r9 (r9 (r9 (r9 hg1 (by omega) _ _) (by omega) _ _) (by omega) _ _) (by omega) _ _) (by omega) _ _
theorem ax.cut {A:Nat->Prop}{w W0:Wz}{k0:Nat}{st:St}(S:ax A w k0 st)(hW:Below w.heap.size w W0):ax (fun b=>A b/\b<w.heap.size) W0 k0 st:=by
 obtain ⟨p,C,hN⟩:=S.cells;exact dB (p:=p) (C.on hW) (ai.keep (fun b h1 h2=>⟨⟨h1,h2⟩,hW.block b h2⟩) 41 p st.f hN) (fun b h=>S.avoid b h.1)
theorem yi (A:Nat->Prop)(k0:Nat)(st:St)(s:Nat)(o:OpD)(w:Wz)(hk:o.key.size<=maxLen)(hbd:o.body.size<=maxLen)(S:ax A w k0 st)(hI:Inv st s)(hs:s<2199023255340)(hkind:o.kind=1):
  Calls Yq.prog 33 #[.pointer (some ⟨k0,0,none⟩),cj o] w (dg A w k0 (jd st o.key o.body).1 (dk ⟨(jd st o.key o.body).2.2,(jd st o.key o.body).2.1,⟨#[]⟩⟩)):=by
 obtain ⟨kind,key,body,delim,past,n,src⟩:=o;simp only at hkind hk hbd;subst hkind;have R0:=(Gc w #[.int .i64 1,.string key,.string body,.string delim,.string past,.int .i64 n,.int .i64 src]).drew;have HC:=wh _ k0 st s key body _ hk hbd (S.cut R0.below) hI hs;have HS:Hid (k0<w.heap.size/\∀b,A b->b≠k0):=⟨S.lt,S.avoid⟩;have HR0:Hid (j8 w ((w.alloc (.cells #[.int .i64 1,.string key,.string body,.string delim,.string past,.int .i64 n,.int .i64 src] 31)).alloc (.cells #[.int .i64 0,.int .i64 0,.string ⟨#[]⟩,.slice none 0 0,.string ⟨#[]⟩] 36)).drew):=R0;clear R0 S;simp only [cj];generalize jd st key body=pr at *;go_enter (Yq.nq Tryz.func33),Tryz.ntmps33;go_wp2_with fail
 go_region_with (go_at_call 35;refine HC.mono ?_;rintro e w1 ⟨rfl,S1,hg1⟩;obtain ⟨⟨d0,d1,d2,d3,d4⟩,g0,g1,g2,g3,g4⟩:=HR0.out.on HS.out.1 hg1.g;have HX:Hid (_/\_):=And.intro S1 hg1;clear S1 hg1 HC)
 all_goals
  go_wp2;refine bodyPost_ret (v:=dk ⟨pr.2.2,pr.2.1,⟨#[]⟩⟩) (by simp [results,Tryz.results33,go_sem,dk,d0,d1,d2,d3,d4]) rfl ?_;exact nO HS.out.1 HS.out.2 HR0.out.below HR0.out.lt HX.out.1 HX.out.2 _ _ _ _ _
theorem uG (A:Nat->Prop)(k0:Nat)(st:St)(s:Nat)(o:OpD)(w:Wz)(hk:o.key.size<=maxLen)(S:ax A w k0 st)(hI:Inv st s)(hs:s<2199023255340)(hkind:o.kind=4):
  Calls Yq.prog 33 #[.pointer (some ⟨k0,0,none⟩),cj o] w (dg A w k0 (dD st o.key).1 (dk ⟨(dD st o.key).2.2,(dD st o.key).2.1,⟨#[]⟩⟩)):=by
 obtain ⟨kind,key,body,delim,past,n,src⟩:=o;simp only at hkind hk;subst hkind;have R0:=(Gc w #[.int .i64 4,.string key,.string body,.string delim,.string past,.int .i64 n,.int .i64 src]).drew;have HC:=su _ k0 st s key _ hk (S.cut R0.below) hI hs;have HS:Hid (k0<w.heap.size/\∀b,A b->b≠k0):=⟨S.lt,S.avoid⟩;have HR0:Hid (j8 w ((w.alloc (.cells #[.int .i64 4,.string key,.string body,.string delim,.string past,.int .i64 n,.int .i64 src] 31)).alloc (.cells #[.int .i64 0,.int .i64 0,.string ⟨#[]⟩,.slice none 0 0,.string ⟨#[]⟩] 36)).drew):=R0;clear R0 S;simp only [cj];generalize dD st key=pr at *;go_enter (Yq.nq Tryz.func33),Tryz.ntmps33;go_wp2_with fail
 go_region_with (go_at_call 38;refine HC.mono ?_;rintro e w1 ⟨rfl,S1,hg1⟩;obtain ⟨⟨d0,d1,d2,d3,d4⟩,g0,g1,g2,g3,g4⟩:=HR0.out.on HS.out.1 hg1.g;have HX:Hid (_/\_):=And.intro S1 hg1;clear S1 hg1 HC)
 all_goals
  go_wp2;refine bodyPost_ret (v:=dk ⟨pr.2.2,pr.2.1,⟨#[]⟩⟩) (by simp [results,Tryz.results33,go_sem,dk,d0,d1,d2,d3,d4]) rfl ?_;exact nO HS.out.1 HS.out.2 HR0.out.below HR0.out.lt HX.out.1 HX.out.2 _ _ _ _ _
theorem sC (A:Nat->Prop)(k0:Nat)(st:St)(s:Nat)(o:OpD)(w:Wz)(hk:o.key.size<=maxLen)(S:ax A w k0 st)(hI:Inv st s)(hs:s<2199023255340)(hkind:o.kind=5):
  Calls Yq.prog 33 #[.pointer (some ⟨k0,0,none⟩),cj o] w (dg A w k0 (dM st o.key o.n).1 (dk ⟨(dM st o.key o.n).2,0,⟨#[]⟩⟩)):=by
 obtain ⟨kind,key,body,delim,past,n,src⟩:=o;simp only at hkind hk;subst hkind;have R0:=(Gc w #[.int .i64 5,.string key,.string body,.string delim,.string past,.int .i64 n,.int .i64 src]).drew;have HC:=ye _ k0 st s key n _ hk (S.cut R0.below) hI hs;have HS:Hid (k0<w.heap.size/\∀b,A b->b≠k0):=⟨S.lt,S.avoid⟩;have HR0:Hid (j8 w ((w.alloc (.cells #[.int .i64 5,.string key,.string body,.string delim,.string past,.int .i64 n,.int .i64 src] 31)).alloc (.cells #[.int .i64 0,.int .i64 0,.string ⟨#[]⟩,.slice none 0 0,.string ⟨#[]⟩] 36)).drew):=R0;clear R0 S;simp only [cj];generalize dM st key n=pr at *;go_enter (Yq.nq Tryz.func33),Tryz.ntmps33;go_wp2_with fail
 go_region_with (go_at_call 39;refine HC.mono ?_;rintro e w1 ⟨rfl,S1,hg1⟩;obtain ⟨⟨d0,d1,d2,d3,d4⟩,g0,g1,g2,g3,g4⟩:=HR0.out.on HS.out.1 hg1.g;have HX:Hid (_/\_):=And.intro S1 hg1;clear S1 hg1 HC)
 all_goals
  go_wp2;refine bodyPost_ret (v:=dk ⟨pr.2,0,⟨#[]⟩⟩) (by simp [results,Tryz.results33,go_sem,dk,d0,d1,d2,d3,d4]) rfl ?_;exact nO HS.out.1 HS.out.2 HR0.out.below HR0.out.lt HX.out.1 HX.out.2 _ _ _ _ _
theorem sD (A:Nat->Prop)(k0:Nat)(st:St)(o:OpD)(w:Wz)(S:ax A w k0 st)(h:o.kind<1\/12<o.kind):
  Calls Yq.prog 33 #[.pointer (some ⟨k0,0,none⟩),cj o] w (dg A w k0 st (dk ⟨1,0,⟨#[]⟩⟩)):=by
 obtain ⟨kind,key,body,delim,past,n,src⟩:=o;simp only at h;have b1:(kind==1)=false:=by simp;omega
 have b2:(kind==2)=false:=by simp;omega
 have b3:(kind==3)=false:=by simp;omega
 have b4:(kind==4)=false:=by simp;omega
 have b5:(kind==5)=false:=by simp;omega
 have b6:(kind==6)=false:=by simp;omega
 have b7:(kind==7)=false:=by simp;omega
 have b8:(kind==8)=false:=by simp;omega
 have b9:(kind==9)=false:=by simp;omega
 have b10:(kind==10)=false:=by simp;omega
 have b11:(kind==11)=false:=by simp;omega
 have b12:(kind==12)=false:=by simp;omega
 have HS:Hid (ax A w k0 st):=S;clear h S;simp only [cj];go_enter (Yq.nq Tryz.func33),Tryz.ntmps33;go_wp2;refine bodyPost_ret (v:=dk ⟨1,0,⟨#[]⟩⟩) (by simp [results,Tryz.results33,go_sem,dk]) rfl ?_;exact aW HS.out (((bR _ w).alloc (lR _) _).alloc (by simp) _)
end
