/- A part. -/
import Derived.Test.YtnapepbdohidgaaGreatDoorQS20
import Derived.Sort.CutIn
set_option maxHeartbeats 4000000
set_option maxRecDepth 100000
open Go renaming World->Wz,Value->Wq,Addr->Ww,undef->Wy
namespace Go.Proofs.Qw
section
open Go
open Go.Conc Go.ConcX Go.ConcX.Gen Go.RowKit
def cM (w:Wz):Prop:=∃m,w.cell? ⟨0,0,none⟩=some (.int .i64 m)
theorem cM.on {w w':Wz}(h:cM w)(hb:∀b,b<w.heap.size->w'.heap[b]?=w.heap[b]?):cM w':=by
 obtain ⟨m,hm⟩:=h;exact ⟨m,(cB (a:=⟨0,0,none⟩) (hb 0 (bC w _ hm))).trans hm⟩
def gp (q:Qy):Prop:=∀ (k:List UInt8)(w:Wz),cM w->k.length<=1000->q.p.data.toList <+:k->Calls Yq.prog 139 #[qV q.vs q.p q.d q.af,.string ⟨k.toArray⟩] w fun e w'=>e=.returned (.tuple #[.string ⟨((bf q k).getD []).toArray⟩,.bool (bf q k).isSome])/\Below w.heap.size w w'
def gq (q:Qy):Prop:=∀ (A:Nat->Prop)(k:List UInt8)(hv:Wq)(h:List Ver)(c:Nat)(buf:List Wq)(w:Wz),aU A w hv h->h≠[]->h.length<=1000->w.heap[c]?=some (.chan 1000 buf.toArray false buf.length 0 false)->buf.length+(dv q.vs k h).length<=1000 ->
 Calls Yq.prog 140 #[qV q.vs q.p q.d q.af,.string ⟨k.toArray⟩,hv,.chan (some c)] w fun e w'=>e=.returned (.tuple #[])/\(∀b,b<w.heap.size->b≠c->w'.heap[b]?=w.heap[b]?)/\w.heap.size<=w'.heap.size/\w'.os=w.os /\
  w'.heap[c]?=some (.chan 1000 (buf++(dv q.vs k h).map itVal).toArray false (buf.length+(dv q.vs k h).length) 0 false)
structure pQ (q:Qy)(w w6:Wz)(c:Nat)(pre:KVs)(W:Wz):Prop where
 os:W.os=w.os
 size:w6.heap.size<=W.heap.size
 block:∀b,b<w6.heap.size->b≠c->b≠w.heap.size+3->W.heap[b]?=w6.heap[b]?
 told:W.heap[w.heap.size+3]?=some (.cells #[.string ⟨(aw q pre).2.toArray⟩] 9)
 ch:W.heap[c]?=some (.chan 1000 ((aw q pre).1.map itVal).toArray false (aw q pre).1.length 0 false)
theorem ku {w:Wz}{c k s q:Nat}{b:Array Wq}{x y:Bool}(h:c<w.heap.size):(w.setChan c k b x s q y).heap[c]?=some (.chan k b x s q y):=by
 unfold World.setChan;exact sS h
theorem iA {w:Wz}{c k s q j:Nat}{b:Array Wq}{x y:Bool}(h:j≠c):(w.setChan c k b x s q y).heap[j]?=w.heap[j]?:=by
 unfold World.setChan;exact sN (by omega)
theorem vn {w:Wz}{c k s q:Nat}{b:Array Wq}{x y:Bool}:(w.setChan c k b x s q y).heap.size=w.heap.size:=by simp [World.setChan]
theorem ub (q:Qy)(hd:q.d=⟨#[]⟩):gp q:=by
 intro k w _ _ _;obtain ⟨vs,p,d,af⟩:=q;simp only at hd;subst hd;exact tZ vs p af ⟨k.toArray⟩ w
theorem rJ (q:Qy)(hvs:q.vs=false):gq q:=by
 intro A k hv h c buf w hh hne hl hc hroom;obtain ⟨vs,p,d,af⟩:=q;simp only at hvs;subst hvs;have hcl:c<w.heap.size:=(eS hc).1;simp only [dv,Bool.false_eq_true,if_false,lS,List.map_cons,List.map_nil] at hroom ⊢;rw [vk hne];obtain ⟨W,hW⟩:∃W,W=((w.alloc (.cells #[.bool false,.string p,.string d,.string af] 93)).alloc (.cells #[.string ⟨k.toArray⟩] 9)).alloc (.cells #[.chan (some c)] 210):=⟨_,rfl⟩;have hb:Below w.heap.size w W:=by rw [hW];exact (((bR _ _).alloc (lR _) _).alloc (by simp) _).alloc (by simp;omega) _
 have HX:Hid (Below w.heap.size w W/\W.cell? ⟨w.heap.size+1,0,none⟩=some (.string ⟨k.toArray⟩)/\W.cell? ⟨w.heap.size+2,0,none⟩=some (.chan (some c))/\aU A W hv h/\W.heap[c]?=some (.chan 1000 buf.toArray false buf.length 0 false)):=by
  refine ⟨hb,?_,?_,hh.on hb,(hb.block c hcl).trans hc⟩
  .rw [hW];refine ak ((bR _ _).alloc (lR _) _) ?_;have:=cA (w:=w.alloc (.cells #[.bool false,.string p,.string d,.string af] 93)) #[.string ⟨k.toArray⟩] 9 (w.heap.size+1) 0 (by simp);rw [this];rfl
  .rw [hW];have:=cA (w:=(w.alloc (.cells #[.bool false,.string p,.string d,.string af] 93)).alloc (.cells #[.string ⟨k.toArray⟩] 9)) #[.chan (some c)] 210 (w.heap.size+2) 0 (by simp);rw [this];rfl
 have HW:Hid (W=((w.alloc (.cells #[.bool false,.string p,.string d,.string af] 93)).alloc (.cells #[.string ⟨k.toArray⟩] 9)).alloc (.cells #[.chan (some c)] 210)):=hW;clear hW hb hc hh;unfold qV;go_enter (Yq.nq Tryz.func140),Tryz.ntmps140
 go_upto_region 2 with fail
 rename_i K1 hK1 K2 hK2;rw [<-HW.out];obtain ⟨hb,c5,c7,hh,hc⟩:=HX.out;refine wpIn_wide.1 (show Code.wpIn (wf none) 0 _ _ _ _ _ from zD A (id:=2) (n:=0) (b5:=w.heap.size+1) (b7:=w.heap.size+2) rfl rfl rfl rfl c5 c7 hh hne (by omega) hc (by omega) (fun a w1 h1 h2 hb1=>?_));refine hK2 _ _ (wp_ret ⟨h2,.tuple #[],by simp [results,Tryz.results140,go_sem],rfl,fun b hb2 hbc=>?_,?_,?_,?_⟩)
 .rw [iA hbc,hb1.block b (by have:=hb.size;omega)];exact hb.block b hb2
 .rw [vn];exact lT hb.size hb1.size
 .exact hb1.os.trans hb.os
 .exact ku (by have:=hb.size;have:=hb1.size;omega)
def xd:Code->Code
 | .rangeFunc _ _ _ b=>b
 |c=>c
noncomputable def zE:Code:=xd (cIn (bM (bM (bM (bm Tryz.f120)))))
def jc (w:Wz)(q:Qy)(root:Option Ww)(c:Nat):Wz:=
 (((((w.alloc (.cells #[.bool q.vs,.string q.p,.string q.d,.string q.af] 93)).alloc (.cells #[.pointer root] 56)).alloc (.cells #[.chan (some c)] 210)).alloc (.cells #[.string ⟨#[]⟩] 9)).alloc (.cells #[.pointer root] 56)).alloc (.cells #[.string q.p] 9)
theorem cf (w:Wz)(q:Qy)(root:Option Ww)(c:Nat):(jc w q root c).heap.size=w.heap.size+6:=by simp only [jc,World.alloc,Array.size_push]
theorem jH (w:Wz)(q:Qy)(root:Option Ww)(c:Nat){b:Nat}(h:b<w.heap.size):(jc w q root c).heap[b]?=w.heap[b]?:=by
 simp only [jc,World.alloc,gP,Array.size_push]
 repeat rw [if_neg (by omega)]
theorem jI (w:Wz)(q:Qy)(root:Option Ww)(c:Nat)(i:Nat)(h:i<6):(jc w q root c).heap[w.heap.size+i]?=(#[.cells #[.bool q.vs,.string q.p,.string q.d,.string q.af] 93,.cells #[.pointer root] 56,.cells #[.chan (some c)] 210,.cells #[.string ⟨#[]⟩] 9,.cells #[.pointer root] 56,.cells #[.string q.p] 9]:Array Obj)[i]?:=by
 simp only [jc,World.alloc,gP,Array.size_push];rcases i with - | - | - | - | - | - |i;all_goals first|omega|skip
 all_goals
  repeat rw [if_neg (by omega)]
  simp
def fw (w:Wz)(q:Qy)(root:Option Ww)(c:Nat)(x7 x8 x15 x16:Wq):Array Wq:=
 #[.agg #[.bool q.vs,.string q.p,.string q.d,.string q.af],.agg #[.pointer root],.chan (some c),.pointer (some ⟨w.heap.size,0,none⟩),.pointer (some ⟨w.heap.size+1,0,none⟩),.pointer (some ⟨w.heap.size+2,0,none⟩),.pointer (some ⟨w.heap.size+3,0,none⟩),x7,x8,Wy,Wy,
  .agg #[.pointer root],.pointer (some ⟨w.heap.size,1,none⟩),.string q.p,.func (.func 122) #[] #[ptr (w.heap.size+4),ptr (w.heap.size+5)],x15,x16,Wy,Wy,Wy,Wy,Wy,Wy,Wy,Wy,Wy,Wy,Wy,Wy,Wy,Wy,Wy,Wy,Wy,Wy,Wy,Wy,Wy,Wy,Wy,Wy,Wy,Wy,Wy]
theorem pQ.below {q:Qy}{w w6:Wz}{c:Nat}{pre:KVs}{W W':Wz}(I:pQ q w w6 c pre W)(hc:c<w6.heap.size)(ht:w.heap.size+3<w6.heap.size)(hb:Below W.heap.size W W'):pQ q w w6 c pre W':=
 ⟨hb.os.trans I.os,lT I.size hb.size,fun b h1 h2 h3=>(hb.block b (lL h1 I.size)).trans (I.block b h1 h2 h3),(hb.block _ (lL ht I.size)).trans I.told,(hb.block _ (lL hc I.size)).trans I.ch⟩
theorem pQ.items {q:Qy}{w w6:Wz}{c:Nat}{pre pre':KVs}{W:Wz}(I:pQ q w w6 c pre W)(h:aw q pre'=aw q pre):pQ q w w6 c pre' W:=
 ⟨I.os,I.size,I.block,by rw [h];exact I.told,by rw [h];exact I.ch⟩
theorem jJ (l:Nat):(wf (some l)).round=some l:=rfl
section
attribute [local go_sem] Oper.semAt_some jJ
theorem BN (q:Qy)(hCm:gp q)(hSk:gq q)(root:Option Ww)(c:Nat)(w:Wz)(hgl:cM w)(hc0:0≠c)(hcw:c<w.heap.size)(A:Nat->Prop)(hA:∀b,A b->b<w.heap.size/\b≠c)(l:Nat)(pre:KVs)(k:List UInt8)(h:List Ver)(hv:Wq)(W:Wz)(hk:k.length<=1000)(hkp:q.p.data.toList <+:k)(hh:aU A (jc w q root c) hv h)(hne:h≠[])(hl:h.length<=1000)(hfit:(aw q (pre++[(k,h)])).1.length<=1000)(I:pQ q w (jc w q root c) c pre W):
  zE.wpIn (wf (some l)) 0 Yq.prog (fun e _ W'=>e=.normal/\kg c (w.heap.size+3) W W'/\pQ q w (jc w q root c) c (pre++[(k,h)]) W') ⟨fw w q root c (.string ⟨k.toArray⟩) hv (.string ⟨k.toArray⟩) hv,[]⟩ W:=by
 obtain ⟨Q,hQ⟩:∃Q:Exit->Act->Wz->Prop,Q=fun e _ W'=>e=.normal/\kg c (w.heap.size+3) W W'/\pQ q w (jc w q root c) c (pre++[(k,h)]) W':=⟨_,rfl⟩
 rw [<-hQ];have HQ:Hid (Q=fun e _ W'=>e=.normal/\kg c (w.heap.size+3) W W'/\pQ q w (jc w q root c) c (pre++[(k,h)]) W'):=hQ;clear hQ;have hrow:∀i o,i<6->i≠3->(jc w q root c).heap[w.heap.size+i]?=some o->W.heap[w.heap.size+i]?=some o:=fun i o h1 h2 h3=>(I.block _ (by rw [cf];omega) (by omega) (by omega)).trans h3
 have r0:=hrow 0 _ (by omega) (by omega) (jI w q root c 0 (by omega));have r2:=hrow 2 _ (by omega) (by omega) (jI w q root c 2 (by omega));simp only [Nat.add_zero] at r0;have c0:W.cell? ⟨w.heap.size,0,none⟩=some (.bool q.vs):=by simp [World.cell?,r0]
 have c1:W.cell? ⟨w.heap.size,1,none⟩=some (.string q.p):=by simp [World.cell?,r0]
 have c2:W.cell? ⟨w.heap.size,2,none⟩=some (.string q.d):=by simp [World.cell?,r0]
 have c3:W.cell? ⟨w.heap.size,3,none⟩=some (.string q.af):=by simp [World.cell?,r0]
 have d2:W.cell? ⟨w.heap.size+2,0,none⟩=some (.chan (some c)):=by simp [World.cell?,r2]
 have d3:W.cell? ⟨w.heap.size+3,0,none⟩=some (.string ⟨(aw q pre).2.toArray⟩):=by simp [World.cell?,I.told]
 have f3:W.frozen? ⟨w.heap.size+3,0,none⟩=false:=by simp [World.frozen?,I.told]
 have hszW:w.heap.size+6<=W.heap.size:=by have:=I.size;rwa [cf] at this
 have HhW:Hid (aU A W hv h):=bH.keep hh (fun b hb hlt=>⟨hb,I.block b hlt (hA b hb).2 (by have:=(hA b hb).1;omega)⟩);have HI:Hid (pQ q w (jc w q root c) c pre W):=I;have HGL:Hid (cM W):=by
  obtain ⟨m,hm⟩:=hgl;have h0:=bC w _ hm;exact ⟨m,(cB (a:=⟨0,0,none⟩) ((I.block 0 (by rw [cf];omega) hc0 (by omega)).trans (jH w q root c h0))).trans hm⟩
 have HWT:=BM A q k hv h W HhW.out hne (by omega);have HCm:Hid (gp q):=hCm;have HSk:Hid (gq q):=hSk;have HHF:Hid (∀b,A b->b<w.heap.size/\b≠c):=hA;have HFT:Hid ((aw q (pre++[(k,h)])).1.length<=1000/\q.p.data.toList <+:k):=⟨hfit,hkp⟩;have HST:Hid (aw q (pre++[(k,h)])=bJ q (aw q pre) (k,h)):=lh q pre (k,h);clear hrow r0 r2 I hCm hSk hA hfit hkp hh;generalize hwt:iG q k h=wt at HWT;have HWB:Hid (iG q k h=wt):=hwt;clear hwt;generalize hcm:bf q k=cm;have HCB:Hid (bf q k=cm):=hcm;clear hcm;unfold fw;dsimp only [zE,xd,bm,Tryz.f120,cIn,fD,bM,nL,Option.getD];unfold qV at HWT;have hc6:c<(jc w q root c).heap.size:=by rw [cf];omega
 have ht6:w.heap.size+3<(jc w q root c).heap.size:=by rw [cf];omega
 have HCC:Hid (∀X,Below W.heap.size W X->Calls Yq.prog 139 #[.agg #[.bool q.vs,.string q.p,.string q.d,.string q.af],.string ⟨k.toArray⟩] X fun e w'=>e=.returned (.tuple #[.string ⟨(cm.getD []).toArray⟩,.bool cm.isSome])/\Below X.heap.size X w'):=fun X hX=>by
  rw [<-HCB.out];exact HCm.out k X (HGL.out.on hX.block) hk HFT.out.2
 cases wt
 .gi_wp2_with (refine ⟨trivial,rfl,?_⟩;gi_at_call 138;refine (CallsIn.inRound l (callsIn_wide.2 HWT)).mono ?_;clear HWT;rintro e w1 ⟨rfl,hb1⟩)
  rw [HQ.out];exact ⟨rfl,kg.below hb1,(HI.out.below hc6 ht6 hb1).items (by rw [HST.out,bJ,HWB.out];rfl)⟩
 .have HW1:Hid (∀w1 w2:Wz,Below W.heap.size W w1->Below w1.heap.size w1 w2->Below W.heap.size W w2):=fun w1 w2 h1 h2=>h1.trans (h2.mono h1.size)
  cases cm with
  |none=>
   have e1:aw q (pre++[(k,h)])=((aw q pre).1++dv q.vs k h,(aw q pre).2):=by
    rw [HST.out,bJ,HWB.out];simp only [HCB.out,if_true]
   have HE1:Hid (aw q (pre++[(k,h)])=((aw q pre).1++dv q.vs k h,(aw q pre).2)):=e1;have HSS:Hid (∀X,Below W.heap.size W X->Calls Yq.prog 140 #[.agg #[.bool q.vs,.string q.p,.string q.d,.string q.af],.string ⟨k.toArray⟩,hv,.chan (some c)] X fun e w'=>e=.returned (.tuple #[])/\kg c (w.heap.size+3) W w'/\pQ q w (jc w q root c) c (pre++[(k,h)]) w'):=fun X hX=>by
    have IX:=HI.out.below hc6 ht6 hX;have hlen:=HFT.out.1;rw [HE1.out,lP] at hlen;have hcX:=IX.ch;rw [show ((aw q pre).1.length:Nat)=((aw q pre).1.map itVal).length by simp] at hcX;refine (HSk.out A k hv h c ((aw q pre).1.map itVal) X (bH.on HhW.out hX) hne hl hcX (by simpa using hlen)).mono ?_;rintro e w' ⟨rfl,h1,h2,h3,h4⟩;refine ⟨rfl,⟨lT hX.size h2,h3.trans hX.os,fun b hb hbc _=>(h1 b (by have:=hX.size;omega) hbc).trans (hX.block b hb)⟩,h3.trans IX.os,lT IX.size h2,fun b hb hbc hbt=>(h1 b (by have:=IX.size;omega) hbc).trans (IX.block b hb hbc hbt),?_,?_⟩
    .rw [HE1.out];exact (h1 _ (by have:=IX.size;omega) (by omega)).trans IX.told
    .rw [HE1.out,h4];simp
   clear e1
   gi_wp2_with (first
    |(refine ⟨trivial,rfl,?_⟩;gi_at_call 138;refine (CallsIn.inRound l (callsIn_wide.2 HWT)).mono ?_;clear HWT;rintro e w1 ⟨rfl,hb1⟩;replace c0:=ak hb1 c0;replace c1:=ak hb1 c1;replace c2:=ak hb1 c2;replace c3:=ak hb1 c3;replace d2:=ak hb1 d2)
    |(refine ⟨trivial,rfl,?_⟩;gi_at_call 139;refine (CallsIn.inRound l (callsIn_wide.2 (HCC.out _ hb1))).mono ?_;clear HCC;rintro e w2 ⟨rfl,hb2⟩;replace c0:=ak hb2 c0;replace c1:=ak hb2 c1;replace c2:=ak hb2 c2;replace c3:=ak hb2 c3;replace d2:=ak hb2 d2)
    |(refine ⟨trivial,rfl,?_⟩;gi_at_call 140;refine (CallsIn.inRound l (callsIn_wide.2 (HSS.out _ (HW1.out _ _ hb1 hb2)))).mono ?_;clear HSS;rintro e w3 ⟨rfl,hk3,hI3⟩))
   rw [HQ.out];exact ⟨rfl,hk3,hI3⟩
  |some cc=>
   by_cases hct:cc=(aw q pre).2
   .have HE1:Hid (aw q (pre++[(k,h)])=aw q pre):=by
     show aw q (pre++[(k,h)])=aw q pre;rw [HST.out,bJ,HWB.out];simp only [HCB.out,if_true,hct]
    rw [<-hct] at d3
    gi_wp2_with (first
     |(refine ⟨trivial,rfl,?_⟩;gi_at_call 138;refine (CallsIn.inRound l (callsIn_wide.2 HWT)).mono ?_;clear HWT;rintro e w1 ⟨rfl,hb1⟩;replace c0:=ak hb1 c0;replace c1:=ak hb1 c1;replace c2:=ak hb1 c2;replace c3:=ak hb1 c3;replace d3:=ak hb1 d3)
     |(refine ⟨trivial,rfl,?_⟩;gi_at_call 139;refine (CallsIn.inRound l (callsIn_wide.2 (HCC.out _ hb1))).mono ?_;clear HCC;rintro e w2 ⟨rfl,hb2⟩;replace d3:=ak hb2 d3))
    rw [HQ.out];exact ⟨rfl,kg.below (HW1.out _ _ hb1 hb2),(HI.out.below hc6 ht6 (HW1.out _ _ hb1 hb2)).items HE1.out⟩
   .have e1:aw q (pre++[(k,h)])=((aw q pre).1++[⟨2,⟨cc.toArray⟩,0⟩],cc):=by
     rw [HST.out,bJ,HWB.out];simp only [HCB.out,if_true,hct,if_false]
    have HE1:Hid (aw q (pre++[(k,h)])=((aw q pre).1++[⟨2,⟨cc.toArray⟩,0⟩],cc)):=e1;clear e1
    gi_upto_region 10 with (first
     |(refine ⟨trivial,rfl,?_⟩;gi_at_call 138;refine (CallsIn.inRound l (callsIn_wide.2 HWT)).mono ?_;clear HWT;rintro e w1 ⟨rfl,hb1⟩;replace c0:=ak hb1 c0;replace c1:=ak hb1 c1;replace c2:=ak hb1 c2;replace c3:=ak hb1 c3;replace d2:=ak hb1 d2;replace d3:=ak hb1 d3;replace f3:=(hb1.frozen (p:=⟨w.heap.size+3,0,none⟩) (by show w.heap.size+3<W.heap.size;omega)).trans f3)
     |(refine ⟨trivial,rfl,?_⟩;gi_at_call 139;refine (CallsIn.inRound l (callsIn_wide.2 (HCC.out _ hb1))).mono ?_;clear HCC;rintro e w2 ⟨rfl,hb2⟩;replace d2:=ak hb2 d2;replace d3:=ak hb2 d3;replace f3:=(hb2.frozen (p:=⟨w.heap.size+3,0,none⟩) (by show w.heap.size+3<w1.heap.size;have:=hb1.size;omega)).trans f3))
    case refine_2=>rename_i hx;exact absurd (by simpa using hx) hct
    rename_i K1 hK1;have I2:=HI.out.below hc6 ht6 (HW1.out _ _ hb1 hb2);have hc2:=I2.ch;have hlen:=HFT.out.1;rw [HE1.out,lP,lS] at hlen;have hbk:∀j,j≠c->(w2.setChan c 1000 (((aw q pre).1.map itVal).toArray.push (.agg #[.int .i64 2,.string ⟨cc.toArray⟩,.int .i64 0])) false ((aw q pre).1.length+1) 0 false).heap[j]?=w2.heap[j]?:=fun j hj=>iA hj
    have hsz2:w.heap.size+6<=w2.heap.size:=by have:=hb1.size;have:=hb2.size;omega
    have hck:(w2.setChan c 1000 (((aw q pre).1.map itVal).toArray.push (.agg #[.int .i64 2,.string ⟨cc.toArray⟩,.int .i64 0])) false ((aw q pre).1.length+1) 0 false).heap[c]?=some (.chan 1000 (((aw q pre).1.map itVal).toArray.push (.agg #[.int .i64 2,.string ⟨cc.toArray⟩,.int .i64 0])) false ((aw q pre).1.length+1) 0 false):=ku (by omega);refine zh ?_;show wK _ _ _ _ [0,1,2,3] _ _;refine am (v:=.chan (some c)) (w':=w2) rfl rfl (fun c h=>by cases h) (by simp [go_sem,d2]) ?_;refine am (v:=.string ⟨cc.toArray⟩) (w':=w2) rfl rfl (fun c h=>by cases h) (by simp [go_sem]) ?_;refine am (v:=.agg #[.int .i64 2,.string ⟨cc.toArray⟩,.int .i64 0]) (w':=w2) rfl rfl (fun c h=>by cases h) (by simp [go_sem]) ?_;refine mX (c:=c) rfl rfl rfl rfl hc2 (by simp;omega) ?_;refine hK1 _ _ ?_;show Code.wpIn (wf (some l)) 0 Yq.prog _ _ _ (w2.setChan c 1000 (((aw q pre).1.map itVal).toArray.push (.agg #[.int .i64 2,.string ⟨cc.toArray⟩,.int .i64 0])) false ((aw q pre).1.length+1) 0 false);obtain ⟨w3,hw3⟩:∃w3,w2.setChan c 1000 (((aw q pre).1.map itVal).toArray.push (.agg #[.int .i64 2,.string ⟨cc.toArray⟩,.int .i64 0])) false ((aw q pre).1.length+1) 0 false=w3:=⟨_,rfl⟩;have hs3:w3.heap.size=w2.heap.size:=by rw [<-hw3];exact vn
    have ho3:w3.os=w2.os:=by rw [<-hw3];rfl
    rw [hw3] at hbk hck ⊢;have d3':w3.cell? ⟨w.heap.size+3,0,none⟩=some (.string ⟨(aw q pre).2.toArray⟩):=(cB (a:=⟨w.heap.size+3,0,none⟩) (hbk _ (show w.heap.size+3≠c by omega))).trans d3;have f3':w3.frozen? ⟨w.heap.size+3,0,none⟩=false:=(fB (a:=⟨w.heap.size+3,0,none⟩) (hbk _ (show w.heap.size+3≠c by omega))).trans f3;have HBK:Hid ((∀j,j≠c->w3.heap[j]?=w2.heap[j]?)/\w3.heap[c]?=some (.chan 1000 (((aw q pre).1.map itVal).toArray.push (.agg #[.int .i64 2,.string ⟨cc.toArray⟩,.int .i64 0])) false ((aw q pre).1.length+1) 0 false)/\pQ q w (jc w q root c) c pre w2/\w3.heap.size=w2.heap.size/\w3.os=w2.os):=⟨hbk,hck,I2,hs3,ho3⟩;clear hbk hck I2 hw3 hc2 hs3 ho3 hK1 K1;gi_wp2;rw [HQ.out];obtain ⟨hbk,hck,I2,hs3,ho3⟩:=HBK.out;have hot:∀j,j≠w.heap.size+3->(w3.setCell ⟨w.heap.size+3,0,none⟩ (.string ⟨cc.toArray⟩)).heap[j]?=w3.heap[j]?:=fun j hj=>bS _ _ _ _ hj
    have hsz4:(w3.setCell ⟨w.heap.size+3,0,none⟩ (.string ⟨cc.toArray⟩)).heap.size=w2.heap.size:=by simp [hs3]
    have hos4:(w3.setCell ⟨w.heap.size+3,0,none⟩ (.string ⟨cc.toArray⟩)).os=w2.os:=((bR 0 w3).setCell (p:=⟨w.heap.size+3,0,none⟩) (Nat.zero_le _) _).os.trans ho3;have hb12:=HW1.out _ _ hb1 hb2;refine ⟨rfl,⟨by rw [hsz4];exact hb12.size,hos4.trans hb12.os,fun b hb hbc hbt=>?_⟩,hos4.trans I2.os,by rw [hsz4];exact I2.size,fun b hb hbc hbt=>?_,?_,?_⟩
    .rw [hot b hbt,hbk b hbc];exact hb12.block b hb
    .rw [hot b hbt,hbk b hbc];exact I2.block b hb hbc hbt
    .rw [HE1.out];have h3:=(hbk _ (show w.heap.size+3≠c by omega)).trans I2.told;obtain ⟨h1,h2⟩:=eS h3;show (w3.heap.modify (w.heap.size+3) _)[w.heap.size+3]?=_;rw [eG (by rw [Array.size_modify];exact h1),Array.getElem_modify_self,h2];rfl
    .rw [hot c (by omega),hck,HE1.out];simp [itVal]
end
theorem rK (n:Nat):∀ (f:List UInt8->List Ver)(bs:List UInt8),∀x∈cx n f bs,bs <+:x.1/\x.1.length<bs.length+n:=by
 induction n with
 |zero=>intro f bs x hx;simp [cx] at hx
 |succ n ih=>
  intro f bs x hx;simp only [cx,List.mem_append,List.mem_flatMap] at hx;rcases hx with hx|⟨b,-,hx⟩
  .split at hx
   .simp at hx
   .simp at hx;subst hx;exact ⟨List.prefix_refl _,by simp⟩
  .obtain ⟨h1,h2⟩:=ih _ _ x hx;exact ⟨(List.prefix_append _ _).trans h1,by simp at h2;omega⟩
theorem nk {f:List UInt8->List Ver}{p:List UInt8}{x:List UInt8×List Ver}(h:x∈bI f p):p <+:x.1/\x.1.length<=40:=by
 obtain ⟨h1,h2⟩:=rK _ _ _ x h;have h3:=h1.length_le;exact ⟨h1,by omega⟩
theorem BO {l:KVs}{x:List UInt8×List Ver}(h:x∈l):x.2.length<=fV l:=by
 induction l with
 |nil=>simp at h
 |cons a r ih=>
  rcases List.mem_cons.1 h with rfl|h
  .simp [fV]
  .have:=ih h;simp [fV] at this ⊢;omega
theorem pQ.stable {q:Qy}{w w6:Wz}{c:Nat}{pre:KVs}{X Y:Wz}(I:pQ q w w6 c pre X)(hc:c<w6.heap.size)(ht:w.heap.size+3<w6.heap.size)(h:∀b,b<w6.heap.size->Y.heap[b]?=X.heap[b]?)(hs:X.heap.size<=Y.heap.size)(ho:Y.os=X.os):pQ q w w6 c pre Y:=
 ⟨ho.trans I.os,lT I.size hs,fun b h1 h2 h3=>(h b h1).trans (I.block b h1 h2 h3),(h _ ht).trans I.told,(h _ hc).trans I.ch⟩
section
attribute [local go_sem] Oper.semAt_some jJ
theorem D3 (q:Qy)(hCm:gp q)(hSk:gq q)(root:Option Ww)(f:List UInt8->List Ver)(c:Nat)(w:Wz)(hgl:cM w)(hT:rH w root f)(hsum:fV (bI f q.p.data.toList)<=1000)(hp:q.p.size<=maxLen)(hc:w.heap[c]?=some (.chan 1000 #[] false 0 0 false)):
  Calls Yq.prog 120 #[qV q.vs q.p q.d q.af,sV root,.chan (some c)] w fun e w'=>e=.returned (.tuple #[])/\((∀b,b<w.heap.size->b≠c->w'.heap[b]?=w.heap[b]?)/\w.heap.size<=w'.heap.size/\w'.os=w.os) /\
   w'.heap[c]?=some (.chan 1000 ((bF q (bI f q.p.data.toList)).map itVal).toArray false (bF q (bI f q.p.data.toList)).length 0 false):=by
 have hcw:c<w.heap.size:=(eS hc).1;have HGL:Hid (cM w/\0≠c):=⟨hgl,fun e=>by
  obtain ⟨m,hm⟩:=hgl;subst e;simp [World.cell?,hc] at hm⟩
 clear hgl;obtain ⟨total,htot⟩:∃total,bI f q.p.data.toList=total:=⟨_,rfl⟩;have hsome:∀x∈total,x.2≠[]:=by rw [<-htot];exact fR _ _ _
 have hkey:∀x∈total,q.p.data.toList <+:x.1/\x.1.length<=40:=by rw [<-htot];exact fun x hx=>nk hx
 obtain ⟨A,hAd⟩:∃A:Nat->Prop,A=cn w:=⟨_,rfl⟩;have hA:∀b,A b->b<w.heap.size/\b≠c:=fun b hb=>by
  rw [hAd] at hb;refine ⟨hb.lt,fun e=>?_⟩;subst e;obtain ⟨o,h1,h2⟩:=hb;rw [hc] at h1;cases h1;cases h2
 have hN6:ai A 41 (jc w q root c) root f:=ai.keep (fun b hb hlt=>⟨by rw [hAd];exact hb,jH w q root c hlt⟩) 41 root f hT;rw [htot] at hsum ⊢;have hc6:c<(jc w q root c).heap.size:=by rw [cf];omega
 have ht6:w.heap.size+3<(jc w q root c).heap.size:=by rw [cf];omega
 have hI0:pQ q w (jc w q root c) c [] (jc w q root c):=⟨rfl,lR _,fun _ _ _ _=>rfl,jI w q root c 3 (by omega),(jH w q root c hcw).trans hc⟩;refine (callsIn_wide (n:=0)).1 (callsIn_of_wp_marks (F:=Fence.wide) (Yq.nq Tryz.func120) rfl trivial ?_);refine (wpIn_wide (n:=0)).2 ?_;generalize hQ:bodyPostM Fence.wide 0 Yq.prog Tryz.f120 _=Q;simp only [Tryz.ntmps120,lZ,lC,lN,Nat.reduceAdd,Nat.reduceSub,Array.replicate_succ,Array.replicate_zero,List.push_toArray,List.append_toArray,List.nil_append,List.cons_append];have HQ:Hid (bodyPostM Fence.wide 0 Yq.prog Tryz.f120 _=Q):=hQ;have HX:Hid (gp q/\gq q/\ai A 41 (jc w q root c) root f/\(∀b,A b->b<w.heap.size/\b≠c)/\pQ q w (jc w q root c) c [] (jc w q root c)/\(∀x∈total,x.2≠[])/\(∀x∈total,q.p.data.toList <+:x.1/\x.1.length<=40)/\A=cn w):=⟨hCm,hSk,hN6,hA,hI0,hsome,hkey,hAd⟩;clear hQ hCm hSk hN6 hA hI0 hsome hkey hT hc hAd;unfold qV sV;go_wp2_with (go_at_call 101;refine (zC root q.p _).mono ?_;rintro e w6 ⟨rfl,rfl⟩)
 refine wpIn_wide.1 (show Code.wpIn (wf none) 0 Yq.prog _ (Exit.inBlock 0 Q) ⟨fw w q root c Wy Wy Wy Wy,[]⟩ (jc w q root c) from ?_);obtain ⟨hCm,hSk,hN6,hA,hI0,hsome,hkey,hAd⟩:=HX.out;have hmem:∀ (pre:KVs) x,pre++[x] <+:total->x∈total:=fun pre x h=>h.subset (by simp)
 refine ri (α:=List UInt8×List Ver) (β:=List UInt8×List Ver×Wq) (encs:=fun x=>#[.string ⟨x.1.toArray⟩,x.2.2]) (gf:=122) (lb:=#[ptr (w.heap.size+4),ptr (w.heap.size+5)]) (fun x=>(x.1,x.2.1)) rfl (fun args wx=>by go_simp) (fun _=>rfl) c (w.heap.size+3) ht6 noO (fun _ _ _ _ h=>h)
  (pQ q w (jc w q root c) c) (fun pre x=>pre++[(x.1,x.2.1)] <+:total/\aU A (jc w q root c) x.2.2 x.2.1/\x.2.1≠[]) total (fun _ _ _ _ h=>h.elim) (fun pre X Y I h1 _ h2 h3=>I.stable hc6 ht6 h1 h2 h3) (fun pre X I=>⟨.inr hc6,.inr ⟨_,I.ch,rfl⟩⟩) hI0
  (fun x=>⟨fw w q root c (.string ⟨x.1.toArray⟩) x.2.2 (.string ⟨x.1.toArray⟩) x.2.2,[]⟩) ?call ?assign ?body ?done
 case call=>
  intro l J W hW1 hW2 hob hst hsz hy hJ0;have C:pC A (jc w q root c) ((jc w q root c).heap.size+2) (w.heap.size+3) l noO total J:=⟨fun b hb=>by
    obtain ⟨h1,h2⟩:=hA b hb;rw [hAd] at hb;obtain ⟨o,h3,h4⟩:=hb;exact ⟨by rw [cf];omega,by omega,o,(jH w q root c h1).trans h3,h4⟩,by omega,fun _ _ _ _ h=>h,hob,hst,hsz,fun pre k h hv X h1 h2 h3 h4=>hy pre (k,h,hv) X ⟨h1,h2,h3⟩ h4⟩
  exact ve C root f q.p W (w.heap.size+4) (w.heap.size+5) hN6 htot.symm (fun b hb=>hW2 b (by have:=(hA b hb).1;rw [cf];omega))
   (by rw [cB (a:=⟨w.heap.size+4,0,none⟩) (hW2 _ (by rw [cf];show w.heap.size+4<_;omega))];simp [World.cell?,jI w q root c 4 (by omega)])
   (by rw [cB (a:=⟨w.heap.size+5,0,none⟩) (hW2 _ (by rw [cf];show w.heap.size+5<_;omega))];simp [World.cell?,jI w q root c 5 (by omega)]) hp hJ0
 case assign=>
  intro l x W K hK;obtain ⟨k,h,hv⟩:=x;have e:(#[15,16].zip #[Value.string ⟨k.toArray⟩,hv]).foldl (fun t x=>match x with|(p,v)=>t.setIfInBounds p v) (fw w q root c Wy Wy Wy Wy)=fw w q root c Wy Wy (.string ⟨k.toArray⟩) hv:=by
   simp [fw]
  show Code.wpIn _ _ _ _ _ ⟨(#[15,16].zip #[Value.string ⟨k.toArray⟩,hv]).foldl (fun t x=>match x with|(p,v)=>t.setIfInBounds p v) (fw w q root c Wy Wy Wy Wy),[]⟩ _;rw [e];unfold fw;unfold fw at hK;gi_wp2;exact hK
 case body=>
  rintro l pre ⟨k,h,hv⟩ W ⟨h1,h2,h3⟩ I;have hm:=hmem pre (k,h) h1;refine wpIn_mono (BN q hCm hSk root c w HGL.out.1 HGL.out.2 hcw A hA l pre k h hv W (by have:=(hkey _ hm).2;simp only at this;omega) (hkey _ hm).1 h2 h3 (by have:=BO hm;simp only at this;omega) (by have h5:(aw q (pre++[(k,h)])).1.length<=(bF q total).length:=xb q total _ hsome h1;have:=pN q total hsome;omega) I) (fun e a W' h=>⟨h.1,h.2.1.own,h.2.2⟩)
 case done=>
  intro D W hD I hK;have hQ:=HQ.out;subst hQ;refine ⟨by simp,.inl ⟨_,_,rfl,run_takeDeferred hK,?_⟩⟩;have hne:∀b,b<(jc w q root c).heap.size->(W.putObj D (.deferred none)).heap[b]?=W.heap[b]?:=fun b hb=>pO (by omega)
  refine ⟨.tuple #[],by simp [results,Tryz.results120,go_sem],rfl,⟨fun b hb hbc=>?_,?_,?_⟩,?_⟩
  .rw [hne b (by rw [cf];omega),I.block b (by rw [cf];omega) hbc (by omega),jH w q root c hb]
  .have:=I.size;rw [cf] at this;simp;omega
  .exact I.os
  .rw [hne c hc6];exact I.ch
end
end
section
open Go.RowKit
theorem BP {A:Nat->Prop}{w w1:Wz}(h:w.heap.size<=w1.heap.size):∀b,Grow A w1 b->Grow A w b:=by
 rintro b (⟨h1,h2⟩|h1)
 .by_cases hlt:b<w.heap.size
  .exact Or.inl ⟨h1,hlt⟩
  .exact Or.inr (by omega)
 .exact Or.inr (by omega)
theorem az.mono {A A':Nat->Prop}{w:Wz}{k0:Nat}{st:St}(S:az A w k0 st)(h:∀b,A b->A' b)(ha:∀b,A' b->b≠k0):az A' w k0 st:=by
 obtain ⟨p,c0,hN⟩:=S.tree;exact ⟨ha,⟨p,c0,ai.keep (fun b h1 _=>⟨h b h1,rfl⟩) _ _ _ hN⟩,S.count,S.last,S.frozen⟩
def dh (A:Nat->Prop)(w:Wz)(k0:Nat)(st':St)(v:Wq)(e:Ending)(w':Wz):Prop:=
 e=.returned v/\az (Grow A w) w' k0 st'/\cy w w' k0
theorem ba {A:Nat->Prop}{w w':Wz}{k0:Nat}{st:St}{v:Wq}(S:az A w k0 st)(hb:Below w.heap.size w w'):dh A w k0 st v (.returned v) w':=
 ⟨rfl,S.grow.on hb,dQ S.lt hb⟩
def oC (st:St)(key body:ByteArray):St×Int×Int:=
 if aY key=false then (st,0,2) else if 100<body.size then (st,0,3) else if nd st then (st,0,4) else (dB st key body false,st.last+1,0)
def gG (st:St)(key:ByteArray):St×Int×Int:=
 if aY key=false then (st,0,2) else if nd st then (st,0,4) else (dB st key ⟨#[]⟩ true,st.last+1,0)
theorem BQ (A:Nat->Prop)(k0:Nat)(st:St)(s:Nat)(key body:ByteArray)(w:Wz)(hk:key.size<=maxLen)(hbd:body.size<=maxLen)(S:az A w k0 st)(hI:Inv st s)(hs:s<2199023255552):
  Calls Yq.prog 35 #[.pointer (some ⟨k0,0,none⟩),.string key,.string body] w (dh A w k0 (oC st key body).1 (.tuple #[.int .i64 (oC st key body).2.1,.int .i64 (oC st key body).2.2])):=by
 have HIK:=jF key w hk;have HS:Hid (az A w k0 st):=S;unfold maxLen at hbd;cases hkey:aY key with
 |false=>
  rw [hkey] at HIK;have e:oC st key body=(st,0,2):=by simp [oC,hkey]
  rw [e];clear hkey S e;go_enter (Yq.nq Tryz.func35),Tryz.ntmps35;go_wp2_with (go_at_call 59;refine HIK.mono ?_;rintro e w' ⟨rfl,rfl⟩)
  go_ret2
  exact ba HS.out (bR _ _)
 |true=>
  rw [hkey] at HIK;have hsz:=fO hkey;by_cases h100:100<body.size
  .have e:oC st key body=(st,0,3):=by simp [oC,hkey,h100]
   rw [e];clear hkey S e;go_enter (Yq.nq Tryz.func35),Tryz.ntmps35;go_wp2_with (go_at_call 59;refine HIK.mono ?_;rintro e w' ⟨rfl,rfl⟩)
   go_ret2
   exact ba HS.out (bR _ _)
  .have HIF:=oy k0 st w S.count S.last hI.last0 (by have:=hI.lastS;omega);cases hfull:nd st with
   |true=>
    rw [hfull] at HIF;have e:oC st key body=(st,0,4):=by simp [oC,hkey,h100,hfull]
    rw [e];clear hkey S e hfull;go_enter (Yq.nq Tryz.func35),Tryz.ntmps35;go_wp2_with (first|(go_at_call 59;refine HIK.mono ?_;rintro e w' ⟨rfl,rfl⟩)|(go_at_call 60;refine HIF.mono ?_;rintro e w' ⟨rfl,rfl⟩))
    go_ret2
    exact ba HS.out (bR _ _)
   |false=>
    rw [hfull] at HIF;have e:oC st key body=(dB st key body false,st.last+1,0):=by simp [oC,hkey,h100,hfull]
    rw [e];clear hkey S e hfull;go_enter (Yq.nq Tryz.func35),Tryz.ntmps35;go_wp2_with (first|(go_at_call 59;refine HIK.mono ?_;rintro e w' ⟨rfl,rfl⟩)|(go_at_call 60;refine HIF.mono ?_;rintro e w' ⟨rfl,rfl⟩))
    refine (wY body w (by omega)).mono ?_;rintro e w1 ⟨rfl,hb1⟩;have HA:=vj A k0 st s key 0 body false w1 hsz.1 (HS.out.on hb1) hI hs;go_wp2_with (go_at_call 61;refine HA.mono ?_;rintro e w2 ⟨rfl,S2,hg2⟩)
    go_ret2
    exact ⟨rfl,S2.mono (BP hb1.size) (fQ HS.out.avoid HS.out.lt),pL (dQ HS.out.lt hb1) hg2⟩
theorem zF (A:Nat->Prop)(k0:Nat)(st:St)(s:Nat)(key:ByteArray)(w:Wz)(hk:key.size<=maxLen)(S:az A w k0 st)(hI:Inv st s)(hs:s<2199023255552):
  Calls Yq.prog 38 #[.pointer (some ⟨k0,0,none⟩),.string key] w (dh A w k0 (gG st key).1 (.tuple #[.int .i64 (gG st key).2.1,.int .i64 (gG st key).2.2])):=by
 have HIK:=jF key w hk;have HS:Hid (az A w k0 st):=S;cases hkey:aY key with
 |false=>
  rw [hkey] at HIK;have e:gG st key=(st,0,2):=by simp [gG,hkey]
  rw [e];clear hkey S e;go_enter (Yq.nq Tryz.func38),Tryz.ntmps38;go_wp2_with (go_at_call 59;refine HIK.mono ?_;rintro e w' ⟨rfl,rfl⟩)
  go_ret2
  exact ba HS.out (bR _ _)
 |true=>
  rw [hkey] at HIK;have hsz:=fO hkey;have HIF:=oy k0 st w S.count S.last hI.last0 (by have:=hI.lastS;omega);cases hfull:nd st with
  |true=>
   rw [hfull] at HIF;have e:gG st key=(st,0,4):=by simp [gG,hkey,hfull]
   rw [e];clear hkey S e hfull;go_enter (Yq.nq Tryz.func38),Tryz.ntmps38;go_wp2_with (first|(go_at_call 59;refine HIK.mono ?_;rintro e w' ⟨rfl,rfl⟩)|(go_at_call 60;refine HIF.mono ?_;rintro e w' ⟨rfl,rfl⟩))
   go_ret2
   exact ba HS.out (bR _ _)
  |false=>
   rw [hfull] at HIF;have e:gG st key=(dB st key ⟨#[]⟩ true,st.last+1,0):=by simp [gG,hkey,hfull]
   rw [e];clear hkey S e hfull;have HA:=vj A k0 st s key 0 ⟨#[]⟩ true w hsz.1 HS.out hI hs;go_enter (Yq.nq Tryz.func38),Tryz.ntmps38;go_wp2_with (first|(go_at_call 59;refine HIK.mono ?_;rintro e w' ⟨rfl,rfl⟩)|(go_at_call 60;refine HIF.mono ?_;rintro e w' ⟨rfl,rfl⟩)|(go_at_call 61;refine HA.mono ?_;rintro e w2 ⟨rfl,S2,hg2⟩))
   go_ret2
   exact ⟨rfl,S2,hg2⟩
def dN (st:St)(key:ByteArray)(n:Int):St×Int:=
 if aY key=false then (st,2)
 else match dP (st.f key.data.toList) n with
  |none=>(st,5)
  |some r=>(dm st key r,0)
theorem xe (A:Nat->Prop)(k0:Nat)(st:St)(s:Nat)(key:ByteArray)(n:Int)(w:Wz)(hk:key.size<=maxLen)(S:az A w k0 st)(hI:Inv st s)(hs:s<2199023255552):
  Calls Yq.prog 39 #[.pointer (some ⟨k0,0,none⟩),.string key,.int .i64 n] w (dh A w k0 (dN st key n).1 (.int .i64 (dN st key n).2)):=by
 have HF:=rB A k0 st s key n w hk S hI (by omega);have HS:Hid (az A w k0 st):=S;have hk0:=S.lt;have l2:=hI.countL;have l3:=hI.countU;have hle:=hI.len key.data.toList;clear S;go_enter (Yq.nq Tryz.func39),Tryz.ntmps39;go_wp2_with fail
 refine HF.mono ?_;rintro e w1 ⟨hb1,hcase⟩;rcases hcase with ⟨hkey,rfl⟩|⟨hkey,hpl,rfl⟩|⟨hkey,r,ha,hc,hpl,hr,hh,rfl⟩
 .have HR:Hid (dN st key n=(st,2)):=show dN st key n=(st,2) by simp [dN,hkey]
  have HB:Hid (Below w.heap.size w w1):=hb1;clear hkey HF hb1;go_wp2;go_ret;rw [HR.out];exact ba HS.out HB.out
 .have HR:Hid (dN st key n=(st,5)):=show dN st key n=(st,5) by simp [dN,hkey,hpl]
  have HB:Hid (Below w.heap.size w w1):=hb1;clear hkey HF hb1 hpl;go_wp2;go_ret;rw [HR.out];exact ba HS.out HB.out
 .have HR:Hid (dN st key n=(dm st key r,0)):=show dN st key n=(dm st key r,0) by simp [dN,hkey,hpl]
  have hsz:=fO hkey;obtain ⟨p,C,hN⟩:=HS.out.cells;have C1:=C.on hb1;have c1:=C1.c1;have f1:=C1.fz 1;have c0:=C1.c0;obtain ⟨W2,hW2⟩:∃W2,W2=w1.setCell ⟨k0,1,none⟩ (.int .i64 (st.count-1)):=⟨_,rfl⟩;have C2:bL W2 k0 (.pointer p) (.int .i64 (st.count-1)) (.int .i64 st.last):=by rw [hW2];exact C1.set1 _
  have hg2:cy w W2 k0:=by rw [hW2];exact oA (dQ hk0 hb1) _ _
  have hh2:aU (fun b=>A b\/w.heap.size<=b) W2 (.slice ha (st.f key.data.toList).length hc) (st.f key.data.toList):=
   bH.keep hh (fun b h1 h2=>⟨Or.inl h1,by rw [hW2];exact bS _ _ _ _ (HS.out.avoid b h1)⟩)
  have HN2:∀w3:Wz,W2.grownBy w3 (some k0)->ai (fun b=>(A b/\b<w.heap.size)\/w.heap.size<=b) 41 w3 p st.f:=fun w3 hg3=>
   ai.keep (fun b h1 h2=>⟨Or.inl ⟨h1,h2⟩,(bU hg2.g hg3).block b h2 (by intro e;cases e;exact HS.out.avoid k0 h1 rfl)⟩) 41 p st.f hN
  have hfne:st.f key.data.toList≠[]:=by intro e;rw [e] at hr;simp at hr
  have HW2:Hid (W2=w1.setCell ⟨k0,1,none⟩ (.int .i64 (st.count-1))):=hW2;clear hkey HF hpl C hN C1;by_cases hone:(st.f key.data.toList).length=1
  .have hr0:r=0:=by omega
   have HD:Hid (dm st key r=⟨upd st.f key.data.toList [],st.count-1,st.last⟩):=show dm st key r=_ by
    unfold dm;rw [hr0,List.take_zero,List.nil_append,List.drop_eq_nil_of_le (by omega)]
   have HT:Hid (Calls Yq.prog 66 #[.agg #[.pointer p],.string key] W2 fun e w'=>∃q,e=.returned (.agg #[.pointer q])/\Below W2.heap.size W2 w'/\ai (Grow (fun b=>(A b/\b<w.heap.size)\/w.heap.size<=b) W2) 41 w' q (upd st.f key.data.toList [])):=
    ry _ 41 p st.f key W2 (HN2 W2 (World.grownBy.refl _ _)) hsz.1 hsz.2 hfne
   have HC:Hid (bL W2 k0 (.pointer p) (.int .i64 (st.count-1)) (.int .i64 st.last)/\cy w W2 k0):=⟨C2,hg2⟩;rw [hone];clear hh hh2 HN2 hone hr0 C2 hg2 hfne hW2 hr hle hb1;go_wp2_with fail
   rw [<-HW2.out];refine HT.out.mono ?_;rintro e w4 ⟨q,rfl,hb4,hN4⟩;have D4:=HC.out.1.on hb4;have r1:=D4.c0;have r2:=D4.fz 0;have HX:Hid (az (Grow A w) (w4.setCell ⟨k0,0,none⟩ (.pointer q)) k0 (dm st key r)/\cy w (w4.setCell ⟨k0,0,none⟩ (.pointer q)) k0):=by
    refine ⟨?_,oA (fj HC.out.2 hb4) _ _⟩;rw [HD.out];refine fP (p:=q) ?_ ?_ (fQ HS.out.avoid hk0)
    .exact D4.set0 _
    .exact nf HC.out.2.g.size HS.out.avoid hk0 hN4 _ _
   clear D4 hN4 hb4 HT HC;go_wp2;go_ret;rw [HR.out];exact ⟨rfl,HX.out.1,HX.out.2⟩
  .have HD:Hid (dm st key r=⟨upd st.f key.data.toList ((st.f key.data.toList).take r++(st.f key.data.toList).drop (r+1)),st.count-1,st.last⟩):=rfl;have HW:Hid (Calls Yq.prog 68 #[.slice ha (st.f key.data.toList).length hc,.int .i64 r] W2.drew fun e w'=>∃va vl vc,e=.returned (.slice va vl vc)/\aU (fun b=>W2.heap.size<=b) w' (.slice va vl vc) ((st.f key.data.toList).take r++(st.f key.data.toList).drop (r+1))/\Below W2.heap.size W2 w'):=by
    refine (rz _ _ _ r W2.drew (bH.keep hh2 (fun b h1 h2=>⟨h1,rfl⟩)) hr (by omega)).mono ?_;rintro e w' ⟨va,vl,vc,h1,h2,h3⟩;exact ⟨va,vl,vc,h1,h2,(bR _ W2).drew.trans h3⟩
   have hne2:(st.f key.data.toList).take r++(st.f key.data.toList).drop (r+1)≠[]:=by
    intro e;have:=congrArg List.length e;rw [lP,tL,lD,lN] at this;omega
   have HT:Hid (∀ (w3:Wz) (va:Option Ww) (vl vc:Nat),Below W2.heap.size W2 w3->aU (fun b=>W2.heap.size<=b) w3 (.slice va vl vc) ((st.f key.data.toList).take r++(st.f key.data.toList).drop (r+1)) ->
     Calls Yq.prog 67 #[.agg #[.pointer p],.string key,.slice va vl vc] w3 fun e w'=>∃q,e=.returned (.agg #[.pointer q])/\Below w3.heap.size w3 w'/\ai (Grow (fun b=>(A b/\b<w.heap.size)\/w.heap.size<=b) w3) 41 w' q (upd st.f key.data.toList ((st.f key.data.toList).take r++(st.f key.data.toList).drop (r+1)))):=fun w3 va vl vc hb3 hh3=>by
    refine rx _ 41 p st.f key _ _ w3 (HN2 w3 (dA hb3 _)) hsz.1 hsz.2 (bH.keep hh3 (fun b h1 h2=>⟨Or.inr ?_,rfl⟩)) hne2;have:=hg2.g.size;omega
   have HC:Hid (bL W2 k0 (.pointer p) (.int .i64 (st.count-1)) (.int .i64 st.last)/\cy w W2 k0):=⟨C2,hg2⟩;have a0:=C2.c0;have hone':(((st.f key.data.toList).length:Int)==1)=false:=by simp;omega
   generalize (st.f key.data.toList).take r++(st.f key.data.toList).drop (r+1)=hnew at *;clear hh hh2 HN2 C2 hg2 hfne hW2 hb1 hne2;generalize (st.f key.data.toList).length=m at *;go_wp2_with fail
   rw [<-HW2.out]
   go_region_with (first
    |(go_at_call 68;refine HW.out.mono ?_;rintro e w3 ⟨va,vl,vc,rfl,hh3,hb3⟩;have b0:=ak hb3 a0)
    |(go_at_call 67;refine (HT.out _ va vl vc hb3 hh3).mono ?_;rintro e w4 ⟨q,rfl,hb4,hN4⟩;have E4:=(HC.out.1.on hb3).on hb4;have r1:=E4.c0;have r2:=E4.fz 0))
   all_goals
    go_wp2;go_ret;rw [HR.out,HD.out];refine ⟨rfl,?_,?_⟩
    .refine fP (p:=q) ?_ ?_ (fQ HS.out.avoid hk0)
     .exact E4.set0 _
     .exact nf (by have:=HC.out.2.g.size;have:=hb3.size;omega) HS.out.avoid hk0 hN4 _ _
    .exact oA (fj (fj HC.out.2 hb3) hb4) _ _
end
section
open Go
open Go.RowKit
structure nl (st:St):Prop where
 cnt:(tot 41 st.f:Int)=st.count
 le:st.count<=200
 long:∀k,40<k.length->st.f k=[]
 body:∀k,∀v∈st.f k,v.body.size<=100
theorem rL {key:ByteArray}(h:aY key=true):key.data.toList.length<=40:=by
 have:=of_decide_eq_true h;have e:key.data.toList.length=key.size:=by simp
 omega
theorem nl.add {st:St}(h:nl st)(key body:ByteArray)(mark:Bool)(hk:aY key=true)(hc:¬200<=st.count)(hbd:body.size<=100):nl (dB st key body mark):=by
 have hl:=rL hk;have e:=zy 41 st.f key.data.toList (st.f key.data.toList++[⟨st.last+1,body,mark⟩]) (by omega);rw [lP,lS] at e;have:=h.cnt;refine ⟨?_,?_,fun k hk=>?_,fun k v hv=>?_⟩
 .simp only [dB];omega
 .simp only [dB];omega
 .simp only [dB,upd];rw [if_neg (by intro e;subst e;omega)];exact h.long k hk
 .simp only [dB,upd] at hv;split at hv
  .rcases List.mem_append.1 hv with hv|hv
   .exact h.body _ v hv
   .simp only [List.mem_singleton] at hv;subst hv;exact hbd
  .exact h.body k v hv
theorem nl.drop {st:St}(h:nl st)(key:ByteArray)(r:Nat)(hk:aY key=true)(hr:r<(st.f key.data.toList).length):nl (dm st key r):=by
 have hl:=rL hk;have e:=zy 41 st.f key.data.toList ((st.f key.data.toList).take r++(st.f key.data.toList).drop (r+1)) (by omega);rw [lP,tL,lD,Nat.min_eq_left (by omega)] at e;have:=h.cnt;have:=h.le;refine ⟨?_,?_,fun k hk=>?_,fun k v hv=>?_⟩
 .simp only [dm];omega
 .simp only [dm];omega
 .simp only [dm,upd];rw [if_neg (by intro e;subst e;omega)];exact h.long k hk
 .simp only [dm,upd] at hv;split at hv
  .rcases List.mem_append.1 hv with hv|hv
   .exact h.body _ v (List.mem_of_mem_take hv)
   .exact h.body _ v (List.mem_of_mem_drop hv)
  .exact h.body k v hv
theorem nl.step {st:St}(h:nl st)(o:OpD):nl (aL st o).1:=by
 unfold aL;simp only
 repeat' split
 all_goals first
  |exact h
  |exact h.add _ _ _ (by simpa using ‹¬aY o.key=false›) (by assumption) (by first|exact Nat.le_of_not_lt ‹_› |exact Nat.zero_le _)
  |(rename_i r hr;exact h.drop _ _ (by simpa using ‹¬aY o.key=false›) (List.findIdx?_eq_some_iff_getElem.1 hr).1)
theorem nl.fits {st:St}(h:nl st)(q:Qy):(bF q (bI st.f q.p.data.toList)).length<=200:=by
 have h1:=pN q (bI st.f q.p.data.toList) (fR _ _ _);have h2:=zz q.p.data.toList 41 st.f;have h3:fV (bI st.f q.p.data.toList)=tot (41-q.p.data.toList.length) fun k=>st.f (q.p.data.toList++k):=ni _ _ _ _
 have:=h.cnt;have:=h.le;omega
theorem FA:nl ⟨fun _=>[],0,0⟩:=⟨by rw [D2];rfl,by simp,fun _ _=>rfl,fun _ _ h=>by simp at h⟩
end
section
open Go
open Go.Conc Go.ConcX Go.ConcX.Gen Go.RowKit
theorem pR (h:List Ver):∀v∈aD h,Good v:=fun v hv=>by
 simp only [aD,List.mem_flatMap] at hv;obtain ⟨x,-,hv⟩:=hv;simp at hv;rcases hv with rfl|rfl|rfl
 .exact .int _ _
 .exact .string _
 .exact .bool _
theorem pS (ks:List (UInt8×Option Ww)):∀v∈au ks,Good v:=fun v hv=>by
 simp only [au,List.mem_flatMap] at hv;obtain ⟨x,-,hv⟩:=hv;simp at hv;rcases hv with rfl|rfl
 .exact .int _ _
 .exact .pointer _
section
variable {ρ:Ren} {V W V':Wz}
theorem zG {A:Nat->Prop}{v:Wq}{n:Nat}{xs:List Wq}(hk:∀a y i v,ρ a y->V.cell? ⟨a,i,none⟩=some v->Good v->V'.cell? ⟨a,i,none⟩=some v)(hg:∀v∈xs,Good v)(hr:∃v',RV ρ v v')(h:bH A V v n xs):bH (fun _=>True) V' v n xs:=by
 obtain ⟨a,cap,rfl,ha0,hx⟩:=h;refine ⟨a,cap,rfl,ha0,fun hne=>?_⟩;obtain ⟨g,rfl,hA,hgl,hc⟩:=hx hne;obtain ⟨v',hr⟩:=hr;obtain ⟨y,hy⟩:∃y,ρ g y:=by
  cases hr with
  |slice n c h=>cases h with|some h=>exact ⟨_,h.1⟩
 have hc2:∀j,j<xs.length->V'.cell? ⟨g,j,none⟩=xs[j]?:=fun j hj=>by
  have h1:=(hc j hj).trans (eL hj);rw [eL hj];exact hk g y j _ hy h1 (hg _ (List.getElem_mem hj))
 have h0:0<xs.length:=List.length_pos_iff.2 hne;exact ⟨g,rfl,trivial,bC V' _ ((hc2 0 h0).trans (eL h0)),hc2⟩
theorem BR {A:Nat->Prop}(S:bB ρ V W)(hk:∀a y i v,ρ a y->V.cell? ⟨a,i,none⟩=some v->Good v->V'.cell? ⟨a,i,none⟩=some v):∀ (n:Nat)(p:Option Ww)(f:List UInt8->List Ver),(∃r,RAo ρ p r)->ai A n V p f->ai (fun _=>True) n V' p f:=by
 intro n;induction n with
 |zero=>intro p f _ h;exact h
 |succ n ih=>
  intro p f hr h;rcases h with h|⟨g,hv,kv,ks,rfl,hA,c0,c1,c2,hh,hks,hs,hch,hno,hnn⟩
  .exact Or.inl h
  .obtain ⟨r,hr⟩:=hr;obtain ⟨y,hy⟩:∃y,ρ g y:=by cases hr with|some h=>exact ⟨_,h.1⟩
   have hrel:∀ (b y j:Nat) (v:Wq),ρ b y->V.cell? ⟨b,j,none⟩=some v->∃v',RV ρ v v':=fun b y j v hb hc=>by
    rcases S.cell (a:=⟨b,j,none⟩) (a':=⟨y,j,none⟩) ⟨hb,rfl,rfl⟩ with h|⟨v1,v2,h1,h2,h3⟩
    .rw [h] at hc;cases hc
    .rw [h1] at hc;cases hc;exact ⟨_,h3⟩
   have gh:Good hv:=by obtain ⟨a,cap,rfl,-⟩:=hh;exact .slice _ _ _
   have gkv:Good kv:=by obtain ⟨a,cap,rfl,-⟩:=hks;exact .slice _ _ _
   have rk:=hrel g y 2 kv hy c2;refine Or.inr ⟨g,hv,kv,ks,rfl,trivial,hk g y 0 _ hy c0 (.bool _),hk g y 1 _ hy c1 gh,hk g y 2 _ hy c2 gkv,zG hk (pR _) (hrel g y 1 hv hy c1) hh,zG hk (pS _) rk hks,hs,fun c q hq=>ih q _ ?_ (hch c q hq),hno,hnn⟩;have hne:ks≠[]:=by intro e;rw [e] at hq;simp at hq
   obtain ⟨gk,cap,rfl,-,-,hce,-⟩:=hks.cells hne;obtain ⟨i,hi,e⟩:=gM hq;obtain ⟨yk,hyk⟩:∃yk,ρ gk yk:=by
    obtain ⟨v',hv'⟩:=rk;cases hv' with|slice n c h=>cases h with|some h=>exact ⟨_,h.1⟩
   have h2:=(hce i hi).2;rw [e] at h2;obtain ⟨v',hv'⟩:=hrel gk yk _ _ hyk h2;cases hv' with|pointer h=>exact ⟨_,h⟩
theorem oD {A:Nat->Prop}(hk:∀b j,b<V.heap.size->V'.cell? ⟨b,j,none⟩=V.cell? ⟨b,j,none⟩):∀ (n:Nat)(p:Option Ww)(f:List UInt8->List Ver),ai A n V p f->ai (fun _=>True) n V' p f:=by
 have hrow:∀v n xs,bH A V v n xs->bH (fun _=>True) V' v n xs:=fun v n xs h=>by
  obtain ⟨a,cap,rfl,ha0,hx⟩:=h;refine ⟨a,cap,rfl,ha0,fun hne=>?_⟩;obtain ⟨g,rfl,hA,hgl,hc⟩:=hx hne;have hc2:∀j,j<xs.length->V'.cell? ⟨g,j,none⟩=xs[j]?:=fun j hj=>(hk g j hgl).trans (hc j hj)
  have h0:0<xs.length:=List.length_pos_iff.2 hne;exact ⟨g,rfl,trivial,bC V' _ ((hc2 0 h0).trans (eL h0)),hc2⟩
 intro n;induction n with
 |zero=>intro p f h;exact h
 |succ n ih=>
  intro p f h;rcases h with h|⟨g,hv,kv,ks,rfl,hA,c0,c1,c2,hh,hks,hs,hch,hno⟩
  .exact Or.inl h
  .have hg:=bC V _ c0;exact Or.inr ⟨g,hv,kv,ks,rfl,trivial,(hk g 0 hg).trans c0,(hk g 1 hg).trans c1,(hk g 2 hg).trans c2,hrow _ _ _ hh,hrow _ _ _ hks,hs,fun c q hq=>ih q _ (hch c q hq),hno⟩
end
def lQy (l:Lst):Qy:=⟨l.vs,l.p,l.d,l.af⟩
def lj (l:Lst)(f:List UInt8->List Ver):List ItD:=bF (lQy l) (bI f l.p.data.toList)
structure E5 (Qok:Qy->Prop)(l:Lst)(f:List UInt8->List Ver)(w:Wz):Prop where
 tree:rH w l.root f
 ok:Qok (lQy l)
 sum:fV (bI f l.p.data.toList)<=1000
 pre:l.p.size<=maxLen
 glob:cM w
def Ew (Qok:Qy->Prop)(l:Lst)(L:List Wq)(w:Wz):Prop:=∃f,E5 Qok l f w/\L=(lj l f).map itVal
theorem jd:0<Tryz.prog.globals.size:=by
 have:Tryz.prog.globals.size=4:=by kernel_rfl
 omega
theorem zH (Qok:Qy->Prop)(hQ:∀q,Qok q->gp q/\gq q):yQ (Ew Qok) where
 low:=fun ρ V W V' l L S hr hgl hk hsz ⟨f,h,e⟩=>⟨f,⟨.of (BR S hk 41 l.root f hr h.tree),h.ok,h.sum,h.pre,by
  obtain ⟨m,hm⟩:=h.glob;obtain ⟨y,hy⟩:=hgl 0 jd;exact ⟨m,hk 0 y 0 _ hy hm (.int _ _)⟩⟩,e⟩
 on:=fun V V' l L hk hsz ⟨f,h,e⟩=>⟨f,⟨.of (oD (fun b j hb=>hk ⟨b,j,none⟩ hb) 41 l.root f h.tree),h.ok,h.sum,h.pre,by
  obtain ⟨m,hm⟩:=h.glob;exact ⟨m,(hk _ (bC V _ hm)).trans hm⟩⟩,e⟩
 item:=fun l L V ⟨f,h,e⟩ v hv=>by
  rw [e] at hv;obtain ⟨i,-,rfl⟩:=List.mem_map.1 hv;exact ⟨_,_,_,rfl⟩
 len:=fun l L V ⟨f,h,e⟩=>by
  rw [e,lM];exact lT (pN (lQy l) _ (fR _ _ _)) h.sum
 send:=fun l L w c ⟨f,h,e⟩ hc=>by
  obtain ⟨h1,h2⟩:=hQ _ h.ok;have:=D3 (lQy l) h1 h2 l.root f c w h.glob h.tree h.sum h.pre hc;rw [e,lM];exact this
theorem D5 (Qok:Qy->Prop):∀l L V u,Ce V u->Ew Qok l L u->Ew Qok l L V:=fun l _L _V _u hc ⟨f,h,e⟩=>
 ⟨f,⟨.of (oD (fun _b _j _=>(hc.2 _).symm) 41 l.root f h.tree),h.ok,h.sum,h.pre,by
  obtain ⟨m,hm⟩:=h.glob;exact ⟨m,(hc.2 _).symm.trans hm⟩⟩,e⟩
end
