/- A part. -/
import Derived.Test.YtnapepbdohidgaaGreatDoorQF20
import Derived.Sort.CutIn
set_option maxHeartbeats 4000000
set_option maxRecDepth 100000
namespace Go.Proofs.Qw
section
open Go
open Go.Conc Go.ConcX Go.ConcX.Gen Go.RowKit
def cU (w:World):Prop:=∃m,w.cell? ⟨0,0,none⟩=some (.int .i64 m)
theorem cU.on {w w':World}(h:cU w)(hb:∀b,b<w.heap.size->w'.heap[b]?=w.heap[b]?):cU w':=by
 obtain ⟨m,hm⟩:=h;exact ⟨m,(cB (a:=⟨0,0,none⟩) (hb 0 (bC w _ hm))).trans hm⟩
def gG (q:Qy):Prop:=∀ (k:List UInt8)(w:World),cU w->k.length<=1000->q.p.data.toList <+:k->Calls Yq.prog 139 #[qV q.vs q.p q.d q.af,.string ⟨k.toArray⟩] w fun e w'=>e=.returned (.tuple #[.string ⟨((fo q k).getD []).toArray⟩,.bool (fo q k).isSome])/\Below w.heap.size w w'
def gH (q:Qy):Prop:=∀ (A:Nat->Prop)(k:List UInt8)(hv:Value)(h:List Ver)(c:Nat)(buf:List Value)(w:World),aQ A w hv h->h≠[]->h.length<=1000->w.heap[c]?=some (.chan 1000 buf.toArray false buf.length 0 false)->buf.length+(dW q.vs k h).length<=1000 ->
 Calls Yq.prog 140 #[qV q.vs q.p q.d q.af,.string ⟨k.toArray⟩,hv,.chan (some c)] w fun e w'=>e=.returned (.tuple #[])/\(∀b,b<w.heap.size->b≠c->w'.heap[b]?=w.heap[b]?)/\w.heap.size<=w'.heap.size/\w'.os=w.os /\
  w'.heap[c]?=some (.chan 1000 (buf++(dW q.vs k h).map itVal).toArray false (buf.length+(dW q.vs k h).length) 0 false)
structure pU (q:Qy)(w w6:World)(c:Nat)(pre:KVs)(W:World):Prop where
 os:W.os=w.os
 size:w6.heap.size<=W.heap.size
 block:∀b,b<w6.heap.size->b≠c->b≠w.heap.size+3->W.heap[b]?=w6.heap[b]?
 told:W.heap[w.heap.size+3]?=some (.cells #[.string ⟨(ax q pre).2.toArray⟩] 9)
 ch:W.heap[c]?=some (.chan 1000 ((ax q pre).1.map itVal).toArray false (ax q pre).1.length 0 false)
theorem kg {w:World}{c k s q:Nat}{b:Array Value}{x y:Bool}(h:c<w.heap.size):(w.setChan c k b x s q y).heap[c]?=some (.chan k b x s q y):=by
 unfold World.setChan;exact sS h
theorem iB {w:World}{c k s q j:Nat}{b:Array Value}{x y:Bool}(h:j≠c):(w.setChan c k b x s q y).heap[j]?=w.heap[j]?:=by
 unfold World.setChan;exact sN (by omega)
theorem vh {w:World}{c k s q:Nat}{b:Array Value}{x y:Bool}:(w.setChan c k b x s q y).heap.size=w.heap.size:=by simp [World.setChan]
theorem tV (q:Qy)(hd:q.d=⟨#[]⟩):gG q:=by
 intro k w _ _ _;obtain ⟨vs,p,d,af⟩:=q;simp only at hd;subst hd;exact tU vs p af ⟨k.toArray⟩ w
theorem rQ (q:Qy)(hvs:q.vs=false):gH q:=by
 intro A k hv h c buf w hh hne hl hc hroom;obtain ⟨vs,p,d,af⟩:=q;simp only at hvs;subst hvs;have hcl:c<w.heap.size:=(eS hc).1;simp only [dW,Bool.false_eq_true,if_false,lS,List.map_cons,List.map_nil] at hroom ⊢;rw [ve hne];obtain ⟨W,hW⟩:∃W,W=((w.alloc (.cells #[.bool false,.string p,.string d,.string af] 93)).alloc (.cells #[.string ⟨k.toArray⟩] 9)).alloc (.cells #[.chan (some c)] 210):=⟨_,rfl⟩;have hb:Below w.heap.size w W:=by rw [hW];exact (((bR _ _).alloc (lR _) _).alloc (by simp) _).alloc (by simp;omega) _
 have HX:Hid (Below w.heap.size w W/\W.cell? ⟨w.heap.size+1,0,none⟩=some (.string ⟨k.toArray⟩)/\W.cell? ⟨w.heap.size+2,0,none⟩=some (.chan (some c))/\aQ A W hv h/\W.heap[c]?=some (.chan 1000 buf.toArray false buf.length 0 false)):=by
  refine ⟨hb,?_,?_,hh.on hb,(hb.block c hcl).trans hc⟩
  .rw [hW];refine ai ((bR _ _).alloc (lR _) _) ?_;have:=cA (w:=w.alloc (.cells #[.bool false,.string p,.string d,.string af] 93)) #[.string ⟨k.toArray⟩] 9 (w.heap.size+1) 0 (by simp);rw [this];rfl
  .rw [hW];have:=cA (w:=(w.alloc (.cells #[.bool false,.string p,.string d,.string af] 93)).alloc (.cells #[.string ⟨k.toArray⟩] 9)) #[.chan (some c)] 210 (w.heap.size+2) 0 (by simp);rw [this];rfl
 have HW:Hid (W=((w.alloc (.cells #[.bool false,.string p,.string d,.string af] 93)).alloc (.cells #[.string ⟨k.toArray⟩] 9)).alloc (.cells #[.chan (some c)] 210)):=hW;clear hW hb hc hh;unfold qV;go_enter Yq.func140,Tryz.ntmps140
 go_upto_region 2 with fail
 rename_i K1 hK1 K2 hK2;rw [<-HW.out];obtain ⟨hb,c5,c7,hh,hc⟩:=HX.out;refine wpIn_wide.1 (show Code.wpIn (wf none) 0 _ _ _ _ _ from zv A (id:=2) (n:=0) (b5:=w.heap.size+1) (b7:=w.heap.size+2) rfl rfl rfl rfl c5 c7 hh hne (by omega) hc (by omega) (fun a w1 h1 h2 hb1=>?_));refine hK2 _ _ (wp_ret ⟨h2,.tuple #[],by simp [results,Tryz.results140,go_sem],rfl,fun b hb2 hbc=>?_,?_,?_,?_⟩)
 .rw [iB hbc,hb1.block b (by have:=hb.size;omega)];exact hb.block b hb2
 .rw [vh];exact lT hb.size hb1.size
 .exact hb1.os.trans hb.os
 .exact kg (by have:=hb.size;have:=hb1.size;omega)
def wW:Code->Code
 | .rangeFunc _ _ _ b=>b
 |c=>c
noncomputable def zw:Code:=wW (cIn (bi (bi (bi (aX Tryz.f120)))))
def ja (w:World)(q:Qy)(root:Option Addr)(c:Nat):World:=
 (((((w.alloc (.cells #[.bool q.vs,.string q.p,.string q.d,.string q.af] 93)).alloc (.cells #[.pointer root] 56)).alloc (.cells #[.chan (some c)] 210)).alloc (.cells #[.string ⟨#[]⟩] 9)).alloc (.cells #[.pointer root] 56)).alloc (.cells #[.string q.p] 9)
theorem bX (w:World)(q:Qy)(root:Option Addr)(c:Nat):(ja w q root c).heap.size=w.heap.size+6:=by simp only [ja,World.alloc,Array.size_push]
theorem jE (w:World)(q:Qy)(root:Option Addr)(c:Nat){b:Nat}(h:b<w.heap.size):(ja w q root c).heap[b]?=w.heap[b]?:=by
 simp only [ja,World.alloc,gP,Array.size_push]
 repeat rw [if_neg (by omega)]
theorem jF (w:World)(q:Qy)(root:Option Addr)(c:Nat)(i:Nat)(h:i<6):(ja w q root c).heap[w.heap.size+i]?=(#[.cells #[.bool q.vs,.string q.p,.string q.d,.string q.af] 93,.cells #[.pointer root] 56,.cells #[.chan (some c)] 210,.cells #[.string ⟨#[]⟩] 9,.cells #[.pointer root] 56,.cells #[.string q.p] 9]:Array Obj)[i]?:=by
 simp only [ja,World.alloc,gP,Array.size_push];rcases i with - | - | - | - | - | - |i;all_goals first|omega|skip
 all_goals
  repeat rw [if_neg (by omega)]
  simp
def fx (w:World)(q:Qy)(root:Option Addr)(c:Nat)(x7 x8 x15 x16:Value):Array Value:=
 #[.agg #[.bool q.vs,.string q.p,.string q.d,.string q.af],.agg #[.pointer root],.chan (some c),.pointer (some ⟨w.heap.size,0,none⟩),.pointer (some ⟨w.heap.size+1,0,none⟩),.pointer (some ⟨w.heap.size+2,0,none⟩),.pointer (some ⟨w.heap.size+3,0,none⟩),x7,x8,undef,undef,
  .agg #[.pointer root],.pointer (some ⟨w.heap.size,1,none⟩),.string q.p,.func (.func 122) #[] #[ptr (w.heap.size+4),ptr (w.heap.size+5)],x15,x16,undef,undef,undef,undef,undef,undef,undef,undef,undef,undef,undef,undef,undef,undef,undef,undef,undef,undef,undef,undef,undef,undef,undef,undef,undef,undef,undef]
theorem pU.below {q:Qy}{w w6:World}{c:Nat}{pre:KVs}{W W':World}(I:pU q w w6 c pre W)(hc:c<w6.heap.size)(ht:w.heap.size+3<w6.heap.size)(hb:Below W.heap.size W W'):pU q w w6 c pre W':=
 ⟨hb.os.trans I.os,lT I.size hb.size,fun b h1 h2 h3=>(hb.block b (lL h1 I.size)).trans (I.block b h1 h2 h3),(hb.block _ (lL ht I.size)).trans I.told,(hb.block _ (lL hc I.size)).trans I.ch⟩
theorem pU.items {q:Qy}{w w6:World}{c:Nat}{pre pre':KVs}{W:World}(I:pU q w w6 c pre W)(h:ax q pre'=ax q pre):pU q w w6 c pre' W:=
 ⟨I.os,I.size,I.block,by rw [h];exact I.told,by rw [h];exact I.ch⟩
theorem jG (l:Nat):(wf (some l)).round=some l:=rfl
section
attribute [local go_sem] Oper.semAt_some jG
theorem BA (q:Qy)(hCm:gG q)(hSk:gH q)(root:Option Addr)(c:Nat)(w:World)(hgl:cU w)(hc0:0≠c)(hcw:c<w.heap.size)(A:Nat->Prop)(hA:∀b,A b->b<w.heap.size/\b≠c)(l:Nat)(pre:KVs)(k:List UInt8)(h:List Ver)(hv:Value)(W:World)(hk:k.length<=1000)(hkp:q.p.data.toList <+:k)(hh:aQ A (ja w q root c) hv h)(hne:h≠[])(hl:h.length<=1000)(hfit:(ax q (pre++[(k,h)])).1.length<=1000)(I:pU q w (ja w q root c) c pre W):
  zw.wpIn (wf (some l)) 0 Yq.prog (fun e _ W'=>e=.normal/\j6 c (w.heap.size+3) W W'/\pU q w (ja w q root c) c (pre++[(k,h)]) W') ⟨fx w q root c (.string ⟨k.toArray⟩) hv (.string ⟨k.toArray⟩) hv,[]⟩ W:=by
 obtain ⟨Q,hQ⟩:∃Q:Exit->Act->World->Prop,Q=fun e _ W'=>e=.normal/\j6 c (w.heap.size+3) W W'/\pU q w (ja w q root c) c (pre++[(k,h)]) W':=⟨_,rfl⟩
 rw [<-hQ];have HQ:Hid (Q=fun e _ W'=>e=.normal/\j6 c (w.heap.size+3) W W'/\pU q w (ja w q root c) c (pre++[(k,h)]) W'):=hQ;clear hQ;have hrow:∀i o,i<6->i≠3->(ja w q root c).heap[w.heap.size+i]?=some o->W.heap[w.heap.size+i]?=some o:=fun i o h1 h2 h3=>(I.block _ (by rw [bX];omega) (by omega) (by omega)).trans h3
 have r0:=hrow 0 _ (by omega) (by omega) (jF w q root c 0 (by omega));have r2:=hrow 2 _ (by omega) (by omega) (jF w q root c 2 (by omega));simp only [Nat.add_zero] at r0;have c0:W.cell? ⟨w.heap.size,0,none⟩=some (.bool q.vs):=by simp [World.cell?,r0]
 have c1:W.cell? ⟨w.heap.size,1,none⟩=some (.string q.p):=by simp [World.cell?,r0]
 have c2:W.cell? ⟨w.heap.size,2,none⟩=some (.string q.d):=by simp [World.cell?,r0]
 have c3:W.cell? ⟨w.heap.size,3,none⟩=some (.string q.af):=by simp [World.cell?,r0]
 have d2:W.cell? ⟨w.heap.size+2,0,none⟩=some (.chan (some c)):=by simp [World.cell?,r2]
 have d3:W.cell? ⟨w.heap.size+3,0,none⟩=some (.string ⟨(ax q pre).2.toArray⟩):=by simp [World.cell?,I.told]
 have f3:W.frozen? ⟨w.heap.size+3,0,none⟩=false:=by simp [World.frozen?,I.told]
 have hszW:w.heap.size+6<=W.heap.size:=by have:=I.size;rwa [bX] at this
 have HhW:Hid (aQ A W hv h):=bE.keep hh (fun b hb hlt=>⟨hb,I.block b hlt (hA b hb).2 (by have:=(hA b hb).1;omega)⟩);have HI:Hid (pU q w (ja w q root c) c pre W):=I;have HGL:Hid (cU W):=by
  obtain ⟨m,hm⟩:=hgl;have h0:=bC w _ hm;exact ⟨m,(cB (a:=⟨0,0,none⟩) ((I.block 0 (by rw [bX];omega) hc0 (by omega)).trans (jE w q root c h0))).trans hm⟩
 have HWT:=Bz A q k hv h W HhW.out hne (by omega);have HCm:Hid (gG q):=hCm;have HSk:Hid (gH q):=hSk;have HHF:Hid (∀b,A b->b<w.heap.size/\b≠c):=hA;have HFT:Hid ((ax q (pre++[(k,h)])).1.length<=1000/\q.p.data.toList <+:k):=⟨hfit,hkp⟩;have HST:Hid (ax q (pre++[(k,h)])=cn q (ax q pre) (k,h)):=rM q pre (k,h);clear hrow r0 r2 I hCm hSk hA hfit hkp hh;generalize hwt:nf q k h=wt at HWT;have HWB:Hid (nf q k h=wt):=hwt;clear hwt;generalize hcm:fo q k=cm;have HCB:Hid (fo q k=cm):=hcm;clear hcm;unfold fx;dsimp only [zw,wW,aX,Tryz.f120,cIn,eY,bi,nI,Option.getD];unfold qV at HWT;have hc6:c<(ja w q root c).heap.size:=by rw [bX];omega
 have ht6:w.heap.size+3<(ja w q root c).heap.size:=by rw [bX];omega
 have HCC:Hid (∀X,Below W.heap.size W X->Calls Yq.prog 139 #[.agg #[.bool q.vs,.string q.p,.string q.d,.string q.af],.string ⟨k.toArray⟩] X fun e w'=>e=.returned (.tuple #[.string ⟨(cm.getD []).toArray⟩,.bool cm.isSome])/\Below X.heap.size X w'):=fun X hX=>by
  rw [<-HCB.out];exact HCm.out k X (HGL.out.on hX.block) hk HFT.out.2
 cases wt
 .gi_wp2_with (refine ⟨trivial,rfl,?_⟩;gi_at_call 138;refine (CallsIn.inRound l (callsIn_wide.2 HWT)).mono ?_;clear HWT;rintro e w1 ⟨rfl,hb1⟩)
  rw [HQ.out];exact ⟨rfl,j6.below hb1,(HI.out.below hc6 ht6 hb1).items (by rw [HST.out,cn,HWB.out];rfl)⟩
 .have HW1:Hid (∀w1 w2:World,Below W.heap.size W w1->Below w1.heap.size w1 w2->Below W.heap.size W w2):=fun w1 w2 h1 h2=>h1.trans (h2.mono h1.size)
  cases cm with
  |none=>
   have e1:ax q (pre++[(k,h)])=((ax q pre).1++dW q.vs k h,(ax q pre).2):=by
    rw [HST.out,cn,HWB.out];simp only [HCB.out,if_true]
   have HE1:Hid (ax q (pre++[(k,h)])=((ax q pre).1++dW q.vs k h,(ax q pre).2)):=e1;have HSS:Hid (∀X,Below W.heap.size W X->Calls Yq.prog 140 #[.agg #[.bool q.vs,.string q.p,.string q.d,.string q.af],.string ⟨k.toArray⟩,hv,.chan (some c)] X fun e w'=>e=.returned (.tuple #[])/\j6 c (w.heap.size+3) W w'/\pU q w (ja w q root c) c (pre++[(k,h)]) w'):=fun X hX=>by
    have IX:=HI.out.below hc6 ht6 hX;have hlen:=HFT.out.1;rw [HE1.out,lP] at hlen;have hcX:=IX.ch;rw [show ((ax q pre).1.length:Nat)=((ax q pre).1.map itVal).length by simp] at hcX;refine (HSk.out A k hv h c ((ax q pre).1.map itVal) X (bE.on HhW.out hX) hne hl hcX (by simpa using hlen)).mono ?_;rintro e w' ⟨rfl,h1,h2,h3,h4⟩;refine ⟨rfl,⟨lT hX.size h2,h3.trans hX.os,fun b hb hbc _=>(h1 b (by have:=hX.size;omega) hbc).trans (hX.block b hb)⟩,h3.trans IX.os,lT IX.size h2,fun b hb hbc hbt=>(h1 b (by have:=IX.size;omega) hbc).trans (IX.block b hb hbc hbt),?_,?_⟩
    .rw [HE1.out];exact (h1 _ (by have:=IX.size;omega) (by omega)).trans IX.told
    .rw [HE1.out,h4];simp
   clear e1
   gi_wp2_with (first
    |(refine ⟨trivial,rfl,?_⟩;gi_at_call 138;refine (CallsIn.inRound l (callsIn_wide.2 HWT)).mono ?_;clear HWT;rintro e w1 ⟨rfl,hb1⟩;replace c0:=ai hb1 c0;replace c1:=ai hb1 c1;replace c2:=ai hb1 c2;replace c3:=ai hb1 c3;replace d2:=ai hb1 d2)
    |(refine ⟨trivial,rfl,?_⟩;gi_at_call 139;refine (CallsIn.inRound l (callsIn_wide.2 (HCC.out _ hb1))).mono ?_;clear HCC;rintro e w2 ⟨rfl,hb2⟩;replace c0:=ai hb2 c0;replace c1:=ai hb2 c1;replace c2:=ai hb2 c2;replace c3:=ai hb2 c3;replace d2:=ai hb2 d2)
    |(refine ⟨trivial,rfl,?_⟩;gi_at_call 140;refine (CallsIn.inRound l (callsIn_wide.2 (HSS.out _ (HW1.out _ _ hb1 hb2)))).mono ?_;clear HSS;rintro e w3 ⟨rfl,hk3,hI3⟩))
   rw [HQ.out];exact ⟨rfl,hk3,hI3⟩
  |some cc=>
   by_cases hct:cc=(ax q pre).2
   .have HE1:Hid (ax q (pre++[(k,h)])=ax q pre):=by
     show ax q (pre++[(k,h)])=ax q pre;rw [HST.out,cn,HWB.out];simp only [HCB.out,if_true,hct]
    rw [<-hct] at d3
    gi_wp2_with (first
     |(refine ⟨trivial,rfl,?_⟩;gi_at_call 138;refine (CallsIn.inRound l (callsIn_wide.2 HWT)).mono ?_;clear HWT;rintro e w1 ⟨rfl,hb1⟩;replace c0:=ai hb1 c0;replace c1:=ai hb1 c1;replace c2:=ai hb1 c2;replace c3:=ai hb1 c3;replace d3:=ai hb1 d3)
     |(refine ⟨trivial,rfl,?_⟩;gi_at_call 139;refine (CallsIn.inRound l (callsIn_wide.2 (HCC.out _ hb1))).mono ?_;clear HCC;rintro e w2 ⟨rfl,hb2⟩;replace d3:=ai hb2 d3))
    rw [HQ.out];exact ⟨rfl,j6.below (HW1.out _ _ hb1 hb2),(HI.out.below hc6 ht6 (HW1.out _ _ hb1 hb2)).items HE1.out⟩
   .have e1:ax q (pre++[(k,h)])=((ax q pre).1++[⟨2,⟨cc.toArray⟩,0⟩],cc):=by
     rw [HST.out,cn,HWB.out];simp only [HCB.out,if_true,hct,if_false]
    have HE1:Hid (ax q (pre++[(k,h)])=((ax q pre).1++[⟨2,⟨cc.toArray⟩,0⟩],cc)):=e1;clear e1
    gi_upto_region 10 with (first
     |(refine ⟨trivial,rfl,?_⟩;gi_at_call 138;refine (CallsIn.inRound l (callsIn_wide.2 HWT)).mono ?_;clear HWT;rintro e w1 ⟨rfl,hb1⟩;replace c0:=ai hb1 c0;replace c1:=ai hb1 c1;replace c2:=ai hb1 c2;replace c3:=ai hb1 c3;replace d2:=ai hb1 d2;replace d3:=ai hb1 d3;replace f3:=(hb1.frozen (p:=⟨w.heap.size+3,0,none⟩) (by show w.heap.size+3<W.heap.size;omega)).trans f3)
     |(refine ⟨trivial,rfl,?_⟩;gi_at_call 139;refine (CallsIn.inRound l (callsIn_wide.2 (HCC.out _ hb1))).mono ?_;clear HCC;rintro e w2 ⟨rfl,hb2⟩;replace d2:=ai hb2 d2;replace d3:=ai hb2 d3;replace f3:=(hb2.frozen (p:=⟨w.heap.size+3,0,none⟩) (by show w.heap.size+3<w1.heap.size;have:=hb1.size;omega)).trans f3))
    case refine_2=>rename_i hx;exact absurd (by simpa using hx) hct
    rename_i K1 hK1;have I2:=HI.out.below hc6 ht6 (HW1.out _ _ hb1 hb2);have hc2:=I2.ch;have hlen:=HFT.out.1;rw [HE1.out,lP,lS] at hlen;have hbk:∀j,j≠c->(w2.setChan c 1000 (((ax q pre).1.map itVal).toArray.push (.agg #[.int .i64 2,.string ⟨cc.toArray⟩,.int .i64 0])) false ((ax q pre).1.length+1) 0 false).heap[j]?=w2.heap[j]?:=fun j hj=>iB hj
    have hsz2:w.heap.size+6<=w2.heap.size:=by have:=hb1.size;have:=hb2.size;omega
    have hck:(w2.setChan c 1000 (((ax q pre).1.map itVal).toArray.push (.agg #[.int .i64 2,.string ⟨cc.toArray⟩,.int .i64 0])) false ((ax q pre).1.length+1) 0 false).heap[c]?=some (.chan 1000 (((ax q pre).1.map itVal).toArray.push (.agg #[.int .i64 2,.string ⟨cc.toArray⟩,.int .i64 0])) false ((ax q pre).1.length+1) 0 false):=kg (by omega);refine za ?_;show wE _ _ _ _ [0,1,2,3] _ _;refine am (v:=.chan (some c)) (w':=w2) rfl rfl (fun c h=>by cases h) (by simp [go_sem,d2]) ?_;refine am (v:=.string ⟨cc.toArray⟩) (w':=w2) rfl rfl (fun c h=>by cases h) (by simp [go_sem]) ?_;refine am (v:=.agg #[.int .i64 2,.string ⟨cc.toArray⟩,.int .i64 0]) (w':=w2) rfl rfl (fun c h=>by cases h) (by simp [go_sem]) ?_;refine mT (c:=c) rfl rfl rfl rfl hc2 (by simp;omega) ?_;refine hK1 _ _ ?_;show Code.wpIn (wf (some l)) 0 Yq.prog _ _ _ (w2.setChan c 1000 (((ax q pre).1.map itVal).toArray.push (.agg #[.int .i64 2,.string ⟨cc.toArray⟩,.int .i64 0])) false ((ax q pre).1.length+1) 0 false);obtain ⟨w3,hw3⟩:∃w3,w2.setChan c 1000 (((ax q pre).1.map itVal).toArray.push (.agg #[.int .i64 2,.string ⟨cc.toArray⟩,.int .i64 0])) false ((ax q pre).1.length+1) 0 false=w3:=⟨_,rfl⟩;have hs3:w3.heap.size=w2.heap.size:=by rw [<-hw3];exact vh
    have ho3:w3.os=w2.os:=by rw [<-hw3];rfl
    rw [hw3] at hbk hck ⊢;have d3':w3.cell? ⟨w.heap.size+3,0,none⟩=some (.string ⟨(ax q pre).2.toArray⟩):=(cB (a:=⟨w.heap.size+3,0,none⟩) (hbk _ (show w.heap.size+3≠c by omega))).trans d3;have f3':w3.frozen? ⟨w.heap.size+3,0,none⟩=false:=(fB (a:=⟨w.heap.size+3,0,none⟩) (hbk _ (show w.heap.size+3≠c by omega))).trans f3;have HBK:Hid ((∀j,j≠c->w3.heap[j]?=w2.heap[j]?)/\w3.heap[c]?=some (.chan 1000 (((ax q pre).1.map itVal).toArray.push (.agg #[.int .i64 2,.string ⟨cc.toArray⟩,.int .i64 0])) false ((ax q pre).1.length+1) 0 false)/\pU q w (ja w q root c) c pre w2/\w3.heap.size=w2.heap.size/\w3.os=w2.os):=⟨hbk,hck,I2,hs3,ho3⟩;clear hbk hck I2 hw3 hc2 hs3 ho3 hK1 K1;gi_wp2;rw [HQ.out];obtain ⟨hbk,hck,I2,hs3,ho3⟩:=HBK.out;have hot:∀j,j≠w.heap.size+3->(w3.setCell ⟨w.heap.size+3,0,none⟩ (.string ⟨cc.toArray⟩)).heap[j]?=w3.heap[j]?:=fun j hj=>bS _ _ _ _ hj
    have hsz4:(w3.setCell ⟨w.heap.size+3,0,none⟩ (.string ⟨cc.toArray⟩)).heap.size=w2.heap.size:=by simp [hs3]
    have hos4:(w3.setCell ⟨w.heap.size+3,0,none⟩ (.string ⟨cc.toArray⟩)).os=w2.os:=((bR 0 w3).setCell (p:=⟨w.heap.size+3,0,none⟩) (Nat.zero_le _) _).os.trans ho3;have hb12:=HW1.out _ _ hb1 hb2;refine ⟨rfl,⟨by rw [hsz4];exact hb12.size,hos4.trans hb12.os,fun b hb hbc hbt=>?_⟩,hos4.trans I2.os,by rw [hsz4];exact I2.size,fun b hb hbc hbt=>?_,?_,?_⟩
    .rw [hot b hbt,hbk b hbc];exact hb12.block b hb
    .rw [hot b hbt,hbk b hbc];exact I2.block b hb hbc hbt
    .rw [HE1.out];have h3:=(hbk _ (show w.heap.size+3≠c by omega)).trans I2.told;obtain ⟨h1,h2⟩:=eS h3;show (w3.heap.modify (w.heap.size+3) _)[w.heap.size+3]?=_;rw [eG (by rw [Array.size_modify];exact h1),Array.getElem_modify_self,h2];rfl
    .rw [hot c (by omega),hck,HE1.out];simp [itVal]
end
theorem zy (n:Nat):∀ (f:List UInt8->List Ver)(bs:List UInt8),∀x∈cG n f bs,bs <+:x.1/\x.1.length<bs.length+n:=by
 induction n with
 |zero=>intro f bs x hx;simp [cG] at hx
 |succ n ih=>
  intro f bs x hx;simp only [cG,List.mem_append,List.mem_flatMap] at hx;rcases hx with hx|⟨b,-,hx⟩
  .split at hx
   .simp at hx
   .simp at hx;subst hx;exact ⟨List.prefix_refl _,by simp⟩
  .obtain ⟨h1,h2⟩:=ih _ _ x hx;exact ⟨(List.prefix_append _ _).trans h1,by simp at h2;omega⟩
theorem rR {f:List UInt8->List Ver}{p:List UInt8}{x:List UInt8×List Ver}(h:x∈cK f p):p <+:x.1/\x.1.length<=40:=by
 obtain ⟨h1,h2⟩:=zy _ _ _ x h;have h3:=h1.length_le;exact ⟨h1,by omega⟩
theorem BB {l:KVs}{x:List UInt8×List Ver}(h:x∈l):x.2.length<=gE l:=by
 induction l with
 |nil=>simp at h
 |cons a r ih=>
  rcases List.mem_cons.1 h with rfl|h
  .simp [gE]
  .have:=ih h;simp [gE] at this ⊢;omega
theorem pU.stable {q:Qy}{w w6:World}{c:Nat}{pre:KVs}{X Y:World}(I:pU q w w6 c pre X)(hc:c<w6.heap.size)(ht:w.heap.size+3<w6.heap.size)(h:∀b,b<w6.heap.size->Y.heap[b]?=X.heap[b]?)(hs:X.heap.size<=Y.heap.size)(ho:Y.os=X.os):pU q w w6 c pre Y:=
 ⟨ho.trans I.os,lT I.size hs,fun b h1 h2 h3=>(h b h1).trans (I.block b h1 h2 h3),(h _ ht).trans I.told,(h _ hc).trans I.ch⟩
section
attribute [local go_sem] Oper.semAt_some jG
theorem DP (q:Qy)(hCm:gG q)(hSk:gH q)(root:Option Addr)(f:List UInt8->List Ver)(c:Nat)(w:World)(hgl:cU w)(hT:rP w root f)(hsum:gE (cK f q.p.data.toList)<=1000)(hp:q.p.size<=maxLen)(hc:w.heap[c]?=some (.chan 1000 #[] false 0 0 false)):
  Calls Yq.prog 120 #[qV q.vs q.p q.d q.af,sV root,.chan (some c)] w fun e w'=>e=.returned (.tuple #[])/\((∀b,b<w.heap.size->b≠c->w'.heap[b]?=w.heap[b]?)/\w.heap.size<=w'.heap.size/\w'.os=w.os) /\
   w'.heap[c]?=some (.chan 1000 ((dz q (cK f q.p.data.toList)).map itVal).toArray false (dz q (cK f q.p.data.toList)).length 0 false):=by
 have hcw:c<w.heap.size:=(eS hc).1;have HGL:Hid (cU w/\0≠c):=⟨hgl,fun e=>by
  obtain ⟨m,hm⟩:=hgl;subst e;simp [World.cell?,hc] at hm⟩
 clear hgl;obtain ⟨total,htot⟩:∃total,cK f q.p.data.toList=total:=⟨_,rfl⟩;have hsome:∀x∈total,x.2≠[]:=by rw [<-htot];exact iA _ _ _
 have hkey:∀x∈total,q.p.data.toList <+:x.1/\x.1.length<=40:=by rw [<-htot];exact fun x hx=>rR hx
 obtain ⟨A,hAd⟩:∃A:Nat->Prop,A=cj w:=⟨_,rfl⟩;have hA:∀b,A b->b<w.heap.size/\b≠c:=fun b hb=>by
  rw [hAd] at hb;refine ⟨hb.lt,fun e=>?_⟩;subst e;obtain ⟨o,h1,h2⟩:=hb;rw [hc] at h1;cases h1;cases h2
 have hN6:aj A 41 (ja w q root c) root f:=aj.keep (fun b hb hlt=>⟨by rw [hAd];exact hb,jE w q root c hlt⟩) 41 root f hT;rw [htot] at hsum ⊢;have hc6:c<(ja w q root c).heap.size:=by rw [bX];omega
 have ht6:w.heap.size+3<(ja w q root c).heap.size:=by rw [bX];omega
 have hI0:pU q w (ja w q root c) c [] (ja w q root c):=⟨rfl,lR _,fun _ _ _ _=>rfl,jF w q root c 3 (by omega),(jE w q root c hcw).trans hc⟩;refine (callsIn_wide (n:=0)).1 (callsIn_of_wp_marks (F:=Fence.wide) Yq.func120 rfl trivial ?_);refine (wpIn_wide (n:=0)).2 ?_;generalize hQ:bodyPostM Fence.wide 0 Yq.prog Tryz.f120 _=Q;simp only [Tryz.ntmps120,lZ,lC,lN,Nat.reduceAdd,Nat.reduceSub,Array.replicate_succ,Array.replicate_zero,List.push_toArray,List.append_toArray,List.nil_append,List.cons_append];have HQ:Hid (bodyPostM Fence.wide 0 Yq.prog Tryz.f120 _=Q):=hQ;have HX:Hid (gG q/\gH q/\aj A 41 (ja w q root c) root f/\(∀b,A b->b<w.heap.size/\b≠c)/\pU q w (ja w q root c) c [] (ja w q root c)/\(∀x∈total,x.2≠[])/\(∀x∈total,q.p.data.toList <+:x.1/\x.1.length<=40)/\A=cj w):=⟨hCm,hSk,hN6,hA,hI0,hsome,hkey,hAd⟩;clear hQ hCm hSk hN6 hA hI0 hsome hkey hT hc hAd;unfold qV sV;go_wp2_with (go_at_call 101;refine (zt root q.p _).mono ?_;rintro e w6 ⟨rfl,rfl⟩)
 refine wpIn_wide.1 (show Code.wpIn (wf none) 0 Yq.prog _ (Exit.inBlock 0 Q) ⟨fx w q root c undef undef undef undef,[]⟩ (ja w q root c) from ?_);obtain ⟨hCm,hSk,hN6,hA,hI0,hsome,hkey,hAd⟩:=HX.out;have hmem:∀ (pre:KVs) x,pre++[x] <+:total->x∈total:=fun pre x h=>h.subset (by simp)
 refine rr (α:=List UInt8×List Ver) (β:=List UInt8×List Ver×Value) (encs:=fun x=>#[.string ⟨x.1.toArray⟩,x.2.2]) (gf:=122) (lb:=#[ptr (w.heap.size+4),ptr (w.heap.size+5)]) (fun x=>(x.1,x.2.1)) rfl (fun args wx=>by go_simp) (fun _=>rfl) c (w.heap.size+3) ht6 noO (fun _ _ _ _ h=>h)
  (pU q w (ja w q root c) c) (fun pre x=>pre++[(x.1,x.2.1)] <+:total/\aQ A (ja w q root c) x.2.2 x.2.1/\x.2.1≠[]) total (fun _ _ _ _ h=>h.elim) (fun pre X Y I h1 _ h2 h3=>I.stable hc6 ht6 h1 h2 h3) (fun pre X I=>⟨.inr hc6,.inr ⟨_,I.ch,rfl⟩⟩) hI0
  (fun x=>⟨fx w q root c (.string ⟨x.1.toArray⟩) x.2.2 (.string ⟨x.1.toArray⟩) x.2.2,[]⟩) ?call ?assign ?body ?done
 case call=>
  intro l J W hW1 hW2 hob hst hsz hy hJ0;have C:pH A (ja w q root c) ((ja w q root c).heap.size+2) (w.heap.size+3) l noO total J:=⟨fun b hb=>by
    obtain ⟨h1,h2⟩:=hA b hb;rw [hAd] at hb;obtain ⟨o,h3,h4⟩:=hb;exact ⟨by rw [bX];omega,by omega,o,(jE w q root c h1).trans h3,h4⟩,by omega,fun _ _ _ _ h=>h,hob,hst,hsz,fun pre k h hv X h1 h2 h3 h4=>hy pre (k,h,hv) X ⟨h1,h2,h3⟩ h4⟩
  exact uX C root f q.p W (w.heap.size+4) (w.heap.size+5) hN6 htot.symm (fun b hb=>hW2 b (by have:=(hA b hb).1;rw [bX];omega))
   (by rw [cB (a:=⟨w.heap.size+4,0,none⟩) (hW2 _ (by rw [bX];show w.heap.size+4<_;omega))];simp [World.cell?,jF w q root c 4 (by omega)])
   (by rw [cB (a:=⟨w.heap.size+5,0,none⟩) (hW2 _ (by rw [bX];show w.heap.size+5<_;omega))];simp [World.cell?,jF w q root c 5 (by omega)]) hp hJ0
 case assign=>
  intro l x W K hK;obtain ⟨k,h,hv⟩:=x;have e:(#[15,16].zip #[Value.string ⟨k.toArray⟩,hv]).foldl (fun t x=>match x with|(p,v)=>t.setIfInBounds p v) (fx w q root c undef undef undef undef)=fx w q root c undef undef (.string ⟨k.toArray⟩) hv:=by
   simp [fx]
  show Code.wpIn _ _ _ _ _ ⟨(#[15,16].zip #[Value.string ⟨k.toArray⟩,hv]).foldl (fun t x=>match x with|(p,v)=>t.setIfInBounds p v) (fx w q root c undef undef undef undef),[]⟩ _;rw [e];unfold fx;unfold fx at hK;gi_wp2;exact hK
 case body=>
  rintro l pre ⟨k,h,hv⟩ W ⟨h1,h2,h3⟩ I;have hm:=hmem pre (k,h) h1;refine wpIn_mono (BA q hCm hSk root c w HGL.out.1 HGL.out.2 hcw A hA l pre k h hv W (by have:=(hkey _ hm).2;simp only at this;omega) (hkey _ hm).1 h2 h3 (by have:=BB hm;simp only at this;omega) (by have h5:(ax q (pre++[(k,h)])).1.length<=(dz q total).length:=wU q total _ hsome h1;have:=pS q total hsome;omega) I) (fun e a W' h=>⟨h.1,h.2.1.own,h.2.2⟩)
 case done=>
  intro D W hD I hK;have hQ:=HQ.out;subst hQ;refine ⟨by simp,.inl ⟨_,_,rfl,run_takeDeferred hK,?_⟩⟩;have hne:∀b,b<(ja w q root c).heap.size->(W.putObj D (.deferred none)).heap[b]?=W.heap[b]?:=fun b hb=>pO (by omega)
  refine ⟨.tuple #[],by simp [results,Tryz.results120,go_sem],rfl,⟨fun b hb hbc=>?_,?_,?_⟩,?_⟩
  .rw [hne b (by rw [bX];omega),I.block b (by rw [bX];omega) hbc (by omega),jE w q root c hb]
  .have:=I.size;rw [bX] at this;simp;omega
  .exact I.os
  .rw [hne c hc6];exact I.ch
end
end
section
open Go.RowKit
theorem BC {A:Nat->Prop}{w w1:World}(h:w.heap.size<=w1.heap.size):∀b,Grow A w1 b->Grow A w b:=by
 rintro b (⟨h1,h2⟩|h1)
 .by_cases hlt:b<w.heap.size
  .exact Or.inl ⟨h1,hlt⟩
  .exact Or.inr (by omega)
 .exact Or.inr (by omega)
theorem az.mono {A A':Nat->Prop}{w:World}{k0:Nat}{st:St}(S:az A w k0 st)(h:∀b,A b->A' b)(ha:∀b,A' b->b≠k0):az A' w k0 st:=by
 obtain ⟨p,c0,hN⟩:=S.tree;exact ⟨ha,⟨p,c0,aj.keep (fun b h1 _=>⟨h b h1,rfl⟩) _ _ _ hN⟩,S.count,S.last,S.frozen⟩
def cZ (A:Nat->Prop)(w:World)(k0:Nat)(st':St)(v:Value)(e:Ending)(w':World):Prop:=
 e=.returned v/\az (Grow A w) w' k0 st'/\cw w w' k0
theorem aZ {A:Nat->Prop}{w w':World}{k0:Nat}{st:St}{v:Value}(S:az A w k0 st)(hb:Below w.heap.size w w'):cZ A w k0 st v (.returned v) w':=
 ⟨rfl,S.grow.on hb,dQ S.lt hb⟩
def oz (st:St)(key body:ByteArray):St×Int×Int:=
 if aU key=false then (st,0,2) else if 100<body.size then (st,0,3) else if na st then (st,0,4) else (dp st key body false,st.last+1,0)
def gI (st:St)(key:ByteArray):St×Int×Int:=
 if aU key=false then (st,0,2) else if na st then (st,0,4) else (dp st key ⟨#[]⟩ true,st.last+1,0)
theorem BD (A:Nat->Prop)(k0:Nat)(st:St)(s:Nat)(key body:ByteArray)(w:World)(hk:key.size<=maxLen)(hbd:body.size<=maxLen)(S:az A w k0 st)(hI:Inv st s)(hs:s<2199023255552):
  Calls Yq.prog 35 #[.pointer (some ⟨k0,0,none⟩),.string key,.string body] w (cZ A w k0 (oz st key body).1 (.tuple #[.int .i64 (oz st key body).2.1,.int .i64 (oz st key body).2.2])):=by
 have HIK:=jC key w hk;have HS:Hid (az A w k0 st):=S;unfold maxLen at hbd;cases hkey:aU key with
 |false=>
  rw [hkey] at HIK;have e:oz st key body=(st,0,2):=by simp [oz,hkey]
  rw [e];clear hkey S e;go_enter Yq.func35,Tryz.ntmps35;go_wp2_with (go_at_call 59;refine HIK.mono ?_;rintro e w' ⟨rfl,rfl⟩)
  go_ret2
  exact aZ HS.out (bR _ _)
 |true=>
  rw [hkey] at HIK;have hsz:=fR hkey;by_cases h100:100<body.size
  .have e:oz st key body=(st,0,3):=by simp [oz,hkey,h100]
   rw [e];clear hkey S e;go_enter Yq.func35,Tryz.ntmps35;go_wp2_with (go_at_call 59;refine HIK.mono ?_;rintro e w' ⟨rfl,rfl⟩)
   go_ret2
   exact aZ HS.out (bR _ _)
  .have HIF:=ov k0 st w S.count S.last hI.last0 (by have:=hI.lastS;omega);cases hfull:na st with
   |true=>
    rw [hfull] at HIF;have e:oz st key body=(st,0,4):=by simp [oz,hkey,h100,hfull]
    rw [e];clear hkey S e hfull;go_enter Yq.func35,Tryz.ntmps35;go_wp2_with (first|(go_at_call 59;refine HIK.mono ?_;rintro e w' ⟨rfl,rfl⟩)|(go_at_call 60;refine HIF.mono ?_;rintro e w' ⟨rfl,rfl⟩))
    go_ret2
    exact aZ HS.out (bR _ _)
   |false=>
    rw [hfull] at HIF;have e:oz st key body=(dp st key body false,st.last+1,0):=by simp [oz,hkey,h100,hfull]
    rw [e];clear hkey S e hfull;go_enter Yq.func35,Tryz.ntmps35;go_wp2_with (first|(go_at_call 59;refine HIK.mono ?_;rintro e w' ⟨rfl,rfl⟩)|(go_at_call 60;refine HIF.mono ?_;rintro e w' ⟨rfl,rfl⟩))
    refine (wS body w (by omega)).mono ?_;rintro e w1 ⟨rfl,hb1⟩;have HA:=vd A k0 st s key 0 body false w1 hsz.1 (HS.out.on hb1) hI hs;go_wp2_with (go_at_call 61;refine HA.mono ?_;rintro e w2 ⟨rfl,S2,hg2⟩)
    go_ret2
    exact ⟨rfl,S2.mono (BC hb1.size) (fT HS.out.avoid HS.out.lt),pQ (dQ HS.out.lt hb1) hg2⟩
theorem zz (A:Nat->Prop)(k0:Nat)(st:St)(s:Nat)(key:ByteArray)(w:World)(hk:key.size<=maxLen)(S:az A w k0 st)(hI:Inv st s)(hs:s<2199023255552):
  Calls Yq.prog 38 #[.pointer (some ⟨k0,0,none⟩),.string key] w (cZ A w k0 (gI st key).1 (.tuple #[.int .i64 (gI st key).2.1,.int .i64 (gI st key).2.2])):=by
 have HIK:=jC key w hk;have HS:Hid (az A w k0 st):=S;cases hkey:aU key with
 |false=>
  rw [hkey] at HIK;have e:gI st key=(st,0,2):=by simp [gI,hkey]
  rw [e];clear hkey S e;go_enter Yq.func38,Tryz.ntmps38;go_wp2_with (go_at_call 59;refine HIK.mono ?_;rintro e w' ⟨rfl,rfl⟩)
  go_ret2
  exact aZ HS.out (bR _ _)
 |true=>
  rw [hkey] at HIK;have hsz:=fR hkey;have HIF:=ov k0 st w S.count S.last hI.last0 (by have:=hI.lastS;omega);cases hfull:na st with
  |true=>
   rw [hfull] at HIF;have e:gI st key=(st,0,4):=by simp [gI,hkey,hfull]
   rw [e];clear hkey S e hfull;go_enter Yq.func38,Tryz.ntmps38;go_wp2_with (first|(go_at_call 59;refine HIK.mono ?_;rintro e w' ⟨rfl,rfl⟩)|(go_at_call 60;refine HIF.mono ?_;rintro e w' ⟨rfl,rfl⟩))
   go_ret2
   exact aZ HS.out (bR _ _)
  |false=>
   rw [hfull] at HIF;have e:gI st key=(dp st key ⟨#[]⟩ true,st.last+1,0):=by simp [gI,hkey,hfull]
   rw [e];clear hkey S e hfull;have HA:=vd A k0 st s key 0 ⟨#[]⟩ true w hsz.1 HS.out hI hs;go_enter Yq.func38,Tryz.ntmps38;go_wp2_with (first|(go_at_call 59;refine HIK.mono ?_;rintro e w' ⟨rfl,rfl⟩)|(go_at_call 60;refine HIF.mono ?_;rintro e w' ⟨rfl,rfl⟩)|(go_at_call 61;refine HA.mono ?_;rintro e w2 ⟨rfl,S2,hg2⟩))
   go_ret2
   exact ⟨rfl,S2,hg2⟩
def dN (st:St)(key:ByteArray)(n:Int):St×Int:=
 if aU key=false then (st,2)
 else match dP (st.f key.data.toList) n with
  |none=>(st,5)
  |some r=>(dj st key r,0)
theorem wX (A:Nat->Prop)(k0:Nat)(st:St)(s:Nat)(key:ByteArray)(n:Int)(w:World)(hk:key.size<=maxLen)(S:az A w k0 st)(hI:Inv st s)(hs:s<2199023255552):
  Calls Yq.prog 39 #[.pointer (some ⟨k0,0,none⟩),.string key,.int .i64 n] w (cZ A w k0 (dN st key n).1 (.int .i64 (dN st key n).2)):=by
 have HF:=rH A k0 st s key n w hk S hI (by omega);have HS:Hid (az A w k0 st):=S;have hk0:=S.lt;have l2:=hI.countL;have l3:=hI.countU;have hle:=hI.len key.data.toList;clear S;go_enter Yq.func39,Tryz.ntmps39;go_wp2_with fail
 refine HF.mono ?_;rintro e w1 ⟨hb1,hcase⟩;rcases hcase with ⟨hkey,rfl⟩|⟨hkey,hpl,rfl⟩|⟨hkey,r,ha,hc,hpl,hr,hh,rfl⟩
 .have HR:Hid (dN st key n=(st,2)):=show dN st key n=(st,2) by simp [dN,hkey]
  have HB:Hid (Below w.heap.size w w1):=hb1;clear hkey HF hb1;go_wp2;go_ret;rw [HR.out];exact aZ HS.out HB.out
 .have HR:Hid (dN st key n=(st,5)):=show dN st key n=(st,5) by simp [dN,hkey,hpl]
  have HB:Hid (Below w.heap.size w w1):=hb1;clear hkey HF hb1 hpl;go_wp2;go_ret;rw [HR.out];exact aZ HS.out HB.out
 .have HR:Hid (dN st key n=(dj st key r,0)):=show dN st key n=(dj st key r,0) by simp [dN,hkey,hpl]
  have hsz:=fR hkey;obtain ⟨p,C,hN⟩:=HS.out.cells;have C1:=C.on hb1;have c1:=C1.c1;have f1:=C1.fz 1;have c0:=C1.c0;obtain ⟨W2,hW2⟩:∃W2,W2=w1.setCell ⟨k0,1,none⟩ (.int .i64 (st.count-1)):=⟨_,rfl⟩;have C2:bH W2 k0 (.pointer p) (.int .i64 (st.count-1)) (.int .i64 st.last):=by rw [hW2];exact C1.set1 _
  have hg2:cw w W2 k0:=by rw [hW2];exact ox (dQ hk0 hb1) _ _
  have hh2:aQ (fun b=>A b\/w.heap.size<=b) W2 (.slice ha (st.f key.data.toList).length hc) (st.f key.data.toList):=
   bE.keep hh (fun b h1 h2=>⟨Or.inl h1,by rw [hW2];exact bS _ _ _ _ (HS.out.avoid b h1)⟩)
  have HN2:∀w3:World,W2.grownBy w3 (some k0)->aj (fun b=>(A b/\b<w.heap.size)\/w.heap.size<=b) 41 w3 p st.f:=fun w3 hg3=>
   aj.keep (fun b h1 h2=>⟨Or.inl ⟨h1,h2⟩,(bM hg2.g hg3).block b h2 (by intro e;cases e;exact HS.out.avoid k0 h1 rfl)⟩) 41 p st.f hN
  have hfne:st.f key.data.toList≠[]:=by intro e;rw [e] at hr;simp at hr
  have HW2:Hid (W2=w1.setCell ⟨k0,1,none⟩ (.int .i64 (st.count-1))):=hW2;clear hkey HF hpl C hN C1;by_cases hone:(st.f key.data.toList).length=1
  .have hr0:r=0:=by omega
   have HD:Hid (dj st key r=⟨upd st.f key.data.toList [],st.count-1,st.last⟩):=show dj st key r=_ by
    unfold dj;rw [hr0,List.take_zero,List.nil_append,List.drop_eq_nil_of_le (by omega)]
   have HT:Hid (Calls Yq.prog 66 #[.agg #[.pointer p],.string key] W2 fun e w'=>∃q,e=.returned (.agg #[.pointer q])/\Below W2.heap.size W2 w'/\aj (Grow (fun b=>(A b/\b<w.heap.size)\/w.heap.size<=b) W2) 41 w' q (upd st.f key.data.toList [])):=
    rF _ 41 p st.f key W2 (HN2 W2 (World.grownBy.refl _ _)) hsz.1 hsz.2 hfne
   have HC:Hid (bH W2 k0 (.pointer p) (.int .i64 (st.count-1)) (.int .i64 st.last)/\cw w W2 k0):=⟨C2,hg2⟩;rw [hone];clear hh hh2 HN2 hone hr0 C2 hg2 hfne hW2 hr hle hb1;go_wp2_with fail
   rw [<-HW2.out];refine HT.out.mono ?_;rintro e w4 ⟨q,rfl,hb4,hN4⟩;have D4:=HC.out.1.on hb4;have r1:=D4.c0;have r2:=D4.fz 0;have HX:Hid (az (Grow A w) (w4.setCell ⟨k0,0,none⟩ (.pointer q)) k0 (dj st key r)/\cw w (w4.setCell ⟨k0,0,none⟩ (.pointer q)) k0):=by
    refine ⟨?_,ox (fm HC.out.2 hb4) _ _⟩;rw [HD.out];refine fS (p:=q) ?_ ?_ (fT HS.out.avoid hk0)
    .exact D4.set0 _
    .exact nb HC.out.2.g.size HS.out.avoid hk0 hN4 _ _
   clear D4 hN4 hb4 HT HC;go_wp2;go_ret;rw [HR.out];exact ⟨rfl,HX.out.1,HX.out.2⟩
  .have HD:Hid (dj st key r=⟨upd st.f key.data.toList ((st.f key.data.toList).take r++(st.f key.data.toList).drop (r+1)),st.count-1,st.last⟩):=rfl;have HW:Hid (Calls Yq.prog 68 #[.slice ha (st.f key.data.toList).length hc,.int .i64 r] W2.drew fun e w'=>∃va vl vc,e=.returned (.slice va vl vc)/\aQ (fun b=>W2.heap.size<=b) w' (.slice va vl vc) ((st.f key.data.toList).take r++(st.f key.data.toList).drop (r+1))/\Below W2.heap.size W2 w'):=by
    refine (rG _ _ _ r W2.drew (bE.keep hh2 (fun b h1 h2=>⟨h1,rfl⟩)) hr (by omega)).mono ?_;rintro e w' ⟨va,vl,vc,h1,h2,h3⟩;exact ⟨va,vl,vc,h1,h2,(bR _ W2).drew.trans h3⟩
   have hne2:(st.f key.data.toList).take r++(st.f key.data.toList).drop (r+1)≠[]:=by
    intro e;have:=congrArg List.length e;rw [lP,tL,lD,lN] at this;omega
   have HT:Hid (∀ (w3:World) (va:Option Addr) (vl vc:Nat),Below W2.heap.size W2 w3->aQ (fun b=>W2.heap.size<=b) w3 (.slice va vl vc) ((st.f key.data.toList).take r++(st.f key.data.toList).drop (r+1)) ->
     Calls Yq.prog 67 #[.agg #[.pointer p],.string key,.slice va vl vc] w3 fun e w'=>∃q,e=.returned (.agg #[.pointer q])/\Below w3.heap.size w3 w'/\aj (Grow (fun b=>(A b/\b<w.heap.size)\/w.heap.size<=b) w3) 41 w' q (upd st.f key.data.toList ((st.f key.data.toList).take r++(st.f key.data.toList).drop (r+1)))):=fun w3 va vl vc hb3 hh3=>by
    refine rE _ 41 p st.f key _ _ w3 (HN2 w3 (dx hb3 _)) hsz.1 hsz.2 (bE.keep hh3 (fun b h1 h2=>⟨Or.inr ?_,rfl⟩)) hne2;have:=hg2.g.size;omega
   have HC:Hid (bH W2 k0 (.pointer p) (.int .i64 (st.count-1)) (.int .i64 st.last)/\cw w W2 k0):=⟨C2,hg2⟩;have a0:=C2.c0;have hone':(((st.f key.data.toList).length:Int)==1)=false:=by simp;omega
   generalize (st.f key.data.toList).take r++(st.f key.data.toList).drop (r+1)=hnew at *;clear hh hh2 HN2 C2 hg2 hfne hW2 hb1 hne2;generalize (st.f key.data.toList).length=m at *;go_wp2_with fail
   rw [<-HW2.out]
   go_region_with (first
    |(go_at_call 68;refine HW.out.mono ?_;rintro e w3 ⟨va,vl,vc,rfl,hh3,hb3⟩;have b0:=ai hb3 a0)
    |(go_at_call 67;refine (HT.out _ va vl vc hb3 hh3).mono ?_;rintro e w4 ⟨q,rfl,hb4,hN4⟩;have E4:=(HC.out.1.on hb3).on hb4;have r1:=E4.c0;have r2:=E4.fz 0))
   all_goals
    go_wp2;go_ret;rw [HR.out,HD.out];refine ⟨rfl,?_,?_⟩
    .refine fS (p:=q) ?_ ?_ (fT HS.out.avoid hk0)
     .exact E4.set0 _
     .exact nb (by have:=HC.out.2.g.size;have:=hb3.size;omega) HS.out.avoid hk0 hN4 _ _
    .exact ox (fm (fm HC.out.2 hb3) hb4) _ _
end
section
open Go
open Go.RowKit
structure nP (st:St):Prop where
 cnt:(tot 41 st.f:Int)=st.count
 le:st.count<=200
 long:∀k,40<k.length->st.f k=[]
 body:∀k,∀v∈st.f k,v.body.size<=100
theorem rS {key:ByteArray}(h:aU key=true):key.data.toList.length<=40:=by
 have:=of_decide_eq_true h;have e:key.data.toList.length=key.size:=by simp
 omega
theorem nP.add {st:St}(h:nP st)(key body:ByteArray)(mark:Bool)(hk:aU key=true)(hc:¬200<=st.count)(hbd:body.size<=100):nP (dp st key body mark):=by
 have hl:=rS hk;have e:=zq 41 st.f key.data.toList (st.f key.data.toList++[⟨st.last+1,body,mark⟩]) (by omega);rw [lP,lS] at e;have:=h.cnt;refine ⟨?_,?_,fun k hk=>?_,fun k v hv=>?_⟩
 .simp only [dp];omega
 .simp only [dp];omega
 .simp only [dp,upd];rw [if_neg (by intro e;subst e;omega)];exact h.long k hk
 .simp only [dp,upd] at hv;split at hv
  .rcases List.mem_append.1 hv with hv|hv
   .exact h.body _ v hv
   .simp only [List.mem_singleton] at hv;subst hv;exact hbd
  .exact h.body k v hv
theorem nP.drop {st:St}(h:nP st)(key:ByteArray)(r:Nat)(hk:aU key=true)(hr:r<(st.f key.data.toList).length):nP (dj st key r):=by
 have hl:=rS hk;have e:=zq 41 st.f key.data.toList ((st.f key.data.toList).take r++(st.f key.data.toList).drop (r+1)) (by omega);rw [lP,tL,lD,Nat.min_eq_left (by omega)] at e;have:=h.cnt;have:=h.le;refine ⟨?_,?_,fun k hk=>?_,fun k v hv=>?_⟩
 .simp only [dj];omega
 .simp only [dj];omega
 .simp only [dj,upd];rw [if_neg (by intro e;subst e;omega)];exact h.long k hk
 .simp only [dj,upd] at hv;split at hv
  .rcases List.mem_append.1 hv with hv|hv
   .exact h.body _ v (List.mem_of_mem_take hv)
   .exact h.body _ v (List.mem_of_mem_drop hv)
  .exact h.body k v hv
theorem nP.step {st:St}(h:nP st)(o:OpD):nP (bD st o).1:=by
 unfold bD;simp only
 repeat' split
 all_goals first
  |exact h
  |exact h.add _ _ _ (by simpa using ‹¬aU o.key=false›) (by assumption) (by first|exact Nat.le_of_not_lt ‹_› |exact Nat.zero_le _)
  |(rename_i r hr;exact h.drop _ _ (by simpa using ‹¬aU o.key=false›) (List.findIdx?_eq_some_iff_getElem.1 hr).1)
theorem Fe:nP ⟨fun _=>[],0,0⟩:=⟨by rw [DO];rfl,by simp,fun _ _=>rfl,fun _ _ h=>by simp at h⟩
end
section
open Go
open Go.Conc Go.ConcX Go.ConcX.Gen Go.RowKit
theorem pV (h:List Ver):∀v∈aC h,Good v:=fun v hv=>by
 simp only [aC,List.mem_flatMap] at hv;obtain ⟨x,-,hv⟩:=hv;simp at hv;rcases hv with rfl|rfl|rfl
 .exact .int _ _
 .exact .string _
 .exact .bool _
theorem pW (ks:List (UInt8×Option Addr)):∀v∈aq ks,Good v:=fun v hv=>by
 simp only [aq,List.mem_flatMap] at hv;obtain ⟨x,-,hv⟩:=hv;simp at hv;rcases hv with rfl|rfl
 .exact .int _ _
 .exact .pointer _
section
variable {ρ:Ren} {V W V':World}
theorem zB {A:Nat->Prop}{v:Value}{n:Nat}{xs:List Value}(hk:∀a y i v,ρ a y->V.cell? ⟨a,i,none⟩=some v->Good v->V'.cell? ⟨a,i,none⟩=some v)(hg:∀v∈xs,Good v)(hr:∃v',RV ρ v v')(h:bE A V v n xs):bE (fun _=>True) V' v n xs:=by
 obtain ⟨a,cap,rfl,ha0,hx⟩:=h;refine ⟨a,cap,rfl,ha0,fun hne=>?_⟩;obtain ⟨g,rfl,hA,hgl,hc⟩:=hx hne;obtain ⟨v',hr⟩:=hr;obtain ⟨y,hy⟩:∃y,ρ g y:=by
  cases hr with
  |slice n c h=>cases h with|some h=>exact ⟨_,h.1⟩
 have hc2:∀j,j<xs.length->V'.cell? ⟨g,j,none⟩=xs[j]?:=fun j hj=>by
  have h1:=(hc j hj).trans (eL hj);rw [eL hj];exact hk g y j _ hy h1 (hg _ (List.getElem_mem hj))
 have h0:0<xs.length:=List.length_pos_iff.2 hne;exact ⟨g,rfl,trivial,bC V' _ ((hc2 0 h0).trans (eL h0)),hc2⟩
theorem BE {A:Nat->Prop}(S:bm ρ V W)(hk:∀a y i v,ρ a y->V.cell? ⟨a,i,none⟩=some v->Good v->V'.cell? ⟨a,i,none⟩=some v):∀ (n:Nat)(p:Option Addr)(f:List UInt8->List Ver),(∃r,RAo ρ p r)->aj A n V p f->aj (fun _=>True) n V' p f:=by
 intro n;induction n with
 |zero=>intro p f _ h;exact h
 |succ n ih=>
  intro p f hr h;rcases h with h|⟨g,hv,kv,ks,rfl,hA,c0,c1,c2,hh,hks,hs,hch,hno,hnn⟩
  .exact Or.inl h
  .obtain ⟨r,hr⟩:=hr;obtain ⟨y,hy⟩:∃y,ρ g y:=by cases hr with|some h=>exact ⟨_,h.1⟩
   have hrel:∀ (b y j:Nat) (v:Value),ρ b y->V.cell? ⟨b,j,none⟩=some v->∃v',RV ρ v v':=fun b y j v hb hc=>by
    rcases S.cell (a:=⟨b,j,none⟩) (a':=⟨y,j,none⟩) ⟨hb,rfl,rfl⟩ with h|⟨v1,v2,h1,h2,h3⟩
    .rw [h] at hc;cases hc
    .rw [h1] at hc;cases hc;exact ⟨_,h3⟩
   have gh:Good hv:=by obtain ⟨a,cap,rfl,-⟩:=hh;exact .slice _ _ _
   have gkv:Good kv:=by obtain ⟨a,cap,rfl,-⟩:=hks;exact .slice _ _ _
   have rk:=hrel g y 2 kv hy c2;refine Or.inr ⟨g,hv,kv,ks,rfl,trivial,hk g y 0 _ hy c0 (.bool _),hk g y 1 _ hy c1 gh,hk g y 2 _ hy c2 gkv,zB hk (pV _) (hrel g y 1 hv hy c1) hh,zB hk (pW _) rk hks,hs,fun c q hq=>ih q _ ?_ (hch c q hq),hno,hnn⟩;have hne:ks≠[]:=by intro e;rw [e] at hq;simp at hq
   obtain ⟨gk,cap,rfl,-,-,hce,-⟩:=hks.cells hne;obtain ⟨i,hi,e⟩:=gM hq;obtain ⟨yk,hyk⟩:∃yk,ρ gk yk:=by
    obtain ⟨v',hv'⟩:=rk;cases hv' with|slice n c h=>cases h with|some h=>exact ⟨_,h.1⟩
   have h2:=(hce i hi).2;rw [e] at h2;obtain ⟨v',hv'⟩:=hrel gk yk _ _ hyk h2;cases hv' with|pointer h=>exact ⟨_,h⟩
theorem oA {A:Nat->Prop}(hk:∀b j,b<V.heap.size->V'.cell? ⟨b,j,none⟩=V.cell? ⟨b,j,none⟩):∀ (n:Nat)(p:Option Addr)(f:List UInt8->List Ver),aj A n V p f->aj (fun _=>True) n V' p f:=by
 have hrow:∀v n xs,bE A V v n xs->bE (fun _=>True) V' v n xs:=fun v n xs h=>by
  obtain ⟨a,cap,rfl,ha0,hx⟩:=h;refine ⟨a,cap,rfl,ha0,fun hne=>?_⟩;obtain ⟨g,rfl,hA,hgl,hc⟩:=hx hne;have hc2:∀j,j<xs.length->V'.cell? ⟨g,j,none⟩=xs[j]?:=fun j hj=>(hk g j hgl).trans (hc j hj)
  have h0:0<xs.length:=List.length_pos_iff.2 hne;exact ⟨g,rfl,trivial,bC V' _ ((hc2 0 h0).trans (eL h0)),hc2⟩
 intro n;induction n with
 |zero=>intro p f h;exact h
 |succ n ih=>
  intro p f h;rcases h with h|⟨g,hv,kv,ks,rfl,hA,c0,c1,c2,hh,hks,hs,hch,hno⟩
  .exact Or.inl h
  .have hg:=bC V _ c0;exact Or.inr ⟨g,hv,kv,ks,rfl,trivial,(hk g 0 hg).trans c0,(hk g 1 hg).trans c1,(hk g 2 hg).trans c2,hrow _ _ _ hh,hrow _ _ _ hks,hs,fun c q hq=>ih q _ (hch c q hq),hno⟩
end
def lQy (l:Lst):Qy:=⟨l.vs,l.p,l.d,l.af⟩
def kV (l:Lst)(f:List UInt8->List Ver):List ItD:=dz (lQy l) (cK f l.p.data.toList)
structure EP (Qok:Qy->Prop)(l:Lst)(f:List UInt8->List Ver)(w:World):Prop where
 tree:rP w l.root f
 ok:Qok (lQy l)
 sum:gE (cK f l.p.data.toList)<=1000
 pre:l.p.size<=maxLen
 glob:cU w
def Eh (Qok:Qy->Prop)(l:Lst)(L:List Value)(w:World):Prop:=∃f,EP Qok l f w/\L=(kV l f).map itVal
theorem jb:0<Tryz.prog.globals.size:=by
 have:Tryz.prog.globals.size=4:=by kernel_rfl
 omega
theorem zC (Qok:Qy->Prop)(hQ:∀q,Qok q->gG q/\gH q):yJ (Eh Qok) where
 low:=fun ρ V W V' l L S hr hgl hk hsz ⟨f,h,e⟩=>⟨f,⟨.of (BE S hk 41 l.root f hr h.tree),h.ok,h.sum,h.pre,by
  obtain ⟨m,hm⟩:=h.glob;obtain ⟨y,hy⟩:=hgl 0 jb;exact ⟨m,hk 0 y 0 _ hy hm (.int _ _)⟩⟩,e⟩
 on:=fun V V' l L hk hsz ⟨f,h,e⟩=>⟨f,⟨.of (oA (fun b j hb=>hk ⟨b,j,none⟩ hb) 41 l.root f h.tree),h.ok,h.sum,h.pre,by
  obtain ⟨m,hm⟩:=h.glob;exact ⟨m,(hk _ (bC V _ hm)).trans hm⟩⟩,e⟩
 item:=fun l L V ⟨f,h,e⟩ v hv=>by
  rw [e] at hv;obtain ⟨i,-,rfl⟩:=List.mem_map.1 hv;exact ⟨_,_,_,rfl⟩
 len:=fun l L V ⟨f,h,e⟩=>by
  rw [e,lM];exact lT (pS (lQy l) _ (iA _ _ _)) h.sum
 send:=fun l L w c ⟨f,h,e⟩ hc=>by
  obtain ⟨h1,h2⟩:=hQ _ h.ok;have:=DP (lQy l) h1 h2 l.root f c w h.glob h.tree h.sum h.pre hc;rw [e,lM];exact this
theorem DQ (Qok:Qy->Prop):∀l L V u,Ce V u->Eh Qok l L u->Eh Qok l L V:=fun l _L _V _u hc ⟨f,h,e⟩=>
 ⟨f,⟨.of (oA (fun _b _j _=>(hc.2 _).symm) 41 l.root f h.tree),h.ok,h.sum,h.pre,by
  obtain ⟨m,hm⟩:=h.glob;exact ⟨m,(hc.2 _).symm.trans hm⟩⟩,e⟩
end
