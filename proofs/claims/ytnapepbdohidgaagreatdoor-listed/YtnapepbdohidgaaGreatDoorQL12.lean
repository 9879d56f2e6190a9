/- A part. -/
import Derived.Test.YtnapepbdohidgaaGreatDoorQL11
import Derived.Sort.CutIn
import Derived.Lib.ItoaNum
import Derived.Shelf.LaysM
import Derived.Shelf.Strconv.Itoa3
import Derived.Conc.LeavingOf
import Derived.Lib.LaidTab
set_option maxHeartbeats 4000000
set_option maxRecDepth 100000
open Go renaming World->Wj,Value->Wx,Program->Wv,TypeId->Ww,Addr->Wu,undef->Wo
namespace Go.Proofs.Qw
section
open Go.Conc Go.ConcX Go.ConcX.Gen Go.RowKit
def dJ (w:Wj):Prop:=∃m,w.cell? ⟨0,0,none⟩=some (.int .i64 m)
theorem dJ.on {w w':Wj}(h:dJ w)(hb:∀b,b<w.heap.size->w'.heap[b]?=w.heap[b]?):dJ w':=by
 obtain ⟨m,hm⟩:=h;exact ⟨m,(cB (a:=⟨0,0,none⟩) (hb 0 (bC w _ hm))).trans hm⟩
def jl (q:Qy):Prop:=∀ (k:List UInt8)(w:Wj),dJ w->k.length<=1000->q.p.data.toList <+:k->Calls Yq.prog 139 #[qV q.vs q.p q.d q.af,.string ⟨k.toArray⟩] w fun e w'=>e=.returned (.tuple #[.string ⟨((aP q k).getD []).toArray⟩,.bool (aP q k).isSome])/\Below w.heap.size w w'
def jm (q:Qy):Prop:=∀ (A:Nat->Prop)(k:List UInt8)(hv:Wx)(h:List Ver)(c:Nat)(buf:List Wx)(w:Wj),bf A w hv h->h≠[]->h.length<=1000->w.heap[c]?=some (.chan 1000 buf.toArray false buf.length 0 false)->buf.length+(bc q.vs k h).length<=1000 ->
 Calls Yq.prog 140 #[qV q.vs q.p q.d q.af,.string ⟨k.toArray⟩,hv,.chan (some c)] w fun e w'=>e=.returned (.tuple #[])/\(∀b,b<w.heap.size->b≠c->w'.heap[b]?=w.heap[b]?)/\w.heap.size<=w'.heap.size/\w'.os=w.os /\
  w'.heap[c]?=some (.chan 1000 (buf++(bc q.vs k h).map itVal).toArray false (buf.length+(bc q.vs k h).length) 0 false)
structure ql (q:Qy)(w w6:Wj)(c:Nat)(pre:KVs)(W:Wj):Prop where
 os:W.os=w.os
 size:w6.heap.size<=W.heap.size
 block:∀b,b<w6.heap.size->b≠c->b≠w.heap.size+3->W.heap[b]?=w6.heap[b]?
 told:W.heap[w.heap.size+3]?=some (.cells #[.string ⟨(aD q pre).2.toArray⟩] 9)
 ch:W.heap[c]?=some (.chan 1000 ((aD q pre).1.map itVal).toArray false (aD q pre).1.length 0 false)
theorem kN {w:Wj}{c k s q:Nat}{b:Array Wx}{x y:Bool}(h:c<w.heap.size):(w.setChan c k b x s q y).heap[c]?=some (.chan k b x s q y):=by
 unfold World.setChan;exact sS h
theorem iN {w:Wj}{c k s q j:Nat}{b:Array Wx}{x y:Bool}(h:j≠c):(w.setChan c k b x s q y).heap[j]?=w.heap[j]?:=by
 unfold World.setChan;exact sN (by omega)
theorem vX {w:Wj}{c k s q:Nat}{b:Array Wx}{x y:Bool}:(w.setChan c k b x s q y).heap.size=w.heap.size:=by simp [World.setChan]
theorem uy (q:Qy)(hd:q.d=⟨#[]⟩):jl q:=by
 intro k w _ _ _;obtain ⟨b,p,d,a⟩:=q;simp only at hd;subst hd;exact ux b p a ⟨k.toArray⟩ w
theorem r9 (q:Qy)(i:q.vs=false):jm q:=by
 intro A k hv h c buf w l hne hl hc hroom;obtain ⟨vs,p,d,j⟩:=q;simp only at i;subst i;have hcl:c<w.heap.size:=(eS hc).1;simp only [bc,Bool.false_eq_true,if_false,lS,List.map_cons,List.map_nil] at hroom ⊢;rw [vU hne];obtain ⟨W,f⟩:∃W,W=((w.alloc (.cells #[.bool false,.string p,.string d,.string j] 93)).alloc (.cells #[.string ⟨k.toArray⟩] 9)).alloc (.cells #[.chan (some c)] 210):=⟨_,rfl⟩;have hb:Below w.heap.size w W:=by rw [f];exact (((bR _ _).alloc (lR _) _).alloc (by simp) _).alloc (by simp;omega) _
 have HX:Hid (Below w.heap.size w W/\W.cell? ⟨w.heap.size+1,0,none⟩=some (.string ⟨k.toArray⟩)/\W.cell? ⟨w.heap.size+2,0,none⟩=some (.chan (some c))/\bf A W hv h/\W.heap[c]?=some (.chan 1000 buf.toArray false buf.length 0 false)):=by
  refine ⟨hb,?_,?_,l.on hb,(hb.block c hcl).trans hc⟩
  .rw [f];refine ai ((bR _ _).alloc (lR _) _) ?_;have:=cA (w:=w.alloc (.cells #[.bool false,.string p,.string d,.string j] 93)) #[.string ⟨k.toArray⟩] 9 (w.heap.size+1) 0 (by simp);rw [this];rfl
  .rw [f];have:=cA (w:=(w.alloc (.cells #[.bool false,.string p,.string d,.string j] 93)).alloc (.cells #[.string ⟨k.toArray⟩] 9)) #[.chan (some c)] 210 (w.heap.size+2) 0 (by simp);rw [this];rfl
 have HW:Hid (W=((w.alloc (.cells #[.bool false,.string p,.string d,.string j] 93)).alloc (.cells #[.string ⟨k.toArray⟩] 9)).alloc (.cells #[.chan (some c)] 210)):=f;clear f hb hc l;unfold qV;go_enter (Yq.nq Tryz.func140),Tryz.ntmps140
 go_upto_region 2 with fail
 rename_i K1 hK1 K2 o;rw [<-HW.out];obtain ⟨hb,c5,r,l,hc⟩:=HX.out;refine wpIn_wide.1 (show Code.wpIn (wf none) 0 _ _ _ _ _ from Az A (id:=2) (n:=0) (b5:=w.heap.size+1) (b7:=w.heap.size+2) rfl rfl rfl rfl c5 r l hne (by omega) hc (by omega) (fun a w1 h1 h2 e=>?_));refine o _ _ (wp_ret ⟨h2,.tuple #[],by simp [results,Tryz.results140,go_sem],rfl,fun b hb2 m=>?_,?_,?_,?_⟩)
 .rw [iN m,e.block b (by have:=hb.size;omega)];exact hb.block b hb2
 .rw [vX];exact lT hb.size e.size
 .exact e.os.trans hb.os
 .exact kN (by have:=hb.size;have:=e.size;omega)
def C3:Code->Code
 | .rangeFunc _ _ _ b=>b
 |c=>c
noncomputable def AA:Code:=C3 (cIn (dr (dr (dr (cF Tryz.f120)))))
def jn (w:Wj)(q:Qy)(root:Option Wu)(c:Nat):Wj:=
 (((((w.alloc (.cells #[.bool q.vs,.string q.p,.string q.d,.string q.af] 93)).alloc (.cells #[.pointer root] 56)).alloc (.cells #[.chan (some c)] 210)).alloc (.cells #[.string ⟨#[]⟩] 9)).alloc (.cells #[.pointer root] 56)).alloc (.cells #[.string q.p] 9)
theorem cx (w:Wj)(q:Qy)(root:Option Wu)(c:Nat):(jn w q root c).heap.size=w.heap.size+6:=by simp only [jn,World.alloc,Array.size_push]
theorem jS (w:Wj)(q:Qy)(root:Option Wu)(c:Nat){b:Nat}(h:b<w.heap.size):(jn w q root c).heap[b]?=w.heap[b]?:=by
 simp only [jn,World.alloc,gP,Array.size_push]
 repeat rw [if_neg (by omega)]
theorem jT (w:Wj)(q:Qy)(root:Option Wu)(c:Nat)(i:Nat)(h:i<6):(jn w q root c).heap[w.heap.size+i]?=(#[.cells #[.bool q.vs,.string q.p,.string q.d,.string q.af] 93,.cells #[.pointer root] 56,.cells #[.chan (some c)] 210,.cells #[.string ⟨#[]⟩] 9,.cells #[.pointer root] 56,.cells #[.string q.p] 9]:Array Obj)[i]?:=by
 simp only [jn,World.alloc,gP,Array.size_push];rcases i with - | - | - | - | - | - |i;all_goals first|omega|skip
 all_goals
  repeat rw [if_neg (by omega)]
  simp
def fF (w:Wj)(q:Qy)(root:Option Wu)(c:Nat)(f e b a:Wx):Array Wx:=
 #[.agg #[.bool q.vs,.string q.p,.string q.d,.string q.af],.agg #[.pointer root],.chan (some c),.pointer (some ⟨w.heap.size,0,none⟩),.pointer (some ⟨w.heap.size+1,0,none⟩),.pointer (some ⟨w.heap.size+2,0,none⟩),.pointer (some ⟨w.heap.size+3,0,none⟩),f,e,Wo,Wo,
  .agg #[.pointer root],.pointer (some ⟨w.heap.size,1,none⟩),.string q.p,.func (.func 122) #[] #[ptr (w.heap.size+4),ptr (w.heap.size+5)],b,a,Wo,Wo,Wo,Wo,Wo,Wo,Wo,Wo,Wo,Wo,Wo,Wo,Wo,Wo,Wo,Wo,Wo,Wo,Wo,Wo,Wo,Wo,Wo,Wo,Wo,Wo,Wo]
theorem ql.below {q:Qy}{w w6:Wj}{c:Nat}{pre:KVs}{W W':Wj}(I:ql q w w6 c pre W)(hc:c<w6.heap.size)(ht:w.heap.size+3<w6.heap.size)(hb:Below W.heap.size W W'):ql q w w6 c pre W':=
 ⟨hb.os.trans I.os,lT I.size hb.size,fun b h1 h2 h3=>(hb.block b (lL h1 I.size)).trans (I.block b h1 h2 h3),(hb.block _ (lL ht I.size)).trans I.told,(hb.block _ (lL hc I.size)).trans I.ch⟩
theorem ql.items {q:Qy}{w w6:Wj}{c:Nat}{pre a:KVs}{W:Wj}(I:ql q w w6 c pre W)(h:aD q a=aD q pre):ql q w w6 c a W:=
 ⟨I.os,I.size,I.block,by rw [h];exact I.told,by rw [h];exact I.ch⟩
theorem jU (l:Nat):(wf (some l)).round=some l:=rfl
section
attribute [local go_sem] Oper.semAt_some jU
theorem C4 (q:Qy)(O:jl q)(T:jm q)(root:Option Wu)(c:Nat)(w:Wj)(Z:dJ w)(hc0:0≠c)(hcw:c<w.heap.size)(A:Nat->Prop)(hA:∀b,A b->b<w.heap.size/\b≠c)(l:Nat)(pre:KVs)(k:List UInt8)(h:List Ver)(hv:Wx)(W:Wj)(hk:k.length<=1000)(U:q.p.data.toList <+:k)(hh:bf A (jn w q root c) hv h)(hne:h≠[])(hl:h.length<=1000)(J:(aD q (pre++[(k,h)])).1.length<=1000)(I:ql q w (jn w q root c) c pre W):
  AA.wpIn (wf (some l)) 0 Yq.prog (fun e _ W'=>e=.normal/\kJ c (w.heap.size+3) W W'/\ql q w (jn w q root c) c (pre++[(k,h)]) W') ⟨fF w q root c (.string ⟨k.toArray⟩) hv (.string ⟨k.toArray⟩) hv,[]⟩ W:=by
 obtain ⟨Q,hQ⟩:∃Q:Exit->Act->Wj->Prop,Q=fun e _ W'=>e=.normal/\kJ c (w.heap.size+3) W W'/\ql q w (jn w q root c) c (pre++[(k,h)]) W':=⟨_,rfl⟩
 rw [<-hQ];have HQ:Hid (Q=fun e _ W'=>e=.normal/\kJ c (w.heap.size+3) W W'/\ql q w (jn w q root c) c (pre++[(k,h)]) W'):=hQ;clear hQ;have hrow:∀i o,i<6->i≠3->(jn w q root c).heap[w.heap.size+i]?=some o->W.heap[w.heap.size+i]?=some o:=fun i o h1 h2 h3=>(I.block _ (by rw [cx];omega) (by omega) (by omega)).trans h3
 have r0:=hrow 0 _ (by omega) (by omega) (jT w q root c 0 (by omega));have r2:=hrow 2 _ (by omega) (by omega) (jT w q root c 2 (by omega));simp only [Nat.add_zero] at r0;have c0:W.cell? ⟨w.heap.size,0,none⟩=some (.bool q.vs):=by simp [World.cell?,r0]
 have c1:W.cell? ⟨w.heap.size,1,none⟩=some (.string q.p):=by simp [World.cell?,r0]
 have c2:W.cell? ⟨w.heap.size,2,none⟩=some (.string q.d):=by simp [World.cell?,r0]
 have c3:W.cell? ⟨w.heap.size,3,none⟩=some (.string q.af):=by simp [World.cell?,r0]
 have d2:W.cell? ⟨w.heap.size+2,0,none⟩=some (.chan (some c)):=by simp [World.cell?,r2]
 have d3:W.cell? ⟨w.heap.size+3,0,none⟩=some (.string ⟨(aD q pre).2.toArray⟩):=by simp [World.cell?,I.told]
 have f3:W.frozen? ⟨w.heap.size+3,0,none⟩=false:=by simp [World.frozen?,I.told]
 have hszW:w.heap.size+6<=W.heap.size:=by have:=I.size;rwa [cx] at this
 have HhW:Hid (bf A W hv h):=bO.keep hh (fun b hb hlt=>⟨hb,I.block b hlt (hA b hb).2 (by have:=(hA b hb).1;omega)⟩);have HI:Hid (ql q w (jn w q root c) c pre W):=I;have ac:Hid (dJ W):=by
  obtain ⟨m,hm⟩:=Z;have h0:=bC w _ hm;exact ⟨m,(cB (a:=⟨0,0,none⟩) ((I.block 0 (by rw [cx];omega) hc0 (by omega)).trans (jS w q root c h0))).trans hm⟩
 have HWT:=C0 A q k hv h W HhW.out hne (by omega);have ab:Hid (jl q):=O;have Y:Hid (jm q):=T;have al:Hid (∀b,A b->b<w.heap.size/\b≠c):=hA;have M:Hid ((aD q (pre++[(k,h)])).1.length<=1000/\q.p.data.toList <+:k):=⟨J,U⟩;have HST:Hid (aD q (pre++[(k,h)])=bH q (aD q pre) (k,h)):=lI q pre (k,h);clear hrow r0 r2 I O T hA J U hh;generalize P:fE q k h=wt at HWT;have C:Hid (fE q k h=wt):=P;clear P;generalize R:aP q k=V;have E:Hid (aP q k=V):=R;clear R;unfold fF;dsimp only [AA,C3,cF,Tryz.f120,cIn,jc,dr,qG,Option.getD];unfold qV at HWT;have F:c<(jn w q root c).heap.size:=by rw [cx];omega
 have G:w.heap.size+3<(jn w q root c).heap.size:=by rw [cx];omega
 have u:Hid (∀X,Below W.heap.size W X->Calls Yq.prog 139 #[.agg #[.bool q.vs,.string q.p,.string q.d,.string q.af],.string ⟨k.toArray⟩] X fun e w'=>e=.returned (.tuple #[.string ⟨(V.getD []).toArray⟩,.bool V.isSome])/\Below X.heap.size X w'):=fun X L=>by
  rw [<-E.out];exact ab.out k X (ac.out.on L.block) hk M.out.2
 cases wt
 .gi_wp2_with (refine ⟨trivial,rfl,?_⟩;gi_at_call 138;refine (CallsIn.inRound l (callsIn_wide.2 HWT)).mono ?_;clear HWT;rintro e w1 ⟨rfl,f⟩)
  rw [HQ.out];exact ⟨rfl,kJ.below f,(HI.out.below F G f).items (by rw [HST.out,bH,C.out];rfl)⟩
 .have z:Hid (∀w1 w2:Wj,Below W.heap.size W w1->Below w1.heap.size w1 w2->Below W.heap.size W w2):=fun w1 w2 h1 h2=>h1.trans (h2.mono h1.size)
  cases V with
  |none=>
   have e1:aD q (pre++[(k,h)])=((aD q pre).1++bc q.vs k h,(aD q pre).2):=by
    rw [HST.out,bH,C.out];simp only [E.out,if_true]
   have n:Hid (aD q (pre++[(k,h)])=((aD q pre).1++bc q.vs k h,(aD q pre).2)):=e1;have S:Hid (∀X,Below W.heap.size W X->Calls Yq.prog 140 #[.agg #[.bool q.vs,.string q.p,.string q.d,.string q.af],.string ⟨k.toArray⟩,hv,.chan (some c)] X fun e w'=>e=.returned (.tuple #[])/\kJ c (w.heap.size+3) W w'/\ql q w (jn w q root c) c (pre++[(k,h)]) w'):=fun X L=>by
    have IX:=HI.out.below F G L;have hlen:=M.out.1;rw [n.out,lP] at hlen;have hcX:=IX.ch;rw [show ((aD q pre).1.length:Nat)=((aD q pre).1.map itVal).length by simp] at hcX;refine (Y.out A k hv h c ((aD q pre).1.map itVal) X (bO.on HhW.out L) hne hl hcX (by simpa using hlen)).mono ?_;rintro e w' ⟨rfl,h1,h2,h3,h4⟩;refine ⟨rfl,⟨lT L.size h2,h3.trans L.os,fun b hb s _=>(h1 b (by have:=L.size;omega) s).trans (L.block b hb)⟩,h3.trans IX.os,lT IX.size h2,fun b hb s x=>(h1 b (by have:=IX.size;omega) s).trans (IX.block b hb s x),?_,?_⟩
    .rw [n.out];exact (h1 _ (by have:=IX.size;omega) (by omega)).trans IX.told
    .rw [n.out,h4];simp
   clear e1
   gi_wp2_with (first
    |(refine ⟨trivial,rfl,?_⟩;gi_at_call 138;refine (CallsIn.inRound l (callsIn_wide.2 HWT)).mono ?_;clear HWT;rintro e w1 ⟨rfl,f⟩;replace c0:=ai f c0;replace c1:=ai f c1;replace c2:=ai f c2;replace c3:=ai f c3;replace d2:=ai f d2)
    |(refine ⟨trivial,rfl,?_⟩;gi_at_call 139;refine (CallsIn.inRound l (callsIn_wide.2 (u.out _ f))).mono ?_;clear u;rintro e w2 ⟨rfl,hb2⟩;replace c0:=ai hb2 c0;replace c1:=ai hb2 c1;replace c2:=ai hb2 c2;replace c3:=ai hb2 c3;replace d2:=ai hb2 d2)
    |(refine ⟨trivial,rfl,?_⟩;gi_at_call 140;refine (CallsIn.inRound l (callsIn_wide.2 (S.out _ (z.out _ _ f hb2)))).mono ?_;clear S;rintro e w3 ⟨rfl,hk3,hI3⟩))
   rw [HQ.out];exact ⟨rfl,hk3,hI3⟩
  |some t=>
   by_cases D:t=(aD q pre).2
   .have n:Hid (aD q (pre++[(k,h)])=aD q pre):=by
     show aD q (pre++[(k,h)])=aD q pre;rw [HST.out,bH,C.out];simp only [E.out,if_true,D]
    rw [<-D] at d3
    gi_wp2_with (first
     |(refine ⟨trivial,rfl,?_⟩;gi_at_call 138;refine (CallsIn.inRound l (callsIn_wide.2 HWT)).mono ?_;clear HWT;rintro e w1 ⟨rfl,f⟩;replace c0:=ai f c0;replace c1:=ai f c1;replace c2:=ai f c2;replace c3:=ai f c3;replace d3:=ai f d3)
     |(refine ⟨trivial,rfl,?_⟩;gi_at_call 139;refine (CallsIn.inRound l (callsIn_wide.2 (u.out _ f))).mono ?_;clear u;rintro e w2 ⟨rfl,hb2⟩;replace d3:=ai hb2 d3))
    rw [HQ.out];exact ⟨rfl,kJ.below (z.out _ _ f hb2),(HI.out.below F G (z.out _ _ f hb2)).items n.out⟩
   .have e1:aD q (pre++[(k,h)])=((aD q pre).1++[⟨2,⟨t.toArray⟩,0⟩],t):=by
     rw [HST.out,bH,C.out];simp only [E.out,if_true,D,if_false]
    have n:Hid (aD q (pre++[(k,h)])=((aD q pre).1++[⟨2,⟨t.toArray⟩,0⟩],t)):=e1;clear e1
    gi_upto_region 10 with (first
     |(refine ⟨trivial,rfl,?_⟩;gi_at_call 138;refine (CallsIn.inRound l (callsIn_wide.2 HWT)).mono ?_;clear HWT;rintro e w1 ⟨rfl,f⟩;replace c0:=ai f c0;replace c1:=ai f c1;replace c2:=ai f c2;replace c3:=ai f c3;replace d2:=ai f d2;replace d3:=ai f d3;replace f3:=(f.frozen (p:=⟨w.heap.size+3,0,none⟩) (by show w.heap.size+3<W.heap.size;omega)).trans f3)
     |(refine ⟨trivial,rfl,?_⟩;gi_at_call 139;refine (CallsIn.inRound l (callsIn_wide.2 (u.out _ f))).mono ?_;clear u;rintro e w2 ⟨rfl,hb2⟩;replace d2:=ai hb2 d2;replace d3:=ai hb2 d3;replace f3:=(hb2.frozen (p:=⟨w.heap.size+3,0,none⟩) (by show w.heap.size+3<w1.heap.size;have:=f.size;omega)).trans f3))
    case refine_2=>rename_i hx;exact absurd (by simpa using hx) D
    rename_i K1 hK1;have I2:=HI.out.below F G (z.out _ _ f hb2);have hc2:=I2.ch;have hlen:=M.out.1;rw [n.out,lP,lS] at hlen;have r:∀j,j≠c->(w2.setChan c 1000 (((aD q pre).1.map itVal).toArray.push (.agg #[.int .i64 2,.string ⟨t.toArray⟩,.int .i64 0])) false ((aD q pre).1.length+1) 0 false).heap[j]?=w2.heap[j]?:=fun j hj=>iN hj
    have hsz2:w.heap.size+6<=w2.heap.size:=by have:=f.size;have:=hb2.size;omega
    have y:(w2.setChan c 1000 (((aD q pre).1.map itVal).toArray.push (.agg #[.int .i64 2,.string ⟨t.toArray⟩,.int .i64 0])) false ((aD q pre).1.length+1) 0 false).heap[c]?=some (.chan 1000 (((aD q pre).1.map itVal).toArray.push (.agg #[.int .i64 2,.string ⟨t.toArray⟩,.int .i64 0])) false ((aD q pre).1.length+1) 0 false):=kN (by omega);refine Af ?_;show xI _ _ _ _ [0,1,2,3] _ _;refine aq (v:=.chan (some c)) (w':=w2) rfl rfl (fun c h=>by cases h) (by simp [go_sem,d2]) ?_;refine aq (v:=.string ⟨t.toArray⟩) (w':=w2) rfl rfl (fun c h=>by cases h) (by simp [go_sem]) ?_;refine aq (v:=.agg #[.int .i64 2,.string ⟨t.toArray⟩,.int .i64 0]) (w':=w2) rfl rfl (fun c h=>by cases h) (by simp [go_sem]) ?_;refine nC (c:=c) rfl rfl rfl rfl hc2 (by simp;omega) ?_;refine hK1 _ _ ?_;show Code.wpIn (wf (some l)) 0 Yq.prog _ _ _ (w2.setChan c 1000 (((aD q pre).1.map itVal).toArray.push (.agg #[.int .i64 2,.string ⟨t.toArray⟩,.int .i64 0])) false ((aD q pre).1.length+1) 0 false);obtain ⟨w3,B⟩:∃w3,w2.setChan c 1000 (((aD q pre).1.map itVal).toArray.push (.agg #[.int .i64 2,.string ⟨t.toArray⟩,.int .i64 0])) false ((aD q pre).1.length+1) 0 false=w3:=⟨_,rfl⟩;have hs3:w3.heap.size=w2.heap.size:=by rw [<-B];exact vX
    have ho3:w3.os=w2.os:=by rw [<-B];rfl
    rw [B] at r y ⊢;have d3':w3.cell? ⟨w.heap.size+3,0,none⟩=some (.string ⟨(aD q pre).2.toArray⟩):=(cB (a:=⟨w.heap.size+3,0,none⟩) (r _ (show w.heap.size+3≠c by omega))).trans d3;have f3':w3.frozen? ⟨w.heap.size+3,0,none⟩=false:=(fB (a:=⟨w.heap.size+3,0,none⟩) (r _ (show w.heap.size+3≠c by omega))).trans f3;have ad:Hid ((∀j,j≠c->w3.heap[j]?=w2.heap[j]?)/\w3.heap[c]?=some (.chan 1000 (((aD q pre).1.map itVal).toArray.push (.agg #[.int .i64 2,.string ⟨t.toArray⟩,.int .i64 0])) false ((aD q pre).1.length+1) 0 false)/\ql q w (jn w q root c) c pre w2/\w3.heap.size=w2.heap.size/\w3.os=w2.os):=⟨r,y,I2,hs3,ho3⟩;clear r y I2 B hc2 hs3 ho3 hK1 K1;gi_wp2;rw [HQ.out];obtain ⟨r,y,I2,hs3,ho3⟩:=ad.out;have N:∀j,j≠w.heap.size+3->(w3.setCell ⟨w.heap.size+3,0,none⟩ (.string ⟨t.toArray⟩)).heap[j]?=w3.heap[j]?:=fun j hj=>bS _ _ _ _ hj
    have K:(w3.setCell ⟨w.heap.size+3,0,none⟩ (.string ⟨t.toArray⟩)).heap.size=w2.heap.size:=by simp [hs3]
    have H:(w3.setCell ⟨w.heap.size+3,0,none⟩ (.string ⟨t.toArray⟩)).os=w2.os:=((bR 0 w3).setCell (p:=⟨w.heap.size+3,0,none⟩) (Nat.zero_le _) _).os.trans ho3;have hb12:=z.out _ _ f hb2;refine ⟨rfl,⟨by rw [K];exact hb12.size,H.trans hb12.os,fun b hb s x=>?_⟩,H.trans I2.os,by rw [K];exact I2.size,fun b hb s x=>?_,?_,?_⟩
    .rw [N b x,r b s];exact hb12.block b hb
    .rw [N b x,r b s];exact I2.block b hb s x
    .rw [n.out];have h3:=(r _ (show w.heap.size+3≠c by omega)).trans I2.told;obtain ⟨h1,h2⟩:=eS h3;show (w3.heap.modify (w.heap.size+3) _)[w.heap.size+3]?=_;rw [eG (by rw [Array.size_modify];exact h1),Array.getElem_modify_self,h2];rfl
    .rw [N c (by omega),y,n.out];simp [itVal]
end
theorem sa (n:Nat):∀ (f:List UInt8->List Ver)(bs:List UInt8),∀x∈cI n f bs,bs <+:x.1/\x.1.length<bs.length+n:=by
 induction n with
 |zero=>intro f bs x hx;simp [cI] at hx
 |succ n ih=>
  intro f bs x hx;simp only [cI,List.mem_append,List.mem_flatMap] at hx;rcases hx with hx|⟨b,-,hx⟩
  .split at hx
   .simp at hx
   .simp at hx;subst hx;exact ⟨List.prefix_refl _,by simp⟩
  .obtain ⟨h1,h2⟩:=ih _ _ x hx;exact ⟨(List.prefix_append _ _).trans h1,by simp at h2;omega⟩
theorem se {f:List UInt8->List Ver}{p:List UInt8}{x:List UInt8×List Ver}(h:x∈cD f p):p <+:x.1/\x.1.length<=40:=by
 obtain ⟨h1,h2⟩:=sa _ _ _ x h;have h3:=h1.length_le;exact ⟨h1,by omega⟩
theorem C5 {l:KVs}{x:List UInt8×List Ver}(h:x∈l):x.2.length<=fI l:=by
 induction l with
 |nil=>simp at h
 |cons a r ih=>
  rcases List.mem_cons.1 h with rfl|h
  .simp [fI]
  .have:=ih h;simp [fI] at this ⊢;omega
theorem ql.stable {q:Qy}{w w6:Wj}{c:Nat}{pre:KVs}{X Y:Wj}(I:ql q w w6 c pre X)(hc:c<w6.heap.size)(ht:w.heap.size+3<w6.heap.size)(h:∀b,b<w6.heap.size->Y.heap[b]?=X.heap[b]?)(hs:X.heap.size<=Y.heap.size)(ho:Y.os=X.os):ql q w w6 c pre Y:=
 ⟨ho.trans I.os,lT I.size hs,fun b h1 h2 h3=>(h b h1).trans (I.block b h1 h2 h3),(h _ ht).trans I.told,(h _ hc).trans I.ch⟩
section
attribute [local go_sem] Oper.semAt_some jU
theorem Fw (q:Qy)(z:jl q)(E:jm q)(root:Option Wu)(f:List UInt8->List Ver)(c:Nat)(w:Wj)(G:dJ w)(V:vW w root f)(M:fI (cD f q.p.data.toList)<=1000)(hp:q.p.size<=maxLen)(hc:w.heap[c]?=some (.chan 1000 #[] false 0 0 false)):
  Calls Yq.prog 120 #[qV q.vs q.p q.d q.af,sV root,.chan (some c)] w fun e w'=>e=.returned (.tuple #[])/\((∀b,b<w.heap.size->b≠c->w'.heap[b]?=w.heap[b]?)/\w.heap.size<=w'.heap.size/\w'.os=w.os) /\
   w'.heap[c]?=some (.chan 1000 ((bD q (cD f q.p.data.toList)).map itVal).toArray false (bD q (cD f q.p.data.toList)).length 0 false):=by
 have O:c<w.heap.size:=(eS hc).1;have N:Hid (dJ w/\0≠c):=⟨G,fun e=>by
  obtain ⟨m,hm⟩:=G;subst e;simp [World.cell?,hc] at hm⟩
 clear G;obtain ⟨i,s⟩:∃i,cD f q.p.data.toList=i:=⟨_,rfl⟩;have j:∀x∈i,x.2≠[]:=by rw [<-s];exact iM _ _ _
 have r:∀x∈i,q.p.data.toList <+:x.1/\x.1.length<=40:=by rw [<-s];exact fun x hx=>se hx
 obtain ⟨A,u⟩:∃A:Nat->Prop,A=dY w:=⟨_,rfl⟩;have hA:∀b,A b->b<w.heap.size/\b≠c:=fun b hb=>by
  rw [u] at hb;refine ⟨hb.lt,fun e=>?_⟩;subst e;obtain ⟨o,h1,h2⟩:=hb;rw [hc] at h1;cases h1;cases h2
 have B:ak A 41 (jn w q root c) root f:=ak.keep (fun b hb hlt=>⟨by rw [u];exact hb,jS w q root c hlt⟩) 41 root f V;rw [s] at M ⊢;have H:c<(jn w q root c).heap.size:=by rw [cx];omega
 have P:w.heap.size+3<(jn w q root c).heap.size:=by rw [cx];omega
 have y:ql q w (jn w q root c) c [] (jn w q root c):=⟨rfl,lR _,fun _ _ _ _=>rfl,jT w q root c 3 (by omega),(jS w q root c O).trans hc⟩;refine (callsIn_wide (n:=0)).1 (callsIn_of_wp_marks (F:=Fence.wide) (Yq.nq Tryz.func120) rfl trivial ?_);refine (wpIn_wide (n:=0)).2 ?_;generalize hQ:bodyPostM Fence.wide 0 Yq.prog Tryz.f120 _=Q;simp only [Tryz.ntmps120,lZ,lC,lN,Nat.reduceAdd,Nat.reduceSub,Array.replicate_succ,Array.replicate_zero,List.push_toArray,List.append_toArray,List.nil_append,List.cons_append];have HQ:Hid (bodyPostM Fence.wide 0 Yq.prog Tryz.f120 _=Q):=hQ;have HX:Hid (jl q/\jm q/\ak A 41 (jn w q root c) root f/\(∀b,A b->b<w.heap.size/\b≠c)/\ql q w (jn w q root c) c [] (jn w q root c)/\(∀x∈i,x.2≠[])/\(∀x∈i,q.p.data.toList <+:x.1/\x.1.length<=40)/\A=dY w):=⟨z,E,B,hA,y,j,r,u⟩;clear hQ z E B hA y j r V hc u;unfold qV sV;go_wp2_with (go_at_call 101;refine (Fv root q.p _).mono ?_;rintro e w6 ⟨rfl,rfl⟩)
 refine wpIn_wide.1 (show Code.wpIn (wf none) 0 Yq.prog _ (Exit.inBlock 0 Q) ⟨fF w q root c Wo Wo Wo Wo,[]⟩ (jn w q root c) from ?_);obtain ⟨z,E,B,hA,y,j,r,u⟩:=HX.out;have hmem:∀ (pre:KVs) x,pre++[x] <+:i->x∈i:=fun pre x h=>h.subset (by simp)
 refine Ao (α:=List UInt8×List Ver) (β:=List UInt8×List Ver×Wx) (encs:=fun x=>#[.string ⟨x.1.toArray⟩,x.2.2]) (gf:=122) (lb:=#[ptr (w.heap.size+4),ptr (w.heap.size+5)]) (fun x=>(x.1,x.2.1)) rfl (fun args wx=>by go_simp) (fun _=>rfl) c (w.heap.size+3) P noO (fun _ _ _ _ h=>h)
  (ql q w (jn w q root c) c) (fun pre x=>pre++[(x.1,x.2.1)] <+:i/\bf A (jn w q root c) x.2.2 x.2.1/\x.2.1≠[]) i (fun _ _ _ _ h=>h.elim) (fun pre X Y I h1 _ h2 h3=>I.stable H P h1 h2 h3) (fun pre X I=>⟨.inr H,.inr ⟨_,I.ch,rfl⟩⟩) y
  (fun x=>⟨fF w q root c (.string ⟨x.1.toArray⟩) x.2.2 (.string ⟨x.1.toArray⟩) x.2.2,[]⟩) ?call ?assign ?body ?done
 case call=>
  intro l J W hW1 L T hst hsz hy S;have C:rH A (jn w q root c) ((jn w q root c).heap.size+2) (w.heap.size+3) l noO i J:=⟨fun b hb=>by
    obtain ⟨h1,h2⟩:=hA b hb;rw [u] at hb;obtain ⟨o,h3,h4⟩:=hb;exact ⟨by rw [cx];omega,by omega,o,(jS w q root c h1).trans h3,h4⟩,by omega,fun _ _ _ _ h=>h,T,hst,hsz,fun pre k h hv X h1 h2 h3 h4=>hy pre (k,h,hv) X ⟨h1,h2,h3⟩ h4⟩
  exact CL C root f q.p W (w.heap.size+4) (w.heap.size+5) B s.symm (fun b hb=>L b (by have:=(hA b hb).1;rw [cx];omega))
   (by rw [cB (a:=⟨w.heap.size+4,0,none⟩) (L _ (by rw [cx];show w.heap.size+4<_;omega))];simp [World.cell?,jT w q root c 4 (by omega)])
   (by rw [cB (a:=⟨w.heap.size+5,0,none⟩) (L _ (by rw [cx];show w.heap.size+5<_;omega))];simp [World.cell?,jT w q root c 5 (by omega)]) hp S
 case assign=>
  intro l x W K R;obtain ⟨k,h,hv⟩:=x;have e:(#[15,16].zip #[Value.string ⟨k.toArray⟩,hv]).foldl (fun t x=>match x with|(p,v)=>t.setIfInBounds p v) (fF w q root c Wo Wo Wo Wo)=fF w q root c Wo Wo (.string ⟨k.toArray⟩) hv:=by
   simp [fF]
  show Code.wpIn _ _ _ _ _ ⟨(#[15,16].zip #[Value.string ⟨k.toArray⟩,hv]).foldl (fun t x=>match x with|(p,v)=>t.setIfInBounds p v) (fF w q root c Wo Wo Wo Wo),[]⟩ _;rw [e];unfold fF;unfold fF at R;gi_wp2;exact R
 case body=>
  rintro l pre ⟨k,h,hv⟩ W ⟨h1,h2,h3⟩ I;have hm:=hmem pre (k,h) h1;refine wpIn_mono (C4 q z E root c w N.out.1 N.out.2 O A hA l pre k h hv W (by have:=(r _ hm).2;simp only at this;omega) (r _ hm).1 h2 h3 (by have:=C5 hm;simp only at this;omega) (by have h5:(aD q (pre++[(k,h)])).1.length<=(bD q i).length:=xY q i _ j h1;have:=qj q i j;omega) I) (fun e a W' h=>⟨h.1,h.2.1.own,h.2.2⟩)
 case done=>
  intro D W hD I R;have hQ:=HQ.out;subst hQ;refine ⟨by simp,.inl ⟨_,_,rfl,run_takeDeferred R,?_⟩⟩;have hne:∀b,b<(jn w q root c).heap.size->(W.putObj D (.deferred none)).heap[b]?=W.heap[b]?:=fun b hb=>pO (by omega)
  refine ⟨.tuple #[],by simp [results,Tryz.results120,go_sem],rfl,⟨fun b hb U=>?_,?_,?_⟩,?_⟩
  .rw [hne b (by rw [cx];omega),I.block b (by rw [cx];omega) U (by omega),jS w q root c hb]
  .have:=I.size;rw [cx] at this;simp;omega
  .exact I.os
  .rw [hne c H];exact I.ch
end
end
section
open Go.RowKit
theorem C6 {A:Nat->Prop}{w w1:Wj}(h:w.heap.size<=w1.heap.size):∀b,Grow A w1 b->Grow A w b:=by
 rintro b (⟨h1,h2⟩|h1)
 .by_cases hlt:b<w.heap.size
  .exact Or.inl ⟨h1,hlt⟩
  .exact Or.inr (by omega)
 .exact Or.inr (by omega)
theorem aF.mono {A A':Nat->Prop}{w:Wj}{k0:Nat}{st:St}(S:aF A w k0 st)(h:∀b,A b->A' b)(ha:∀b,A' b->b≠k0):aF A' w k0 st:=by
 obtain ⟨p,c0,a⟩:=S.tree;exact ⟨ha,⟨p,c0,ak.keep (fun b h1 _=>⟨h b h1,rfl⟩) _ _ _ a⟩,S.count,S.last,S.frozen⟩
def dq (A:Nat->Prop)(w:Wj)(k0:Nat)(a:St)(v:Wx)(e:Ending)(w':Wj):Prop:=
 e=.returned v/\aF (Grow A w) w' k0 a/\cH w w' k0
theorem bj {A:Nat->Prop}{w w':Wj}{k0:Nat}{st:St}{v:Wx}(S:aF A w k0 st)(hb:Below w.heap.size w w'):dq A w k0 st v (.returned v) w':=
 ⟨rfl,S.grow.on hb,d9 S.lt hb⟩
def mN (st:St)(key body:ByteArray):St×Int×Int:=
 if aI key=false then (st,0,2) else if 100<body.size then (st,0,3) else if jj st then (st,0,4) else (cw st key body false,st.last+1,0)
def fj (st:St)(key:ByteArray):St×Int×Int:=
 if aI key=false then (st,0,2) else if jj st then (st,0,4) else (cw st key ⟨#[]⟩ true,st.last+1,0)
theorem C7 (A:Nat->Prop)(k0:Nat)(st:St)(s:Nat)(key body:ByteArray)(w:Wj)(hk:key.size<=maxLen)(i:body.size<=maxLen)(S:aF A w k0 st)(k:Inv st s)(hs:s<2199023255340):
  Calls Yq.prog 35 #[.pointer (some ⟨k0,0,none⟩),.string key,.string body] w (dq A w k0 (mN st key body).1 (.tuple #[.int .i64 (mN st key body).2.1,.int .i64 (mN st key body).2.2])):=by
 have HIK:=jQ key w hk;have HS:Hid (aF A w k0 st):=S;unfold maxLen at i;cases a:aI key with
 |false=>
  rw [a] at HIK;have e:mN st key body=(st,0,2):=by simp [mN,a]
  rw [e];clear a S e;go_enter (Yq.nq Tryz.func35),Tryz.ntmps35;go_wp2_with (go_at_call 59;refine HIK.mono ?_;rintro e w' ⟨rfl,rfl⟩)
  go_ret2
  exact bj HS.out (bR _ _)
 |true=>
  rw [a] at HIK;have hsz:=fW a;by_cases c:100<body.size
  .have e:mN st key body=(st,0,3):=by simp [mN,a,c]
   rw [e];clear a S e;go_enter (Yq.nq Tryz.func35),Tryz.ntmps35;go_wp2_with (go_at_call 59;refine HIK.mono ?_;rintro e w' ⟨rfl,rfl⟩)
   go_ret2
   exact bj HS.out (bR _ _)
  .have HIF:=oM k0 st w S.count S.last;cases b:jj st with
   |true=>
    rw [b] at HIF;have e:mN st key body=(st,0,4):=by simp [mN,a,c,b]
    rw [e];clear a S e b;go_enter (Yq.nq Tryz.func35),Tryz.ntmps35;go_wp2_with (first|(go_at_call 59;refine HIK.mono ?_;rintro e w' ⟨rfl,rfl⟩)|(go_at_call 60;refine HIF.mono ?_;rintro e w' ⟨rfl,rfl⟩))
    go_ret2
    exact bj HS.out (bR _ _)
   |false=>
    rw [b] at HIF;have e:mN st key body=(cw st key body false,st.last+1,0):=by simp [mN,a,c,b]
    have f:¬st.last=9223372036854775807:=fun h=>by simp [jj,h] at b
    rw [e];clear a S e b;go_enter (Yq.nq Tryz.func35),Tryz.ntmps35;go_wp2_with (first|(go_at_call 59;refine HIK.mono ?_;rintro e w' ⟨rfl,rfl⟩)|(go_at_call 60;refine HIF.mono ?_;rintro e w' ⟨rfl,rfl⟩))
    refine (xX body w (by omega)).mono ?_;rintro e w1 ⟨rfl,d⟩;have HA:=vS A k0 st s key 0 body false w1 hsz.1 (HS.out.on d) k hs f;go_wp2_with (go_at_call 61;refine HA.mono ?_;rintro e w2 ⟨rfl,S2,j⟩)
    go_ret2
    exact ⟨rfl,S2.mono (C6 d.size) (fZ HS.out.avoid HS.out.lt),qh (d9 HS.out.lt d) j⟩
theorem AB (A:Nat->Prop)(k0:Nat)(st:St)(s:Nat)(key:ByteArray)(w:Wj)(hk:key.size<=maxLen)(S:aF A w k0 st)(f:Inv st s)(hs:s<2199023255340):
  Calls Yq.prog 38 #[.pointer (some ⟨k0,0,none⟩),.string key] w (dq A w k0 (fj st key).1 (.tuple #[.int .i64 (fj st key).2.1,.int .i64 (fj st key).2.2])):=by
 have HIK:=jQ key w hk;have HS:Hid (aF A w k0 st):=S;cases b:aI key with
 |false=>
  rw [b] at HIK;have e:fj st key=(st,0,2):=by simp [fj,b]
  rw [e];clear b S e;go_enter (Yq.nq Tryz.func38),Tryz.ntmps38;go_wp2_with (go_at_call 59;refine HIK.mono ?_;rintro e w' ⟨rfl,rfl⟩)
  go_ret2
  exact bj HS.out (bR _ _)
 |true=>
  rw [b] at HIK;have hsz:=fW b;have HIF:=oM k0 st w S.count S.last;cases a:jj st with
  |true=>
   rw [a] at HIF;have e:fj st key=(st,0,4):=by simp [fj,b,a]
   rw [e];clear b S e a;go_enter (Yq.nq Tryz.func38),Tryz.ntmps38;go_wp2_with (first|(go_at_call 59;refine HIK.mono ?_;rintro e w' ⟨rfl,rfl⟩)|(go_at_call 60;refine HIF.mono ?_;rintro e w' ⟨rfl,rfl⟩))
   go_ret2
   exact bj HS.out (bR _ _)
  |false=>
   rw [a] at HIF;have e:fj st key=(cw st key ⟨#[]⟩ true,st.last+1,0):=by simp [fj,b,a]
   have c:¬st.last=9223372036854775807:=fun h=>by simp [jj,h] at a
   rw [e];clear b S e a;have HA:=vS A k0 st s key 0 ⟨#[]⟩ true w hsz.1 HS.out f hs c;go_enter (Yq.nq Tryz.func38),Tryz.ntmps38;go_wp2_with (first|(go_at_call 59;refine HIK.mono ?_;rintro e w' ⟨rfl,rfl⟩)|(go_at_call 60;refine HIF.mono ?_;rintro e w' ⟨rfl,rfl⟩)|(go_at_call 61;refine HA.mono ?_;rintro e w2 ⟨rfl,S2,d⟩))
   go_ret2
   exact ⟨rfl,S2,d⟩
def d7 (st:St)(key:ByteArray)(n:Int):St×Int:=
 if aI key=false then (st,2)
 else match ci (st.f key.data.toList) n with
  |none=>(st,5)
  |some r=>(bG st key r,0)
theorem ya (A:Nat->Prop)(k0:Nat)(st:St)(s:Nat)(key:ByteArray)(n:Int)(w:Wj)(hk:key.size<=maxLen)(S:aF A w k0 st)(D:Inv st s)(hs:s<2199023255340):
  Calls Yq.prog 39 #[.pointer (some ⟨k0,0,none⟩),.string key,.int .i64 n] w (dq A w k0 (d7 st key n).1 (.int .i64 (d7 st key n).2)):=by
 have HF:=rX A k0 st s key n w hk S D (by omega);have HS:Hid (aF A w k0 st):=S;have hk0:=S.lt;have l2:=D.countL;have l3:=D.countU;have hle:=D.len key.data.toList;clear S;go_enter (Yq.nq Tryz.func39),Tryz.ntmps39;go_wp2_with fail
 refine HF.mono ?_;rintro e w1 ⟨c,x⟩;rcases x with ⟨a,rfl⟩|⟨a,hpl,rfl⟩|⟨a,r,ha,hc,hpl,hr,G,rfl⟩
 .have HR:Hid (d7 st key n=(st,2)):=show d7 st key n=(st,2) by simp [d7,a]
  have HB:Hid (Below w.heap.size w w1):=c;clear a HF c;go_wp2;go_ret;rw [HR.out];exact bj HS.out HB.out
 .have HR:Hid (d7 st key n=(st,5)):=show d7 st key n=(st,5) by simp [d7,a,hpl]
  have HB:Hid (Below w.heap.size w w1):=c;clear a HF c hpl;go_wp2;go_ret;rw [HR.out];exact bj HS.out HB.out
 .have HR:Hid (d7 st key n=(bG st key r,0)):=show d7 st key n=(bG st key r,0) by simp [d7,a,hpl]
  have hsz:=fW a;obtain ⟨p,C,H⟩:=HS.out.cells;have C1:=C.on c;have c1:=C1.c1;have f1:=C1.fz 1;have c0:=C1.c0;obtain ⟨W2,h⟩:∃W2,W2=w1.setCell ⟨k0,1,none⟩ (.int .i64 (st.count-1)):=⟨_,rfl⟩;have C2:aQ W2 k0 (.pointer p) (.int .i64 (st.count-1)) (.int .i64 st.last):=by rw [h];exact C1.set1 _
  have d:cH w W2 k0:=by rw [h];exact oO (d9 hk0 c) _ _
  have hh2:bf (fun b=>A b\/w.heap.size<=b) W2 (.slice ha (st.f key.data.toList).length hc) (st.f key.data.toList):=
   bO.keep G (fun b h1 h2=>⟨Or.inl h1,by rw [h];exact bS _ _ _ _ (HS.out.avoid b h1)⟩)
  have o:∀w3:Wj,W2.grownBy w3 (some k0)->ak (fun b=>(A b/\b<w.heap.size)\/w.heap.size<=b) 41 w3 p st.f:=fun w3 E=>
   ak.keep (fun b h1 h2=>⟨Or.inl ⟨h1,h2⟩,(bX d.g E).block b h2 (by intro e;cases e;exact HS.out.avoid k0 h1 rfl)⟩) 41 p st.f H
  have i:st.f key.data.toList≠[]:=by intro e;rw [e] at hr;simp at hr
  have B:Hid (W2=w1.setCell ⟨k0,1,none⟩ (.int .i64 (st.count-1))):=h;clear a HF hpl C H C1;by_cases u:(st.f key.data.toList).length=1
  .have z:r=0:=by omega
   have HD:Hid (bG st key r=⟨upd st.f key.data.toList [],st.count-1,st.last⟩):=show bG st key r=_ by
    unfold bG;rw [z,List.take_zero,List.nil_append,List.drop_eq_nil_of_le (by omega)]
   have HT:Hid (Calls Yq.prog 66 #[.agg #[.pointer p],.string key] W2 fun e w'=>∃q,e=.returned (.agg #[.pointer q])/\Below W2.heap.size W2 w'/\ak (Grow (fun b=>(A b/\b<w.heap.size)\/w.heap.size<=b) W2) 41 w' q (upd st.f key.data.toList [])):=
    rV _ 41 p st.f key W2 (o W2 (World.grownBy.refl _ _)) hsz.1 hsz.2 i
   have HC:Hid (aQ W2 k0 (.pointer p) (.int .i64 (st.count-1)) (.int .i64 st.last)/\cH w W2 k0):=⟨C2,d⟩;rw [u];clear G hh2 o u z C2 d i h hr hle c;go_wp2_with fail
   rw [<-B.out];refine HT.out.mono ?_;rintro e F ⟨q,rfl,hb4,t⟩;have D4:=HC.out.1.on hb4;have r1:=D4.c0;have r2:=D4.fz 0;have HX:Hid (aF (Grow A w) (F.setCell ⟨k0,0,none⟩ (.pointer q)) k0 (bG st key r)/\cH w (F.setCell ⟨k0,0,none⟩ (.pointer q)) k0):=by
    refine ⟨?_,oO (fw HC.out.2 hb4) _ _⟩;rw [HD.out];refine fY (p:=q) ?_ ?_ (fZ HS.out.avoid hk0)
    .exact D4.set0 _
    .exact nI HC.out.2.g.size HS.out.avoid hk0 t _ _
   clear D4 t hb4 HT HC;go_wp2;go_ret;rw [HR.out];exact ⟨rfl,HX.out.1,HX.out.2⟩
  .have HD:Hid (bG st key r=⟨upd st.f key.data.toList ((st.f key.data.toList).take r++(st.f key.data.toList).drop (r+1)),st.count-1,st.last⟩):=rfl;have HW:Hid (Calls Yq.prog 68 #[.slice ha (st.f key.data.toList).length hc,.int .i64 r] W2.drew fun e w'=>∃j l k,e=.returned (.slice j l k)/\bf (fun b=>W2.heap.size<=b) w' (.slice j l k) ((st.f key.data.toList).take r++(st.f key.data.toList).drop (r+1))/\Below W2.heap.size W2 w'):=by
    refine (rW _ _ _ r W2.drew (bO.keep hh2 (fun b h1 h2=>⟨h1,rfl⟩)) hr (by omega)).mono ?_;rintro e w' ⟨j,l,k,h1,h2,h3⟩;exact ⟨j,l,k,h1,h2,(bR _ W2).drew.trans h3⟩
   have v:(st.f key.data.toList).take r++(st.f key.data.toList).drop (r+1)≠[]:=by
    intro e;have:=congrArg List.length e;rw [lP,tL,lD,lN] at this;omega
   have HT:Hid (∀ (w3:Wj) (j:Option Wu) (l k:Nat),Below W2.heap.size W2 w3->bf (fun b=>W2.heap.size<=b) w3 (.slice j l k) ((st.f key.data.toList).take r++(st.f key.data.toList).drop (r+1)) ->
     Calls Yq.prog 67 #[.agg #[.pointer p],.string key,.slice j l k] w3 fun e w'=>∃q,e=.returned (.agg #[.pointer q])/\Below w3.heap.size w3 w'/\ak (Grow (fun b=>(A b/\b<w.heap.size)\/w.heap.size<=b) w3) 41 w' q (upd st.f key.data.toList ((st.f key.data.toList).take r++(st.f key.data.toList).drop (r+1)))):=fun w3 j l k hb3 y=>by
    refine rT _ 41 p st.f key _ _ w3 (o w3 (aS hb3 _)) hsz.1 hsz.2 (bO.keep y (fun b h1 h2=>⟨Or.inr ?_,rfl⟩)) v;have:=d.g.size;omega
   have HC:Hid (aQ W2 k0 (.pointer p) (.int .i64 (st.count-1)) (.int .i64 st.last)/\cH w W2 k0):=⟨C2,d⟩;have a0:=C2.c0;have hone':(((st.f key.data.toList).length:Int)==1)=false:=by simp;omega
   generalize (st.f key.data.toList).take r++(st.f key.data.toList).drop (r+1)=hnew at *;clear G hh2 o C2 d i h c v;generalize (st.f key.data.toList).length=m at *;go_wp2_with fail
   rw [<-B.out]
   go_region_with (first
    |(go_at_call 68;refine HW.out.mono ?_;rintro e w3 ⟨j,l,k,rfl,y,hb3⟩;have b0:=ai hb3 a0)
    |(go_at_call 67;refine (HT.out _ j l k hb3 y).mono ?_;rintro e F ⟨q,rfl,hb4,t⟩;have E4:=(HC.out.1.on hb3).on hb4;have r1:=E4.c0;have r2:=E4.fz 0))
   all_goals
    go_wp2;go_ret;rw [HR.out,HD.out];refine ⟨rfl,?_,?_⟩
    .refine fY (p:=q) ?_ ?_ (fZ HS.out.avoid hk0)
     .exact E4.set0 _
     .exact nI (by have:=HC.out.2.g.size;have:=hb3.size;omega) HS.out.avoid hk0 t _ _
    .exact oO (fw (fw HC.out.2 hb3) hb4) _ _
structure gb (st:St):Prop where
 cnt:(tot 41 st.f:Int)=st.count
 le:st.count<=200
 long:∀k,40<k.length->st.f k=[]
 body:∀k,∀v∈st.f k,v.body.size<=100
theorem sg {key:ByteArray}(h:aI key=true):key.data.toList.length<=40:=by
 have:=of_decide_eq_true h;have e:key.data.toList.length=key.size:=by simp
 omega
theorem gb.add {st:St}(h:gb st)(key body:ByteArray)(mark:Bool)(hk:aI key=true)(hc:¬200<=st.count)(a:body.size<=100):gb (cw st key body mark):=by
 have hl:=sg hk;have e:=Ax 41 st.f key.data.toList (st.f key.data.toList++[⟨st.last+1,body,mark⟩]) (by omega);rw [lP,lS] at e;have:=h.cnt;refine ⟨?_,?_,fun k hk=>?_,fun k v hv=>?_⟩
 .simp only [cw];omega
 .simp only [cw];omega
 .simp only [cw,upd];rw [if_neg (by intro e;subst e;omega)];exact h.long k hk
 .simp only [cw,upd] at hv;split at hv
  .rcases List.mem_append.1 hv with hv|hv
   .exact h.body _ v hv
   .simp only [List.mem_singleton] at hv;subst hv;exact a
  .exact h.body k v hv
theorem gb.drop {st:St}(h:gb st)(key:ByteArray)(r:Nat)(hk:aI key=true)(hr:r<(st.f key.data.toList).length):gb (bG st key r):=by
 have hl:=sg hk;have e:=Ax 41 st.f key.data.toList ((st.f key.data.toList).take r++(st.f key.data.toList).drop (r+1)) (by omega);rw [lP,tL,lD,Nat.min_eq_left (by omega)] at e;have:=h.cnt;have:=h.le;refine ⟨?_,?_,fun k hk=>?_,fun k v hv=>?_⟩
 .simp only [bG];omega
 .simp only [bG];omega
 .simp only [bG,upd];rw [if_neg (by intro e;subst e;omega)];exact h.long k hk
 .simp only [bG,upd] at hv;split at hv
  .rcases List.mem_append.1 hv with hv|hv
   .exact h.body _ v (List.mem_of_mem_take hv)
   .exact h.body _ v (List.mem_of_mem_drop hv)
  .exact h.body k v hv
theorem gb.step {st:St}(h:gb st)(o:OpD):gb (ay st o).1:=by
 unfold ay;simp only
 repeat' split
 all_goals first
  |exact h
  |exact h.add _ _ _ (by simpa using ‹¬aI o.key=false›) (fun h=>‹¬(200<=st.count\/st.last=9223372036854775807)› (.inl h)) (by first|exact Nat.le_of_not_lt ‹_› |exact Nat.zero_le _)
  |(rename_i r hr;exact h.drop _ _ (by simpa using ‹¬aI o.key=false›) (List.findIdx?_eq_some_iff_getElem.1 hr).1)
theorem Gw:gb ⟨fun _=>[],0,0⟩:=⟨by rw [Fu];rfl,by simp,fun _ _=>rfl,fun _ _ h=>by simp at h⟩
end
section
open Go.Conc Go.ConcX Go.ConcX.Gen Go.RowKit
theorem qm (h:List Ver):∀v∈am h,Good v:=fun v hv=>by
 simp only [am,List.mem_flatMap] at hv;obtain ⟨x,-,hv⟩:=hv;simp at hv;rcases hv with rfl|rfl|rfl
 .exact .int _ _
 .exact .string _
 .exact .bool _
theorem qn (ks:List (UInt8×Option Wu)):∀v∈aB ks,Good v:=fun v hv=>by
 simp only [aB,List.mem_flatMap] at hv;obtain ⟨x,-,hv⟩:=hv;simp at hv;rcases hv with rfl|rfl
 .exact .int _ _
 .exact .pointer _
section
variable {ρ:Ren} {V W V':Wj}
theorem AC {A:Nat->Prop}{v:Wx}{n:Nat}{xs:List Wx}(hk:∀a y i v,ρ a y->V.cell? ⟨a,i,none⟩=some v->Good v->V'.cell? ⟨a,i,none⟩=some v)(hg:∀v∈xs,Good v)(hr:∃v',RV ρ v v')(h:bO A V v n xs):bO (fun _=>True) V' v n xs:=by
 obtain ⟨a,cap,rfl,d,hx⟩:=h;refine ⟨a,cap,rfl,d,fun hne=>?_⟩;obtain ⟨g,rfl,hA,hgl,hc⟩:=hx hne;obtain ⟨v',hr⟩:=hr;obtain ⟨y,hy⟩:∃y,ρ g y:=by
  cases hr with
  |slice n c h=>cases h with|some h=>exact ⟨_,h.1⟩
 have hc2:∀j,j<xs.length->V'.cell? ⟨g,j,none⟩=xs[j]?:=fun j b=>by
  have h1:=(hc j b).trans (eL b);rw [eL b];exact hk g y j _ hy h1 (hg _ (List.getElem_mem b))
 have h0:0<xs.length:=List.length_pos_iff.2 hne;exact ⟨g,rfl,trivial,bC V' _ ((hc2 0 h0).trans (eL h0)),hc2⟩
theorem C8 {A:Nat->Prop}(S:bI ρ V W)(hk:∀a y i v,ρ a y->V.cell? ⟨a,i,none⟩=some v->Good v->V'.cell? ⟨a,i,none⟩=some v):∀ (n:Nat)(p:Option Wu)(f:List UInt8->List Ver),(∃r,RAo ρ p r)->ak A n V p f->ak (fun _=>True) n V' p f:=by
 intro n;induction n with
 |zero=>intro p f _ h;exact h
 |succ n ih=>
  intro p f hr h;rcases h with h|⟨g,hv,kv,ks,rfl,hA,c0,c1,c2,u,k,hs,hch,hno,s⟩
  .exact Or.inl h
  .obtain ⟨r,hr⟩:=hr;obtain ⟨y,hy⟩:∃y,ρ g y:=by cases hr with|some h=>exact ⟨_,h.1⟩
   have hrel:∀ (b y j:Nat) (v:Wx),ρ b y->V.cell? ⟨b,j,none⟩=some v->∃v',RV ρ v v':=fun b y j v hb hc=>by
    rcases S.cell (a:=⟨b,j,none⟩) (a':=⟨y,j,none⟩) ⟨hb,rfl,rfl⟩ with h|⟨v1,v2,h1,h2,h3⟩
    .rw [h] at hc;cases hc
    .rw [h1] at hc;cases hc;exact ⟨_,h3⟩
   have z:Good hv:=by obtain ⟨a,cap,rfl,-⟩:=u;exact .slice _ _ _
   have l:Good kv:=by obtain ⟨a,cap,rfl,-⟩:=k;exact .slice _ _ _
   have rk:=hrel g y 2 kv hy c2;refine Or.inr ⟨g,hv,kv,ks,rfl,trivial,hk g y 0 _ hy c0 (.bool _),hk g y 1 _ hy c1 z,hk g y 2 _ hy c2 l,AC hk (qm _) (hrel g y 1 hv hy c1) u,AC hk (qn _) rk k,hs,fun c q hq=>ih q _ ?_ (hch c q hq),hno,s⟩;have hne:ks≠[]:=by intro e;rw [e] at hq;simp at hq
   obtain ⟨t,cap,rfl,-,-,m,-⟩:=k.cells hne;obtain ⟨i,x,e⟩:=gM hq;obtain ⟨yk,o⟩:∃yk,ρ t yk:=by
    obtain ⟨v',d⟩:=rk;cases d with|slice n c h=>cases h with|some h=>exact ⟨_,h.1⟩
   have h2:=(m i x).2;rw [e] at h2;obtain ⟨v',d⟩:=hrel t yk _ _ o h2;cases d with|pointer h=>exact ⟨_,h⟩
theorem oR {A:Nat->Prop}(hk:∀b j,b<V.heap.size->V'.cell? ⟨b,j,none⟩=V.cell? ⟨b,j,none⟩):∀ (n:Nat)(p:Option Wu)(f:List UInt8->List Ver),ak A n V p f->ak (fun _=>True) n V' p f:=by
 have hrow:∀v n xs,bO A V v n xs->bO (fun _=>True) V' v n xs:=fun v n xs h=>by
  obtain ⟨a,cap,rfl,e,hx⟩:=h;refine ⟨a,cap,rfl,e,fun hne=>?_⟩;obtain ⟨g,rfl,hA,d,hc⟩:=hx hne;have hc2:∀j,j<xs.length->V'.cell? ⟨g,j,none⟩=xs[j]?:=fun j k=>(hk g j d).trans (hc j k)
  have h0:0<xs.length:=List.length_pos_iff.2 hne;exact ⟨g,rfl,trivial,bC V' _ ((hc2 0 h0).trans (eL h0)),hc2⟩
 intro n;induction n with
 |zero=>intro p f h;exact h
 |succ n ih=>
  intro p f h;rcases h with h|⟨g,hv,kv,ks,rfl,hA,c0,c1,c2,l,i,hs,hch,hno⟩
  .exact Or.inl h
  .have hg:=bC V _ c0;exact Or.inr ⟨g,hv,kv,ks,rfl,trivial,(hk g 0 hg).trans c0,(hk g 1 hg).trans c1,(hk g 2 hg).trans c2,hrow _ _ _ l,hrow _ _ _ i,hs,fun c q hq=>ih q _ (hch c q hq),hno⟩
end
def lQy (l:Lst):Qy:=⟨l.vs,l.p,l.d,l.af⟩
def lK (l:Lst)(f:List UInt8->List Ver):List ItD:=bD (lQy l) (cD f l.p.data.toList)
structure GR (Qok:Qy->Prop)(l:Lst)(f:List UInt8->List Ver)(w:Wj):Prop where
 tree:vW w l.root f
 ok:Qok (lQy l)
 sum:fI (cD f l.p.data.toList)<=1000
 pre:l.p.size<=maxLen
 glob:dJ w
def FZ (Qok:Qy->Prop)(l:Lst)(L:List Wx)(w:Wj):Prop:=∃f,GR Qok l f w/\L=(lK l f).map itVal
theorem jo:0<Tryz.prog.globals.size:=by
 have:Tryz.prog.globals.size=4:=by kernel_rfl
 omega
theorem AD (Qok:Qy->Prop)(hQ:∀q,Qok q->jl q/\jm q):zN (FZ Qok) where
 low:=fun ρ V W V' l L S hr a hk hsz ⟨f,h,e⟩=>⟨f,⟨.of (C8 S hk 41 l.root f hr h.tree),h.ok,h.sum,h.pre,by
  obtain ⟨m,hm⟩:=h.glob;obtain ⟨y,hy⟩:=a 0 jo;exact ⟨m,hk 0 y 0 _ hy hm (.int _ _)⟩⟩,e⟩
 on:=fun V V' l L hk hsz ⟨f,h,e⟩=>⟨f,⟨.of (oR (fun b j hb=>hk ⟨b,j,none⟩ hb) 41 l.root f h.tree),h.ok,h.sum,h.pre,by
  obtain ⟨m,hm⟩:=h.glob;exact ⟨m,(hk _ (bC V _ hm)).trans hm⟩⟩,e⟩
 item:=fun l L V ⟨f,h,e⟩ v hv=>by
  rw [e] at hv;obtain ⟨i,-,rfl⟩:=List.mem_map.1 hv;exact ⟨_,_,_,rfl⟩
 len:=fun l L V ⟨f,h,e⟩=>by
  rw [e,lM];exact lT (qj (lQy l) _ (iM _ _ _)) h.sum
 send:=fun l L w c ⟨f,h,e⟩ hc=>by
  obtain ⟨h1,h2⟩:=hQ _ h.ok;have:=Fw (lQy l) h1 h2 l.root f c w h.glob h.tree h.sum h.pre hc;rw [e,lM];exact this
theorem Fx (Qok:Qy->Prop):∀l L V u,Ce V u->FZ Qok l L u->FZ Qok l L V:=fun l _L _V _u hc ⟨f,h,e⟩=>
 ⟨f,⟨.of (oR (fun _b _j _=>(hc.2 _).symm) 41 l.root f h.tree),h.ok,h.sum,h.pre,by
  obtain ⟨m,hm⟩:=h.glob;exact ⟨m,(hc.2 _).symm.trans hm⟩⟩,e⟩
theorem AE (t:Nat):Region.schedule (Yq.prog.follows .mixedOrders) Yq.drawOps t=[0,1]\/Region.schedule (Yq.prog.follows .mixedOrders) Yq.drawOps t=[1,0]:=by
 rw [mixed];rcases Nat.mod_two_eq_zero_or_one t with h|h
 .left
  simp [Region.schedule,Region.linearise,Region.linearise.go,Yq.drawOps,List.range,List.range.loop,h,Nat.mod_one]
 .right
  simp [Region.schedule,Region.linearise,Region.linearise.go,Yq.drawOps,List.range,List.range.loop,h,Nat.mod_one]
theorem si {a:Act}{w:Wj}{c k s q:Nat}{Q:Exit->Act->Wj->Prop}(h17:a.eval (.tmp 17)=.chan (some c))(hsz:a.tmps.size=49)(hrow:w.heap[c]?=some (.chan k #[] true s q false))
  (h:Q .normal ((a.put (some 18) (.tuple #[.agg #[.int .i64 0,.string ⟨#[]⟩,.int .i64 0],.bool false])).put (some 19) (.bool false)) w):(Code.region 5 eB false).wp Yq.prog Q a w:=by
 intro b kk cs;refine ⟨.normal,_,_,h,?_⟩;refine Steps.head step_region ?_;have hr:List.range eB.size=[0,1]:=rfl;rw [hr];obtain ⟨es,hcomm⟩:∃es,stepG Yq.prog true (G (b.at a (.inRegion eB [0,1]::kk)) cs) w=.comm (G (b.at a (.inRegion eB [0,1]::kk)) cs) #[rcase c (.agg #[.int .i64 0,.string ⟨#[]⟩,.int .i64 0])] true (.recv true) w es:=by
  refine iW (o := { dst := some 18, op := .recv 165 (.tmp 17) true, type := 0, pos := "listing.go:108", after := #[], guard := none }) rfl rfl ?_
  have e : execOp a.eval { dst := some 18, op := .recv 165 (.tmp 17) true, type := 0, pos := "listing.go:108", after := #[], guard := none } = (do
   let .chan _ elem ← underlying 165 | stuck "receive: channel type expected"
   pure (.comm #[{chan:=a.eval (.tmp 17),send:=none,zero:=<-zeroValue elem}] true (.recv true))):=rfl
  rw [e,h17];simp [go_sem,rcase]
 have st1:=step_lone_recv_shut true hcomm hrow;rw [Frame.finish_at] at st1;refine Steps.head st1 ?_;have hput:(a.put ((eB[0]?).bind (·.dst)) (got true (.agg #[.int .i64 0,.string ⟨#[]⟩,.int .i64 0]) false))=a.put (some 18) (.tuple #[.agg #[.int .i64 0,.string ⟨#[]⟩,.int .i64 0],.bool false]):=rfl;rw [hput];have h18:(a.put (some 18) (.tuple #[.agg #[.int .i64 0,.string ⟨#[]⟩,.int .i64 0],.bool false])).eval (.tmp 18)=.tuple #[.agg #[.int .i64 0,.string ⟨#[]⟩,.int .i64 0],.bool false]:=by
  simp [Act.put,Act.eval,hsz]
 have st2 := uj (P := Yq.prog) (ops := eB) (a := a.put (some 18) (.tuple #[.agg #[.int .i64 0, .string ⟨#[]⟩, .int .i64 0], .bool false])) (i := 1) (rest := []) (b := b) (k := kk) (cs := cs) (w := w) (w' := w) (v := .bool false) (o := { dst := some 19, op := .extract (.tmp 18) 1, type := 4, pos := "listing.go:108", after := #[{ on := 0, ground := .data }], guard := none }) rfl rfl (by
  have e : execOp (a.put (some 18) (.tuple #[.agg #[.int .i64 0, .string ⟨#[]⟩, .int .i64 0], .bool false])).eval { dst := some 19, op := .extract (.tmp 18) 1, type := 4, pos := "listing.go:108", after := #[{ on := 0, ground := .data }], guard := none } = (do let v ← Instr.extract ((a.put (some 18) (.tuple #[.agg #[.int .i64 0, .string ⟨#[]⟩, .int .i64 0], .bool false])).eval (.tmp 18)) 1; pure (.value v)) := rfl
  rw [e,h18];rfl)
 exact Steps.head st2 (.one step_region_end)
theorem C9 (l:Lst)(f:Int)(n c:Nat)(d:Nat)(b:List ItD)(u:Nat->Wx)(w0 w:Wj)(I:PgI w0 w n c b []):
  cG.wp Yq.prog (fun e a w'=>e=.exit 0/\(∃u',a=⟨cU n l f c d u',[]⟩)/\w'=w) ⟨cU n l f c d u,[]⟩ w:=by
 obtain ⟨kc,sc,qc,hrow⟩:=I.ch;show (Code.seq (.region 5 eB false) (dr cG)).wp Yq.prog _ _ _;refine wp_seq (si (c:=c) rfl rfl hrow ?_);clear hrow I;show Code.wp Yq.prog (dr cG) _ _ _;unfold cU qV sV ptr lV bN;simp only [Act.put];dsimp only [cG,cIn,cF,bP,Tryz.f69,jc,dr,qG,Option.getD];go_wp2_with fail
 exact ⟨fun i=>if i=18 then .tuple #[.agg #[.int .i64 0,.string ⟨#[]⟩,.int .i64 0],.bool false] else if i=19 then .bool false else u i,by simp⟩
theorem yb (l:Lst)(f:Int)(n c:Nat)(w0:Wj)(hn:n+2<c)(hc:c<w0.heap.size)(h:w0.cell? ⟨n,6,none⟩=some (.int .i64 l.size)):
  ∀ (rest:List ItD) (d:Nat) (b:List ItD) (u:Nat->Wx) (w:Wj),PgI w0 w n c b (rest.map itVal)->b.length<=d->d+rest.length<=1000 ->
   Code.rounds Yq.prog cG (fun e a w'=>e=.exit 0/\(∃u',a=⟨cU n l f c ((d+rest.length:Nat):Int) u',[]⟩)/\PgI w0 w' n c (b++dW l f d rest) []) (rest.length+1) ⟨cU n l f c d u,[]⟩ w:=by
 intro rest;induction rest with
 |nil=>
  intro d b u w I _ _;rw [rounds_succ];refine wp_mono (C9 l f n c d b u w0 w I) ?_;rintro e a w' ⟨rfl,⟨u',rfl⟩,rfl⟩;exact ⟨rfl,⟨u',by simp⟩,by simpa [dW] using I⟩
 |cons i r ih=>
  intro d b u w I hi hl;have hl:d+(r.length+1)<=1000:=hl;rw [lC,rounds_succ];refine wp_mono (r6 l f n c d i (r.map itVal) b u w0 w hn hc h I (by omega) (by omega)) ?_;rintro e a w1 ⟨rfl,ha,I1⟩;show Code.rounds _ _ _ _ a w1;rw [ha];have h2:=ih (d+1) _ (fun i=>a.tmps.getD i Wo) w1 I1 (by split<;>(try simp only [lP,lS])<;>omega) (by omega);have e0:(((d+1:Nat):Int))=(d:Int)+1:=rfl;rw [e0] at h2;have e2:d+1+r.length=d+(r.length+1):=by omega
  rw [e2] at h2;have e3:(if gO l f ((d:Int)+1) then b++[i] else b)++dW l f (d+1) r=b++dW l f d (i::r):=by
   rw [dW];split<;>simp
  rw [e3] at h2;exact h2
def dM (n pg:Int):ByteArray:=⟨(Lib.itoa n++46::Lib.itoa pg).toArray⟩
def qo (G:Wj->Prop)(n pg:Int):Prop:=∀ (l:Lst)(w:Wj),G w->l.num=n->Calls Yq.prog 98 #[lV l,.int .i64 pg] w fun e w'=>e=.returned (.string (dM n pg))/\Below w.heap.size w w'
def Da (l:Lst)(a:Int)(n:Nat):ByteArray:=if IntKind.i64.wrap (a * l.size)<(n:Int) then dM l.num (IntKind.i64.wrap (a+1)) else ⟨#[]⟩
structure au (W W':Wj):Prop where
 os:W'.os=W.os
 size:W.heap.size<=W'.heap.size
 block:∀b,b<W.heap.size->W'.heap[b]?=W.heap[b]?
theorem dA {w w':Wj}{a:Nat}{e:Ww}{b:Nat}{v:Wx}{n:Nat}{xs:List Wx}(h:w.ownsRow a e b v n xs)(hb:∀g,a<=g->g<w.heap.size->w'.heap[g]?=w.heap[g]?):w'.ownsRow a e b v n xs:=by
 refine ⟨h.1,?_⟩;rcases h.2 with h2|⟨g,cap,c,hv,hg,hr,r⟩
 .exact Or.inl h2
 .exact Or.inr ⟨g,cap,c,hv,hg,(hb g hg (eS hr).1).trans hr,r⟩
theorem AF (l:Lst)(j:Int)(n c:Nat)(i:Nat)(a:List ItD)(u:Nat->Wx)(w0 w:Wj)(G:Wj->Prop)(hn:n+2<c)(hc:c<w0.heap.size)(r0:w0.heap[n]?=some (.cells (bN l) 125))(r1:w0.heap[n+1]?=some (.cells #[.slice none 0 0,.string ⟨#[]⟩] 88))(I:PgI w0 w n c a [])(y:G w)(x:IntKind.i64.wrap (j * l.size)<(i:Int)->qo G l.num (IntKind.i64.wrap (j+1))):
  (dr bP).wp Yq.prog (bodyPost Yq.prog Yq.f69 fun e w'=>∃sv,e=.returned (.agg #[sv,.string (Da l j i)])/\w'.ownsRow w0.heap.size 41 3 sv a.length (an a)/\(w'.os=w0.os/\w0.heap.size<=w'.heap.size/\∀b,b<n->w'.heap[b]?=w0.heap[b]?)) ⟨cU n l j c i u,[]⟩ w:=by
 have hl0:n<w.heap.size:=lL (by omega) I.size;have e0:=(I.block n (by omega) (by omega) (by omega)).trans r0;have e1:=(I.block (n+1) (by omega) (by omega) (by omega)).trans r1;obtain ⟨sv,c0,hown⟩:=I.row;have c1:=I.tok;have z0:=I.fz 0;have z1:=I.fz 1;have hbk:Hid (∀k,sv.ownBlock=some k->w0.heap.size<=k):=fun k h=>(hown.lt k h).1
 have HI:Hid (PgI w0 w n c a []/\w.ownsRow w0.heap.size 41 3 sv a.length (an a)):=⟨I,hown⟩;have d0:w.cell? ⟨n+1,0,none⟩=some (.slice none 0 0):=by simp [World.cell?,e1]
 have d1:w.cell? ⟨n+1,1,none⟩=some (.string ⟨#[]⟩):=by simp [World.cell?,e1]
 have y0:w.frozen? ⟨n+1,0,none⟩=false:=by simp [World.frozen?,e1]
 have y1:w.frozen? ⟨n+1,1,none⟩=false:=by simp [World.frozen?,e1]
 have k0:w.cell? ⟨n,0,none⟩=some (.int .i64 l.num):=by simp [World.cell?,e0,bN]
 have k1:w.cell? ⟨n,1,none⟩=some (.pointer l.root):=by simp [World.cell?,e0,bN]
 have k2:w.cell? ⟨n,2,none⟩=some (.bool l.vs):=by simp [World.cell?,e0,bN]
 have k3:w.cell? ⟨n,3,none⟩=some (.string l.p):=by simp [World.cell?,e0,bN]
 have k4:w.cell? ⟨n,4,none⟩=some (.string l.d):=by simp [World.cell?,e0,bN]
 have k5:w.cell? ⟨n,5,none⟩=some (.string l.af):=by simp [World.cell?,e0,bN]
 have k6:w.cell? ⟨n,6,none⟩=some (.int .i64 l.size):=by simp [World.cell?,e0,bN]
 have k7:w.cell? ⟨n,7,none⟩=some (.int .i64 l.left):=by simp [World.cell?,e0,bN]
 have s:Hid (wrap64 (j * l.size)<(i:Int)->Calls Yq.prog 98 #[.agg #[.int .i64 l.num,.pointer l.root,.bool l.vs,.string l.p,.string l.d,.string l.af,.int .i64 l.size,.int .i64 l.left],.int .i64 (wrap64 (j+1))] w fun e w'=>e=.returned (.string (dM l.num (wrap64 (j+1))))/\Below w.heap.size w w'):=by
  rw [<-mo,<-mo];exact fun h=>x h l w y rfl
 clear I hown e0 e1 r0 r1 x y;obtain ⟨q,o,sc,rfl⟩:∃q o sc,sv=.slice q o sc:=by
  rcases HI.out.2.2 with ⟨rfl,-⟩|⟨g,cap,cur,rfl,-⟩
  .exact ⟨_,_,_,rfl⟩
  .exact ⟨_,_,_,rfl⟩
 have hszw:w0.heap.size<=w.heap.size:=HI.out.1.size;have r:n+2<w.heap.size:=by omega
 generalize hQ:bodyPost Yq.prog Yq.f69 _=Q;have HQ:Hid (bodyPost Yq.prog Yq.f69 _=Q):=hQ;clear hQ;unfold cU qV sV ptr lV bN;dsimp only [cF,bP,Tryz.f69,jc,dr,Option.getD];by_cases hlt:wrap64 (j * l.size)<(i:Int)
 .have HT2:=s.out hlt;have m:Da l j i=dM l.num (wrap64 (j+1)):=by rw [Da,mo,mo,if_pos hlt]
  rw [m] at HQ;generalize dM l.num (wrap64 (j+1))=t at HT2 HQ;clear m;go_wp2_with (go_at_call 98;refine HT2.mono ?_;clear HT2;rintro e w1 ⟨rfl,f⟩;replace c0:=ai f c0;replace c1:=ai f c1;replace d0:=ai f d0;replace d1:=ai f d1;replace z0:=(f.frozen (p:=⟨n+2,0,none⟩) r).trans z0;replace z1:=(f.frozen (p:=⟨n+2,1,none⟩) r).trans z1;replace y0:=(f.frozen (p:=⟨n+1,0,none⟩) (by show n+1<_;omega)).trans y0;replace y1:=(f.frozen (p:=⟨n+1,1,none⟩) (by show n+1<_;omega)).trans y1)
  rw [<-HQ.out];obtain ⟨I,hown⟩:=HI.out;have hset:∀b,b≠n+1->b≠n+2->(((w1.setCell ⟨n+2,1,none⟩ (.string t)).setCell ⟨n+1,0,none⟩ (.slice q o sc)).setCell ⟨n+1,1,none⟩ (.string t)).heap[b]?=w1.heap[b]?:=fun b h1 h2=>by
   rw [bS _ _ _ _ h1,bS _ _ _ _ h1,bS _ _ _ _ h2]
  refine bodyPost_ret (v:=.agg #[.slice q o sc,.string t]) (by simp [results,Tryz.results69,go_sem,d0,d1]) rfl ⟨_,rfl,dA hown fun g h1 h2=>?_,?_,?_,fun b hb=>?_⟩
  .rw [hset g (by omega) (by omega)];exact f.block g h2
  .exact f.os.trans I.os
  .have:=f.size;simp;omega
  .rw [hset b (by omega) (by omega),f.block b (by omega)];exact I.block b (by omega) (by omega) (by omega)
 .have m:Da l j i=⟨#[]⟩:=by rw [Da,mo,mo,if_neg hlt]
  rw [m] at HQ;clear m;go_wp2_with fail
  rw [<-HQ.out];obtain ⟨I,hown⟩:=HI.out;have hset:∀b,b≠n+1->((w.setCell ⟨n+1,0,none⟩ (.slice q o sc)).setCell ⟨n+1,1,none⟩ (.string ⟨#[]⟩)).heap[b]?=w.heap[b]?:=fun b h1=>by
   rw [bS _ _ _ _ h1,bS _ _ _ _ h1]
  refine bodyPost_ret (v:=.agg #[.slice q o sc,.string ⟨#[]⟩]) (by simp [results,Tryz.results69,go_sem,d0,d1]) rfl ⟨_,rfl,dA hown fun g h1 h2=>?_,?_,?_,fun b hb=>?_⟩
  .exact hset g (by omega)
  .exact I.os
  .simp;omega
  .rw [hset b (by omega)];exact I.block b (by omega) (by omega) (by omega)
def Gx (V:Wj)(l:Lst)(a:Int)(its:List ItD)(e:Ending)(w':Wj):Prop:=
 ∃sv,e=.returned (.agg #[sv,.string (Da l a its.length)])/\w'.ownsRow V.heap.size 41 3 sv (dW l a 0 its).length (an (dW l a 0 its))/\au V w'
def Stop (Qok:Qy->Prop)(e:Ending)(w':Wj):Prop:=∃x y r,e=.panicked (stopEntry x y::r)/\∃a b L,x=lV a/\y=.int .i64 b/\FZ Qok a L w'
theorem AG (Qok:Qy->Prop)(hQ:∀q,Qok q->jl q/\jm q)(l:Lst)(c:Int)(f:List UInt8->List Ver)(V:Wj)(hp:GR Qok l f V)(G:Wj->Prop)(A:∀w',au V w'->G w')(z:IntKind.i64.wrap (c * l.size)<((lK l f).length:Int)->qo G l.num (IntKind.i64.wrap (c+1))):
  Calls Yq.prog 69 #[lV l,.int .i64 c] V fun e w'=>Gx V l c (lK l f) e w'\/Stop Qok e w':=by
 have hPre:=AD Qok hQ;have s:FZ Qok l ((lK l f).map itVal) V:=⟨f,hp,rfl⟩;intro cs;rcases AE (V.tape V.drawn (.order 69 100)) with hs|hs
 .obtain ⟨fr,hst,hm,hd,hf⟩:=ru (lV l) (.int .i64 c) cs V hs;refine ⟨.panicked [stopEntry (lV l) (.int .i64 c)],{V with drawn:=V.drawn+1},fr,.inr ⟨_,_,_,rfl,l,c,_,rfl,rfl,hPre.on V _ l _ (fun _ _=>rfl) (lR _) s⟩,hst,hf,hm,hd,_,by rw [hf];exact Yq.func69⟩
 .obtain ⟨V4,hst,hb4,t,d⟩:=ry hPre l c _ V cs s hs;have hrow:∀i,i<7->i≠5->V4.heap[V.heap.size+i]?=_:=fun i h1 h2=>(hb4 _ (by omega) (by omega)).trans (bW V l 1000 i h1)
  have r0:=hrow 0 (by omega) (by omega);have r1:=hrow 1 (by omega) (by omega);have r2:=hrow 2 (by omega) (by omega);have hc:V.heap.size+5<V4.heap.size:=(eS t).1;have hlen:(lK l f).length<=1000:=by have:=hPre.len l _ V s;simpa using this
  have hloop:=yb l c V.heap.size (V.heap.size+5) V4 (by omega) hc (by simp only [Nat.add_zero] at r0;simp [World.cell?,r0,bN]) (lK l f) 0 [] (fun _=>Wo) V4 (r7 r2 ⟨_,_,_,t⟩) (by simp) (by omega);simp only [zA,List.nil_append] at hloop;have m:∀b,b<V.heap.size->V4.heap[b]?=V.heap[b]?:=fun b hb=>(hb4 b (by omega) (by omega)).trans (em V l 1000 hb)
  have o:(Code.block 0 (.loop cG)).wp Yq.prog (fun e a w=>e=.normal/\(dr bP).wp Yq.prog (bodyPost Yq.prog Yq.f69 (Gx V l c (lK l f))) a w) ⟨cU V.heap.size l c (V.heap.size+5) 0 (fun _=>Wo),[]⟩ V4:=by
   refine wp_block (wp_mono (wp_loop_rounds _ hloop) ?_);rintro e a w' ⟨rfl,⟨u',rfl⟩,I⟩;have u:G w':=A w' ⟨I.os.trans d,by have:=I.size;omega,fun b hb=>(I.block b (by omega) (by omega) (by omega)).trans (m b hb)⟩;simp only [Exit.inBlock,if_true];refine ⟨trivial,wp_mono (AF l c V.heap.size (V.heap.size+5) (lK l f).length _ u' V4 w' G (by omega) hc (by simpa using r0) r1 I u z) ?_⟩;intro e a w2 h;cases e with
   |normal=>obtain ⟨h1,v,h2,sv,h3,h4,h5,h6,h7⟩:=h;exact ⟨h1,v,h2,sv,h3,iq h4 (by omega),h5.trans d,by omega,fun b hb=>(h7 b hb).trans (m b hb)⟩
   |ret=>obtain ⟨h1,v,h2,sv,h3,h4,h5,h6,h7⟩:=h;exact ⟨h1,v,h2,sv,h3,iq h4 (by omega),h5.trans d,by omega,fun b hb=>(h7 b hb).trans (m b hb)⟩
   |panic p=>obtain ⟨h1,sv,h3,-⟩:=h;cases h3
   |outgrown=>obtain ⟨sv,h3,-⟩:=h;cases h3
   |exit id=>exact h.elim
   |goto l=>exact h.elim
  obtain ⟨e1,a1,w1,⟨rfl,y⟩,r⟩:=o (base 69) [.code (dr bP)] cs;obtain ⟨e,a',w',hq,j⟩:=y (base 69) [] cs;have n:Steps Yq.prog (lone (Frame.enter Yq.prog 69 #[lV l,.int .i64 c] .normal) cs V) (lone ((base 69).at a1 [.code (dr bP)]) cs w1):=
   Steps.trans hst (Steps.trans (.one (step_region_end (P:=Yq.prog) (b:=base 69) (k:=[.code (.block 0 (.loop cG)),.code (dr bP)]))) r)
  cases e with
  |normal=>
   obtain ⟨hd,v,hr,x⟩:=hq;exact ⟨.returned v,w',_,.inl x,Steps.trans n (Steps.trans j (.one step_end)),rfl,rfl,hd,rfl,_,Yq.func69,hr⟩
  |ret=>
   obtain ⟨hd,v,hr,x⟩:=hq;obtain ⟨todo,hs⟩:=j;exact ⟨.returned v,w',_,.inl x,Steps.trans n hs,rfl,rfl,hd,rfl,_,Yq.func69,hr⟩
  |panic p=>obtain ⟨-,sv,h3,-⟩:=hq;cases h3
  |outgrown=>obtain ⟨sv,h3,-⟩:=hq;cases h3
  |exit id=>exact hq.elim
  |goto l=>exact hq.elim
end
end Go.Proofs.Qw
namespace Go.Proofs
section
open Go.Shelf Go.Lib Go.Sort
def Yq.laysM171_ren:Go.Shelf.Ren:=⟨fun| 171=>121| 243=>141| 246=>158| 283=>167| 284=>168| 285=>169| 286=>170| 129=>151| 317=>176| 318=>177| 319=>178| 320=>179| 337=>182| 338=>183|n=>n,fun| 3=>3| 9=>9| 2=>2| 4=>4| 171=>239| 0=>0| 53=>57| 37=>48| 5=>5| 173=>241| 212=>249| 51=>222| 20=>20| 213=>250| 46=>199| 232=>253| 233=>254|n=>n,fun| 17=>1| 18=>2| 19=>3|n=>n⟩
theorem Yq.laysM171:Go.Proofs.LaysM.n171 Yq.prog Yq.laysM171_ren:={
 mixed:=by kernel_rfl
 f129:=(Yq.nq Tryz.func151).trans (congrArg some (by kernel_rfl))
 f171:=(Yq.nq Tryz.func121).trans (congrArg some (by kernel_rfl))
 f243:=(Yq.nq Tryz.func141).trans (congrArg some (by kernel_rfl))
 f246:=(Yq.nq Tryz.func158).trans (congrArg some (by kernel_rfl))
 f283:=(Yq.nq Tryz.func167).trans (congrArg some (by kernel_rfl))
 f284:=(Yq.nq Tryz.func168).trans (congrArg some (by kernel_rfl))
 f285:=(Yq.nq Tryz.func169).trans (congrArg some (by kernel_rfl))
 f286:=(Yq.nq Tryz.func170).trans (congrArg some (by kernel_rfl))
 f317:=(Yq.nq Tryz.func176).trans (congrArg some (by kernel_rfl))
 f318:=(Yq.nq Tryz.func177).trans (congrArg some (by kernel_rfl))
 f319:=(Yq.nq Tryz.func178).trans (congrArg some (by kernel_rfl))
 f320:=(Yq.nq Tryz.func179).trans (congrArg some (by kernel_rfl))
 f337:=(Yq.nq Tryz.func182).trans (congrArg some (by kernel_rfl))
 f338:=(Yq.nq Tryz.func183).trans (congrArg some (by kernel_rfl))
 t0:=(Yq.u Tryz.underlying0)
 a0:=(fun w=>Yq.a (Tryz.isAgg0 w))
 z0:=(fun w=>Yq.s (Tryz.sizeOf0 w))
 v0:=(fun w=>Yq.z (Tryz.zeroValue0 w))
 t2:=(Yq.u Tryz.underlying2)
 a2:=(fun w=>Yq.a (Tryz.isAgg2 w))
 z2:=(fun w=>Yq.s (Tryz.sizeOf2 w))
 v2:=(fun w=>Yq.z (Tryz.zeroValue2 w))
 t3:=(Yq.u Tryz.underlying3)
 a3:=(fun w=>Yq.a (Tryz.isAgg3 w))
 z3:=(fun w=>Yq.s (Tryz.sizeOf3 w))
 v3:=(fun w=>Yq.z (Tryz.zeroValue3 w))
 t4:=(Yq.u Tryz.underlying4)
 a4:=(fun w=>Yq.a (Tryz.isAgg4 w))
 z4:=(fun w=>Yq.s (Tryz.sizeOf4 w))
 v4:=(fun w=>Yq.z (Tryz.zeroValue4 w))
 t5:=(Yq.u Tryz.underlying5)
 a5:=(fun w=>Yq.a (Tryz.isAgg5 w))
 z5:=(fun w=>Yq.s (Tryz.sizeOf5 w))
 v5:=(fun w=>Yq.z (Tryz.zeroValue5 w))
 t9:=(Yq.u Tryz.underlying9)
 a9:=(fun w=>Yq.a (Tryz.isAgg9 w))
 z9:=(fun w=>Yq.s (Tryz.sizeOf9 w))
 v9:=(fun w=>Yq.z (Tryz.zeroValue9 w))
 t20:=(Yq.u Tryz.underlying20)
 a20:=(fun w=>Yq.a (Tryz.isAgg20 w))
 z20:=(fun w=>Yq.s (Tryz.sizeOf20 w))
 v20:=(fun w=>Yq.z (Tryz.zeroValue20 w))
 t37:=(Yq.u Tryz.underlying48)
 a37:=(fun w=>Yq.a (Tryz.isAgg48 w))
 z37:=(fun w=>Yq.s (Tryz.sizeOf48 w))
 v37:=(fun w=>Yq.z (Tryz.zeroValue48 w))
 t46:=(Yq.u Tryz.underlying199)
 a46:=(fun w=>Yq.a (Tryz.isAgg199 w))
 z46:=(fun w=>Yq.s (Tryz.sizeOf199 w))
 v46:=(fun w=>Yq.z (Tryz.zeroValue199 w))
 t51:=(Yq.u Tryz.underlying222)
 a51:=(fun w=>Yq.a (Tryz.isAgg222 w))
 z51:=(fun w=>Yq.s (Tryz.sizeOf222 w))
 v51:=(fun w=>Yq.z (Tryz.zeroValue222 w))
 t53:=(Yq.u Tryz.underlying57)
 a53:=(fun w=>Yq.a (Tryz.isAgg57 w))
 z53:=(fun w=>Yq.s (Tryz.sizeOf57 w))
 v53:=(fun w=>Yq.z (Tryz.zeroValue57 w))
 t171:=(Yq.u Tryz.underlying239)
 a171:=(fun w=>Yq.a (Tryz.isAgg239 w))
 z171:=(fun w=>Yq.s (Tryz.sizeOf239 w))
 v171:=(fun w=>Yq.z (Tryz.zeroValue239 w))
 t173:=(Yq.u Tryz.underlying241)
 a173:=(fun w=>Yq.a (Tryz.isAgg241 w))
 z173:=(fun w=>Yq.s (Tryz.sizeOf241 w))
 v173:=(fun w=>Yq.z (Tryz.zeroValue241 w))
 t212:=(Yq.u Tryz.underlying249)
 a212:=(fun w=>Yq.a (Tryz.isAgg249 w))
 z212:=(fun w=>Yq.s (Tryz.sizeOf249 w))
 v212:=(fun w=>Yq.z (Tryz.zeroValue249 w))
 t213:=(Yq.u Tryz.underlying250)
 a213:=(fun w=>Yq.a (Tryz.isAgg250 w))
 z213:=(fun w=>Yq.s (Tryz.sizeOf250 w))
 t232:=(Yq.u Tryz.underlying253)
 a232:=(fun w=>Yq.a (Tryz.isAgg253 w))
 z232:=(fun w=>Yq.s (Tryz.sizeOf253 w))
 v232:=(fun w=>Yq.z (Tryz.zeroValue253 w))
 t233:=(Yq.u Tryz.underlying254)
 a233:=(fun w=>Yq.a (Tryz.isAgg254 w))
 z233:=(fun w=>Yq.s (Tryz.sizeOf254 w))
 v233:=(fun w=>Yq.z (Tryz.zeroValue254 w))
 g17:=by kernel_rfl
 g18:=by kernel_rfl
 g19:=by kernel_rfl
 i0:=by kernel_rfl
 i2:=by kernel_rfl
 i3:=by kernel_rfl
 i4:=by kernel_rfl
 i5:=by kernel_rfl
 i9:=by kernel_rfl
 i20:=by kernel_rfl
 i37:=by kernel_rfl
 i46:=by kernel_rfl
 i51:=by kernel_rfl
 i53:=by kernel_rfl
 i171:=by kernel_rfl
 i173:=by kernel_rfl
 i212:=by kernel_rfl
 i232:=by kernel_rfl
 i233:=by kernel_rfl
 m17:=by kernel_rfl
 m18:=by kernel_rfl
 m19:=by kernel_rfl}
theorem Yq.strconv_Itoa (n : Int) (h0 : -9223372036854775808 ≤ n) (h1 : n ≤ 9223372036854775807) (w : Wj) (htab : Lib.TabIs Yq.prog w "internal/strconv.uint64pow10" .u64 Lib.pow10Tab) :
  Calls Yq.prog 121 #[.int .i64 n] w fun e w'=>e=.returned (.string ⟨(Lib.itoa n).toArray⟩)/\∃k os,w'=grow (w.drewN k) os:=Any.strconv_Itoa Yq.laysM171 n h0 h1 w htab
end
end Go.Proofs
namespace Go.Proofs.Qw
section
open Go.Conc Go.ConcX Go.ConcX.Gen Go.RowKit
theorem jV (i:Nat):Lib.itoa (i:Int)=Lib.decDigits i:=by simp [Lib.itoa]
theorem vY:∀ (k u:Nat),u<10 ^ (k+1)->(Lib.decDigits u).length<=k+1
 | 0,u,h=>by
  rw [Lib.decDigits,dif_pos (by simpa using h)];simp
 |k+1,u,h=>by
  rw [Lib.decDigits];split
  .simp
  .have h1:u / 10<10 ^ (k+1):=by rw [Nat.pow_succ] at h;omega
   have:=vY k (u / 10) h1;rw [lP,lS];omega
theorem vZ {n:Int}(h0:0<=n)(h1:n<=9223372036854775807):(Lib.itoa n).length<=19:=by
 obtain ⟨u,rfl⟩:=Int.eq_ofNat_of_zero_le h0;have e:Lib.itoa ((u:Nat):Int)=Lib.decDigits u:=jV u;rw [e];exact vY 18 u (by have:(u:Int)<=9223372036854775807:=h1;omega)
def qp (w : Wj) : Prop := Lib.TabIs Yq.prog w "internal/strconv.uint64pow10" .u64 Lib.pow10Tab
theorem qp.on {w w':Wj}(h:qp w)(hb:∀b,b<w.heap.size->w'.heap[b]?=w.heap[b]?):qp w':=by
 unfold qp Lib.TabIs World.var? at *
 cases hg : Yq.prog.globalNamed "internal/strconv.uint64pow10" with
 |none=>rw [hg] at h;cases h
 |some g=>
  rw [hg] at h;simp only [Option.bind_some] at h ⊢;have hlt:g<w.heap.size:=by
   cases hh:w.heap[g]? with
   |none=>rw [hh] at h;cases h
   |some o=>exact (eS hh).1
  rw [hb g hlt];exact h
theorem oS (w:Wj)(k:Nat)(os:Array Obj):Below w.heap.size w (Sort.grow (w.drewN k) os):=
 ⟨rfl,rfl,rfl,by simp [Sort.grow,World.drewN],fun b hb=>by simp [Sort.grow,World.drewN,Array.getElem?_append_left hb]⟩
theorem Fy (n pg:Int)(hn:0<=n/\n<=9223372036854775807)(hp:0<=pg/\pg<=9223372036854775807):qo qp n pg:=by
 intro l w i hl;obtain ⟨f,root,vs,p,d,af,size,left⟩:=l;simp only at hl;subst hl;unfold dM;have h1:Hid (∀W,Below w.heap.size w W->Calls Yq.prog 121 #[.int .i64 f] W fun e w'=>e=.returned (.string ⟨(Lib.itoa f).toArray⟩)/\Below W.heap.size W w'):=fun W hb=>by
  refine (Yq.strconv_Itoa f (by omega) hn.2 W (i.on hb.block)).mono ?_;rintro e w' ⟨rfl,k,os,rfl⟩;exact ⟨rfl,oS W k os⟩
 have h2:Hid (∀W,Below w.heap.size w W->Calls Yq.prog 121 #[.int .i64 pg] W fun e w'=>e=.returned (.string ⟨(Lib.itoa pg).toArray⟩)/\Below W.heap.size W w'):=fun W hb=>by
  refine (Yq.strconv_Itoa pg (by omega) hp.2 W (i.on hb.block)).mono ?_;rintro e w' ⟨rfl,k,os,rfl⟩;exact ⟨rfl,oS W k os⟩
 have ha:=vZ hn.1 hn.2;have hb:=vZ hp.1 hp.2;generalize Lib.itoa f=a at *;generalize Lib.itoa pg=b at *;have HW:Hid (∀c,Below w.heap.size w (w.alloc c)):=fun c=>(bR _ _).alloc (lR _) _
 clear i hn hp;unfold lV bN;go_enter (Yq.nq Tryz.func98),Tryz.ntmps98;go_wp2_with fail
 refine (h1.out _ (HW.out _)).mono ?_;rintro e w1 ⟨rfl,b1⟩;have h:Hid (Below w.heap.size w w1):=(HW.out _).trans (b1.mono (by simp));clear b1;go_wp2_with fail
 all_goals try (exfalso;rename_i hx;simp [ByteArray.size_append,ByteArray.size,maxLen] at hx;omega)
 refine (h2.out _ h.out).mono ?_;rintro e w2 ⟨rfl,m⟩;have j:Hid (Below w.heap.size w w2):=h.out.trans (m.mono h.out.size);clear m;go_wp2_with fail
 all_goals try (exfalso;rename_i hx;simp [ByteArray.size_append,ByteArray.size,maxLen] at hx;omega)
 go_ret;refine ⟨?_,j.out⟩;have e:(⟨a.toArray⟩:ByteArray)++⟨#[46]⟩++⟨b.toArray⟩=⟨(a++46::b).toArray⟩:=by
  apply ByteArray.ext;simp
 rw [<-e];rfl
end
section
open Go.RowKit
open Go.Conc Go.ConcX Go.ConcX.Gen
def Gy (P:Wv)(u:Ww):Bool:=match P.underlying u with|some (.int _)=>true|_=>false
theorem Db {P:Wv}{w:Wj}{r:_root_.Go.Reach}{a:Nat}{u:Ww}{v:Wx}(b:Gy P u=true)(h:Cell.ok P w r a u v):mc v=true:=by
 unfold Gy at b;unfold Cell.ok at h;cases hx:P.underlying u with
 |none=>rw [hx] at b;cases b
 |some t=>
  rw [hx] at b h;cases t<;>first|(cases b;done)|skip
  cases v<;>first|rfl|(exact h.elim)
theorem Fz {P:Wv}{w:Wj}{t:Ww}{cs:Array Wx}(ht:(P.cellTypes P.depth t).map (fun ts=>ts.all (Gy P))=some true)(h:Row.ok P w .any 0 t cs):∀ (i:Nat) v,cs[i]?=some v->mc v=true:=by
 obtain ⟨ts,h1,-,h3⟩:=h;rw [h1] at ht;have a:ts.all (Gy P)=true:=oJ ht;intro i v hv;obtain ⟨u,b,hc⟩:=h3 i v hv;exact Db (List.all_eq_true.1 a u (List.mem_of_getElem? b)) hc
theorem Dc {α β:Type}{x:Option (α×β)}{t:β}(h:x.map (·.2)=some t):∃z,x=some (z,t):=by
 cases x with
 |none=>cases h
 |some a=>obtain ⟨z,y⟩:=a;cases h;exact ⟨z,rfl⟩
theorem sj {W:Wj}(h:W.ShapedOpen Tryz.prog):∀b,b<Tryz.prog.globals.size->∃c e z,W.heap[b]?=some (.cells c e z)/\∀ (i:Nat) v,c[i]?=some v->mc v=true:=by
 have hg:Tryz.prog.globals.size=4:=by kernel_rfl
 intro b hb;have key:∀t,((((begin Tryz.prog (fun _ _=>0) default).world.heap[b]?).bind Obj.row?).map (·.2)=some t)->(Tryz.prog.cellTypes Tryz.prog.depth t).map (fun ts=>ts.all (Gy Tryz.prog))=some true->Tryz.prog.buildable t=true->∃c e z,W.heap[b]?=some (.cells c e z)/\∀ (i:Nat) v,c[i]?=some v->mc v=true:=fun t h1 h2 h3=>by
  obtain ⟨z,hz⟩:=Dc h1;obtain ⟨cs,e1,-,e3⟩:=h.1 b z t hb hz;exact ⟨cs,t,(0,0),e1,Fz h2 (e3 h3)⟩
 rw [hg] at hb;have hb4:b=0\/b=1\/b=2\/b=3:=by omega
 rcases hb4 with rfl|rfl|rfl|rfl
 .exact key 3 (by kernel_rfl) (by kernel_rfl) (by kernel_rfl)
 .exact key 249 (by kernel_rfl) (by kernel_rfl) (by kernel_rfl)
 .exact key 253 (by kernel_rfl) (by kernel_rfl) (by kernel_rfl)
 .exact key 254 (by kernel_rfl) (by kernel_rfl) (by kernel_rfl)
theorem Dd {W:Wj}(h:W.ShapedOpen Tryz.prog){X:Nat->Prop}(a:∀b,X b->∃c e z,W.heap[b]?=some (.cells c e z)):Start W (fun b=>b<Tryz.prog.globals.size\/X b):=
 ⟨fun b hb=>by
  rcases hb with hb|hb
  .obtain ⟨c,e,z,h1,-⟩:=sj h b hb;exact ⟨c,e,z,h1⟩
  .exact a b hb,fun g hg=>.inl hg⟩
theorem Clean.glob {W V:Wj}{D0:Nat->Prop}(hc:Clean D0 W V)(h:W.ShapedOpen Tryz.prog):∀b,b<Tryz.prog.globals.size->V.heap[b]?=W.heap[b]?:=fun b hb=>by
 by_cases hd:D0 b
 .obtain ⟨c,e,z,h1,h2⟩:=sj h b hb;obtain ⟨c',c0,e',z',k1,k2,k3,k4⟩:=hc.row b hd;rw [h1] at k1;cases k1;rw [h1,k2];refine congrArg (fun x=>some (Obj.cells x e z)) (Array.ext_getElem? fun i=>?_);by_cases a:i<c.size
  .obtain ⟨u,q1,q2⟩:=k4 i _ (eG a);rw [q1,q2.one (h2 i _ (eG a)),eG a]
  .rw [Array.getElem?_eq_none (by rw [k3];omega),Array.getElem?_eq_none (by omega)]
 .exact hc.rest b hd
theorem FA {W:Wj}(h:W.ShapedOpen Tryz.prog):dJ W:=by
 have hg:0<Tryz.prog.globals.size:=jo;have h1:(((begin Tryz.prog (fun _ _=>0) default).world.heap[0]?).bind Obj.row?).map (fun x=>(x.1.size,x.2))=some (1,3):=by kernel_rfl
 have c:Tryz.prog.underlying 3=some (.int .i64):=Tryz.underlying3;cases hx:((begin Tryz.prog (fun _ _=>0) default).world.heap[0]?).bind Obj.row? with
 |none=>rw [hx] at h1;cases h1
 |some x=>
  obtain ⟨z,t⟩:=x;rw [hx] at h1;simp only [Option.map_some,oI,Prod.mk.injEq] at h1;obtain ⟨hz,rfl⟩:=h1;obtain ⟨cs,e1,e2,e3⟩:=h.1 0 z 3 hg hx;obtain ⟨ts,k1,-,k3⟩:=e3 (by kernel_rfl);have hs:cs.size=1:=by omega
  have hts:ts=[3]:=oJ (k1.symm.trans (show Tryz.prog.cellTypes Tryz.prog.depth 3=some [3] by kernel_rfl));subst hts;obtain ⟨u,b,hc⟩:=k3 0 cs[0] (eG (by omega));simp at b;subst b;unfold Cell.ok at hc;rw [c] at hc;have a:W.cell? ⟨0,0,none⟩=some cs[0]:=by simp [World.cell?,e1]
  generalize cs[0]=v at *;cases v<;>first|(exact hc.elim)|skip
  rename_i k m;obtain ⟨rfl,-⟩:=hc;exact ⟨m,a⟩
theorem dJ.glob {W V:Wj}(h:dJ W)(hb:∀b,b<Tryz.prog.globals.size->V.heap[b]?=W.heap[b]?):dJ V:=by
 obtain ⟨m,hm⟩:=h;exact ⟨m,(cB (a:=⟨0,0,none⟩) (hb 0 jo)).trans hm⟩
theorem rD.frame {W w':Wj}(h:rD W w')(may:MemPlace->Prop):W.keptBut w' may:=by
 refine ⟨h.os,h.output,fun i a=>?_⟩;rw [h.block i a];split<;>simp_all
theorem rD.trod {H:Type}{enc:Ww×Wx->H}{P:Wv}{t:Ww}(hl:laidOutB P=true)(hr:P.readableRec t=true)(hrow:t<P.types.size){W W':Wj}{v:Wx}{d:DataW H}{ps:List MemPlace}(h:DataW.Trod enc P W 0 (fun _=>true) true t v d ps)(hb:rD W W')(hlt:∀x∈ps,x.block<W.heap.size):DataW.Trod enc P W' 0 (fun b=>decide (b<W.heap.size)) true t v d ps:=by
 have:=Below.trod (W':={W' with tape:=W.tape}) hl hr hrow h ⟨hb.os,rfl,hb.output,hb.size,hb.block⟩ hlt;exact DataW.Trod.of_heap (w:={W' with tape:=W.tape}) (w':=W') rfl this
theorem lO {P:Wv}{w:Wj}{x:String×DataW Unit}{l:List (String×DataW Unit)}(h:laidMet P (x::l) w):laidMet P l w:=by
 obtain ⟨ps,⟨g,t,cs,fuel,p,q,-,-,-,-,hq,rfl⟩,hn,hm⟩:=h;exact ⟨q,hq,(List.nodup_append.1 hn).2.1,fun b off hb=>hm b off (List.mem_append_right _ hb)⟩
end
section
open Go.RowKit
def ed (st:St)(key:ByteArray)(n:Int):Ver×Int:=
 if aI key=false then (dL,2)
 else match ci (st.f key.data.toList) n with
  |none=>(dL,5)
  |some r=>match (st.f key.data.toList)[r]? with
   |none=>(dL,5)
   |some v=>if v.mark then (dL,6) else (v,0)
structure Gz (w W0:Wj):Prop where
 below:Below w.heap.size w W0
 c0:W0.cell? ⟨w.heap.size,0,none⟩=some (.int .i64 0)
 c1:W0.cell? ⟨w.heap.size,1,none⟩=some (.string ⟨#[]⟩)
 c2:W0.cell? ⟨w.heap.size,2,none⟩=some (.bool false)
 fz:∀j,W0.frozen? ⟨w.heap.size,j,none⟩=false
theorem Hn (w:Wj):Gz w (w.alloc (.cells #[.int .i64 0,.string ⟨#[]⟩,.bool false] 81)):=
 ⟨(bR _ w).alloc (lR _) _,by rw [cA (w:=w) _ _ w.heap.size 0 rfl];rfl,by rw [cA (w:=w) _ _ w.heap.size 1 rfl];rfl,by rw [cA (w:=w) _ _ w.heap.size 2 rfl];rfl,fun j=>World.frozen?_alloc_at (w:=w) _ _ w.heap.size j rfl⟩
theorem Gz.on {w W0 w1:Wj}(h:Gz w W0)(hb:Below W0.heap.size W0 w1):Gz w w1:=
 ⟨h.below.trans (hb.mono h.below.size),ai hb h.c0,ai hb h.c1,ai hb h.c2,fun j=>(hb.frozen (p:=⟨w.heap.size,j,none⟩) (show w.heap.size<W0.heap.size from bC W0 ⟨w.heap.size,0,none⟩ h.c0)).trans (h.fz j)⟩
theorem AH (A:Nat->Prop)(k0:Nat)(st:St)(s:Nat)(key:ByteArray)(n:Int)(w:Wj)(hk:key.size<=maxLen)(S:aF A w k0 st)(i:Inv st s)(hs:s<=2199023255340):
  Calls Yq.prog 37 #[.pointer (some ⟨k0,0,none⟩),.string key,.int .i64 n] w fun e w'=>e=.returned (.tuple #[bZ (ed st key n).1,.int .i64 (ed st key n).2])/\Below w.heap.size w w':=by
 have R0:=Hn w;have HF:=rX A k0 st s key n _ hk (S.on R0.below) i hs;have d:Hid (Gz w (w.alloc (.cells #[.int .i64 0,.string ⟨#[]⟩,.bool false] 81))):=R0;have hle:=i.len key.data.toList;clear R0 S;go_enter (Yq.nq Tryz.func37),Tryz.ntmps37;go_wp2_with fail
 refine HF.mono ?_;generalize w.alloc (.cells #[.int .i64 0,.string ⟨#[]⟩,.bool false] 81)=W0 at *;rintro e w1 ⟨h,b⟩;have R1:=d.out.on h;have d0:=R1.c0;have d1:=R1.c1;have d2:=R1.c2;have g0:=R1.fz 0;have g1:=R1.fz 1;have g2:=R1.fz 2;have HB:Hid (Below w.heap.size w w1):=R1.below;clear R1 d HF h;rcases b with ⟨a,rfl⟩|⟨a,hpl,rfl⟩|⟨a,r,ha,hc,hpl,hr,j,rfl⟩
 .have HR:Hid (ed st key n=(dL,2)):=show ed st key n=(dL,2) by simp [ed,a]
  clear a;go_wp2;refine bodyPost_ret (v:=.tuple #[bZ (ed st key n).1,.int .i64 (ed st key n).2]) (by rw [HR.out];simp [results,Tryz.results37,go_sem,bZ,dL,d0,d1,d2]) rfl ⟨rfl,?_⟩;exact ((HB.out.setCell (lR _) _).setCell (lR _) _).setCell (lR _) _
 .have HR:Hid (ed st key n=(dL,5)):=show ed st key n=(dL,5) by simp [ed,a,hpl]
  clear a hpl;go_wp2;refine bodyPost_ret (v:=.tuple #[bZ (ed st key n).1,.int .i64 (ed st key n).2]) (by rw [HR.out];simp [results,Tryz.results37,go_sem,bZ,dL,d0,d1,d2]) rfl ⟨rfl,?_⟩;exact ((HB.out.setCell (lR _) _).setCell (lR _) _).setCell (lR _) _
 .have hne:st.f key.data.toList≠[]:=by intro e;rw [e] at hr;simp at hr
  obtain ⟨g,cap,he,-,-,c,-⟩:=j.cells hne;cases he;obtain ⟨x0,x1,x2⟩:=c r hr;have HR:Hid (ed st key n=if (st.f key.data.toList)[r].mark then (dL,6) else ((st.f key.data.toList)[r],0)):=show ed st key n=_ by simp [ed,a,hpl,hr]
  generalize (st.f key.data.toList)[r]=v at *;obtain ⟨nm,bd,k⟩:=v;simp only at x0 x1 x2;clear c j a hpl hne;generalize (st.f key.data.toList).length=m at *;have hri:(r:Int)<(m:Int):=by omega
  cases k with
  |true=>
   go_wp2;refine bodyPost_ret (v:=.tuple #[bZ (ed st key n).1,.int .i64 (ed st key n).2]) (by rw [HR.out];simp [results,Tryz.results37,go_sem,bZ,dL,d0,d1,d2]) rfl ⟨rfl,?_⟩;exact ((HB.out.setCell (lR _) _).setCell (lR _) _).setCell (lR _) _
  |false=>
   go_wp2;refine bodyPost_ret (v:=.tuple #[bZ (ed st key n).1,.int .i64 (ed st key n).2]) (by rw [HR.out];simp [results,Tryz.results37,go_sem,bZ,d0,d1,d2]) rfl ⟨rfl,?_⟩;exact ((HB.out.setCell (lR _) _).setCell (lR _) _).setCell (lR _) _
structure j8 (w W0:Wj):Prop where
 below:Below w.heap.size w W0
 lt:w.heap.size+1<W0.heap.size
 c0:W0.cell? ⟨w.heap.size+1,0,none⟩=some (.int .i64 0)
 c1:W0.cell? ⟨w.heap.size+1,1,none⟩=some (.int .i64 0)
 c2:W0.cell? ⟨w.heap.size+1,2,none⟩=some (.string ⟨#[]⟩)
 c3:W0.cell? ⟨w.heap.size+1,3,none⟩=some (.slice none 0 0)
 c4:W0.cell? ⟨w.heap.size+1,4,none⟩=some (.string ⟨#[]⟩)
 fz:∀j,W0.frozen? ⟨w.heap.size+1,j,none⟩=false
theorem GA (w:Wj)(cs:Array Wx):j8 w ((w.alloc (.cells cs 31)).alloc (.cells #[.int .i64 0,.int .i64 0,.string ⟨#[]⟩,.slice none 0 0,.string ⟨#[]⟩] 36)):=by
 have h:∀j,((w.alloc (.cells cs 31)).alloc (.cells #[.int .i64 0,.int .i64 0,.string ⟨#[]⟩,.slice none 0 0,.string ⟨#[]⟩] 36)).cell? ⟨w.heap.size+1,j,none⟩=(#[.int .i64 0,.int .i64 0,.string ⟨#[]⟩,.slice none 0 0,.string ⟨#[]⟩]:Array Wx)[j]?:=fun j=>
  cA (w:=w.alloc (.cells cs 31)) _ _ (w.heap.size+1) j (by simp)
 refine ⟨((bR _ w).alloc (lR _) _).alloc (by simp) _,by simp,h 0,h 1,h 2,h 3,h 4,fun j=>World.frozen?_alloc_at (w:=w.alloc (.cells cs 31)) _ _ (w.heap.size+1) j (by simp)⟩
theorem j8.on {w W0 w1:Wj}{k0:Nat}(h:j8 w W0)(hk:k0<w.heap.size)(hg:W0.grownBy w1 (some k0)):
  (w1.cell? ⟨w.heap.size+1,0,none⟩=some (.int .i64 0)/\w1.cell? ⟨w.heap.size+1,1,none⟩=some (.int .i64 0)/\w1.cell? ⟨w.heap.size+1,2,none⟩=some (.string ⟨#[]⟩)/\w1.cell? ⟨w.heap.size+1,3,none⟩=some (.slice none 0 0)/\w1.cell? ⟨w.heap.size+1,4,none⟩=some (.string ⟨#[]⟩)) /\
  (w1.frozen? ⟨w.heap.size+1,0,none⟩=false/\w1.frozen? ⟨w.heap.size+1,1,none⟩=false/\w1.frozen? ⟨w.heap.size+1,2,none⟩=false/\w1.frozen? ⟨w.heap.size+1,3,none⟩=false/\w1.frozen? ⟨w.heap.size+1,4,none⟩=false):=by
 have hne:∀o,some (⟨w.heap.size+1,o,none⟩:Wu).block≠some k0:=fun o e=>by simp at e;omega
 have hf:∀j,w1.frozen? ⟨w.heap.size+1,j,none⟩=false:=fun j=>(bB hg ⟨w.heap.size+1,j,none⟩ h.lt (hne j)).trans (h.fz j)
 exact ⟨⟨hg.cell h.c0 (hne 0),hg.cell h.c1 (hne 1),hg.cell h.c2 (hne 2),hg.cell h.c3 (hne 3),hg.cell h.c4 (hne 4)⟩,hf 0,hf 1,hf 2,hf 3,hf 4⟩
theorem j8.drew {w W0:Wj}(h:j8 w W0):j8 w W0.drew:=⟨h.below.drew,h.lt,h.c0,h.c1,h.c2,h.c3,h.c4,h.fz⟩
def put5 (w1:Wj)(b:Nat)(x0 x1 x2 a x4:Wx):Wj:=((((w1.setCell ⟨b,0,none⟩ x0).setCell ⟨b,1,none⟩ x1).setCell ⟨b,2,none⟩ x2).setCell ⟨b,3,none⟩ a).setCell ⟨b,4,none⟩ x4
theorem nM {A:Nat->Prop}{w W0 w1:Wj}{k0:Nat}{c:St}{v:Wx}(hk:k0<w.heap.size)(ha:∀b,A b->b≠k0)(i:Below w.heap.size w W0)(hlt:w.heap.size+1<W0.heap.size)(S1:aF (Grow (fun b=>A b/\b<w.heap.size) W0) w1 k0 c)(hg:cH W0 w1 k0)(x0 x1 x2 e x4:Wx):
  dq A w k0 c v (.returned v) (put5 w1 (w.heap.size+1) x0 x1 x2 e x4):=by
 have hne:w.heap.size+1≠k0:=by omega
 have hg1:cH w w1 k0:=qh (d9 hk i) hg;refine ⟨rfl,?_,?_⟩
 .obtain ⟨p,C,d⟩:=S1.cells;unfold put5;refine fY (p:=p) (((((C.far _ _ _ hne).far _ _ _ hne).far _ _ _ hne).far _ _ _ hne).far _ _ _ hne) ?_ (fZ ha hk);refine ak.keep (fun b hb _=>?_) 41 p c.f d;have a:b≠w.heap.size+1:=by
   rcases hb with ⟨⟨_,h⟩,_⟩|h<;>omega
  have hb2:Grow A w b:=by
   rcases hb with ⟨⟨h1,h2⟩,_⟩|h
   .exact Or.inl ⟨h1,h2⟩
   .exact Or.inr (by omega)
  refine ⟨hb2,?_⟩;rw [bS _ _ _ _ a,bS _ _ _ _ a,bS _ _ _ _ a,bS _ _ _ _ a,bS _ _ _ _ a]
 .unfold put5;exact rY (rY (rY (rY (rY hg1 (by omega) _ _) (by omega) _ _) (by omega) _ _) (by omega) _ _) (by omega) _ _
theorem aF.cut {A:Nat->Prop}{w W0:Wj}{k0:Nat}{st:St}(S:aF A w k0 st)(a:Below w.heap.size w W0):aF (fun b=>A b/\b<w.heap.size) W0 k0 st:=by
 obtain ⟨p,C,c⟩:=S.cells;exact fY (p:=p) (C.on a) (ak.keep (fun b h1 h2=>⟨⟨h1,h2⟩,a.block b h2⟩) 41 p st.f c) (fun b h=>S.avoid b h.1)
theorem yc (A:Nat->Prop)(k0:Nat)(st:St)(s:Nat)(o:OpD)(w:Wj)(hk:o.key.size<=maxLen)(i:o.body.size<=maxLen)(S:aF A w k0 st)(k:Inv st s)(hs:s<2199023255340)(a:o.kind=1):
  Calls Yq.prog 33 #[.pointer (some ⟨k0,0,none⟩),bh o] w (dq A w k0 (mN st o.key o.body).1 (aA ⟨(mN st o.key o.body).2.2,(mN st o.key o.body).2.1,⟨#[]⟩⟩)):=by
 obtain ⟨kind,key,body,c,d,n,h⟩:=o;simp only at a hk i;subst a;have R0:=(GA w #[.int .i64 1,.string key,.string body,.string c,.string d,.int .i64 n,.int .i64 h]).drew;have HC:=C7 _ k0 st s key body _ hk i (S.cut R0.below) k hs;have HS:Hid (k0<w.heap.size/\∀b,A b->b≠k0):=⟨S.lt,S.avoid⟩;have f:Hid (j8 w ((w.alloc (.cells #[.int .i64 1,.string key,.string body,.string c,.string d,.int .i64 n,.int .i64 h] 31)).alloc (.cells #[.int .i64 0,.int .i64 0,.string ⟨#[]⟩,.slice none 0 0,.string ⟨#[]⟩] 36)).drew):=R0;clear R0 S;simp only [bh];generalize mN st key body=j at *;go_enter (Yq.nq Tryz.func33),Tryz.ntmps33;go_wp2_with fail
 go_region_with (go_at_call 35;refine HC.mono ?_;rintro e w1 ⟨rfl,S1,hg1⟩;obtain ⟨⟨d0,d1,d2,d3,d4⟩,g0,g1,g2,g3,g4⟩:=f.out.on HS.out.1 hg1.g;have HX:Hid (_/\_):=And.intro S1 hg1;clear S1 hg1 HC)
 all_goals
  go_wp2;refine bodyPost_ret (v:=aA ⟨j.2.2,j.2.1,⟨#[]⟩⟩) (by simp [results,Tryz.results33,go_sem,aA,d0,d1,d2,d3,d4]) rfl ?_;exact nM HS.out.1 HS.out.2 f.out.below f.out.lt HX.out.1 HX.out.2 _ _ _ _ _
theorem uz (A:Nat->Prop)(k0:Nat)(st:St)(s:Nat)(o:OpD)(w:Wj)(hk:o.key.size<=maxLen)(S:aF A w k0 st)(j:Inv st s)(hs:s<2199023255340)(a:o.kind=4):
  Calls Yq.prog 33 #[.pointer (some ⟨k0,0,none⟩),bh o] w (dq A w k0 (fj st o.key).1 (aA ⟨(fj st o.key).2.2,(fj st o.key).2.1,⟨#[]⟩⟩)):=by
 obtain ⟨kind,key,body,c,d,n,h⟩:=o;simp only at a hk;subst a;have R0:=(GA w #[.int .i64 4,.string key,.string body,.string c,.string d,.int .i64 n,.int .i64 h]).drew;have HC:=AB _ k0 st s key _ hk (S.cut R0.below) j hs;have HS:Hid (k0<w.heap.size/\∀b,A b->b≠k0):=⟨S.lt,S.avoid⟩;have f:Hid (j8 w ((w.alloc (.cells #[.int .i64 4,.string key,.string body,.string c,.string d,.int .i64 n,.int .i64 h] 31)).alloc (.cells #[.int .i64 0,.int .i64 0,.string ⟨#[]⟩,.slice none 0 0,.string ⟨#[]⟩] 36)).drew):=R0;clear R0 S;simp only [bh];generalize fj st key=i at *;go_enter (Yq.nq Tryz.func33),Tryz.ntmps33;go_wp2_with fail
 go_region_with (go_at_call 38;refine HC.mono ?_;rintro e w1 ⟨rfl,S1,hg1⟩;obtain ⟨⟨d0,d1,d2,d3,d4⟩,g0,g1,g2,g3,g4⟩:=f.out.on HS.out.1 hg1.g;have HX:Hid (_/\_):=And.intro S1 hg1;clear S1 hg1 HC)
 all_goals
  go_wp2;refine bodyPost_ret (v:=aA ⟨i.2.2,i.2.1,⟨#[]⟩⟩) (by simp [results,Tryz.results33,go_sem,aA,d0,d1,d2,d3,d4]) rfl ?_;exact nM HS.out.1 HS.out.2 f.out.below f.out.lt HX.out.1 HX.out.2 _ _ _ _ _
theorem sk (A:Nat->Prop)(k0:Nat)(st:St)(s:Nat)(o:OpD)(w:Wj)(hk:o.key.size<=maxLen)(S:aF A w k0 st)(j:Inv st s)(hs:s<2199023255340)(a:o.kind=5):
  Calls Yq.prog 33 #[.pointer (some ⟨k0,0,none⟩),bh o] w (dq A w k0 (d7 st o.key o.n).1 (aA ⟨(d7 st o.key o.n).2,0,⟨#[]⟩⟩)):=by
 obtain ⟨kind,key,body,c,d,n,h⟩:=o;simp only at a hk;subst a;have R0:=(GA w #[.int .i64 5,.string key,.string body,.string c,.string d,.int .i64 n,.int .i64 h]).drew;have HC:=ya _ k0 st s key n _ hk (S.cut R0.below) j hs;have HS:Hid (k0<w.heap.size/\∀b,A b->b≠k0):=⟨S.lt,S.avoid⟩;have f:Hid (j8 w ((w.alloc (.cells #[.int .i64 5,.string key,.string body,.string c,.string d,.int .i64 n,.int .i64 h] 31)).alloc (.cells #[.int .i64 0,.int .i64 0,.string ⟨#[]⟩,.slice none 0 0,.string ⟨#[]⟩] 36)).drew):=R0;clear R0 S;simp only [bh];generalize d7 st key n=i at *;go_enter (Yq.nq Tryz.func33),Tryz.ntmps33;go_wp2_with fail
 go_region_with (go_at_call 39;refine HC.mono ?_;rintro e w1 ⟨rfl,S1,hg1⟩;obtain ⟨⟨d0,d1,d2,d3,d4⟩,g0,g1,g2,g3,g4⟩:=f.out.on HS.out.1 hg1.g;have HX:Hid (_/\_):=And.intro S1 hg1;clear S1 hg1 HC)
 all_goals
  go_wp2;refine bodyPost_ret (v:=aA ⟨i.2,0,⟨#[]⟩⟩) (by simp [results,Tryz.results33,go_sem,aA,d0,d1,d2,d3,d4]) rfl ?_;exact nM HS.out.1 HS.out.2 f.out.below f.out.lt HX.out.1 HX.out.2 _ _ _ _ _
theorem sp (A:Nat->Prop)(k0:Nat)(st:St)(o:OpD)(w:Wj)(S:aF A w k0 st)(h:o.kind<1\/12<o.kind):
  Calls Yq.prog 33 #[.pointer (some ⟨k0,0,none⟩),bh o] w (dq A w k0 st (aA ⟨1,0,⟨#[]⟩⟩)):=by
 obtain ⟨a,key,body,delim,past,n,src⟩:=o;simp only at h;have b1:(a==1)=false:=by simp;omega
 have b2:(a==2)=false:=by simp;omega
 have b3:(a==3)=false:=by simp;omega
 have b4:(a==4)=false:=by simp;omega
 have b5:(a==5)=false:=by simp;omega
 have b6:(a==6)=false:=by simp;omega
 have b7:(a==7)=false:=by simp;omega
 have b8:(a==8)=false:=by simp;omega
 have b9:(a==9)=false:=by simp;omega
 have b10:(a==10)=false:=by simp;omega
 have b11:(a==11)=false:=by simp;omega
 have b12:(a==12)=false:=by simp;omega
 have HS:Hid (aF A w k0 st):=S;clear h S;simp only [bh];go_enter (Yq.nq Tryz.func33),Tryz.ntmps33;go_wp2;refine bodyPost_ret (v:=aA ⟨1,0,⟨#[]⟩⟩) (by simp [results,Tryz.results33,go_sem,aA]) rfl ?_;exact bj HS.out (((bR _ w).alloc (lR _) _).alloc (by simp) _)
end
