/- A part. -/
import Derived.Test.YtnapepbdohidgaaGreatDoorQT14
set_option maxHeartbeats 4000000
set_option maxRecDepth 100000
open Go renaming World->Wz,Value->Wq
namespace Go.Proofs.Qw
open Tryz
section
open Go.Conc Go.ConcX Go.ConcX.Gen Go.RowKit
theorem pR (c:Int)(w:Wz):(Instr.build 36 #[(0,.int .i64 c)]).run Yq.prog w=.ok (.agg #[.int .i64 c,.int .i64 0,.string ⟨#[]⟩,.slice none 0 0,.string ⟨#[]⟩]) w:=by kernel_rfl
theorem zu (v:Int)(so:Option Addr)(a sc:Nat)(w:Wz):(Instr.build 36 #[(1,.int .i64 v),(3,.slice so a sc)]).run Yq.prog w=.ok (.agg #[.int .i64 0,.int .i64 v,.string ⟨#[]⟩,.slice so a sc,.string ⟨#[]⟩]) w:=by kernel_rfl
theorem me (c:Int)(so:Option Addr)(a sc:Nat)(t:ByteArray)(w:Wz):(Instr.build 36 #[(0,.int .i64 c),(3,.slice so a sc),(4,.string t)]).run Yq.prog w=.ok (.agg #[.int .i64 c,.int .i64 0,.string ⟨#[]⟩,.slice so a sc,.string t]) w:=by kernel_rfl
section
variable {A:Nat->Prop} {B k0:Nat} {w:Wz} {st:St} {L:Lg}
def cI (w:Wz)(o:OpD):Wz:=(w.alloc (.cells #[.int .i64 o.kind,.string o.key,.string o.body,.string o.delim,.string o.past,.int .i64 o.n,.int .i64 o.src] 31)).alloc (.cells #[.int .i64 0,.int .i64 0,.string ⟨#[]⟩,.slice none 0 0,.string ⟨#[]⟩] 36)
theorem aK (o:OpD):am w (cI w o):=(am.refl.alloc _).alloc _
theorem aL (o:OpD):(cI w o).heap.size=w.heap.size+2:=by simp [cI]
theorem fW (o:OpD):(cI w o).heap[w.heap.size+1]?=some (.cells #[.int .i64 0,.int .i64 0,.string ⟨#[]⟩,.slice none 0 0,.string ⟨#[]⟩] 36):=by
 have:=aN (w.alloc (.cells #[.int .i64 o.kind,.string o.key,.string o.body,.string o.delim,.string o.past,.int .i64 o.n,.int .i64 o.src] 31)) (.cells #[.int .i64 0,.int .i64 0,.string ⟨#[]⟩,.slice none 0 0,.string ⟨#[]⟩] 36)
 rwa [World.size_alloc] at this
theorem fE (o:OpD)(h:dr A B w k0 L):∀g,jS k0 (cI w o) g->g<w.heap.size:=fun g hg=>by
 obtain ⟨v,h1,h2⟩:=hg;obtain ⟨v4,c4,zs,z1,z2,-⟩:=h.opened;rw [(aK o).cell c4] at h1;cases h1;exact (z2.lt g h2).2
theorem kF (o:OpD)(h:dr A B w k0 L){w1:Wz}(hf:FrC k0 (cI w o) w1):w1.heap[w.heap.size+1]?=some (.cells #[.int .i64 0,.int .i64 0,.string ⟨#[]⟩,.slice none 0 0,.string ⟨#[]⟩] 36):=by
 have hlt:=h.lt;rw [hf.keep _ ⟨_,fW o,rfl⟩ (by omega) (fun hx=>by have:=fE o h _ hx;omega)];exact fW o
def Box5 (w1:Wz)(r:Nat):Prop:=
  (w1.cell? ⟨r,0,none⟩=some (.int .i64 0)/\w1.cell? ⟨r,1,none⟩=some (.int .i64 0)/\w1.cell? ⟨r,2,none⟩=some (.string ⟨#[]⟩)/\w1.cell? ⟨r,3,none⟩=some (.slice none 0 0)/\w1.cell? ⟨r,4,none⟩=some (.string ⟨#[]⟩)) /\
  (w1.frozen? ⟨r,0,none⟩=false/\w1.frozen? ⟨r,1,none⟩=false/\w1.frozen? ⟨r,2,none⟩=false/\w1.frozen? ⟨r,3,none⟩=false/\w1.frozen? ⟨r,4,none⟩=false)
theorem box5 {w1:Wz}{r:Nat}(e:w1.heap[r]?=some (.cells #[.int .i64 0,.int .i64 0,.string ⟨#[]⟩,.slice none 0 0,.string ⟨#[]⟩] 36)):Box5 w1 r:=by
 refine ⟨⟨?_,?_,?_,?_,?_⟩,?_,?_,?_,?_,?_⟩<;>simp [World.cell?,World.frozen?,e]
theorem vR (h:aI A B w k0 st L)(l:B<=w.heap.size)(f:L.opened.length<=3)(i:∀x∈L.opened,0<=x.left/\x.left<=10)(o:OpD)(hk:o.kind=9):
  Calls Yq.prog 33 #[.pointer (some ⟨k0,0,none⟩),cE o] w (bi A B k0 w st (cX L o.n).1 ⟨(cX L o.n).2,0,⟨#[]⟩,[],⟨#[]⟩⟩):=by
 have HT:=F1 (cI w o) (h.left (aK o)) f o.n i;have a:∀w1,FrC k0 (cI w o) w1->_:=fun w1 hf=>box5 (kF o h.ls hf)
 have HB:Hid (∀w1,FrC k0 (cI w o) w1->_):=a;have HF:Hid (∀w1 x0 x1 x2 x3 d,aI A B w1 k0 st (cX L o.n).1->em A B k0 (cI w o) w1->FrC k0 (cI w o) w1->bi A B k0 w st (cX L o.n).1 ⟨(cX L o.n).2,0,⟨#[]⟩,[],⟨#[]⟩⟩ (.returned (ji ⟨(cX L o.n).2,0,⟨#[]⟩,[],⟨#[]⟩⟩ (.slice none 0 0))) (put5 w1 (w.heap.size+1) x0 x1 x2 x3 d)):=fun w1 x0 x1 x2 x3 d d1 d2 d3=>by
  obtain ⟨e1,e2,e3,e4⟩:=ma (A':=A) (sv:=.slice none 0 0) (its:=[]) (r:=w.heap.size+1) (aK o) h.ls.lt l (by omega) (by rw [aL];omega) ⟨_,fW o,rfl⟩ (fun _ h=>h) (fun b hb=>.inl hb) h.ls.inn d1 d2 d3 (fE o h.ls) ⟨none,0,rfl,fun _=>rfl,fun h=>absurd rfl h⟩ x0 x1 x2 x3 d;exact ⟨_,rfl,A,fun _ h=>h,e1,e2,e3,e4⟩
 have hb1:=pR;have HD:Hid (aI A B w k0 st L):=h;generalize k:(cX L o.n)=R at *;obtain ⟨L',c⟩:=R;simp only at HT HF ⊢;obtain ⟨kind,key,body,delim,past,n,src⟩:=o;simp only at hk;subst hk;unfold cI at HT HF HB;clear h a k;unfold cE;go_enter (Yq.nq func33),ntmps33;go_wp2_with (go_at_call 45;refine HT.mono ?_;clear HT;rintro e w1 ⟨rfl,d1,d2,d3⟩;obtain ⟨⟨b0,j,b2,b3,b4⟩,f0,f1,f2,f3,f4⟩:=HB.out w1 d3)
 exact bodyPost_ret (v:=ji ⟨c,0,⟨#[]⟩,[],⟨#[]⟩⟩ (.slice none 0 0)) (by simp [results,results33,go_sem,ji,b0,j,b2,b3,b4]) rfl (HF.out w1 _ _ _ _ _ d1 d2 d3)
end
section
variable {A:Nat->Prop} {B k0:Nat} {w W w2:Wz} {st st':St} {L L':Lg} {o:OpD} {its:List ItD} {sv:Wq}
theorem DW (h:dr A B w k0 L)(hl:am (cI w o) W)(hp:ba A B k0 W L' its sv w2):w2.heap[w.heap.size+1]?=some (.cells #[.int .i64 0,.int .i64 0,.string ⟨#[]⟩,.slice none 0 0,.string ⟨#[]⟩] 36):=by
 obtain ⟨A',-,-,-,-,-,hf⟩:=hp;have hlt:=h.lt;exact kF o h ((FrC.left (by rw [aL];omega) hl).trans hf)
theorem mf (L:Lg)(f:List UInt8->List Ver)(q:Qy)(n:Int):(eP L f q n).1.tm=L.tm:=by
 unfold eP
 repeat' split
 all_goals rfl
theorem xE (L:Lg)(a:ByteArray):(fD L a).1.tm=L.tm:=by
 unfold fD
 repeat' split
 all_goals rfl
theorem DX (h:aI A B w k0 st L)(f:B<=w.heap.size)(hl:am (cI w o) W)(hp:ba A B k0 W L' its sv w2)(a:js)(ha:a.items=its)(ht:L'.tm=L.tm)(x0 x1 x2 x3 e:Wq):bi A B k0 w st L' a (.returned (ji a sv)) (put5 w2 (w.heap.size+1) x0 x1 x2 x3 e):=by
 subst ha;obtain ⟨A',d,a2,a3,a4,a5,i⟩:=hp;have hlt:=h.ls.lt;have hdW:=h.left ((aK o).trans hl);have hsW:=hl.size;have d1:=hdW.step a4 d a3 ht;have c:k0<(cI w o).heap.size:=by rw [aL];omega
 obtain ⟨e1,e2,e3,e4⟩:=ma (A':=A') (sv:=sv) (its:=a.items) (r:=w.heap.size+1) (aK o) hlt f (by omega) (by rw [aL];omega) ⟨_,fW o,rfl⟩ d (fun b hb=>(a2 b hb).imp id (by omega)) h.ls.inn d1 ((em.left c hl).trans a4.weak) ((FrC.left c hl).trans i) (fE o h.ls) a5 x0 x1 x2 x3 e;exact ⟨_,rfl,A',d,e1,e2,e3,e4⟩
theorem BG (h:aI A B w k0 st L)(y:B<=w.heap.size)(hl:am (cI w o) W)(hp:ba A B k0 W L' its sv w2)(a:js)(ha:a.items=its)(ht:L'.tm=L.tm)(bb:Nat)(hb1:w.heap.size+2<=bb)(hb2:bb<W.heap.size)(m:cw W bb)(y0 y1 x0 x1 x2 x3 u:Wq):bi A B k0 w st L' a (.returned (ji a sv)) (put5 ((w2.setCell ⟨bb,0,none⟩ y0).setCell ⟨bb,1,none⟩ y1) (w.heap.size+1) x0 x1 x2 x3 u):=by
 subst ha;obtain ⟨A',s,a2,a3,a4,a5,t⟩:=hp;have hlt:=h.ls.lt;have hlow:=h.ls.low;have hdW:=h.left ((aK o).trans hl);have hsW:=hl.size;have d1:=hdW.step a4 s a3 ht;have n:k0<(cI w o).heap.size:=by rw [aL];omega
 have d:¬A' bb:=fun hx=>by
  rcases a2 bb hx with hx|hx
  .have:=h.ls.inn bb hx;omega
  .omega
 have i:¬jS k0 W bb:=by
  rintro ⟨v,h1,h2⟩;obtain ⟨v4,c4,zs,z1,z2,-⟩:=h.ls.opened;rw [((aK o).trans hl).cell c4] at h1;cases h1;have:=(z2.lt bb h2).2;omega
 have f:¬jS k0 w2 bb:=fun hx=>by
  rcases t.own bb hx with hx|hx
  .exact i hx
  .omega
 have hc2:cw w2 bb:=m.same (t.keep bb m (by omega) i);have p:¬jS k0 (w2.setCell ⟨bb,0,none⟩ y0) bb:=by
  rintro ⟨v,h1,h2⟩;exact f ⟨v,(cB (a:=⟨k0,4,none⟩) (bS _ _ _ _ (show k0≠bb by omega))).symm.trans h1,h2⟩
 have c:bb≠k0:=by omega
 have d2:=(d1.other (j:=0) (x:=y0) c d hc2 f (by omega)).other (j:=1) (x:=y1) c d hc2.set p (by omega);have q:∀b,b≠bb->((w2.setCell ⟨bb,0,none⟩ y0).setCell ⟨bb,1,none⟩ y1).heap[b]?=w2.heap[b]?:=fun b hb=>by rw [bS _ _ _ _ hb,bS _ _ _ _ hb]
 have k:¬A bb:=fun hx=>d (s bb hx)
 have l:em A B k0 (cI w o) ((w2.setCell ⟨bb,0,none⟩ y0).setCell ⟨bb,1,none⟩ y1):=(((em.left n hl).trans a4.weak).trans (aJ.other c k (by omega)).weak).trans (aJ.other c k (by omega)).weak;have hfr:FrC k0 (cI w o) ((w2.setCell ⟨bb,0,none⟩ y0).setCell ⟨bb,1,none⟩ y1):=(((FrC.left n hl).trans t).fresh (by rw [aL];omega) c).fresh (by rw [aL];omega) c;obtain ⟨e1,e2,e3,e4⟩:=ma (A':=A') (sv:=sv) (its:=a.items) (r:=w.heap.size+1) (aK o) hlt y (by omega) (by rw [aL];omega) ⟨_,fW o,rfl⟩ s (fun b hb=>(a2 b hb).imp id (by omega)) h.ls.inn d2 l hfr (fE o h.ls) (bG.keep a5 fun b hb _=>⟨hb,q b (fun e=>d (e▸hb))⟩) x0 x1 x2 x3 u;exact ⟨_,rfl,A',s,e1,e2,e3,e4⟩
end
def ix (a:List ByteArray)(src:Int)(body:ByteArray):ByteArray:=
 if 0<=src/\src<a.length then (if a[src.toNat]?.getD ⟨#[]⟩=⟨#[]⟩ then body else a[src.toNat]?.getD ⟨#[]⟩) else body
noncomputable def vS:Array Oper:=nW (gN (gN (cy (bu Tryz.f44))))
noncomputable def vT:Array Oper:=nW (gN (gN (cy (bu Tryz.f50))))
def Ie (ops:Array Oper)(s so j i1 i2:Nat)(lv:Wq)(b:Bool):Prop:=
 (ops=vS/\j=8/\i1=so+s * 5/\i2=so+s * 5+4/\∃t:ByteArray,lv=.string t/\b=!(t.toList == []))\/(ops=vT/\j=7/\i1=so+s * 7/\i2=so+s * 7/\∃t:Int,lv=.int .i64 t/\b=(t==11))
theorem xF {id m:Nat}{Q:Exit->Act->Wz->Prop}{a0:Act}{W:Wz}{k0 bo g0 n cp s so j i1 i2:Nat}{src:Int}{ops:Array Oper}{lv:Wq}{b:Bool}(hs:a0.tmps.size=32)(e0:a0.eval (.tmp 0)=ptr k0)(e3:a0.eval (.tmp 3)=ptr bo)(c6:W.cell? ⟨bo,6,none⟩=some (.int .i64 src))(l:Ie ops s so j i1 i2 lv b)(c8:W.cell? ⟨k0,j,none⟩=some (.slice (some ⟨g0,so,none⟩) n cp))(q:src=s)(u:s<n)(ct:W.cell? ⟨g0,i2,none⟩=some lv)
  (hA:Calls Yq.prog 73 #[ptr k0,.int .i64 src] {W with drawn:=W.drawn+1} fun e w'=>e=.returned (.bool true)/\w'={W with drawn:=W.drawn+1})
  (hend:∀a,a.tmps.size=32->a.defers=a0.defers->(∀t,t<5->a.eval (.tmp t)=a0.eval (.tmp t))->a.eval (.tmp 20)=.bool b->Q .normal a {W with drawn:=W.drawn+1}):
  (Code.region id ops true).wpIn (wf none) m Yq.prog Q a0 W:=by
 obtain ⟨W1,hW1⟩:∃W1:Wz,W1={W with drawn:=W.drawn+1}:=⟨_,rfl⟩;rw [<-hW1] at hA hend;have p:∀a,W1.cell? a=W.cell? a:=fun a=>by rw [hW1];rfl
 have B:W1.cell? ⟨bo,6,none⟩=some (.int .i64 src):=(p _).trans c6;have d8:W1.cell? ⟨k0,j,none⟩=some (.slice (some ⟨g0,so,none⟩) n cp):=(p _).trans c8;have z:W1.cell? ⟨bo,6,none⟩=some (.int .i64 (s:Int)):=by rw [B,q]
 have C:W1.cell? ⟨g0,i2,none⟩=some lv:=(p _).trans ct;obtain ⟨r,ho4,y⟩:∃r,ops[4]?=some r/\r.dst=some 9:=by rcases l with ⟨rfl,-⟩|⟨rfl,-⟩<;>exact ⟨_,rfl,rfl⟩
 rcases l with ⟨rfl,A,h1,h2,t,hlv,hb⟩|⟨rfl,A,h1,h2,t,hlv,hb⟩;all_goals
  refine fT (ro:=none) (a0:=a0) (w0:=W) mixed 5 16 (fun i=>match i with| 0=>ptr k0| 1=>.pointer (some ⟨bo,6,none⟩)| 2=>.int .i64 src| 3=>.bool true| 4=>.bool true| 5=>ptr k0| 6=>ptr k0| 7=>.pointer (some ⟨k0,j,none⟩)| 8=>.slice (some ⟨g0,so,none⟩) n cp| 9=>.pointer (some ⟨bo,6,none⟩)| 10=>.int .i64 (s:Int)| 11=>.pointer (some ⟨g0,i1,none⟩)| 12=>.pointer (some ⟨g0,i2,none⟩)| 13=>lv|_=>.bool b) (fun _ w=>w=W1) (by omega) (by rfl) (by rfl) (fun listed a w i o hi ho V k hcl=>?_) (fun a w h1 h2 h3 h4 h5=>?_) (by rw [hW1])
  rotate_left
  .obtain ⟨d,-,rfl⟩:=h5;exact hend a (h1.trans hs) h2 h3 (h4 15 (by omega) (by decide))
  obtain rfl:w=W1:=V.world;have hlt:i<16:=(cz hi).1;have HY:=fun h=>jd (a:=a) (x:=true) ho4 y (by rw [V.size,hs];omega) (V.new 4 (by omega) h)
  rcases i with - | - | - | - | - | - | - | - | - | - | - | - | - | - | - | - |i;all_goals first|omega|(have ho1:=ho;dsimp only [vS,vT,bu,Tryz.f44,Tryz.f50,gN,cy,nW,Option.getD] at ho1;simp only [gA,gS,gZ,oI,Nat.reduceAdd,zA] at ho1;subst ho1)
  .have q0:a.eval (.tmp 0)=ptr k0:=(V.old 0 (by omega)).trans e0;refine an ho rfl (fun c h=>by cases h) (v:=ptr k0) (w':=w) (by generalize a.eval=ρ at q0 ⊢;simp [go_sem,q0]) ⟨_,rfl,fun _=>rfl,V.world⟩
  .have q0:a.eval (.tmp 3)=ptr bo:=(V.old 3 (by omega)).trans e3;refine an ho rfl (fun c h=>by cases h) (v:=.pointer (some ⟨bo,6,none⟩)) (w':=w) (by generalize a.eval=ρ at q0 ⊢;simp [go_sem,q0,ptr]) ⟨_,rfl,fun _=>rfl,V.world⟩
  .have q0:a.eval (.tmp 6)=.pointer (some ⟨bo,6,none⟩):=V.new 1 (by omega) (k ⟨1,.data⟩ (by simp) rfl);refine an ho rfl (fun c h=>by cases h) (v:=.int .i64 src) (w':=w) (by generalize a.eval=ρ at q0 ⊢;simp [go_sem,q0,B]) ⟨_,rfl,fun _=>rfl,V.world⟩
  .have q0:a.eval (.tmp 5)=ptr k0:=V.new 0 (by omega) (k ⟨0,.data⟩ (by simp) rfl);have q1:a.eval (.tmp 7)=.int .i64 src:=V.new 2 (by omega) (k ⟨2,.data⟩ (by simp) rfl);refine iO (f:=73) (args:=#[ptr k0,.int .i64 src]) (w':=w) ho rfl (fun c h=>by cases h) (by have qf:=hfun a rfl 73;generalize a.eval=ρ at q0 q1 qf ⊢;simp [go_sem,q0,q1,qf]) (hA.mono ?_);rintro e X ⟨rfl,rfl⟩;exact ⟨_,rfl,_,rfl,fun _=>rfl,V.world⟩
  .have q0:a.eval (.tmp 8)=.bool true:=V.new 3 (by omega) (k ⟨3,.data⟩ (by simp) rfl);refine an ho rfl (fun c h=>by cases h) (v:=.bool true) (w':=w) (by generalize a.eval=ρ at q0 ⊢;simp [go_sem,q0]) ⟨_,rfl,fun _=>rfl,V.world⟩
  .have q0:a.eval (.tmp 0)=ptr k0:=(V.old 0 (by omega)).trans e0;refine an ho (by simp [Region.wanted,HY (k ⟨4,.guard⟩ (by simp) rfl)]) (fun c h=>by cases h) (v:=ptr k0) (w':=w) (by generalize a.eval=ρ at q0 ⊢;simp [go_sem,q0]) ⟨_,rfl,fun _=>rfl,V.world⟩
  .have q0:a.eval (.tmp 10)=ptr k0:=V.new 5 (by omega) (k ⟨5,.data⟩ (by simp) rfl);refine an ho (by simp [Region.wanted,HY (k ⟨4,.guard⟩ (by simp) rfl)]) (fun c h=>by cases h) (v:=ptr k0) (w':=w) (by generalize a.eval=ρ at q0 ⊢;simp [go_sem,q0,ptr]) ⟨_,rfl,fun _=>rfl,V.world⟩
  .have q0:a.eval (.tmp 11)=ptr k0:=V.new 6 (by omega) (k ⟨6,.data⟩ (by simp) rfl);refine an ho (by simp [Region.wanted,HY (k ⟨4,.guard⟩ (by simp) rfl)]) (fun c h=>by cases h) (v:=.pointer (some ⟨k0,j,none⟩)) (w':=w) (by generalize a.eval=ρ at q0 ⊢;simp [go_sem,q0,ptr,A]) ⟨_,rfl,fun _=>rfl,V.world⟩
  .have q0:a.eval (.tmp 12)=.pointer (some ⟨k0,j,none⟩):=V.new 7 (by omega) (k ⟨7,.data⟩ (by simp) rfl);refine an ho (by simp [Region.wanted,HY (k ⟨4,.guard⟩ (by simp) rfl)]) (fun c h=>by cases h) (v:=.slice (some ⟨g0,so,none⟩) n cp) (w':=w) (by generalize a.eval=ρ at q0 ⊢;simp [go_sem,q0,d8]) ⟨_,rfl,fun _=>rfl,V.world⟩
  .have q0:a.eval (.tmp 3)=ptr bo:=(V.old 3 (by omega)).trans e3;refine an ho (by simp [Region.wanted,HY (k ⟨4,.guard⟩ (by simp) rfl)]) (fun c h=>by cases h) (v:=.pointer (some ⟨bo,6,none⟩)) (w':=w) (by generalize a.eval=ρ at q0 ⊢;simp [go_sem,q0,ptr]) ⟨_,rfl,fun _=>rfl,V.world⟩
  .have q0:a.eval (.tmp 14)=.pointer (some ⟨bo,6,none⟩):=V.new 9 (by omega) (k ⟨9,.data⟩ (by simp) rfl);refine an ho (by simp [Region.wanted,HY (k ⟨4,.guard⟩ (by simp) rfl)]) (fun c h=>by cases h) (v:=.int .i64 (s:Int)) (w':=w) (by generalize a.eval=ρ at q0 ⊢;simp [go_sem,q0,z]) ⟨_,rfl,fun _=>rfl,V.world⟩
  .have q0:a.eval (.tmp 13)=.slice (some ⟨g0,so,none⟩) n cp:=V.new 8 (by omega) (k ⟨8,.data⟩ (by simp) rfl);have q1:a.eval (.tmp 15)=.int .i64 (s:Int):=V.new 10 (by omega) (k ⟨10,.data⟩ (by simp) rfl);refine an ho (by simp [Region.wanted,HY (k ⟨4,.guard⟩ (by simp) rfl)]) (fun c h=>by cases h) (v:=.pointer (some ⟨g0,i1,none⟩)) (w':=w) (by generalize a.eval=ρ at q0 q1 ⊢;simp [go_sem,q0,q1,u,h1]) ⟨_,rfl,fun _=>rfl,V.world⟩
  .have q0:a.eval (.tmp 16)=.pointer (some ⟨g0,i1,none⟩):=V.new 11 (by omega) (k ⟨11,.data⟩ (by simp) rfl);refine an ho (by simp [Region.wanted,HY (k ⟨4,.guard⟩ (by simp) rfl)]) (fun c h=>by cases h) (v:=.pointer (some ⟨g0,i2,none⟩)) (w':=w) (by generalize a.eval=ρ at q0 ⊢;simp [go_sem,q0,h1,h2]) ⟨_,rfl,fun _=>rfl,V.world⟩
  .have q0:a.eval (.tmp 17)=.pointer (some ⟨g0,i2,none⟩):=V.new 12 (by omega) (k ⟨12,.data⟩ (by simp) rfl);refine an ho (by simp [Region.wanted,HY (k ⟨4,.guard⟩ (by simp) rfl)]) (fun c h=>by cases h) (v:=lv) (w':=w) (by generalize a.eval=ρ at q0 ⊢;simp [go_sem,q0,C,hlv]) ⟨_,rfl,fun _=>rfl,V.world⟩
  .have q0:a.eval (.tmp 18)=lv:=V.new 13 (by omega) (k ⟨13,.data⟩ (by simp) rfl);have q1:∀c,a.eval (.const c)=c:=fun _=>rfl
   refine an ho (by simp [Region.wanted,HY (k ⟨4,.guard⟩ (by simp) rfl)]) (fun c h=>by cases h) (v:=.bool b) (w':=w) (by generalize a.eval=ρ at q0 q1 ⊢;simp [go_sem,q0,q1,hlv,hb]) ⟨_,rfl,fun _=>rfl,V.world⟩
  .have q0:a.eval (.tmp 9)=.bool true:=V.new 4 (by omega) (k ⟨4,.data⟩ (by simp) rfl);have q1:a.eval (.tmp 19)=.bool b:=V.new 14 (by omega) (k ⟨14,.data⟩ (by simp) rfl);have q2:a.eval (.const (.bool false))=.bool false:=rfl;refine an ho rfl (fun c h=>by cases h) (v:=.bool b) (w':=w) (by generalize a.eval=ρ at q0 q1 q2 ⊢;simp [go_sem,q0,q1,q2]) ⟨_,rfl,fun _=>rfl,V.world⟩
theorem G6 {id m:Nat}{Q:Exit->Act->Wz->Prop}{a0:Act}{W:Wz}{k0 bo  :Nat}{src:Int}{ops:Array Oper}  (hs:a0.tmps.size=32)(e0:a0.eval (.tmp 0)=ptr k0)(e3:a0.eval (.tmp 3)=ptr bo)(c6:W.cell? ⟨bo,6,none⟩=some (.int .i64 src))(j:ops=vS\/ops=vT)
  (hA:Calls Yq.prog 73 #[ptr k0,.int .i64 src] {W with drawn:=W.drawn+1} fun e w'=>e=.returned (.bool false)/\w'={W with drawn:=W.drawn+1})
  (hend:∀a,a.tmps.size=32->a.defers=a0.defers->(∀t,t<5->a.eval (.tmp t)=a0.eval (.tmp t))->a.eval (.tmp 20)=.bool false->Q .normal a {W with drawn:=W.drawn+1}):
  (Code.region id ops true).wpIn (wf none) m Yq.prog Q a0 W:=by
 obtain ⟨W1,hW1⟩:∃W1:Wz,W1={W with drawn:=W.drawn+1}:=⟨_,rfl⟩;rw [<-hW1] at hA hend;have l:∀a,W1.cell? a=W.cell? a:=fun a=>by rw [hW1];rfl
 have p:W1.cell? ⟨bo,6,none⟩=some (.int .i64 src):=(l _).trans c6;obtain ⟨k,ho4,n⟩:∃k,ops[4]?=some k/\k.dst=some 9:=by rcases j with rfl|rfl<;>exact ⟨_,rfl,rfl⟩
 rcases j with rfl|rfl;all_goals
  refine fT (ro:=none) (a0:=a0) (w0:=W) mixed 5 16 (fun i=>match i with| 0=>ptr k0| 1=>.pointer (some ⟨bo,6,none⟩)| 2=>.int .i64 src| 3=>.bool false| 4=>.bool false| 15=>.bool false|_=>undef) (fun _ w=>w=W1) (by omega) (by rfl) (by rfl) (fun listed a w i o hi ho V b hcl=>?_) (fun a w h1 h2 h3 h4 h5=>?_) (by rw [hW1])
  rotate_left
  .obtain ⟨d,-,rfl⟩:=h5;exact hend a (h1.trans hs) h2 h3 (h4 15 (by omega) (by decide))
  obtain rfl:w=W1:=V.world;have hlt:i<16:=(cz hi).1;have HY:=fun h=>jd (a:=a) (x:=false) ho4 n (by rw [V.size,hs];omega) (V.new 4 (by omega) h)
  rcases i with - | - | - | - | - | - | - | - | - | - | - | - | - | - | - | - |i;all_goals first|omega|(have ho1:=ho;dsimp only [vS,vT,bu,Tryz.f44,Tryz.f50,gN,cy,nW,Option.getD] at ho1;simp only [gA,gS,gZ,oI,Nat.reduceAdd,zA] at ho1;subst ho1)
  .have q0:a.eval (.tmp 0)=ptr k0:=(V.old 0 (by omega)).trans e0;refine an ho rfl (fun c h=>by cases h) (v:=ptr k0) (w':=w) (by generalize a.eval=ρ at q0 ⊢;simp [go_sem,q0]) ⟨_,rfl,fun _=>rfl,V.world⟩
  .have q0:a.eval (.tmp 3)=ptr bo:=(V.old 3 (by omega)).trans e3;refine an ho rfl (fun c h=>by cases h) (v:=.pointer (some ⟨bo,6,none⟩)) (w':=w) (by generalize a.eval=ρ at q0 ⊢;simp [go_sem,q0,ptr]) ⟨_,rfl,fun _=>rfl,V.world⟩
  .have q0:a.eval (.tmp 6)=.pointer (some ⟨bo,6,none⟩):=V.new 1 (by omega) (b ⟨1,.data⟩ (by simp) rfl);refine an ho rfl (fun c h=>by cases h) (v:=.int .i64 src) (w':=w) (by generalize a.eval=ρ at q0 ⊢;simp [go_sem,q0,p]) ⟨_,rfl,fun _=>rfl,V.world⟩
  .have q0:a.eval (.tmp 5)=ptr k0:=V.new 0 (by omega) (b ⟨0,.data⟩ (by simp) rfl);have q1:a.eval (.tmp 7)=.int .i64 src:=V.new 2 (by omega) (b ⟨2,.data⟩ (by simp) rfl);refine iO (f:=73) (args:=#[ptr k0,.int .i64 src]) (w':=w) ho rfl (fun c h=>by cases h) (by have qf:=hfun a rfl 73;generalize a.eval=ρ at q0 q1 qf ⊢;simp [go_sem,q0,q1,qf]) (hA.mono ?_);rintro e X ⟨rfl,rfl⟩;exact ⟨_,rfl,_,rfl,fun _=>rfl,V.world⟩
  .have q0:a.eval (.tmp 8)=.bool false:=V.new 3 (by omega) (b ⟨3,.data⟩ (by simp) rfl);refine an ho rfl (fun c h=>by cases h) (v:=.bool false) (w':=w) (by generalize a.eval=ρ at q0 ⊢;simp [go_sem,q0]) ⟨_,rfl,fun _=>rfl,V.world⟩
  iterate 10 exact sR ho (by simp [Region.wanted,HY (b ⟨4,.guard⟩ (by simp) rfl)]) ⟨_,rfl,fun _=>rfl,V.world⟩
  .have q0:a.eval (.tmp 9)=.bool false:=V.new 4 (by omega) (b ⟨4,.data⟩ (by simp) rfl);have q2:a.eval (.const (.bool false))=.bool false:=rfl;refine an ho rfl (fun c h=>by cases h) (v:=.bool false) (w':=w) (by generalize a.eval=ρ at q0 q2 ⊢;simp [go_sem,q0,q2]) ⟨_,rfl,fun _=>rfl,V.world⟩
theorem DY (k0 g0 c:Nat)(d:List ByteArray)(o:OpD)(w:Wz)(hn:d.length<=2199023255552)(c8:w.cell? ⟨k0,8,none⟩=some (.slice (some ⟨g0,0,none⟩) d.length c))(ht:∀s (hs:s<d.length),w.cell? ⟨g0,s * 5+4,none⟩=some (.string d[s])):
  Calls Yq.prog 44 #[.pointer (some ⟨k0,0,none⟩),cE o] w fun e w'=>e=.returned (.string (ix d o.src o.body))/\Below w.heap.size w w':=by
 obtain ⟨p,key,body,k,q,n,src⟩:=o;have hlt:k0<w.heap.size:=bC w _ c8;obtain ⟨W,v⟩:∃W,W=w.alloc (.cells #[.int .i64 p,.string key,.string body,.string k,.string q,.int .i64 n,.int .i64 src] 31):=⟨_,rfl⟩;have f:Below w.heap.size w W:=by rw [v];exact (bR _ _).alloc (lR _) _
 have r:Below w.heap.size w {W with drawn:=W.drawn+1}:=⟨f.os,f.tape,f.output,f.size,f.block⟩;have d8:=aj f c8;have HA:=xC k0 (some ⟨g0,0,none⟩) d.length c src {W with drawn:=W.drawn+1} hn (aj r c8);have l:W.heap[w.heap.size]?=some (.cells #[.int .i64 p,.string key,.string body,.string k,.string q,.int .i64 n,.int .i64 src] 31):=by rw [v];exact aN _ _
 have y:W.cell? ⟨w.heap.size,6,none⟩=some (.int .i64 src):=by simp [World.cell?,l]
 have HB:Hid (Below w.heap.size w W/\W.cell? ⟨k0,8,none⟩=some (.slice (some ⟨g0,0,none⟩) d.length c)/\W.cell? ⟨w.heap.size,6,none⟩=some (.int .i64 src)):=⟨f,d8,y⟩;have HW:Hid (W=w.alloc (.cells #[.int .i64 p,.string key,.string body,.string k,.string q,.int .i64 n,.int .i64 src] 31)):=v;have hr2:({W with drawn:=W.drawn+1}:Wz).cell? ⟨w.heap.size,2,none⟩=some (.string body):=by
  show W.cell? _=_;simp [World.cell?,l]
 have B:({W with drawn:=W.drawn+1}:Wz).cell? ⟨w.heap.size,6,none⟩=some (.int .i64 src):=y;have A:({W with drawn:=W.drawn+1}:Wz).cell? ⟨k0,8,none⟩=some (.slice (some ⟨g0,0,none⟩) d.length c):=d8;obtain ⟨D,hD⟩:∃D:Wz,D={W with drawn:=W.drawn+1}:=⟨_,rfl⟩;have h:Hid (D={W with drawn:=W.drawn+1}/\Below w.heap.size w D):=⟨hD,by rw [hD];exact r⟩;rw [<-hD] at hr2 B A HA;unfold cE;simp only;by_cases ha:0<=src/\src<d.length
 .have hd:decide (0<=src/\src<d.length)=true:=by simp [ha]
  rw [hd] at HA;obtain ⟨s,rfl⟩:∃s:Nat,src=s:=⟨src.toNat,by omega⟩;have hs:s<d.length:=by omega
  have c4:=ht s hs;have ct:=aj f c4;have ctD:D.cell? ⟨g0,s * 5+4,none⟩=some (.string d[s]):=by rw [hD];exact ct
  have e0:d[(s:Int).toNat]?.getD ⟨#[]⟩=d[s]:=by simp [hs]
  have z:ix d s body=if d[s]=⟨#[]⟩ then body else d[s]:=by rw [ix,if_pos ha,e0]
  rw [z];generalize d[s]=t at *;clear v f r d8 y l ht c8 c4 hD;by_cases htk:t=⟨#[]⟩
  .have u:(!(t.toList == []))=false:=by rw [htk];simp
   rw [if_pos htk];go_enter (Yq.nq func44),ntmps44
   go_upto_region 1 with fail
   rename_i K1 hK1 K2 i;rw [<-HW.out];refine wpIn_wide.1 (show Code.wpIn (wf none) 0 _ _ _ _ _ from xF (id:=1) (m:=0) (s:=s) (so:=0) (j:=8) (i1:=0+s * 5) (i2:=0+s * 5+4) (lv:=.string t) (b:=!(t.toList == [])) (ops:=vS) rfl rfl rfl HB.out.2.2 (.inl ⟨rfl,rfl,rfl,rfl,t,rfl,rfl⟩) HB.out.2.1 rfl hs (by rw [zA];exact ct) (by rw [<-h.out.1];exact HA) (fun a h1 h2 h3 h4=>?_));rw [<-h.out.1];have h2:a.defers=[]:=h2;have ha:=iQ a 32 h1;rw [u] at h4;have f0:a.eval (.tmp 0)=.pointer (some ⟨k0,0,none⟩):=h3 0 (by decide);have f3:a.eval (.tmp 3)=.pointer (some ⟨w.heap.size,0,none⟩):=h3 3 (by decide);refine i _ _ ?_;rw [ha,h2];clear ha h1 h2 h3;generalize a.eval=ρ at f0 f3 h4 ⊢;simp only [List.range,List.range.loop,List.map_cons,List.map_nil,f0,f3,h4];clear f0 f3 h4 i K2 HA ct;go_wp2_with fail
   go_ret;exact ⟨rfl,h.out.2⟩
  .have x:¬t.toList=[]:=fun hx=>by
    have:(t==(⟨#[]⟩:ByteArray))=true:=by rw [beq_toListBytes];simpa using hx
    exact htk ((MapKept.bytes_beq _ _).1 this)
   have u:(!(t.toList == []))=true:=by simpa using x
   rw [if_neg htk];go_enter (Yq.nq func44),ntmps44
   go_upto_region 1 with fail
   rename_i K1 hK1 K2 i;rw [<-HW.out];refine wpIn_wide.1 (show Code.wpIn (wf none) 0 _ _ _ _ _ from xF (id:=1) (m:=0) (s:=s) (so:=0) (j:=8) (i1:=0+s * 5) (i2:=0+s * 5+4) (lv:=.string t) (b:=!(t.toList == [])) (ops:=vS) rfl rfl rfl HB.out.2.2 (.inl ⟨rfl,rfl,rfl,rfl,t,rfl,rfl⟩) HB.out.2.1 rfl hs (by rw [zA];exact ct) (by rw [<-h.out.1];exact HA) (fun a h1 h2 h3 h4=>?_));rw [<-h.out.1];have h2:a.defers=[]:=h2;have ha:=iQ a 32 h1;rw [u] at h4;have f0:a.eval (.tmp 0)=.pointer (some ⟨k0,0,none⟩):=h3 0 (by decide);have f3:a.eval (.tmp 3)=.pointer (some ⟨w.heap.size,0,none⟩):=h3 3 (by decide);refine i _ _ ?_;rw [ha,h2];clear ha h1 h2 h3;generalize a.eval=ρ at f0 f3 h4 ⊢;simp only [List.range,List.range.loop,List.map_cons,List.map_nil,f0,f3,h4];clear f0 f3 h4 i K2 HA ct;have h1i:¬((s:Int)<0):=by omega
   go_wp2_with fail
   go_region
   all_goals
    go_wp2;go_ret;exact ⟨rfl,h.out.2.drew⟩
 .have hd:decide (0<=src/\src<d.length)=false:=by simpa using ha
  rw [hd] at HA;have z:ix d src body=body:=by rw [ix,if_neg ha]
  rw [z];clear v f r d8 y l ht c8 hD;go_enter (Yq.nq func44),ntmps44
  go_upto_region 1 with fail
  rename_i K1 hK1 K2 i;rw [<-HW.out];refine wpIn_wide.1 (show Code.wpIn (wf none) 0 _ _ _ _ _ from G6 (id:=1) (m:=0) (ops:=vS) rfl rfl rfl HB.out.2.2 (.inl rfl) (by rw [<-h.out.1];exact HA) (fun a h1 h2 h3 h4=>?_));rw [<-h.out.1];have h2:a.defers=[]:=h2;have ha:=iQ a 32 h1;have f0:a.eval (.tmp 0)=.pointer (some ⟨k0,0,none⟩):=h3 0 (by decide);have f3:a.eval (.tmp 3)=.pointer (some ⟨w.heap.size,0,none⟩):=h3 3 (by decide);refine i _ _ ?_;rw [ha,h2];clear ha h1 h2 h3;generalize a.eval=ρ at f0 f3 h4 ⊢;simp only [List.range,List.range.loop,List.map_cons,List.map_nil,f0,f3,h4];clear f0 f3 h4 i K2 HA;go_wp2_with fail
  go_ret;exact ⟨rfl,h.out.2⟩
theorem bj {P:Program}{ops:Array Oper}{o:Oper}{a:Act}{w:Wz}{K:Act->Wz->Prop}{Q:Exit->Act->Wz->Prop}{E:Prop}
  (hg:o.guard=none) (f:FuncId) (xs:Array Operand) (ts:Array TypeId) (c:o.op=Op.call {callee:=Callee.value (.func f),args:=xs,argTypes:=ts})
  (args:Array Wq) (hx:xs.map a.eval=args) (b:(callFunc f args).run P w=.ok (.enter f args) w)
  (R:Wq->Wz->Prop) (i:Calls P f args w fun e w'=>∃v,e=.returned v/\R v w') (h:∀v w',R v w'->K (a.put o.dst v) w'):
  if Region.wanted o (yielded ops a.tmps)=true then Oper.wp P o a w K Q else E:=by
 have hw:Region.wanted o (yielded ops a.tmps)=true:=by simp [Region.wanted,hg]
 rw [if_pos hw];subst hx;unfold Oper.wp;have e:(execOp a.eval o).run P w=.ok (.enter f (xs.map a.eval)) w:=by
  have e1:execOp a.eval o=(do let d <-resolve a.eval {callee:=Callee.value (.func f),args:=xs,argTypes:=ts} o.type;invoke d.target d.args):=by simp only [execOp,c]
  rw [e1];simpa [resolve,Deferred.ofValue,Act.eval,invoke] using b
 rw [e,Oper.upon_enter];refine i.mono ?_;rintro e w' ⟨v,rfl,hr⟩;exact h v w' hr
theorem ak {w:Wz}{b j:Nat}{v:Wq}(h:w.cell? ⟨b,j,none⟩=some v)(O:Obj):(w.alloc O).cell? ⟨b,j,none⟩=some v:=by
 exact (am.refl.alloc O).cell h
theorem aq {w:Wz}{b j:Nat}{v:Wq}{f:Bool}(h:w.cell? ⟨b,j,none⟩=some v)(hf:w.frozen? ⟨b,j,none⟩=f)(O:Obj):(w.alloc O).frozen? ⟨b,j,none⟩=f:=by
 have hlt:b<w.heap.size:=by
  rcases Nat.lt_or_ge b w.heap.size with h1|h1
  .exact h1
  .simp [World.cell?,Array.getElem?_eq_none h1] at h
 have e:=(am.refl.alloc O (w:=w)).block b hlt;rw [<-hf];simp only [World.frozen?,e]
theorem ba.alloc {A:Nat->Prop}{B k0:Nat}{w w':Wz}{L':Lg}{its:List ItD}{sv:Wq}(h:ba A B k0 w L' its sv w')(O:Obj):ba A B k0 w L' its sv (w'.alloc O):=by
 obtain ⟨A',a,a2,a3,a4,a5,c⟩:=h;have hl:am w' (w'.alloc O):=am.refl.alloc O;have hlt:=a3.lt;exact ⟨A',a,a2,a3.left hl,a4.trans (aJ.left hlt hl),bG.keep a5 fun b hb hlt=>⟨hb,hl.block b hlt⟩,c.trans (FrC.left hlt hl)⟩
section
variable {A:Nat->Prop} {B k0:Nat} {w:Wz} {st:St} {L:Lg}
structure Hw (A:Nat->Prop)(B k0:Nat)(w:Wz)(st:St)(o:OpD)(R:Lg×List ItD×ByteArray×Int):Prop where
 bx:∀W w2 bb,am (cI w o) W->∀ {its:List ItD} {sv:Wq} {L':Lg},ba A B k0 W L' its sv w2->w.heap.size+2<=bb->W.heap[bb]?=some (.cells #[.slice none 0 0,.string ⟨#[]⟩] 88)->w2.cell? ⟨bb,0,none⟩=some (.slice none 0 0)/\w2.cell? ⟨bb,1,none⟩=some (.string ⟨#[]⟩)/\w2.frozen? ⟨bb,0,none⟩=false/\w2.frozen? ⟨bb,1,none⟩=false
 b5:∀W w2,am (cI w o) W->∀ {sv:Wq},ba A B k0 W R.1 R.2.1 sv w2->Box5 w2 (w.heap.size+1)
 la:∀W w2 so sn sc,am (cI w o) W->ba A B k0 W R.1 R.2.1 (.slice so sn sc) w2->∀x0 x1 x2 x3 x4 O,bi A B k0 w st R.1 ⟨R.2.2.2,0,⟨#[]⟩,R.2.1,R.2.2.1⟩ (.returned (ji ⟨R.2.2.2,0,⟨#[]⟩,R.2.1,R.2.2.1⟩ (.slice so sn sc))) (put5 (w2.alloc O) (w.heap.size+1) x0 x1 x2 x3 x4)
 lb:∀W w2 so sn sc,am (cI w o) W->ba A B k0 W R.1 R.2.1 (.slice so sn sc) w2->∀bb,w.heap.size+2<=bb->W.heap[bb]?=some (.cells #[.slice none 0 0,.string ⟨#[]⟩] 88)->∀y0 y1 x0 x1 x2 x3 x4,bi A B k0 w st R.1 ⟨R.2.2.2,0,⟨#[]⟩,R.2.1,R.2.2.1⟩ (.returned (ji ⟨R.2.2.2,0,⟨#[]⟩,R.2.1,R.2.2.1⟩ (.slice so sn sc))) (put5 ((w2.setCell ⟨bb,0,none⟩ y0).setCell ⟨bb,1,none⟩ y1) (w.heap.size+1) x0 x1 x2 x3 x4)
theorem BH (h:aI A B w k0 st L)(d:B<=w.heap.size)(o:OpD)(R:Lg×List ItD×ByteArray×Int)(a:R.1.tm=L.tm):Hw A B k0 w st o R where
 bx:=fun W w2 bb hl its sv L' hp hbb b=>by
  obtain ⟨A',-,-,-,-,-,hf⟩:=hp;have hlt:=h.ls.lt;have e:w2.heap[bb]?=some (.cells #[.slice none 0 0,.string ⟨#[]⟩] 88):=by
   rw [hf.keep bb ⟨_,b,rfl⟩ (by omega) ?_]
   .exact b
   .rintro ⟨v,h1,h2⟩;obtain ⟨v4,c4,zs,z1,z2,-⟩:=h.ls.opened;rw [((aK o).trans hl).cell c4] at h1;cases h1;have:=(z2.lt bb h2).2;omega
  exact ⟨by simp [World.cell?,e],by simp [World.cell?,e],by simp [World.frozen?,e],by simp [World.frozen?,e]⟩
 b5:=fun W w2 hl sv hp=>box5 (DW h.ls hl hp)
 la:=fun W w2 so f sc hl hp x0 x1 x2 x3 c O=>DX h d hl (hp.alloc O) _ rfl a x0 x1 x2 x3 c
 lb:=fun W w2 so f sc hl hp bb h1 h2 y0 y1 x0 x1 x2 x3 c=>BG h d hl hp _ rfl a bb h1 (eS h2).1 ⟨_,h2,rfl⟩ y0 y1 x0 x1 x2 x3 c
theorem vU (Qok:Qy->Prop)(hQ:∀q,Qok q->ii q/\ij q)(h:aI A B w k0 st L)(S:B<=w.heap.size)(O:L.opened.length<=3)(o:OpD)(hk:o.kind=8)(g0 cp:Nat)(d:List ByteArray)(hn:d.length<=2199023255552)(c8:w.cell? ⟨k0,8,none⟩=some (.slice (some ⟨g0,0,none⟩) d.length cp))(ht:∀s (hs:s<d.length),w.cell? ⟨g0,s * 5+4,none⟩=some (.string d[s]))
  (C:∀x∈L.opened,Qok x.q/\gt (cu x.f x.q.p.data.toList)<=1000/\x.q.p.size<=maxLen) (K:∀D n pg,eN D L.told=some (n,pg)->0<=pg/\pg<2199023255552) (G:Wz->Prop) (J:∀w',G w'->cU w') (hG:∀w',aJ A B k0 w w'->G w') (Q:∀D n pg,eN D L.told=some (n,pg)->(lW n L.opened).isSome=true->kE G n (pg+1)):
  Calls Yq.prog 33 #[.pointer (some ⟨k0,0,none⟩),cE o] w fun e w'=>bi A B k0 w st (fD L (ix d o.src o.body)).1 ⟨(fD L (ix d o.src o.body)).2.2.2,0,⟨#[]⟩,(fD L (ix d o.src o.body)).2.1,(fD L (ix d o.src o.body)).2.2.1⟩ e w'\/Stop Qok e w':=by
 obtain ⟨tk,htk⟩:∃tk,tk=ix d o.src o.body:=⟨_,rfl⟩;obtain ⟨R,M⟩:∃R,R=fD L tk:=⟨_,rfl⟩;have m:Hid (∀W,am (cI w o) W->Calls Yq.prog 44 #[.pointer (some ⟨k0,0,none⟩),cE o] W fun e w'=>∃v,e=.returned v/\(v=.string tk/\Below W.heap.size W w')):=fun W hl=>by
  have hlw:=(aK o).trans hl;refine (DY k0 g0 cp d o W hn (hlw.cell c8) (fun s hs=>hlw.cell (ht s hs))).mono ?_;rintro e w' ⟨rfl,hb⟩;exact ⟨_,rfl,by rw [htk],hb⟩
 have l:Hid (∀W,am (cI w o) W->Calls Yq.prog 43 #[.pointer (some ⟨k0,4,none⟩),.string tk] W fun e w'=>(∃v,e=.returned v/\∃so u sc,v=.tuple #[.agg #[.slice so u sc,.string R.2.2.1],.int .i64 R.2.2.2]/\ba A B k0 W R.1 R.2.1 (.slice so u sc) w')\/∃ch,e=.panicked ch/\Stop Qok (.panicked ch) w'):=fun W hl=>by
  have hd:=h.left ((aK o).trans hl);have hs:=((aK o).trans hl).size;refine (F2 Qok hQ W hd.ls (by omega) tk O C (K tk) G J (fun w' P=>hG w' ((aJ.left h.ls.lt ((aK o).trans hl)).trans P)) (Q tk)).mono ?_;rw [<-M];rintro e w' (⟨sv,rfl,hp⟩|hst)
  .obtain ⟨A',V,a2,a3,a4,⟨so,sc,rfl,T⟩,U⟩:=hp;exact .inl ⟨_,rfl,so,_,sc,rfl,A',V,a2,a3,a4,⟨so,sc,rfl,T⟩,U⟩
  .obtain ⟨a,b,r,rfl,hst⟩:=hst;exact .inr ⟨_,rfl,a,b,r,rfl,hst⟩
 rw [<-htk,<-M];have i:Hid (∀ (f:Nat) (args:Array Wq) (N:Wz),(f=43\/f=44)->(callFunc f args).run Yq.prog N=.ok (.enter f args) N):=fun f args N hf=>by rcases hf with rfl|rfl<;>go_simp
 have HD:Hid (aI A B w k0 st L):=h;have HPG:=BH h S o R (by rw [M];exact xE _ _);have t:Hid _:=HPG.bx;have z:Hid (∀w1,Below ((cI w o).alloc (.cells #[.slice none 0 0,.string ⟨#[]⟩] 88)).drew.heap.size ((cI w o).alloc (.cells #[.slice none 0 0,.string ⟨#[]⟩] 88)).drew w1->w1.heap[w.heap.size+1+1]?=some (.cells #[.slice none 0 0,.string ⟨#[]⟩] 88)):=fun w1 hb=>by
  have:=aN (cI w o) (.cells #[.slice none 0 0,.string ⟨#[]⟩] 88);rw [aL] at this;exact (hb.block _ (by simp [aL])).trans this
 have k:Hid (∀w1,Below (cI w o).drew.heap.size (cI w o).drew w1->w.heap.size+2<=w1.heap.size):=fun w1 hb=>by
  have:=hb.size;have e:(cI w o).drew.heap.size=w.heap.size+2:=aL o;omega
 have j:Hid _:=HPG.b5;have F:Hid _:=HPG.la;have y:Hid _:=HPG.lb;have hb3:=me;clear htk M HPG;obtain ⟨kind,key,body,E,I,n,src⟩:=o;simp only at hk;subst hk;unfold cI at m l t z k j F y;clear h c8 ht C K Q hG J hQ;unfold cE at m ⊢;go_enter (Yq.nq func33),ntmps33;go_wp2_with fail
 go_region_law (first
  |(refine bj rfl 44 #[.tmp 124,.tmp 125] #[77,31] rfl #[.pointer (some ⟨k0,0,none⟩),.agg #[.int .i64 8,.string key,.string body,.string E,.string I,.int .i64 n,.int .i64 src]] (by simp [Act.eval]) (i.out _ _ _ (Or.inr rfl)) _ (m.out _ (by first|exact am.refl.drew|exact (am.refl.alloc _).drew)) ?_;rintro v w1 ⟨rfl,hb1⟩)
  |(refine bW rfl 43 #[.tmp 123,.tmp 126] #[63,9] rfl #[.pointer (some ⟨k0,4,none⟩),.string tk] (by simp [Act.eval]) (i.out _ _ _ (Or.inl rfl)) _ (fun ch w'=>Stop Qok (.panicked ch) w') (l.out _ (am.refl.drew.trans (.below hb1))) (fun ch w' hs=>⟨rfl,Or.inr hs⟩) ?_;rintro v w2 ⟨so,u,sc,rfl,c⟩;obtain ⟨⟨t0,t1,t2,t3,t4⟩,u0,u1,u2,u3,u4⟩:=j.out _ w2 (am.refl.drew.trans (.below hb1)) c;have HFA:=F.out _ w2 so u sc (am.refl.drew.trans (.below hb1)) c;have q0:=ak t0;have q1:=ak t1;have q2:=ak t2;have q3:=ak t3;have q4:=ak t4;have p0:=aq t0 u0;have p1:=aq t1 u1;have p2:=aq t2 u2;have p3:=aq t3 u3;have p4:=aq t4 u4;clear c hb1)
  |(refine bW rfl 43 #[.tmp 123,.tmp 126] #[63,9] rfl #[.pointer (some ⟨k0,4,none⟩),.string tk] (by simp [Act.eval]) (i.out _ _ _ (Or.inl rfl)) _ (fun ch w'=>Stop Qok (.panicked ch) w') (l.out _ ((am.refl.alloc _).drew.trans (.below hb1))) (fun ch w' hs=>⟨rfl,Or.inr hs⟩) ?_;rintro v w2 ⟨so,u,sc,rfl,c⟩;obtain ⟨v0,v1,o0,o1⟩:=t.out w1 w2 (w.heap.size+1+1) ((am.refl.alloc _).drew.trans (.below hb1)) c (by omega) (z.out _ hb1);obtain ⟨⟨t0,t1,t2,t3,t4⟩,u0,u1,u2,u3,u4⟩:=j.out _ w2 ((am.refl.alloc _).drew.trans (.below hb1)) c;have HFA:=y.out _ w2 so u sc ((am.refl.alloc _).drew.trans (.below hb1)) c (w.heap.size+1+1) (by omega) (z.out _ hb1);clear c hb1)
  |(refine bW rfl 43 #[.tmp 123,.tmp 126] #[63,9] rfl #[.pointer (some ⟨k0,4,none⟩),.string tk] (by simp [Act.eval]) (i.out _ _ _ (Or.inl rfl)) _ (fun ch w'=>Stop Qok (.panicked ch) w') (l.out _ ((am.refl.drew.trans (.below hb1)).alloc _)) (fun ch w' hs=>⟨rfl,Or.inr hs⟩) ?_;rintro v w2 ⟨so,u,sc,rfl,c⟩;obtain ⟨v0,v1,o0,o1⟩:=t.out _ w2 w1.heap.size ((am.refl.drew.trans (.below hb1)).alloc _) c (k.out _ hb1) (aN w1 _);obtain ⟨⟨t0,t1,t2,t3,t4⟩,u0,u1,u2,u3,u4⟩:=j.out _ w2 ((am.refl.drew.trans (.below hb1)).alloc _) c;have HFA:=y.out _ w2 so u sc ((am.refl.drew.trans (.below hb1)).alloc _) c w1.heap.size (k.out _ hb1) (aN w1 _);have H:w.heap.size+1≠w1.heap.size:=(by have:=k.out _ hb1;omega);have hne2:w1.heap.size≠w.heap.size+1:=H.symm;clear c hb1))
 all_goals
  go_wp2
 all_goals clear m l t z k j F y i HD
 all_goals
  refine bodyPost_ret (v:=ji ⟨R.2.2.2,0,⟨#[]⟩,R.2.1,R.2.2.1⟩ (.slice so u sc)) ?_ rfl (.inl ?_)
  .clear HFA;first
    |simp [results,results33,go_sem,ji,q0,q1,q2,q3,q4]
    |simp [results,results33,go_sem,ji,t0,t1,t2,t3,t4]
    |simp [results,results33,go_sem,ji,t0,t1,t2,t3,t4]
  .unfold put5 at HFA;refine HFA ..
end
section
variable {A:Nat->Prop} {B k0:Nat} {w w':Wz} {st st':St} {L:Lg}
theorem dr.grown (h:dr A B w k0 L)(hg:bU w w' k0)(hf:∀j,w'.frozen? ⟨k0,j,none⟩=false){A':Nat->Prop}(h1:∀b,A b->A' b)(h2:∀b,A' b->A b\/w.heap.size<=b)(h3:∀b,A' b->b<w'.heap.size):dr A' B w' k0 L:=by
 have hlt:=h.lt;have hlow:=h.low;have hne:∀b,b<w.heap.size->b≠k0->w'.heap[b]?=w.heap[b]?:=fun b hb hk=>hg.g.block b hb (fun e=>hk (oJ e))
 have hno:∀g,g<w.heap.size->¬A g->¬A' g:=fun g hg ha hx=>by
  rcases h2 g hx with h|h
  .exact ha h
  .omega
 obtain ⟨v,c4,zs,z1,z2,z3,z4⟩:=h.opened;obtain ⟨d,c6,hm⟩:=h.told;refine ⟨⟨v,(hg.t 4 (by omega)).trans c4,zs,z1,aZ z2 fun g h1 hg=>hne g hg (by omega),fun g hg=>hno g (z2.lt g hg).2 (z3 g hg),fun z hz=>ai.keep (fun b hb hlt=>⟨h1 b hb,hne b hlt (fun e=>h.avoid (e▸hb))⟩) 41 _ _ (z4 z hz)⟩,(hg.t 5 (by omega)).trans h.begun,⟨d,(hg.t 6 (by omega)).trans c6,?_⟩,hf,hno k0 hlt h.avoid,h.low,h3⟩;rcases hm with hm|⟨m,es,a,m1,m2,m3,c,f⟩
 .exact .inl hm
 .have hml:=(eS m2).1;exact .inr ⟨m,es,a,m1,(hne m hml (by omega)).trans m2,m3,hno m hml c,f⟩
theorem DZ (h:aI A B w k0 st L){r:St×GV}{e:Ending}(hp:dq A w k0 r.1 (dv r.2) e w'):bi A B k0 w r.1 L ⟨r.2.code,r.2.ver,r.2.body,[],⟨#[]⟩⟩ e w':=by
 obtain ⟨rfl,hS,hg⟩:=hp;have hlt:=h.ls.lt;have hsz:=hg.g.size;have a:∀b,A b->Grow A w b/\b<w'.heap.size:=fun b hb=>⟨.inl ⟨hb,h.ls.inn b hb⟩,by have:=h.ls.inn b hb;omega⟩
 have c:∀b,(Grow A w b/\b<w'.heap.size)->A b\/w.heap.size<=b:=fun b hb=>hb.1.imp (·.1) id
 have hne:∀b,b<w.heap.size->b≠k0->w'.heap[b]?=w.heap[b]?:=fun b hb hk=>hg.g.block b hb (fun e=>hk (oJ e))
 have c3:=h.time;obtain ⟨p,c0,d⟩:=hS.tree;refine ⟨.slice none 0 0,rfl,fun b=>Grow A w b/\b<w'.heap.size,a,c,⟨⟨fun b hb=>hS.avoid b hb.1,⟨p,c0,ai.keep (fun b hb hlt=>⟨⟨hb,hlt⟩,rfl⟩) 41 _ _ d⟩,hS.count,hS.last,hS.frozen⟩,h.ls.grown hg hS.frozen a c (fun b hb=>hb.2),(hg.t 3 (by omega)).trans c3⟩,⟨hg.g.os,hsz,fun b _ h2 h3=>hne b h2 h3,fun b hb h2=>hne b h2 (fun e=>h.ls.avoid (e▸hb)),fun j hj=>hg.t j (by omega),fun j=>(hS.frozen j).trans (h.store.frozen j).symm⟩,none,0,rfl,fun _=>rfl,fun hx=>absurd rfl hx⟩
theorem zv (h:aI A B w k0 st L)(s:Nat)(o:OpD)(hk:o.key.size<=maxLen)(hbd:o.body.size<=maxLen)(a:Inv st s)(hs:s<2199023255340)(h6:o.kind<6\/12<o.kind):
  Calls Yq.prog 33 #[.pointer (some ⟨k0,0,none⟩),cE o] w (bi A B k0 w (bf st o).1 L ⟨(bf st o).2.code,(bf st o).2.ver,(bf st o).2.body,[],⟨#[]⟩⟩):=
 (zq A k0 st s o w hk hbd h.store a hs h6).mono fun _ _ hp=>DZ h hp
end
end
