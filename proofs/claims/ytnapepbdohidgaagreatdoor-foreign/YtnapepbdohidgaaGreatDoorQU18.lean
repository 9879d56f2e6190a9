/- A part. -/
import Derived.Test.YtnapepbdohidgaaGreatDoorQU17
set_option maxHeartbeats 4000000
set_option maxRecDepth 100000
open Go renaming World->Wz,Value->Wq
namespace Go.Proofs.Qw
section
open Go
open Go.Conc Go.ConcX Go.ConcX.Gen Go.RowKit
theorem o5 (c:Int)(w:Wz):(Instr.build 36 #[(0,.int .i64 c)]).run Yq.prog w=.ok (.agg #[.int .i64 c,.int .i64 0,.string ⟨#[]⟩,.slice none 0 0,.string ⟨#[]⟩]) w:=by kernel_rfl
theorem yr (v:Int)(so:Option Addr)(sn sc:Nat)(w:Wz):(Instr.build 36 #[(1,.int .i64 v),(3,.slice so sn sc)]).run Yq.prog w=.ok (.agg #[.int .i64 0,.int .i64 v,.string ⟨#[]⟩,.slice so sn sc,.string ⟨#[]⟩]) w:=by kernel_rfl
theorem lh (c:Int)(so:Option Addr)(sn sc:Nat)(t:ByteArray)(w:Wz):(Instr.build 36 #[(0,.int .i64 c),(3,.slice so sn sc),(4,.string t)]).run Yq.prog w=.ok (.agg #[.int .i64 c,.int .i64 0,.string ⟨#[]⟩,.slice so sn sc,.string t]) w:=by kernel_rfl
section
variable {A:Nat->Prop} {B k0:Nat} {w:Wz} {st:St} {L:Lg}
def cx (w:Wz)(o:OpD):Wz:=(w.alloc (.cells #[.int .i64 o.kind,.string o.key,.string o.body,.string o.delim,.string o.past,.int .i64 o.n,.int .i64 o.src] 31)).alloc (.cells #[.int .i64 0,.int .i64 0,.string ⟨#[]⟩,.slice none 0 0,.string ⟨#[]⟩] 36)
theorem aK (o:OpD):ak w (cx w o):=(ak.refl.alloc _).alloc _
theorem aL (o:OpD):(cx w o).heap.size=w.heap.size+2:=by simp [cx]
theorem fD (o:OpD):(cx w o).heap[w.heap.size+1]?=some (.cells #[.int .i64 0,.int .i64 0,.string ⟨#[]⟩,.slice none 0 0,.string ⟨#[]⟩] 36):=by
 have:=aN (w.alloc (.cells #[.int .i64 o.kind,.string o.key,.string o.body,.string o.delim,.string o.past,.int .i64 o.n,.int .i64 o.src] 31)) (.cells #[.int .i64 0,.int .i64 0,.string ⟨#[]⟩,.slice none 0 0,.string ⟨#[]⟩] 36)
 rwa [World.size_alloc] at this
theorem fg (o:OpD)(h:dh A B w k0 L):∀g,jw k0 (cx w o) g->g<w.heap.size:=fun g hg=>by
 obtain ⟨v,h1,h2⟩:=hg;obtain ⟨v4,c4,zs,z1,z2,-⟩:=h.opened;rw [(aK o).cell c4] at h1;cases h1;exact (z2.lt g h2).2
theorem jZ (o:OpD)(h:dh A B w k0 L){w1:Wz}(hf:FrC k0 (cx w o) w1):w1.heap[w.heap.size+1]?=some (.cells #[.int .i64 0,.int .i64 0,.string ⟨#[]⟩,.slice none 0 0,.string ⟨#[]⟩] 36):=by
 have hlt:=h.lt;rw [hf.keep _ ⟨_,fD o,rfl⟩ (by omega) (fun hx=>by have:=fg o h _ hx;omega)];exact fD o
def Box5 (w1:Wz)(r:Nat):Prop:=
  (w1.cell? ⟨r,0,none⟩=some (.int .i64 0)/\w1.cell? ⟨r,1,none⟩=some (.int .i64 0)/\w1.cell? ⟨r,2,none⟩=some (.string ⟨#[]⟩)/\w1.cell? ⟨r,3,none⟩=some (.slice none 0 0)/\w1.cell? ⟨r,4,none⟩=some (.string ⟨#[]⟩)) /\
  (w1.frozen? ⟨r,0,none⟩=false/\w1.frozen? ⟨r,1,none⟩=false/\w1.frozen? ⟨r,2,none⟩=false/\w1.frozen? ⟨r,3,none⟩=false/\w1.frozen? ⟨r,4,none⟩=false)
theorem box5 {w1:Wz}{r:Nat}(e:w1.heap[r]?=some (.cells #[.int .i64 0,.int .i64 0,.string ⟨#[]⟩,.slice none 0 0,.string ⟨#[]⟩] 36)):Box5 w1 r:=by
 refine ⟨⟨?_,?_,?_,?_,?_⟩,?_,?_,?_,?_,?_⟩<;>simp [World.cell?,World.frozen?,e]
theorem uP (h:aH A B w k0 st L)(hB:B<=w.heap.size)(hop:L.opened.length<=3)(hlf:∀x∈L.opened,0<=x.left/\x.left<=10)(o:OpD)(hk:o.kind=9):
  Calls Yq.prog 33 #[.pointer (some ⟨k0,0,none⟩),cj o] w (bg A B k0 w st (iC L o.n).1 ⟨(iC L o.n).2,0,⟨#[]⟩,[],⟨#[]⟩⟩):=by
 have HT:=E6 (cx w o) (h.left (aK o)) hop o.n hlf;have hbx:∀w1,FrC k0 (cx w o) w1->_:=fun w1 hf=>box5 (jZ o h.ls hf)
 have HB:Hid (∀w1,FrC k0 (cx w o) w1->_):=hbx;have HF:Hid (∀w1 x0 x1 x2 x3 x4,aH A B w1 k0 st (iC L o.n).1->dR A B k0 (cx w o) w1->FrC k0 (cx w o) w1->bg A B k0 w st (iC L o.n).1 ⟨(iC L o.n).2,0,⟨#[]⟩,[],⟨#[]⟩⟩ (.returned (iS ⟨(iC L o.n).2,0,⟨#[]⟩,[],⟨#[]⟩⟩ (.slice none 0 0))) (put5 w1 (w.heap.size+1) x0 x1 x2 x3 x4)):=fun w1 x0 x1 x2 x3 x4 d1 d2 d3=>by
  obtain ⟨e1,e2,e3,e4⟩:=kZ (A':=A) (sv:=.slice none 0 0) (its:=[]) (r:=w.heap.size+1) (aK o) h.ls.lt hB (by omega) (by rw [aL];omega) ⟨_,fD o,rfl⟩ (fun _ h=>h) (fun b hb=>.inl hb) h.ls.inn d1 d2 d3 (fg o h.ls) ⟨none,0,rfl,fun _=>rfl,fun h=>absurd rfl h⟩ x0 x1 x2 x3 x4;exact ⟨_,rfl,A,fun _ h=>h,e1,e2,e3,e4⟩
 have hb1:=o5;have HD:Hid (aH A B w k0 st L):=h;generalize hR:(iC L o.n)=R at *;obtain ⟨L',c⟩:=R;simp only at HT HF ⊢;obtain ⟨kind,key,body,delim,past,n,src⟩:=o;simp only at hk;subst hk;unfold cx at HT HF HB;clear h hbx hR;unfold cj;go_enter (Yq.nq Tryz.func33),Tryz.ntmps33;go_wp2_with (go_at_call 45;refine HT.mono ?_;clear HT;rintro e w1 ⟨rfl,d1,d2,d3⟩;obtain ⟨⟨b0,b1,b2,b3,b4⟩,f0,f1,f2,f3,f4⟩:=HB.out w1 d3)
 exact bodyPost_ret (v:=iS ⟨c,0,⟨#[]⟩,[],⟨#[]⟩⟩ (.slice none 0 0)) (by simp [results,Tryz.results33,go_sem,iS,b0,b1,b2,b3,b4]) rfl (HF.out w1 _ _ _ _ _ d1 d2 d3)
end
section
variable {A:Nat->Prop} {B k0:Nat} {w W w2:Wz} {st st':St} {L L':Lg} {o:OpD} {its:List ItD} {sv:Wq}
theorem C5 (h:dh A B w k0 L)(hl:ak (cx w o) W)(hp:bc A B k0 W L' its sv w2):w2.heap[w.heap.size+1]?=some (.cells #[.int .i64 0,.int .i64 0,.string ⟨#[]⟩,.slice none 0 0,.string ⟨#[]⟩] 36):=by
 obtain ⟨A',-,-,-,-,-,hf⟩:=hp;have hlt:=h.lt;exact jZ o h ((FrC.left (by rw [aL];omega) hl).trans hf)
theorem AP (L:Lg)(f:List UInt8->List Ver)(q:Qy)(n:Int):(gu L f q n).1.tm=L.tm:=by
 unfold gu
 repeat' split
 all_goals rfl
theorem C6 (L:Lg)(tok:ByteArray):(fM L tok).1.tm=L.tm:=by
 unfold fM
 repeat' split
 all_goals rfl
theorem C7 (h:aH A B w k0 st L)(hB:B<=w.heap.size)(hl:ak (cx w o) W)(hp:bc A B k0 W L' its sv w2)(a:iE)(ha:a.items=its)(ht:L'.tm=L.tm)(x0 x1 x2 x3 x4:Wq):bg A B k0 w st L' a (.returned (iS a sv)) (put5 w2 (w.heap.size+1) x0 x1 x2 x3 x4):=by
 subst ha;obtain ⟨A',a1,a2,a3,a4,a5,a6⟩:=hp;have hlt:=h.ls.lt;have hdW:=h.left ((aK o).trans hl);have hsW:=hl.size;have d1:=hdW.step a4 a1 a3 ht;have hkw:k0<(cx w o).heap.size:=by rw [aL];omega
 obtain ⟨e1,e2,e3,e4⟩:=kZ (A':=A') (sv:=sv) (its:=a.items) (r:=w.heap.size+1) (aK o) hlt hB (by omega) (by rw [aL];omega) ⟨_,fD o,rfl⟩ a1 (fun b hb=>(a2 b hb).imp id (by omega)) h.ls.inn d1 ((dR.left hkw hl).trans a4.weak) ((FrC.left hkw hl).trans a6) (fg o h.ls) a5 x0 x1 x2 x3 x4;exact ⟨_,rfl,A',a1,e1,e2,e3,e4⟩
theorem AQ (h:aH A B w k0 st L)(hB:B<=w.heap.size)(hl:ak (cx w o) W)(hp:bc A B k0 W L' its sv w2)(a:iE)(ha:a.items=its)(ht:L'.tm=L.tm)(bb:Nat)(hb1:w.heap.size+2<=bb)(hb2:bb<W.heap.size)(hbc:ce W bb)(y0 y1 x0 x1 x2 x3 x4:Wq):bg A B k0 w st L' a (.returned (iS a sv)) (put5 ((w2.setCell ⟨bb,0,none⟩ y0).setCell ⟨bb,1,none⟩ y1) (w.heap.size+1) x0 x1 x2 x3 x4):=by
 subst ha;obtain ⟨A',a1,a2,a3,a4,a5,a6⟩:=hp;have hlt:=h.ls.lt;have hlow:=h.ls.low;have hdW:=h.left ((aK o).trans hl);have hsW:=hl.size;have d1:=hdW.step a4 a1 a3 ht;have hkw:k0<(cx w o).heap.size:=by rw [aL];omega
 have hnA:¬A' bb:=fun hx=>by
  rcases a2 bb hx with hx|hx
  .have:=h.ls.inn bb hx;omega
  .omega
 have hnoW:¬jw k0 W bb:=by
  rintro ⟨v,h1,h2⟩;obtain ⟨v4,c4,zs,z1,z2,-⟩:=h.ls.opened;rw [((aK o).trans hl).cell c4] at h1;cases h1;have:=(z2.lt bb h2).2;omega
 have hno2:¬jw k0 w2 bb:=fun hx=>by
  rcases a6.own bb hx with hx|hx
  .exact hnoW hx
  .omega
 have hc2:ce w2 bb:=hbc.same (a6.keep bb hbc (by omega) hnoW);have hno3:¬jw k0 (w2.setCell ⟨bb,0,none⟩ y0) bb:=by
  rintro ⟨v,h1,h2⟩;exact hno2 ⟨v,(cB (a:=⟨k0,4,none⟩) (bS _ _ _ _ (show k0≠bb by omega))).symm.trans h1,h2⟩
 have hbk:bb≠k0:=by omega
 have d2:=(d1.other (j:=0) (x:=y0) hbk hnA hc2 hno2 (by omega)).other (j:=1) (x:=y1) hbk hnA hc2.set hno3 (by omega);have hset:∀b,b≠bb->((w2.setCell ⟨bb,0,none⟩ y0).setCell ⟨bb,1,none⟩ y1).heap[b]?=w2.heap[b]?:=fun b hb=>by rw [bS _ _ _ _ hb,bS _ _ _ _ hb]
 have hA1':¬A bb:=fun hx=>hnA (a1 bb hx)
 have hdw2:dR A B k0 (cx w o) ((w2.setCell ⟨bb,0,none⟩ y0).setCell ⟨bb,1,none⟩ y1):=(((dR.left hkw hl).trans a4.weak).trans (aI.other hbk hA1' (by omega)).weak).trans (aI.other hbk hA1' (by omega)).weak;have hfr:FrC k0 (cx w o) ((w2.setCell ⟨bb,0,none⟩ y0).setCell ⟨bb,1,none⟩ y1):=(((FrC.left hkw hl).trans a6).fresh (by rw [aL];omega) hbk).fresh (by rw [aL];omega) hbk;obtain ⟨e1,e2,e3,e4⟩:=kZ (A':=A') (sv:=sv) (its:=a.items) (r:=w.heap.size+1) (aK o) hlt hB (by omega) (by rw [aL];omega) ⟨_,fD o,rfl⟩ a1 (fun b hb=>(a2 b hb).imp id (by omega)) h.ls.inn d2 hdw2 hfr (fg o h.ls) (bD.keep a5 fun b hb _=>⟨hb,hset b (fun e=>hnA (e▸hb))⟩) x0 x1 x2 x3 x4;exact ⟨_,rfl,A',a1,e1,e2,e3,e4⟩
end
def gW (toks:List ByteArray)(src:Int)(body:ByteArray):ByteArray:=
 if 0<=src/\src<toks.length then (if toks[src.toNat]?.getD ⟨#[]⟩=⟨#[]⟩ then body else toks[src.toNat]?.getD ⟨#[]⟩) else body
noncomputable def uQ:Array Oper:=nt (fI (fI (bB (aZ Tryz.f44))))
noncomputable def uR:Array Oper:=nt (fI (fI (bB (aZ Tryz.f50))))
def GZ (ops:Array Oper)(s so j i1 i2:Nat)(lv:Wq)(b:Bool):Prop:=
 (ops=uQ/\j=8/\i1=so+s * 5/\i2=so+s * 5+4/\∃t:ByteArray,lv=.string t/\b=!(t.toList == []))\/(ops=uR/\j=7/\i1=so+s * 7/\i2=so+s * 7/\∃t:Int,lv=.int .i64 t/\b=(t==11))
theorem wB {id m:Nat}{Q:Exit->Act->Wz->Prop}{a0:Act}{W:Wz}{k0 bo g0 n cp s so j i1 i2:Nat}{src:Int}{ops:Array Oper}{lv:Wq}{b:Bool}(hs:a0.tmps.size=32)(e0:a0.eval (.tmp 0)=ptr k0)(e3:a0.eval (.tmp 3)=ptr bo)(c6:W.cell? ⟨bo,6,none⟩=some (.int .i64 src))(hops:GZ ops s so j i1 i2 lv b)(c8:W.cell? ⟨k0,j,none⟩=some (.slice (some ⟨g0,so,none⟩) n cp))(hsrc:src=s)(hsn:s<n)(ct:W.cell? ⟨g0,i2,none⟩=some lv)
  (hA:Calls Yq.prog 73 #[ptr k0,.int .i64 src] {W with drawn:=W.drawn+1} fun e w'=>e=.returned (.bool true)/\w'={W with drawn:=W.drawn+1})
  (hend:∀a,a.tmps.size=32->a.defers=a0.defers->(∀t,t<5->a.eval (.tmp t)=a0.eval (.tmp t))->a.eval (.tmp 20)=.bool b->Q .normal a {W with drawn:=W.drawn+1}):
  (Code.region id ops true).wpIn (wf none) m Yq.prog Q a0 W:=by
 obtain ⟨W1,hW1⟩:∃W1:Wz,W1={W with drawn:=W.drawn+1}:=⟨_,rfl⟩;rw [<-hW1] at hA hend;have hce:∀a,W1.cell? a=W.cell? a:=fun a=>by rw [hW1];rfl
 have d6:W1.cell? ⟨bo,6,none⟩=some (.int .i64 src):=(hce _).trans c6;have d8:W1.cell? ⟨k0,j,none⟩=some (.slice (some ⟨g0,so,none⟩) n cp):=(hce _).trans c8;have d6s:W1.cell? ⟨bo,6,none⟩=some (.int .i64 (s:Int)):=by rw [d6,hsrc]
 have dt:W1.cell? ⟨g0,i2,none⟩=some lv:=(hce _).trans ct;obtain ⟨o4,ho4,hd4⟩:∃o4,ops[4]?=some o4/\o4.dst=some 9:=by rcases hops with ⟨rfl,-⟩|⟨rfl,-⟩<;>exact ⟨_,rfl,rfl⟩
 rcases hops with ⟨rfl,hj,h1,h2,t,hlv,hb⟩|⟨rfl,hj,h1,h2,t,hlv,hb⟩;all_goals
  refine fA (ro:=none) (a0:=a0) (w0:=W) mixed 5 16 (fun i=>match i with| 0=>ptr k0| 1=>.pointer (some ⟨bo,6,none⟩)| 2=>.int .i64 src| 3=>.bool true| 4=>.bool true| 5=>ptr k0| 6=>ptr k0| 7=>.pointer (some ⟨k0,j,none⟩)| 8=>.slice (some ⟨g0,so,none⟩) n cp| 9=>.pointer (some ⟨bo,6,none⟩)| 10=>.int .i64 (s:Int)| 11=>.pointer (some ⟨g0,i1,none⟩)| 12=>.pointer (some ⟨g0,i2,none⟩)| 13=>lv|_=>.bool b) (fun _ w=>w=W1) (by omega) (by rfl) (by rfl) (fun listed a w i o hi ho V hdep hcl=>?_) (fun a w h1 h2 h3 h4 h5=>?_) (by rw [hW1])
  rotate_left
  .obtain ⟨d,-,rfl⟩:=h5;exact hend a (h1.trans hs) h2 h3 (h4 15 (by omega) (by decide))
  obtain rfl:w=W1:=V.world;have hlt:i<16:=(cf hi).1;have HY:=fun h=>iO (a:=a) (x:=true) ho4 hd4 (by rw [V.size,hs];omega) (V.new 4 (by omega) h)
  rcases i with - | - | - | - | - | - | - | - | - | - | - | - | - | - | - | - |i;all_goals first|omega|(have ho1:=ho;dsimp only [uQ,uR,aZ,Tryz.f44,Tryz.f50,fI,bB,nt,Option.getD] at ho1;simp only [gA,gS,gZ,oI,Nat.reduceAdd,zA] at ho1;subst ho1)
  .have q0:a.eval (.tmp 0)=ptr k0:=(V.old 0 (by omega)).trans e0;refine am ho rfl (fun c h=>by cases h) (v:=ptr k0) (w':=w) (by generalize a.eval=ρ at q0 ⊢;simp [go_sem,q0]) ⟨_,rfl,fun _=>rfl,V.world⟩
  .have q0:a.eval (.tmp 3)=ptr bo:=(V.old 3 (by omega)).trans e3;refine am ho rfl (fun c h=>by cases h) (v:=.pointer (some ⟨bo,6,none⟩)) (w':=w) (by generalize a.eval=ρ at q0 ⊢;simp [go_sem,q0,ptr]) ⟨_,rfl,fun _=>rfl,V.world⟩
  .have q0:a.eval (.tmp 6)=.pointer (some ⟨bo,6,none⟩):=V.new 1 (by omega) (hdep ⟨1,.data⟩ (by simp) rfl);refine am ho rfl (fun c h=>by cases h) (v:=.int .i64 src) (w':=w) (by generalize a.eval=ρ at q0 ⊢;simp [go_sem,q0,d6]) ⟨_,rfl,fun _=>rfl,V.world⟩
  .have q0:a.eval (.tmp 5)=ptr k0:=V.new 0 (by omega) (hdep ⟨0,.data⟩ (by simp) rfl);have q1:a.eval (.tmp 7)=.int .i64 src:=V.new 2 (by omega) (hdep ⟨2,.data⟩ (by simp) rfl);refine iu (f:=73) (args:=#[ptr k0,.int .i64 src]) (w':=w) ho rfl (fun c h=>by cases h) (by have qf:=hfun a rfl 73;generalize a.eval=ρ at q0 q1 qf ⊢;simp [go_sem,q0,q1,qf]) (hA.mono ?_);rintro e X ⟨rfl,rfl⟩;exact ⟨_,rfl,_,rfl,fun _=>rfl,V.world⟩
  .have q0:a.eval (.tmp 8)=.bool true:=V.new 3 (by omega) (hdep ⟨3,.data⟩ (by simp) rfl);refine am ho rfl (fun c h=>by cases h) (v:=.bool true) (w':=w) (by generalize a.eval=ρ at q0 ⊢;simp [go_sem,q0]) ⟨_,rfl,fun _=>rfl,V.world⟩
  .have q0:a.eval (.tmp 0)=ptr k0:=(V.old 0 (by omega)).trans e0;refine am ho (by simp [Region.wanted,HY (hdep ⟨4,.guard⟩ (by simp) rfl)]) (fun c h=>by cases h) (v:=ptr k0) (w':=w) (by generalize a.eval=ρ at q0 ⊢;simp [go_sem,q0]) ⟨_,rfl,fun _=>rfl,V.world⟩
  .have q0:a.eval (.tmp 10)=ptr k0:=V.new 5 (by omega) (hdep ⟨5,.data⟩ (by simp) rfl);refine am ho (by simp [Region.wanted,HY (hdep ⟨4,.guard⟩ (by simp) rfl)]) (fun c h=>by cases h) (v:=ptr k0) (w':=w) (by generalize a.eval=ρ at q0 ⊢;simp [go_sem,q0,ptr]) ⟨_,rfl,fun _=>rfl,V.world⟩
  .have q0:a.eval (.tmp 11)=ptr k0:=V.new 6 (by omega) (hdep ⟨6,.data⟩ (by simp) rfl);refine am ho (by simp [Region.wanted,HY (hdep ⟨4,.guard⟩ (by simp) rfl)]) (fun c h=>by cases h) (v:=.pointer (some ⟨k0,j,none⟩)) (w':=w) (by generalize a.eval=ρ at q0 ⊢;simp [go_sem,q0,ptr,hj]) ⟨_,rfl,fun _=>rfl,V.world⟩
  .have q0:a.eval (.tmp 12)=.pointer (some ⟨k0,j,none⟩):=V.new 7 (by omega) (hdep ⟨7,.data⟩ (by simp) rfl);refine am ho (by simp [Region.wanted,HY (hdep ⟨4,.guard⟩ (by simp) rfl)]) (fun c h=>by cases h) (v:=.slice (some ⟨g0,so,none⟩) n cp) (w':=w) (by generalize a.eval=ρ at q0 ⊢;simp [go_sem,q0,d8]) ⟨_,rfl,fun _=>rfl,V.world⟩
  .have q0:a.eval (.tmp 3)=ptr bo:=(V.old 3 (by omega)).trans e3;refine am ho (by simp [Region.wanted,HY (hdep ⟨4,.guard⟩ (by simp) rfl)]) (fun c h=>by cases h) (v:=.pointer (some ⟨bo,6,none⟩)) (w':=w) (by generalize a.eval=ρ at q0 ⊢;simp [go_sem,q0,ptr]) ⟨_,rfl,fun _=>rfl,V.world⟩
  .have q0:a.eval (.tmp 14)=.pointer (some ⟨bo,6,none⟩):=V.new 9 (by omega) (hdep ⟨9,.data⟩ (by simp) rfl);refine am ho (by simp [Region.wanted,HY (hdep ⟨4,.guard⟩ (by simp) rfl)]) (fun c h=>by cases h) (v:=.int .i64 (s:Int)) (w':=w) (by generalize a.eval=ρ at q0 ⊢;simp [go_sem,q0,d6s]) ⟨_,rfl,fun _=>rfl,V.world⟩
  .have q0:a.eval (.tmp 13)=.slice (some ⟨g0,so,none⟩) n cp:=V.new 8 (by omega) (hdep ⟨8,.data⟩ (by simp) rfl);have q1:a.eval (.tmp 15)=.int .i64 (s:Int):=V.new 10 (by omega) (hdep ⟨10,.data⟩ (by simp) rfl);refine am ho (by simp [Region.wanted,HY (hdep ⟨4,.guard⟩ (by simp) rfl)]) (fun c h=>by cases h) (v:=.pointer (some ⟨g0,i1,none⟩)) (w':=w) (by generalize a.eval=ρ at q0 q1 ⊢;simp [go_sem,q0,q1,hsn,h1]) ⟨_,rfl,fun _=>rfl,V.world⟩
  .have q0:a.eval (.tmp 16)=.pointer (some ⟨g0,i1,none⟩):=V.new 11 (by omega) (hdep ⟨11,.data⟩ (by simp) rfl);refine am ho (by simp [Region.wanted,HY (hdep ⟨4,.guard⟩ (by simp) rfl)]) (fun c h=>by cases h) (v:=.pointer (some ⟨g0,i2,none⟩)) (w':=w) (by generalize a.eval=ρ at q0 ⊢;simp [go_sem,q0,h1,h2]) ⟨_,rfl,fun _=>rfl,V.world⟩
  .have q0:a.eval (.tmp 17)=.pointer (some ⟨g0,i2,none⟩):=V.new 12 (by omega) (hdep ⟨12,.data⟩ (by simp) rfl);refine am ho (by simp [Region.wanted,HY (hdep ⟨4,.guard⟩ (by simp) rfl)]) (fun c h=>by cases h) (v:=lv) (w':=w) (by generalize a.eval=ρ at q0 ⊢;simp [go_sem,q0,dt,hlv]) ⟨_,rfl,fun _=>rfl,V.world⟩
  .have q0:a.eval (.tmp 18)=lv:=V.new 13 (by omega) (hdep ⟨13,.data⟩ (by simp) rfl);have q1:∀c,a.eval (.const c)=c:=fun _=>rfl
   refine am ho (by simp [Region.wanted,HY (hdep ⟨4,.guard⟩ (by simp) rfl)]) (fun c h=>by cases h) (v:=.bool b) (w':=w) (by generalize a.eval=ρ at q0 q1 ⊢;simp [go_sem,q0,q1,hlv,hb]) ⟨_,rfl,fun _=>rfl,V.world⟩
  .have q0:a.eval (.tmp 9)=.bool true:=V.new 4 (by omega) (hdep ⟨4,.data⟩ (by simp) rfl);have q1:a.eval (.tmp 19)=.bool b:=V.new 14 (by omega) (hdep ⟨14,.data⟩ (by simp) rfl);have q2:a.eval (.const (.bool false))=.bool false:=rfl;refine am ho rfl (fun c h=>by cases h) (v:=.bool b) (w':=w) (by generalize a.eval=ρ at q0 q1 q2 ⊢;simp [go_sem,q0,q1,q2]) ⟨_,rfl,fun _=>rfl,V.world⟩
theorem Gd {id m:Nat}{Q:Exit->Act->Wz->Prop}{a0:Act}{W:Wz}{k0 bo  :Nat}{src:Int}{ops:Array Oper}  (hs:a0.tmps.size=32)(e0:a0.eval (.tmp 0)=ptr k0)(e3:a0.eval (.tmp 3)=ptr bo)(c6:W.cell? ⟨bo,6,none⟩=some (.int .i64 src))(hops:ops=uQ\/ops=uR)
  (hA:Calls Yq.prog 73 #[ptr k0,.int .i64 src] {W with drawn:=W.drawn+1} fun e w'=>e=.returned (.bool false)/\w'={W with drawn:=W.drawn+1})
  (hend:∀a,a.tmps.size=32->a.defers=a0.defers->(∀t,t<5->a.eval (.tmp t)=a0.eval (.tmp t))->a.eval (.tmp 20)=.bool false->Q .normal a {W with drawn:=W.drawn+1}):
  (Code.region id ops true).wpIn (wf none) m Yq.prog Q a0 W:=by
 obtain ⟨W1,hW1⟩:∃W1:Wz,W1={W with drawn:=W.drawn+1}:=⟨_,rfl⟩;rw [<-hW1] at hA hend;have hce:∀a,W1.cell? a=W.cell? a:=fun a=>by rw [hW1];rfl
 have d6:W1.cell? ⟨bo,6,none⟩=some (.int .i64 src):=(hce _).trans c6;obtain ⟨o4,ho4,hd4⟩:∃o4,ops[4]?=some o4/\o4.dst=some 9:=by rcases hops with rfl|rfl<;>exact ⟨_,rfl,rfl⟩
 rcases hops with rfl|rfl;all_goals
  refine fA (ro:=none) (a0:=a0) (w0:=W) mixed 5 16 (fun i=>match i with| 0=>ptr k0| 1=>.pointer (some ⟨bo,6,none⟩)| 2=>.int .i64 src| 3=>.bool false| 4=>.bool false| 15=>.bool false|_=>undef) (fun _ w=>w=W1) (by omega) (by rfl) (by rfl) (fun listed a w i o hi ho V hdep hcl=>?_) (fun a w h1 h2 h3 h4 h5=>?_) (by rw [hW1])
  rotate_left
  .obtain ⟨d,-,rfl⟩:=h5;exact hend a (h1.trans hs) h2 h3 (h4 15 (by omega) (by decide))
  obtain rfl:w=W1:=V.world;have hlt:i<16:=(cf hi).1;have HY:=fun h=>iO (a:=a) (x:=false) ho4 hd4 (by rw [V.size,hs];omega) (V.new 4 (by omega) h)
  rcases i with - | - | - | - | - | - | - | - | - | - | - | - | - | - | - | - |i;all_goals first|omega|(have ho1:=ho;dsimp only [uQ,uR,aZ,Tryz.f44,Tryz.f50,fI,bB,nt,Option.getD] at ho1;simp only [gA,gS,gZ,oI,Nat.reduceAdd,zA] at ho1;subst ho1)
  .have q0:a.eval (.tmp 0)=ptr k0:=(V.old 0 (by omega)).trans e0;refine am ho rfl (fun c h=>by cases h) (v:=ptr k0) (w':=w) (by generalize a.eval=ρ at q0 ⊢;simp [go_sem,q0]) ⟨_,rfl,fun _=>rfl,V.world⟩
  .have q0:a.eval (.tmp 3)=ptr bo:=(V.old 3 (by omega)).trans e3;refine am ho rfl (fun c h=>by cases h) (v:=.pointer (some ⟨bo,6,none⟩)) (w':=w) (by generalize a.eval=ρ at q0 ⊢;simp [go_sem,q0,ptr]) ⟨_,rfl,fun _=>rfl,V.world⟩
  .have q0:a.eval (.tmp 6)=.pointer (some ⟨bo,6,none⟩):=V.new 1 (by omega) (hdep ⟨1,.data⟩ (by simp) rfl);refine am ho rfl (fun c h=>by cases h) (v:=.int .i64 src) (w':=w) (by generalize a.eval=ρ at q0 ⊢;simp [go_sem,q0,d6]) ⟨_,rfl,fun _=>rfl,V.world⟩
  .have q0:a.eval (.tmp 5)=ptr k0:=V.new 0 (by omega) (hdep ⟨0,.data⟩ (by simp) rfl);have q1:a.eval (.tmp 7)=.int .i64 src:=V.new 2 (by omega) (hdep ⟨2,.data⟩ (by simp) rfl);refine iu (f:=73) (args:=#[ptr k0,.int .i64 src]) (w':=w) ho rfl (fun c h=>by cases h) (by have qf:=hfun a rfl 73;generalize a.eval=ρ at q0 q1 qf ⊢;simp [go_sem,q0,q1,qf]) (hA.mono ?_);rintro e X ⟨rfl,rfl⟩;exact ⟨_,rfl,_,rfl,fun _=>rfl,V.world⟩
  .have q0:a.eval (.tmp 8)=.bool false:=V.new 3 (by omega) (hdep ⟨3,.data⟩ (by simp) rfl);refine am ho rfl (fun c h=>by cases h) (v:=.bool false) (w':=w) (by generalize a.eval=ρ at q0 ⊢;simp [go_sem,q0]) ⟨_,rfl,fun _=>rfl,V.world⟩
  iterate 10 exact rH ho (by simp [Region.wanted,HY (hdep ⟨4,.guard⟩ (by simp) rfl)]) ⟨_,rfl,fun _=>rfl,V.world⟩
  .have q0:a.eval (.tmp 9)=.bool false:=V.new 4 (by omega) (hdep ⟨4,.data⟩ (by simp) rfl);have q2:a.eval (.const (.bool false))=.bool false:=rfl;refine am ho rfl (fun c h=>by cases h) (v:=.bool false) (w':=w) (by generalize a.eval=ρ at q0 q2 ⊢;simp [go_sem,q0,q2]) ⟨_,rfl,fun _=>rfl,V.world⟩
theorem C8 (k0 g0 c:Nat)(toks:List ByteArray)(o:OpD)(w:Wz)(hn:toks.length<=2199023255552)(c8:w.cell? ⟨k0,8,none⟩=some (.slice (some ⟨g0,0,none⟩) toks.length c))(ht:∀s (hs:s<toks.length),w.cell? ⟨g0,s * 5+4,none⟩=some (.string toks[s])):
  Calls Yq.prog 44 #[.pointer (some ⟨k0,0,none⟩),cj o] w fun e w'=>e=.returned (.string (gW toks o.src o.body))/\Below w.heap.size w w':=by
 obtain ⟨kind,key,body,delim,past,n,src⟩:=o;have hlt:k0<w.heap.size:=bC w _ c8;obtain ⟨W,hW⟩:∃W,W=w.alloc (.cells #[.int .i64 kind,.string key,.string body,.string delim,.string past,.int .i64 n,.int .i64 src] 31):=⟨_,rfl⟩;have hbW:Below w.heap.size w W:=by rw [hW];exact (bR _ _).alloc (lR _) _
 have hbD:Below w.heap.size w {W with drawn:=W.drawn+1}:=⟨hbW.os,hbW.tape,hbW.output,hbW.size,hbW.block⟩;have d8:=aj hbW c8;have HA:=wz k0 (some ⟨g0,0,none⟩) toks.length c src {W with drawn:=W.drawn+1} hn (aj hbD c8);have hrow:W.heap[w.heap.size]?=some (.cells #[.int .i64 kind,.string key,.string body,.string delim,.string past,.int .i64 n,.int .i64 src] 31):=by rw [hW];exact aN _ _
 have d6:W.cell? ⟨w.heap.size,6,none⟩=some (.int .i64 src):=by simp [World.cell?,hrow]
 have HB:Hid (Below w.heap.size w W/\W.cell? ⟨k0,8,none⟩=some (.slice (some ⟨g0,0,none⟩) toks.length c)/\W.cell? ⟨w.heap.size,6,none⟩=some (.int .i64 src)):=⟨hbW,d8,d6⟩;have HW:Hid (W=w.alloc (.cells #[.int .i64 kind,.string key,.string body,.string delim,.string past,.int .i64 n,.int .i64 src] 31)):=hW;have hr2:({W with drawn:=W.drawn+1}:Wz).cell? ⟨w.heap.size,2,none⟩=some (.string body):=by
  show W.cell? _=_;simp [World.cell?,hrow]
 have hr6:({W with drawn:=W.drawn+1}:Wz).cell? ⟨w.heap.size,6,none⟩=some (.int .i64 src):=d6;have hr8:({W with drawn:=W.drawn+1}:Wz).cell? ⟨k0,8,none⟩=some (.slice (some ⟨g0,0,none⟩) toks.length c):=d8;obtain ⟨D,hD⟩:∃D:Wz,D={W with drawn:=W.drawn+1}:=⟨_,rfl⟩;have HDD:Hid (D={W with drawn:=W.drawn+1}/\Below w.heap.size w D):=⟨hD,by rw [hD];exact hbD⟩;rw [<-hD] at hr2 hr6 hr8 HA;unfold cj;simp only;by_cases ha:0<=src/\src<toks.length
 .have hd:decide (0<=src/\src<toks.length)=true:=by simp [ha]
  rw [hd] at HA;obtain ⟨s,rfl⟩:∃s:Nat,src=s:=⟨src.toNat,by omega⟩;have hs:s<toks.length:=by omega
  have c4:=ht s hs;have ct:=aj hbW c4;have ctD:D.cell? ⟨g0,s * 5+4,none⟩=some (.string toks[s]):=by rw [hD];exact ct
  have e0:toks[(s:Int).toNat]?.getD ⟨#[]⟩=toks[s]:=by simp [hs]
  have hR:gW toks s body=if toks[s]=⟨#[]⟩ then body else toks[s]:=by rw [gW,if_pos ha,e0]
  rw [hR];generalize toks[s]=t at *;clear hW hbW hbD d8 d6 hrow ht c8 c4 hD;by_cases htk:t=⟨#[]⟩
  .have hbv:(!(t.toList == []))=false:=by rw [htk];simp
   rw [if_pos htk];go_enter (Yq.nq Tryz.func44),Tryz.ntmps44
   go_upto_region 1 with fail
   rename_i K1 hK1 K2 hK2;rw [<-HW.out];refine wpIn_wide.1 (show Code.wpIn (wf none) 0 _ _ _ _ _ from wB (id:=1) (m:=0) (s:=s) (so:=0) (j:=8) (i1:=0+s * 5) (i2:=0+s * 5+4) (lv:=.string t) (b:=!(t.toList == [])) (ops:=uQ) rfl rfl rfl HB.out.2.2 (.inl ⟨rfl,rfl,rfl,rfl,t,rfl,rfl⟩) HB.out.2.1 rfl hs (by rw [zA];exact ct) (by rw [<-HDD.out.1];exact HA) (fun a h1 h2 h3 h4=>?_));rw [<-HDD.out.1];have h2:a.defers=[]:=h2;have ha:=iw a 32 h1;rw [hbv] at h4;have f0:a.eval (.tmp 0)=.pointer (some ⟨k0,0,none⟩):=h3 0 (by decide);have f3:a.eval (.tmp 3)=.pointer (some ⟨w.heap.size,0,none⟩):=h3 3 (by decide);refine hK2 _ _ ?_;rw [ha,h2];clear ha h1 h2 h3;generalize a.eval=ρ at f0 f3 h4 ⊢;simp only [List.range,List.range.loop,List.map_cons,List.map_nil,f0,f3,h4];clear f0 f3 h4 hK2 K2 HA ct;go_wp2_with fail
   go_ret;exact ⟨rfl,HDD.out.2⟩
  .have hne':¬t.toList=[]:=fun hx=>by
    have:(t==(⟨#[]⟩:ByteArray))=true:=by rw [beq_toListBytes];simpa using hx
    exact htk ((MapKept.bytes_beq _ _).1 this)
   have hbv:(!(t.toList == []))=true:=by simpa using hne'
   rw [if_neg htk];go_enter (Yq.nq Tryz.func44),Tryz.ntmps44
   go_upto_region 1 with fail
   rename_i K1 hK1 K2 hK2;rw [<-HW.out];refine wpIn_wide.1 (show Code.wpIn (wf none) 0 _ _ _ _ _ from wB (id:=1) (m:=0) (s:=s) (so:=0) (j:=8) (i1:=0+s * 5) (i2:=0+s * 5+4) (lv:=.string t) (b:=!(t.toList == [])) (ops:=uQ) rfl rfl rfl HB.out.2.2 (.inl ⟨rfl,rfl,rfl,rfl,t,rfl,rfl⟩) HB.out.2.1 rfl hs (by rw [zA];exact ct) (by rw [<-HDD.out.1];exact HA) (fun a h1 h2 h3 h4=>?_));rw [<-HDD.out.1];have h2:a.defers=[]:=h2;have ha:=iw a 32 h1;rw [hbv] at h4;have f0:a.eval (.tmp 0)=.pointer (some ⟨k0,0,none⟩):=h3 0 (by decide);have f3:a.eval (.tmp 3)=.pointer (some ⟨w.heap.size,0,none⟩):=h3 3 (by decide);refine hK2 _ _ ?_;rw [ha,h2];clear ha h1 h2 h3;generalize a.eval=ρ at f0 f3 h4 ⊢;simp only [List.range,List.range.loop,List.map_cons,List.map_nil,f0,f3,h4];clear f0 f3 h4 hK2 K2 HA ct;have h1i:¬((s:Int)<0):=by omega
   go_wp2_with fail
   go_region
   all_goals
    go_wp2;go_ret;exact ⟨rfl,HDD.out.2.drew⟩
 .have hd:decide (0<=src/\src<toks.length)=false:=by simpa using ha
  rw [hd] at HA;have hR:gW toks src body=body:=by rw [gW,if_neg ha]
  rw [hR];clear hW hbW hbD d8 d6 hrow ht c8 hD;go_enter (Yq.nq Tryz.func44),Tryz.ntmps44
  go_upto_region 1 with fail
  rename_i K1 hK1 K2 hK2;rw [<-HW.out];refine wpIn_wide.1 (show Code.wpIn (wf none) 0 _ _ _ _ _ from Gd (id:=1) (m:=0) (ops:=uQ) rfl rfl rfl HB.out.2.2 (.inl rfl) (by rw [<-HDD.out.1];exact HA) (fun a h1 h2 h3 h4=>?_));rw [<-HDD.out.1];have h2:a.defers=[]:=h2;have ha:=iw a 32 h1;have f0:a.eval (.tmp 0)=.pointer (some ⟨k0,0,none⟩):=h3 0 (by decide);have f3:a.eval (.tmp 3)=.pointer (some ⟨w.heap.size,0,none⟩):=h3 3 (by decide);refine hK2 _ _ ?_;rw [ha,h2];clear ha h1 h2 h3;generalize a.eval=ρ at f0 f3 h4 ⊢;simp only [List.range,List.range.loop,List.map_cons,List.map_nil,f0,f3,h4];clear f0 f3 h4 hK2 K2 HA;go_wp2_with fail
  go_ret;exact ⟨rfl,HDD.out.2⟩
theorem aY {P:Program}{ops:Array Oper}{o:Oper}{a:Act}{w:Wz}{K:Act->Wz->Prop}{Q:Exit->Act->Wz->Prop}{E:Prop}
  (hg:o.guard=none) (f:FuncId) (xs:Array Operand) (ts:Array TypeId) (hop:o.op=Op.call {callee:=Callee.value (.func f),args:=xs,argTypes:=ts})
  (args:Array Wq) (hx:xs.map a.eval=args) (henter:(callFunc f args).run P w=.ok (.enter f args) w)
  (R:Wq->Wz->Prop) (hC:Calls P f args w fun e w'=>∃v,e=.returned v/\R v w') (hK:∀v w',R v w'->K (a.put o.dst v) w'):
  if Region.wanted o (yielded ops a.tmps)=true then Oper.wp P o a w K Q else E:=by
 have hw:Region.wanted o (yielded ops a.tmps)=true:=by simp [Region.wanted,hg]
 rw [if_pos hw];subst hx;unfold Oper.wp;have e:(execOp a.eval o).run P w=.ok (.enter f (xs.map a.eval)) w:=by
  have e1:execOp a.eval o=(do let d <-resolve a.eval {callee:=Callee.value (.func f),args:=xs,argTypes:=ts} o.type;invoke d.target d.args):=by simp only [execOp,hop]
  rw [e1];simpa [resolve,Deferred.ofValue,Act.eval,invoke] using henter
 rw [e,Oper.upon_enter];refine hC.mono ?_;rintro e w' ⟨v,rfl,hr⟩;exact hK v w' hr
theorem an {w:Wz}{b j:Nat}{v:Wq}(h:w.cell? ⟨b,j,none⟩=some v)(O:Obj):(w.alloc O).cell? ⟨b,j,none⟩=some v:=by
 exact (ak.refl.alloc O).cell h
theorem aq {w:Wz}{b j:Nat}{v:Wq}{f:Bool}(h:w.cell? ⟨b,j,none⟩=some v)(hf:w.frozen? ⟨b,j,none⟩=f)(O:Obj):(w.alloc O).frozen? ⟨b,j,none⟩=f:=by
 have hlt:b<w.heap.size:=by
  rcases Nat.lt_or_ge b w.heap.size with h1|h1
  .exact h1
  .simp [World.cell?,Array.getElem?_eq_none h1] at h
 have e:=(ak.refl.alloc O (w:=w)).block b hlt;rw [<-hf];simp only [World.frozen?,e]
theorem bc.alloc {A:Nat->Prop}{B k0:Nat}{w w':Wz}{L':Lg}{its:List ItD}{sv:Wq}(h:bc A B k0 w L' its sv w')(O:Obj):bc A B k0 w L' its sv (w'.alloc O):=by
 obtain ⟨A',a1,a2,a3,a4,a5,a6⟩:=h;have hl:ak w' (w'.alloc O):=ak.refl.alloc O;have hlt:=a3.lt;exact ⟨A',a1,a2,a3.left hl,a4.trans (aI.left hlt hl),bD.keep a5 fun b hb hlt=>⟨hb,hl.block b hlt⟩,a6.trans (FrC.left hlt hl)⟩
section
variable {A:Nat->Prop} {B k0:Nat} {w:Wz} {st:St} {L:Lg}
structure GI (A:Nat->Prop)(B k0:Nat)(w:Wz)(st:St)(o:OpD)(R:Lg×List ItD×ByteArray×Int):Prop where
 bx:∀W w2 bb,ak (cx w o) W->∀ {its:List ItD} {sv:Wq} {L':Lg},bc A B k0 W L' its sv w2->w.heap.size+2<=bb->W.heap[bb]?=some (.cells #[.slice none 0 0,.string ⟨#[]⟩] 88)->w2.cell? ⟨bb,0,none⟩=some (.slice none 0 0)/\w2.cell? ⟨bb,1,none⟩=some (.string ⟨#[]⟩)/\w2.frozen? ⟨bb,0,none⟩=false/\w2.frozen? ⟨bb,1,none⟩=false
 b5:∀W w2,ak (cx w o) W->∀ {sv:Wq},bc A B k0 W R.1 R.2.1 sv w2->Box5 w2 (w.heap.size+1)
 la:∀W w2 so sn sc,ak (cx w o) W->bc A B k0 W R.1 R.2.1 (.slice so sn sc) w2->∀x0 x1 x2 x3 x4 O,bg A B k0 w st R.1 ⟨R.2.2.2,0,⟨#[]⟩,R.2.1,R.2.2.1⟩ (.returned (iS ⟨R.2.2.2,0,⟨#[]⟩,R.2.1,R.2.2.1⟩ (.slice so sn sc))) (put5 (w2.alloc O) (w.heap.size+1) x0 x1 x2 x3 x4)
 lb:∀W w2 so sn sc,ak (cx w o) W->bc A B k0 W R.1 R.2.1 (.slice so sn sc) w2->∀bb,w.heap.size+2<=bb->W.heap[bb]?=some (.cells #[.slice none 0 0,.string ⟨#[]⟩] 88)->∀y0 y1 x0 x1 x2 x3 x4,bg A B k0 w st R.1 ⟨R.2.2.2,0,⟨#[]⟩,R.2.1,R.2.2.1⟩ (.returned (iS ⟨R.2.2.2,0,⟨#[]⟩,R.2.1,R.2.2.1⟩ (.slice so sn sc))) (put5 ((w2.setCell ⟨bb,0,none⟩ y0).setCell ⟨bb,1,none⟩ y1) (w.heap.size+1) x0 x1 x2 x3 x4)
theorem AR (h:aH A B w k0 st L)(hB:B<=w.heap.size)(o:OpD)(R:Lg×List ItD×ByteArray×Int)(htm:R.1.tm=L.tm):GI A B k0 w st o R where
 bx:=fun W w2 bb hl its sv L' hp hbb hbx=>by
  obtain ⟨A',-,-,-,-,-,hf⟩:=hp;have hlt:=h.ls.lt;have e:w2.heap[bb]?=some (.cells #[.slice none 0 0,.string ⟨#[]⟩] 88):=by
   rw [hf.keep bb ⟨_,hbx,rfl⟩ (by omega) ?_]
   .exact hbx
   .rintro ⟨v,h1,h2⟩;obtain ⟨v4,c4,zs,z1,z2,-⟩:=h.ls.opened;rw [((aK o).trans hl).cell c4] at h1;cases h1;have:=(z2.lt bb h2).2;omega
  exact ⟨by simp [World.cell?,e],by simp [World.cell?,e],by simp [World.frozen?,e],by simp [World.frozen?,e]⟩
 b5:=fun W w2 hl sv hp=>box5 (C5 h.ls hl hp)
 la:=fun W w2 so sn sc hl hp x0 x1 x2 x3 x4 O=>C7 h hB hl (hp.alloc O) _ rfl htm x0 x1 x2 x3 x4
 lb:=fun W w2 so sn sc hl hp bb h1 h2 y0 y1 x0 x1 x2 x3 x4=>AQ h hB hl hp _ rfl htm bb h1 (eS h2).1 ⟨_,h2,rfl⟩ y0 y1 x0 x1 x2 x3 x4
theorem uS (Qok:Qy->Prop)(hQ:∀q,Qok q->gH q/\gI q)(h:aH A B w k0 st L)(hB:B<=w.heap.size)(hop:L.opened.length<=3)(o:OpD)(hk:o.kind=8)(g0 cp:Nat)(toks:List ByteArray)(hn:toks.length<=2199023255552)(c8:w.cell? ⟨k0,8,none⟩=some (.slice (some ⟨g0,0,none⟩) toks.length cp))(ht:∀s (hs:s<toks.length),w.cell? ⟨g0,s * 5+4,none⟩=some (.string toks[s]))
  (hinv:∀x∈L.opened,Qok x.q/\gm (db x.f x.q.p.data.toList)<=1000/\x.q.p.size<=maxLen) (hpg:∀tok n pg,em tok L.told=some (n,pg)->0<=pg/\pg<2199023255552) (G:Wz->Prop) (hGg:∀w',G w'->cI w') (hG:∀w',aI A B k0 w w'->G w') (hT:∀tok n pg,em tok L.told=some (n,pg)->(kX n L.opened).isSome=true->jY G n (pg+1)):
  Calls Yq.prog 33 #[.pointer (some ⟨k0,0,none⟩),cj o] w fun e w'=>bg A B k0 w st (fM L (gW toks o.src o.body)).1 ⟨(fM L (gW toks o.src o.body)).2.2.2,0,⟨#[]⟩,(fM L (gW toks o.src o.body)).2.1,(fM L (gW toks o.src o.body)).2.2.1⟩ e w'\/Stop Qok e w':=by
 obtain ⟨tk,htk⟩:∃tk,tk=gW toks o.src o.body:=⟨_,rfl⟩;obtain ⟨R,hR⟩:∃R,R=fM L tk:=⟨_,rfl⟩;have HTK:Hid (∀W,ak (cx w o) W->Calls Yq.prog 44 #[.pointer (some ⟨k0,0,none⟩),cj o] W fun e w'=>∃v,e=.returned v/\(v=.string tk/\Below W.heap.size W w')):=fun W hl=>by
  have hlw:=(aK o).trans hl;refine (C8 k0 g0 cp toks o W hn (hlw.cell c8) (fun s hs=>hlw.cell (ht s hs))).mono ?_;rintro e w' ⟨rfl,hb⟩;exact ⟨_,rfl,by rw [htk],hb⟩
 have HNX:Hid (∀W,ak (cx w o) W->Calls Yq.prog 43 #[.pointer (some ⟨k0,4,none⟩),.string tk] W fun e w'=>(∃v,e=.returned v/\∃so sn sc,v=.tuple #[.agg #[.slice so sn sc,.string R.2.2.1],.int .i64 R.2.2.2]/\bc A B k0 W R.1 R.2.1 (.slice so sn sc) w')\/∃ch,e=.panicked ch/\Stop Qok (.panicked ch) w'):=fun W hl=>by
  have hd:=h.left ((aK o).trans hl);have hs:=((aK o).trans hl).size;refine (E7 Qok hQ W hd.ls (by omega) tk hop hinv (hpg tk) G hGg (fun w' hd2=>hG w' ((aI.left h.ls.lt ((aK o).trans hl)).trans hd2)) (hT tk)).mono ?_;rw [<-hR];rintro e w' (⟨sv,rfl,hp⟩|hst)
  .obtain ⟨A',a1,a2,a3,a4,⟨so,sc,rfl,a6⟩,a7⟩:=hp;exact .inl ⟨_,rfl,so,_,sc,rfl,A',a1,a2,a3,a4,⟨so,sc,rfl,a6⟩,a7⟩
  .obtain ⟨a,b,r,rfl,hst⟩:=hst;exact .inr ⟨_,rfl,a,b,r,rfl,hst⟩
 rw [<-htk,<-hR];have HEN:Hid (∀ (f:Nat) (args:Array Wq) (wx:Wz),(f=43\/f=44)->(callFunc f args).run Yq.prog wx=.ok (.enter f args) wx):=fun f args wx hf=>by rcases hf with rfl|rfl<;>go_simp
 have HD:Hid (aH A B w k0 st L):=h;have HPG:=AR h hB o R (by rw [hR];exact C6 _ _);have HBX:Hid _:=HPG.bx;have HB2:Hid (∀w1,Below ((cx w o).alloc (.cells #[.slice none 0 0,.string ⟨#[]⟩] 88)).drew.heap.size ((cx w o).alloc (.cells #[.slice none 0 0,.string ⟨#[]⟩] 88)).drew w1->w1.heap[w.heap.size+1+1]?=some (.cells #[.slice none 0 0,.string ⟨#[]⟩] 88)):=fun w1 hb=>by
  have:=aN (cx w o) (.cells #[.slice none 0 0,.string ⟨#[]⟩] 88);rw [aL] at this;exact (hb.block _ (by simp [aL])).trans this
 have HB3:Hid (∀w1,Below (cx w o).drew.heap.size (cx w o).drew w1->w.heap.size+2<=w1.heap.size):=fun w1 hb=>by
  have:=hb.size;have e:(cx w o).drew.heap.size=w.heap.size+2:=aL o;omega
 have HB5:Hid _:=HPG.b5;have HLA:Hid _:=HPG.la;have HLB:Hid _:=HPG.lb;have hb3:=lh;clear htk hR HPG;obtain ⟨kind,key,body,delim,past,n,src⟩:=o;simp only at hk;subst hk;unfold cx at HTK HNX HBX HB2 HB3 HB5 HLA HLB;clear h c8 ht hinv hpg hT hG hGg hQ;unfold cj at HTK ⊢;go_enter (Yq.nq Tryz.func33),Tryz.ntmps33;go_wp2_with fail
 go_region_law (first
  |(refine aY rfl 44 #[.tmp 124,.tmp 125] #[77,31] rfl #[.pointer (some ⟨k0,0,none⟩),.agg #[.int .i64 8,.string key,.string body,.string delim,.string past,.int .i64 n,.int .i64 src]] (by simp [Act.eval]) (HEN.out _ _ _ (Or.inr rfl)) _ (HTK.out _ (by first|exact ak.refl.drew|exact (ak.refl.alloc _).drew)) ?_;rintro v w1 ⟨rfl,hb1⟩)
  |(refine bO rfl 43 #[.tmp 123,.tmp 126] #[63,9] rfl #[.pointer (some ⟨k0,4,none⟩),.string tk] (by simp [Act.eval]) (HEN.out _ _ _ (Or.inl rfl)) _ (fun ch w'=>Stop Qok (.panicked ch) w') (HNX.out _ (ak.refl.drew.trans (.below hb1))) (fun ch w' hs=>⟨rfl,Or.inr hs⟩) ?_;rintro v w2 ⟨so,sn,sc,rfl,hpost⟩;obtain ⟨⟨t0,t1,t2,t3,t4⟩,u0,u1,u2,u3,u4⟩:=HB5.out _ w2 (ak.refl.drew.trans (.below hb1)) hpost;have HFA:=HLA.out _ w2 so sn sc (ak.refl.drew.trans (.below hb1)) hpost;have q0:=an t0;have q1:=an t1;have q2:=an t2;have q3:=an t3;have q4:=an t4;have p0:=aq t0 u0;have p1:=aq t1 u1;have p2:=aq t2 u2;have p3:=aq t3 u3;have p4:=aq t4 u4;clear hpost hb1)
  |(refine bO rfl 43 #[.tmp 123,.tmp 126] #[63,9] rfl #[.pointer (some ⟨k0,4,none⟩),.string tk] (by simp [Act.eval]) (HEN.out _ _ _ (Or.inl rfl)) _ (fun ch w'=>Stop Qok (.panicked ch) w') (HNX.out _ ((ak.refl.alloc _).drew.trans (.below hb1))) (fun ch w' hs=>⟨rfl,Or.inr hs⟩) ?_;rintro v w2 ⟨so,sn,sc,rfl,hpost⟩;obtain ⟨v0,v1,o0,o1⟩:=HBX.out w1 w2 (w.heap.size+1+1) ((ak.refl.alloc _).drew.trans (.below hb1)) hpost (by omega) (HB2.out _ hb1);obtain ⟨⟨t0,t1,t2,t3,t4⟩,u0,u1,u2,u3,u4⟩:=HB5.out _ w2 ((ak.refl.alloc _).drew.trans (.below hb1)) hpost;have HFA:=HLB.out _ w2 so sn sc ((ak.refl.alloc _).drew.trans (.below hb1)) hpost (w.heap.size+1+1) (by omega) (HB2.out _ hb1);clear hpost hb1)
  |(refine bO rfl 43 #[.tmp 123,.tmp 126] #[63,9] rfl #[.pointer (some ⟨k0,4,none⟩),.string tk] (by simp [Act.eval]) (HEN.out _ _ _ (Or.inl rfl)) _ (fun ch w'=>Stop Qok (.panicked ch) w') (HNX.out _ ((ak.refl.drew.trans (.below hb1)).alloc _)) (fun ch w' hs=>⟨rfl,Or.inr hs⟩) ?_;rintro v w2 ⟨so,sn,sc,rfl,hpost⟩;obtain ⟨v0,v1,o0,o1⟩:=HBX.out _ w2 w1.heap.size ((ak.refl.drew.trans (.below hb1)).alloc _) hpost (HB3.out _ hb1) (aN w1 _);obtain ⟨⟨t0,t1,t2,t3,t4⟩,u0,u1,u2,u3,u4⟩:=HB5.out _ w2 ((ak.refl.drew.trans (.below hb1)).alloc _) hpost;have HFA:=HLB.out _ w2 so sn sc ((ak.refl.drew.trans (.below hb1)).alloc _) hpost w1.heap.size (HB3.out _ hb1) (aN w1 _);have hne1:w.heap.size+1≠w1.heap.size:=(by have:=HB3.out _ hb1;omega);have hne2:w1.heap.size≠w.heap.size+1:=hne1.symm;clear hpost hb1))
 all_goals
  go_wp2
 all_goals clear HTK HNX HBX HB2 HB3 HB5 HLA HLB HEN HD
 all_goals
  refine bodyPost_ret (v:=iS ⟨R.2.2.2,0,⟨#[]⟩,R.2.1,R.2.2.1⟩ (.slice so sn sc)) ?_ rfl (.inl ?_)
  .clear HFA;first
    |simp [results,Tryz.results33,go_sem,iS,q0,q1,q2,q3,q4]
    |simp [results,Tryz.results33,go_sem,iS,t0,t1,t2,t3,t4]
    |simp [results,Tryz.results33,go_sem,iS,t0,t1,t2,t3,t4]
  .unfold put5 at HFA;refine HFA ..
end
section
variable {A:Nat->Prop} {B k0:Nat} {w w':Wz} {st st':St} {L:Lg}
theorem dh.grown (h:dh A B w k0 L)(hg:bN w w' k0)(hf:∀j,w'.frozen? ⟨k0,j,none⟩=false){A':Nat->Prop}(h1:∀b,A b->A' b)(h2:∀b,A' b->A b\/w.heap.size<=b)(h3:∀b,A' b->b<w'.heap.size):dh A' B w' k0 L:=by
 have hlt:=h.lt;have hlow:=h.low;have hne:∀b,b<w.heap.size->b≠k0->w'.heap[b]?=w.heap[b]?:=fun b hb hk=>hg.g.block b hb (fun e=>hk (oJ e))
 have hno:∀g,g<w.heap.size->¬A g->¬A' g:=fun g hg ha hx=>by
  rcases h2 g hx with h|h
  .exact ha h
  .omega
 obtain ⟨v,c4,zs,z1,z2,z3,z4⟩:=h.opened;obtain ⟨mv,c6,hm⟩:=h.told;refine ⟨⟨v,(hg.t 4 (by omega)).trans c4,zs,z1,aX z2 fun g h1 hg=>hne g hg (by omega),fun g hg=>hno g (z2.lt g hg).2 (z3 g hg),fun z hz=>ai.keep (fun b hb hlt=>⟨h1 b hb,hne b hlt (fun e=>h.avoid (e▸hb))⟩) 41 _ _ (z4 z hz)⟩,(hg.t 5 (by omega)).trans h.begun,⟨mv,(hg.t 6 (by omega)).trans c6,?_⟩,hf,hno k0 hlt h.avoid,h.low,h3⟩;rcases hm with hm|⟨m,es,clock,m1,m2,m3,m4,m5⟩
 .exact .inl hm
 .have hml:=(eS m2).1;exact .inr ⟨m,es,clock,m1,(hne m hml (by omega)).trans m2,m3,hno m hml m4,m5⟩
theorem C9 (h:aH A B w k0 st L){r:St×Gt}{e:Ending}(hp:dg A w k0 r.1 (dk r.2) e w'):bg A B k0 w r.1 L ⟨r.2.code,r.2.ver,r.2.body,[],⟨#[]⟩⟩ e w':=by
 obtain ⟨rfl,hS,hg⟩:=hp;have hlt:=h.ls.lt;have hsz:=hg.g.size;have hA1:∀b,A b->Grow A w b/\b<w'.heap.size:=fun b hb=>⟨.inl ⟨hb,h.ls.inn b hb⟩,by have:=h.ls.inn b hb;omega⟩
 have hA2:∀b,(Grow A w b/\b<w'.heap.size)->A b\/w.heap.size<=b:=fun b hb=>hb.1.imp (·.1) id
 have hne:∀b,b<w.heap.size->b≠k0->w'.heap[b]?=w.heap[b]?:=fun b hb hk=>hg.g.block b hb (fun e=>hk (oJ e))
 have c3:=h.time;obtain ⟨p,c0,hN⟩:=hS.tree;refine ⟨.slice none 0 0,rfl,fun b=>Grow A w b/\b<w'.heap.size,hA1,hA2,⟨⟨fun b hb=>hS.avoid b hb.1,⟨p,c0,ai.keep (fun b hb hlt=>⟨⟨hb,hlt⟩,rfl⟩) 41 _ _ hN⟩,hS.count,hS.last,hS.frozen⟩,h.ls.grown hg hS.frozen hA1 hA2 (fun b hb=>hb.2),(hg.t 3 (by omega)).trans c3⟩,⟨hg.g.os,hsz,fun b _ h2 h3=>hne b h2 h3,fun b hb h2=>hne b h2 (fun e=>h.ls.avoid (e▸hb)),fun j hj=>hg.t j (by omega),fun j=>(hS.frozen j).trans (h.store.frozen j).symm⟩,none,0,rfl,fun _=>rfl,fun hx=>absurd rfl hx⟩
theorem yt (h:aH A B w k0 st L)(s:Nat)(o:OpD)(hk:o.key.size<=maxLen)(hbd:o.body.size<=maxLen)(hI:Inv st s)(hs:s<2199023255340)(h6:o.kind<6\/12<o.kind):
  Calls Yq.prog 33 #[.pointer (some ⟨k0,0,none⟩),cj o] w (bg A B k0 w (bz st o).1 L ⟨(bz st o).2.code,(bz st o).2.ver,(bz st o).2.body,[],⟨#[]⟩⟩):=
 (yo A k0 st s o w hk hbd h.store hI hs h6).mono fun _ _ hp=>C9 h hp
end
end
