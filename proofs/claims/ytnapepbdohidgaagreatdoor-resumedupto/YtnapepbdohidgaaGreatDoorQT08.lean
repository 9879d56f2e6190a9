/- A part. -/
import Derived.Test.YtnapepbdohidgaaGreatDoorQT07
import Derived.Deep.RegionLaw
import Derived.Deep.DeepCutAuto
import Derived.BigRegion
set_option maxHeartbeats 4000000
set_option maxRecDepth 100000
open Go renaming World->Wz,Value->Wq,Addr->Ww
namespace Go.Proofs.Qw
open Tryz
section
open Go.Conc Go.ConcX Go.ConcX.Gen Go.RowKit
noncomputable def EB:Code:=cIn (cIn (cy (gN (cy (cy (bu Tryz.f123))))))
noncomputable def EC:Array Oper:=nW (gN (cy (cIn (gN (cy (cy EB))))))
structure Wd6 (W1 Wb Wc:Wz)(Post:Wz->Prop)(d:Nat->Bool)(w:Wz):Prop where
 w1:d 5=false->w=W1
 w2:d 5=true->d 6=false->w=Wb
 w3:d 6=true->d 8=false->w=Wc
 w4:d 8=true->Post w
 c6:d 6=true->d 5=true
 c8:d 8=true->d 6=true
theorem dI {d:Nat->Bool}{i j:Nat}(h:j≠i):dR d i j=d j:=by simp [dR,h]
theorem qR {d:Nat->Bool}{i:Nat}:dR d i i=true:=by simp [dR]
section
variable {W1 Wb Wc w:Wz} {Post:Wz->Prop} {d:Nat->Bool}
theorem Wd6.other (h:Wd6 W1 Wb Wc Post d w){i:Nat}(h5:i≠5)(h6:i≠6)(h8:i≠8):Wd6 W1 Wb Wc Post (dR d i) w:=by
 have e5:dR d i 5=d 5:=dI (fun e=>h5 e.symm);have e6:dR d i 6=d 6:=dI (fun e=>h6 e.symm);have a:dR d i 8=d 8:=dI (fun e=>h8 e.symm);exact ⟨by rw [e5];exact h.w1,by rw [e5,e6];exact h.w2,by rw [e6,a];exact h.w3,by rw [a];exact h.w4,by rw [e5,e6];exact h.c6,by rw [e6,a];exact h.c8⟩
theorem Wd6.at5 (h:Wd6 W1 Wb Wc Post d w)(n5:d 5=false):Wd6 W1 Wb Wc Post (dR d 5) Wb:=by
 have n6:d 6=false:=by
  cases e:d 6 with
  |false=>rfl
  |true=>rw [h.c6 e] at n5;cases n5
 have b:d 8=false:=by
  cases e:d 8 with
  |false=>rfl
  |true=>rw [h.c8 e] at n6;cases n6
 have e6:dR d 5 6=false:=(dI (by decide)).trans n6;have a:dR d 5 8=false:=(dI (by decide)).trans b;exact ⟨fun k=>by (rw [qR] at k;cases k),fun _ _=>rfl,fun k=>(by rw [e6] at k;cases k),fun k=>(by rw [a] at k;cases k),fun _=>qR,fun k=>(by rw [a] at k;cases k)⟩
theorem Wd6.at6 (h:Wd6 W1 Wb Wc Post d w)(c:d 5=true)(n6:d 6=false):Wd6 W1 Wb Wc Post (dR d 6) Wc:=by
 have b:d 8=false:=by
  cases e:d 8 with
  |false=>rfl
  |true=>rw [h.c8 e] at n6;cases n6
 have e5:dR d 6 5=true:=(dI (by decide)).trans c;have a:dR d 6 8=false:=(dI (by decide)).trans b;exact ⟨fun k=>(by rw [e5] at k;cases k),fun _ k=>(by rw [qR] at k;cases k),fun _ _=>rfl,fun k=>(by rw [a] at k;cases k),fun _=>e5,fun k=>(by rw [a] at k;cases k)⟩
theorem Wd6.at8 (h:Wd6 W1 Wb Wc Post d w)(a:d 6=true){X:Wz}(hX:Post X):Wd6 W1 Wb Wc Post (dR d 8) X:=by
 have e5:dR d 8 5=true:=(dI (by decide)).trans (h.c6 a);have e6:dR d 8 6=true:=(dI (by decide)).trans a;exact ⟨fun k=>(by rw [e5] at k;cases k),fun _ k=>(by rw [e6] at k;cases k),fun _ k=>(by rw [qR] at k;cases k),fun _=>hX,fun _=>e5,fun _=>e6⟩
end
theorem hfun {ρ:Operand->Wq}(a:Act)(h:a.eval=ρ)(f:FuncId):ρ (.func f)=.func (.func f) #[] #[]:=by rw [<-h];rfl
theorem hnot {ops:Array Oper}{listed:Array Bool}{i:Nat}(hi:i∈Region.ready .any ops listed)(hl:listed.size=ops.size):listed.getD i false=false:=by
 have h:=(cz hi).2;have hlt:=(cz hi).1;rw [gD,eG (by omega)] at h ⊢;exact h
theorem sX {W:Wz}{b j:Nat}{v:Wq}(h:W.cell? ⟨b,j,none⟩=some v):∃o:Obj,W.heap[b]?=some o/\o.isCells=true:=by
 unfold World.cell? at h;cases ho:W.heap[b]? with
 |none=>simp [ho] at h
 |some o=>exact ⟨o,rfl,by cases o<;>simp_all [Obj.isCells]⟩
section
variable {A:Nat->Prop} {w0:Wz} {B0 t l:Nat} {O:Wz->Nat->Prop} {total:KVs} {J:KVs->Wz->Prop}
theorem Df (C:qQ A w0 B0 t l O total J){id n:Nat}{Q:Exit->Act->Wz->Prop}{a0:Act}{W:Wz}{kb g cap:Nat}{c:UInt8}{q:Option Ww}{bs:List UInt8}{pre sub:KVs}(hs:a0.tmps.size=44)(e1:a0.eval (.tmp 1)=mT g cap bs)(e2:a0.eval (.tmp 2)=yf l)(e8:a0.eval (.tmp 8)=.pointer (some ⟨kb,0,none⟩))
  (S:W.cell? ⟨kb,0,none⟩=some (.int .u8 (c.toNat:Int))) (U:W.cell? ⟨kb,1,none⟩=some (.pointer q)) (af:kb≠t) (Y:¬O W kb) (ad:kb≠g) (hl:bs.length<=1000) (ab:Ag A w0 W) (K:fH O B0 W g cap bs) (T:J pre W)
  (D:∀X g' k,Ag A w0 X->fH O B0 X g' k (bs++[c])->J pre X->Calls Yq.prog 123 #[.pointer q,mT g' k (bs++[c]),yf l] X fun e X'=>e=.returned (.bool true)/\J (pre++sub) X'/\fH O B0 X' g' k (bs++[c])/\gY O g' t X X')
  (hend:∀a w,a.tmps.size=44->a.defers=a0.defers->(∀t,t<33->a.eval (.tmp t)=a0.eval (.tmp t))->a.eval (.tmp 42)=.bool false->J (pre++sub) w->fH O B0 w g cap bs->gY O g t W w->Q .normal a w):
  (Code.region id EC true).wpIn (wf none) n Yq.prog Q a0 W:=by
 obtain ⟨W1,hW1⟩:∃W1:Wz,W1={W with drawn:=W.drawn+1}:=⟨_,rfl⟩;have r:W1.heap=W.heap:=by rw [hW1]
 have R:W1.os=W.os:=by rw [hW1]
 have k0:W1.cell? ⟨kb,0,none⟩=some (.int .u8 (c.toNat:Int)):=(cB (a:=⟨kb,0,none⟩) (by rw [r])).trans S;have k1:W1.cell? ⟨kb,1,none⟩=some (.pointer q):=(cB (a:=⟨kb,1,none⟩) (by rw [r])).trans U;have hB:B0<=W.heap.size:=C.size pre W T;obtain ⟨Wb,y⟩:∃Wb:Wz,Wb=W1.alloc (.cells #[.int .u8 (c.toNat:Int)] 5):=⟨_,rfl⟩;have m:∀b,b<W.heap.size->Wb.heap[b]?=W.heap[b]?:=fun b hb=>by rw [y,bA _ _ _ (by rw [r];exact hb),r]
 have hbsz:Wb.heap.size=W.heap.size+1:=by rw [y,World.size_alloc,r]
 have htB:=C.box;have L:∀b,O Wb b->O W b:=fun b=>C.own _ _ b (m t (by omega))
 have Kb:fH O B0 Wb g cap bs:=K.same (m g K.lt) (L g);obtain ⟨g',k,Wc,hrun,Kc',G,s,hcsz,F⟩:=yQ Kb.toiv (by omega) hl W1.heap.size c (by rw [y,cA (w:=W1) _ _ W1.heap.size 0 rfl];rfl) 48;have N:Wb.os=W.os:=by rw [y];exact R
 have hgB:=K.base;have B:∀b,O Wc b->O W b:=fun b h=>L b (C.own _ _ b (s t (by omega) (by omega)) h)
 have Kc:fH O B0 Wc g' k (bs++[c]):=⟨Kc',fun h=>by
  have h1:=B _ h;rcases G with ⟨rfl,-⟩|⟨h2,-⟩
  .exact K.no h1
  .have:=(C.ownB _ _ _ T h1).2;omega⟩
 have Ac:Ag A w0 Wc:=fun b hb=>by
  obtain ⟨h1,h2,h3⟩:=C.tree b hb;rw [s b (by omega) (by omega),m b (by omega)];exact ab b hb
 have Jc:J pre Wc:=C.stable pre W Wc T (fun b hb=>by rw [s b (by omega) (by omega),m b (by omega)]) (fun b hb=>by
  have h1:=(C.ownB _ _ _ T hb).2;rw [s b (by omega) (fun e=>K.no (e▸hb)),m b h1]) (by omega) (F.trans N)
 have hsub:=D Wc g' k Ac Kc Jc;have hg'':g'=g\/W.heap.size<g':=by
  rcases G with h|h
  .exact .inl h.1
  .exact .inr (by omega)
 have E:∀w,(J (pre++sub) w/\fH O B0 w g' k (bs++[c])/\gY O g' t Wc w)->fH O B0 w g cap bs/\gY O g t W w:=fun w h=>by
  obtain ⟨hJ',I,u⟩:=h;refine ⟨?_,⟨by have:=u.1;omega,u.2.1.trans (F.trans N),fun b h=>(u.2.2.1 b h).elim (fun h=>.inl (B b h)) (fun h=>.inr (by omega)),fun b o hb ho ht hg hn=>?_⟩⟩
  .rcases G with ⟨rfl,rfl⟩|⟨h1,h2⟩
   .exact ⟨I.toiv.take,I.no⟩
   .obtain ⟨x,e,z,hx⟩:=Kb.obj;have hno:¬O Wc g:=fun h=>K.no (B _ h)
    refine ⟨Kb.toiv.same ((u.2.2.2 g _ (h2.trans hx) rfl ?_ ?_ hno).trans hx.symm),sW u.2.2.1 (h2.trans hx) hno⟩
    .have:=C.box;omega
    .have:=Kb.lt;omega
  .have hlt:b<W.heap.size:=(eS hb).1;exact u.2.2.2 b o ((s b (by omega) hg).trans ((m b hlt).trans hb)) ho ht (by omega) (fun h=>hn (B _ h))
 have hkl:kb<W.heap.size:=by
  obtain ⟨o,h,-⟩:=sX S;exact (eS h).1
 have hcell:∀ {d:Nat->Bool} w,Wd6 W1 Wb Wc (fun w=>J (pre++sub) w/\fH O B0 w g' k (bs++[c])/\gY O g' t Wc w) d w->∀ (j:Nat) v,W1.cell? ⟨kb,j,none⟩=some v->w.cell? ⟨kb,j,none⟩=some v:=fun {d} w hw j v hv=>by
  have Z:W.cell? ⟨kb,j,none⟩=some v:=(cB (a:=⟨kb,j,none⟩) (by rw [r])).trans hv;have M:Wb.cell? ⟨kb,j,none⟩=some v:=(cB (a:=⟨kb,j,none⟩) (m kb hkl)).trans Z;have H:Wc.cell? ⟨kb,j,none⟩=some v:=(cB (a:=⟨kb,j,none⟩) (s kb (by omega) ad)).trans M;cases h5:d 5 with
  |false=>rw [hw.w1 h5];exact hv
  |true=>cases h6:d 6 with
   |false=>rw [hw.w2 h5 h6];exact M
   |true=>cases h8:d 8 with
    |false=>rw [hw.w3 h6 h8];exact H
    |true=>
     obtain ⟨o,ho,P⟩:=sX H;have:=(hw.w4 h8).2.2.2.2.2 kb o ho P af (by omega) (fun h=>Y (B _ h));exact (cB (a:=⟨kb,j,none⟩) (this.trans ho.symm)).trans H
 refine jM (ro:=none) (a0:=a0) (w0:=W) mixed 33 10
  (fun i=>match i with| 0=>.pointer (some ⟨kb,1,none⟩)| 1=>.pointer q| 2=>mT g cap bs| 3=>.pointer (some ⟨kb,0,none⟩)| 4=>.int .u8 (c.toNat:Int)| 5=>.slice (some ⟨W1.heap.size,0,none⟩) 1 1| 6=>mT g' k (bs++[c])| 7=>yf l| 8=>.bool true| 9=>.bool false|_=>undef)
  (Wd6 W1 Wb Wc (fun w=>J (pre++sub) w/\fH O B0 w g' k (bs++[c])/\gY O g' t Wc w)) (by omega) (by rfl) (by rfl) (fun listed a w i o hi ho V p=>?_) (fun a w h1 h2 h3 h4 h5=>?_) ⟨fun _=>(by rw [hW1]),fun h=>(by cases h),fun h=>(by cases h),fun h=>(by cases h),fun h=>(by cases h),fun h=>(by cases h)⟩
 .have hlt:i<10:=(cz hi).1;have hnot:listed.getD i false=false:=hnot hi V.len;rcases i with - | - | - | - | - | - | - | - | - | - |i;all_goals first|omega|(have ho1:=ho;dsimp only [EC,EB,bu,Tryz.f123,gN,cy,cIn,nW,Option.getD] at ho1;simp only [gA,gS,gZ,oI,Nat.reduceAdd,zA] at ho1;subst ho1)
  .have q0:a.eval (.tmp 8)=.pointer (some ⟨kb,0,none⟩):=(V.old 8 (by omega)).trans e8;refine an ho rfl (fun c h=>by cases h) (v:=.pointer (some ⟨kb,1,none⟩)) (w':=w) (by generalize a.eval=ρ at q0 ⊢;simp [go_sem,q0]) ⟨_,rfl,fun _=>rfl,V.world.other (by omega) (by omega) (by omega)⟩
  .have q0:a.eval (.tmp 33)=.pointer (some ⟨kb,1,none⟩):=V.new 0 (by omega) (p ⟨0,.data⟩ (by simp) rfl);refine an ho rfl (fun c h=>by cases h) (v:=.pointer q) (w':=w) (by generalize a.eval=ρ at q0 ⊢;simp [go_sem,q0,hcell w V.world 1 _ k1]) ⟨_,rfl,fun _=>rfl,V.world.other (by omega) (by omega) (by omega)⟩
  .have q0:a.eval (.tmp 1)=mT g cap bs:=(V.old 1 (by omega)).trans e1;refine an ho rfl (fun c h=>by cases h) (v:=mT g cap bs) (w':=w) (by generalize a.eval=ρ at q0 ⊢;simp [go_sem,q0]) ⟨_,rfl,fun _=>rfl,V.world.other (by omega) (by omega) (by omega)⟩
  .have q0:a.eval (.tmp 8)=.pointer (some ⟨kb,0,none⟩):=(V.old 8 (by omega)).trans e8;refine an ho rfl (fun c h=>by cases h) (v:=.pointer (some ⟨kb,0,none⟩)) (w':=w) (by generalize a.eval=ρ at q0 ⊢;simp [go_sem,q0]) ⟨_,rfl,fun _=>rfl,V.world.other (by omega) (by omega) (by omega)⟩
  .have q0:a.eval (.tmp 36)=.pointer (some ⟨kb,0,none⟩):=V.new 3 (by omega) (p ⟨3,.data⟩ (by simp) rfl);refine an ho rfl (fun c h=>by cases h) (v:=.int .u8 (c.toNat:Int)) (w':=w) (by generalize a.eval=ρ at q0 ⊢;simp [go_sem,q0,hcell w V.world 0 _ k0]) ⟨_,rfl,fun _=>rfl,V.world.other (by omega) (by omega) (by omega)⟩
  .have q0:a.eval (.tmp 37)=.int .u8 (c.toNat:Int):=V.new 4 (by omega) (p ⟨4,.data⟩ (by simp) rfl);have hw:=V.world.w1 hnot;subst hw;refine an ho rfl (fun c h=>by cases h) (v:=.slice (some ⟨w.heap.size,0,none⟩) 1 1) (w':=w.alloc (.cells #[.int .u8 (c.toNat:Int)] 5)) (by generalize a.eval=ρ at q0 ⊢;simp [go_sem,q0]) ⟨_,rfl,fun _=>rfl,(by rw [<-y];exact V.world.at5 hnot)⟩
  .have q0:a.eval (.tmp 35)=mT g cap bs:=V.new 2 (by omega) (p ⟨2,.data⟩ (by simp) rfl);have h5:=p ⟨5,.data⟩ (by simp) rfl;have q1:a.eval (.tmp 38)=.slice (some ⟨W1.heap.size,0,none⟩) 1 1:=V.new 5 (by omega) h5;have hw:=V.world.w2 h5 hnot;subst hw;refine an ho rfl (fun c h=>by cases h) (v:=mT g' k (bs++[c])) (w':=Wc) (by generalize a.eval=ρ at q0 q1 ⊢;simp [execOp,resolve,invoke,builtin,q0,q1,hrun,Result.andThen]) ⟨_,rfl,fun _=>rfl,V.world.at6 h5 hnot⟩
  .have q0:a.eval (.tmp 2)=yf l:=(V.old 2 (by omega)).trans e2;refine an ho rfl (fun c h=>by cases h) (v:=yf l) (w':=w) (by generalize a.eval=ρ at q0 ⊢;simp [go_sem,q0]) ⟨_,rfl,fun _=>rfl,V.world.other (by omega) (by omega) (by omega)⟩
  .have q0:a.eval (.tmp 34)=.pointer q:=V.new 1 (by omega) (p ⟨1,.data⟩ (by simp) rfl);have h6:=p ⟨6,.data⟩ (by simp) rfl;have q1:a.eval (.tmp 39)=mT g' k (bs++[c]):=V.new 6 (by omega) h6;have q2:a.eval (.tmp 40)=yf l:=V.new 7 (by omega) (p ⟨7,.data⟩ (by simp) rfl);have hw:=V.world.w3 h6 hnot;subst hw;refine iO (f:=123) (args:=#[.pointer q,mT g' k (bs++[c]),yf l]) (w':=w) ho rfl (fun c h=>by cases h) (by generalize hρ:a.eval=ρ at q0 q1 q2 ⊢;have qf:=hfun a hρ 123;simp [go_sem,q0,q1,q2,qf]) (hsub.mono ?_);rintro e X ⟨rfl,hX⟩;exact ⟨_,rfl,_,rfl,fun _=>rfl,V.world.at8 h6 hX⟩
  .have q0:a.eval (.tmp 41)=.bool true:=V.new 8 (by omega) (p ⟨8,.data⟩ (by simp) rfl);refine an ho rfl (fun c h=>by cases h) (v:=.bool false) (w':=w) (by generalize a.eval=ρ at q0 ⊢;simp [go_sem,q0]) ⟨_,rfl,fun _=>rfl,V.world.other (by omega) (by omega) (by omega)⟩
 .obtain ⟨d,hd,hw⟩:=h5;have hP:=hw.w4 (hd 8 (by decide));exact hend a w (h1.trans hs) h2 h3 (h4 9 (by omega) (by decide)) hP.1 (E w hP).1 (E w hP).2
end
end
section
open Go.RowKit
structure Place (ks:List (UInt8×Option Ww))(c:UInt8)(r:Nat):Prop where
 le:r<=ks.length
 lo:∀j (h:j<ks.length),j<r->ks[j].1<c
 hi:∀j (h:j<ks.length),r<=j->c<=ks[j].1
def nc (ks:List (UInt8×Option Ww))(c:UInt8)(r:Nat):Bool:=(ks[r]?.map (·.1))==some c
def labs (ks:List (UInt8×Option Ww))(i:Nat):Int:=((ks.getD i (0,none)).1.toNat:Int)
def ptrs (ks:List (UInt8×Option Ww))(i:Nat):Option Ww:=(ks.getD i (0,none)).2
theorem lA {ks:List (UInt8×Option Ww)}{i:Nat}(h:i<ks.length):labs ks i=(ks[i].1.toNat:Int):=by simp [labs,h]
theorem FD {ks:List (UInt8×Option Ww)}{i:Nat}(h:i<ks.length):ptrs ks i=ks[i].2:=by simp [ptrs,h]
theorem FE (ks:List (UInt8×Option Ww))(c:UInt8)(r:Nat):decide (r<ks.length/\labs ks r=(c.toNat:Int))=nc ks c r:=by
 unfold nc;by_cases hr:r<ks.length
 .rw [Bool.eq_iff_iff];simp only [hr,List.getElem?_eq_getElem,Option.map_some,true_and,lA hr,decide_eq_true_eq,beq_iff_eq,oI];exact ⟨fun h=>UInt8.toNat_inj.1 (by omega),fun h=>by rw [h]⟩
 .simp [hr]
theorem oa (A:Nat->Prop)(g:Nat)(kv:Wq)(ks:List (UInt8×Option Ww))(c:UInt8)(w:Wz)
  (c2:w.cell? ⟨g,2,none⟩=some kv) (hk:gC A w kv ks) (hs:ks.Pairwise (fun a b=>a.1<b.1)):
  Calls Yq.prog 116 #[.pointer (some ⟨g,0,none⟩),.int .u8 (c.toNat:Int)] w fun e w'=>∃r:Nat,Place ks c r /\
   e=.returned (.tuple #[.int .i64 r,.bool (nc ks c r)])/\Below w.heap.size w w':=by
 by_cases hne:ks=[]
 .subst hne;obtain ⟨a,cap,rfl,-,-⟩:=hk;go_enter (Yq.nq func116),ntmps116;go_wp2_with (go_at_call 133;refine (Dc _ _ _ _).mono ?_;rintro e w' ⟨rfl,rfl⟩)
  go_ret2
  exact ⟨0,⟨lR _,fun j h=>absurd h (Nat.not_lt_zero _),fun j h=>absurd h (Nat.not_lt_zero _)⟩,by simp [nc],bR _ _⟩
 .obtain ⟨k,cap,rfl,-,-,hc,-⟩:=hk.cells hne;have hle:=lw ks hs;have hbs:Calls Yq.prog 133 #[.slice (some ⟨k,0,none⟩) ks.length cap,.int .u8 (c.toNat:Int),.func (.func 134) #[] #[]] w fun e w'=>∃r:Nat,Place ks c r /\
    e=.returned (.tuple #[.int .i64 r,.bool (nc ks c r)])/\Below w.heap.size w w':=by
   refine (FB k ks.length cap (labs ks) (ptrs ks) (c.toNat:Int) w (by omega)
    (fun i hi=>by rw [lA hi,FD hi];exact hc i hi) (fun i j f d=>by rw [lA d,lA (Nat.lt_trans f d)];exact jN hs i j f d)).mono ?_
   rintro e w' ⟨r,h1,h2,h3,rfl,h5⟩;refine ⟨r,⟨h1,fun j h d=>?_,fun j h d=>?_⟩,by rw [FE],h5⟩
   .have:=h2 j d;rw [lA h] at this;exact UInt8.lt_iff_toNat_lt.2 (by omega)
   .have:=h3 j d h;rw [lA h] at this;exact UInt8.le_iff_toNat_le.2 (by omega)
  clear hc;go_enter (Yq.nq func116),ntmps116;go_wp2_with (go_at_call 133;refine hbs.mono ?_;rintro e w' ⟨r,h1,rfl,h5⟩)
  go_ret2
  exact ⟨r,h1,rfl,h5⟩
theorem Place.mem {ks:List (UInt8×Option Ww)}{c:UInt8}{r:Nat}(h:nc ks c r=true):∃hr:r<ks.length,ks[r].1=c:=by
 unfold nc at h;by_cases hr:r<ks.length
 .exact ⟨hr,by simpa [hr] using h⟩
 .simp [List.getElem?_eq_none (Nat.le_of_not_lt hr)] at h
theorem Place.nomem {ks:List (UInt8×Option Ww)}{c:UInt8}{r:Nat}(hp:Place ks c r)(hs:ks.Pairwise (fun a b=>a.1<b.1))(h:nc ks c r=false):∀q,(c,q) ∉ ks:=by
 intro q hq;obtain ⟨j,i,e⟩:=gM hq;by_cases f:j<r
 .have:=hp.lo j i f;rw [e] at this;have:=UInt8.lt_iff_toNat_lt.1 this;simp only at this;omega
 .have hr:r<ks.length:=by omega
  have h1:=hp.hi r hr (lR _);by_cases d:j=r
  .subst d;simp [nc,i,e] at h
  .have h2:=jN hs r j (by omega) i;rw [e] at h2;have:=UInt8.le_iff_toNat_le.1 h1;simp only at h2;omega
theorem ai.nil {A:Nat->Prop}{n:Nat}{w:Wz}{f:List UInt8->List Ver}(h:∀k,f k=[]):ai A n w none f:=by
 cases n with
 |zero=>exact ⟨rfl,h⟩
 |succ n=>exact Or.inl ⟨rfl,h⟩
theorem ai.of_nil {A:Nat->Prop}{n:Nat}{w:Wz}{f:List UInt8->List Ver}(h:ai A n w none f):∀k,f k=[]:=by
 cases n with
 |zero=>exact h.2
 |succ n=>
  rcases h with h|⟨g,hv,kv,ks,hp,_⟩
  .exact h.2
  .cases hp
theorem A8 (A:Nat->Prop)(g:Nat)(kv:Wq)(ks:List (UInt8×Option Ww))(c:UInt8)(w:Wz)
  (c2:w.cell? ⟨g,2,none⟩=some kv) (hk:gC A w kv ks) (hs:ks.Pairwise (fun a b=>a.1<b.1)):
  Calls Yq.prog 111 #[.pointer (some ⟨g,0,none⟩),.int .u8 (c.toNat:Int)] w fun e w'=>∃q,e=.returned (.pointer q)/\((c,q)∈ks\/(q=none/\∀q',(c,q') ∉ ks))/\Below w.heap.size w w':=by
 have hf:=oa A g kv ks c w c2 hk hs;have HS:Hid (ks.Pairwise (fun a b=>a.1<b.1)):=hs;clear hs;go_enter (Yq.nq func111),ntmps111;go_wp2_with fail
 refine hf.mono ?_;rintro e w' ⟨r,h1,rfl,hb⟩;by_cases d:nc ks c r=true
 .obtain ⟨hr,f⟩:=Place.mem d;have hne:ks≠[]:=by intro h;subst h;simp at hr
  obtain ⟨gk,cap,rfl,-,-,hc,-⟩:=hk.cells hne;obtain ⟨d0,d1⟩:=hc r hr;have d1':=aj hb d1;have c2':=aj hb c2;have HR:Hid (ks[r].1=c):=f;clear hc d0 d1 c2 f;go_wp2;go_ret;exact ⟨_,rfl,Or.inl (by have:=List.getElem_mem hr;rw [<-HR.out];exact this),hb⟩
 .have i:nc ks c r=false:=by simpa using d
  clear d;go_wp2;go_ret;exact ⟨_,rfl,Or.inr ⟨rfl,h1.nomem HS.out i⟩,hb⟩
theorem A9 (A:Nat->Prop)(n:Nat)(a:Ww)(f:List UInt8->List Ver)(c:UInt8)(w:Wz)(h:ai A (n+1) w (some a) f):
  Calls Yq.prog 111 #[.pointer (some a),.int .u8 (c.toNat:Int)] w fun e w'=>∃q,e=.returned (.pointer q)/\ai A n w q (fun k=>f (c::k))/\Below w.heap.size w w':=by
 rcases h with h|⟨g,hv,kv,ks,hp,hA,c0,c1,c2,hh,hks,hs,hch,hno⟩
 .cases h.1
 .cases hp;refine (A8 A g kv ks c w c2 hks hs).mono ?_;rintro e w' ⟨q,he,hq,hb⟩;refine ⟨q,he,?_,hb⟩;rcases hq with hq|⟨rfl,hq⟩
  .exact hch c q hq
  .exact ai.nil (hno.1 c hq)
theorem Ba (s:ByteArray)(k:Nat)(h:k<s.size):s.data.toList.take (k+1)=s.data.toList.take k++[s[k]]:=by
 rw [tS (by simpa using h)];rfl
theorem nd (A:Nat->Prop)(w:Wz):aU A w (.slice none 0 0) []:=⟨none,0,rfl,fun _=>rfl,fun h=>absurd rfl h⟩
theorem pC (A:Nat->Prop)(n:Nat)(p:Option Ww)(f:List UInt8->List Ver)(key:ByteArray)(w:Wz)(l:key.size<=maxLen)(h:ai A n w p f):
  Calls Yq.prog 91 #[.pointer p,.string key] w fun e w'=>∃q,e=.returned (.pointer q)/\ai A (n-key.size) w' q (fun x=>f (key.data.toList++x))/\Below w.heap.size w w':=by
 unfold maxLen at l;have H:Hid (ai A n w p f):=h;clear h;go_enter (Yq.nq func91),ntmps91;go_wp2
 go_loopw [0,5] (fun q i wr=>∃ (k:Nat) (c:Option Ww),k<=key.size/\q=.pointer c/\i=.int .i64 k/\ai A (n-k) wr c (fun x=>f (key.data.toList.take k++x))/\Below w.heap.size w wr) (fun _ i _=>key.size-(intOf i).toNat)
 case atStart=>exact ⟨0,p,Nat.zero_le _,rfl,rfl,by simpa using H.out,bR _ _⟩
 case round=>
  obtain ⟨k,c,hk,rfl,rfl,hq,hb⟩:=hrel;cases c with
  |none=>
   have hnil:∀x,f (key.data.toList++x)=[]:=fun x=>by
    have:=hq.of_nil (key.data.toList.drop k++x)
    rwa [<-pA,List.take_append_drop] at this
   have HN:Hid (∀x,f (key.data.toList++x)=[]):=hnil;clear hnil hq;go_wp2;go_ret;exact ⟨none,rfl,ai.nil HN.out,hb⟩
  |some a=>
   by_cases hlt:k<key.size
   .obtain ⟨m,hm⟩:∃m,n-k=m+1:=by
     cases j:n-k with
     |zero=>rw [j] at hq;exact absurd hq.1 (by simp)
     |succ m=>exact ⟨m,rfl⟩
    rw [hm] at hq;have HM:Hid (n-k=m+1):=hm;clear hm;have hch:=A9 A m a _ key[k] wr hq;clear hq;go_wp2_with (go_at_call 111;refine hch.mono ?_;rintro e w' ⟨q,rfl,d,b⟩)
    refine ⟨⟨k+1,q,by omega,rfl,by go_num,?_,hb.trans (b.mono hb.size)⟩,by simp [intOf];omega⟩;have e:n-(k+1)=m:=by have:=HM.out;omega
    rw [e,Ba key k hlt];simpa using d.on b
   .have hke:key.data.toList.take k=key.data.toList:=by
     rw [tO];have:key.data.toList.length=key.size:=by simp
     omega
    have hkk:k=key.size:=by omega
    rw [hke,hkk] at hq;have HQ:Hid (ai A (n-key.size) wr (some a) (fun x=>f (key.data.toList++x))):=hq;clear hq hke hkk;go_wp2;go_ret;exact ⟨some a,rfl,HQ.out,hb⟩
theorem nf (A:Nat->Prop)(n:Nat)(p:Option Ww)(f:List UInt8->List Ver)(key:ByteArray)(w:Wz)(hn:key.size<n)(b:key.size<=maxLen)(h:ai A n w p f):
  Calls Yq.prog 63 #[.agg #[.pointer p],.string key] w fun e w'=>∃hv,e=.returned (.tuple #[hv,.bool (!(f key.data.toList).isEmpty)])/\aU A w' hv (f key.data.toList)/\Below w.heap.size w w':=by
 have hfo:=fun w' (d:ai A n w' p f)=>pC A n p f key w' b d
 have H:Hid (ai A n w p f):=h;clear h;go_enter (Yq.nq func63),ntmps63;go_wp2_with fail
 refine (hfo _ (H.out.on ((bR _ _).alloc (lR _) _))).mono ?_;rintro e w1 ⟨q,rfl,hq,hb1⟩;have hb:Below w.heap.size w w1:=((bR _ w).alloc (lR _) _).trans (hb1.mono (by simp));cases q with
 |none=>
  have hnil:f key.data.toList=[]:=by
   have:=hq.of_nil [];simpa using this
  have HN:Hid (f key.data.toList=[]/\Below w.heap.size w w1):=⟨hnil,hb⟩;clear hnil hq hb hb1;go_wp2
  go_ret2
  refine ⟨.slice none 0 0,?_,?_,HN.out.2⟩
  .rw [HN.out.1];rfl
  .rw [HN.out.1];exact nd A _
 |some a=>
  obtain ⟨m,hm⟩:∃m,n-key.size=m+1:=⟨n-key.size-1,by omega⟩;rw [hm] at hq;rcases hq with hq|⟨g,hv,kv,ks,hp,hA,c0,c1,c2,c,hks,hs,hch,hno⟩
  .cases hq.1
  .cases hp;simp only [List.append_nil] at c0 c;clear hch hno hs hks hm;cases he:(f key.data.toList).isEmpty with
   |true=>
    rw [he] at c0;have HE:Hid ((f key.data.toList).isEmpty=true/\Below w.heap.size w w1):=⟨he,hb⟩;clear he hb hb1;go_wp2
    go_ret2
    have hnil:=List.isEmpty_iff.1 HE.out.1;refine ⟨.slice none 0 0,?_,?_,HE.out.2⟩
    .rw [HE.out.1];rfl
    .rw [hnil];exact nd A _
   |false=>
    rw [he] at c0;have HE:Hid ((f key.data.toList).isEmpty=false/\Below w.heap.size w w1):=⟨he,hb⟩;clear he hb hb1;go_wp2
    go_ret2
    refine ⟨hv,?_,c,HE.out.2⟩;rw [HE.out.1];rfl
end
section
open Go.Conc Go.ConcX Go.ConcX.Gen Go.RowKit
theorem iQ (a:Act)(n:Nat)(h:a.tmps.size=n):a=⟨((List.range n).map fun i=>a.eval (.tmp i)).toArray,a.defers⟩:=by
 obtain ⟨t,d⟩:=a;have:t=((List.range n).map fun i=>Act.eval ⟨t,d⟩ (.tmp i)).toArray:=by
  refine Array.ext (by simpa using h) (fun i h1 h2=>?_);simp [Act.eval,Array.getD_eq_getD_getElem?,h1]
 rw [<-this]
section
variable {A:Nat->Prop} {w0:Wz} {B0 t l:Nat} {O:Wz->Nat->Prop} {total:KVs} {J:KVs->Wz->Prop}
theorem FF (C:qQ A w0 B0 t l O total J):∀ (n:Nat)(p:Option Ww)(f:List UInt8->List Ver)(bs:List UInt8)(done:KVs)(W:Wz)(g cap:Nat),ai A n w0 p f->p≠none->bs.length+n<=1000->done++bV n f bs <+:total->Ag A w0 W->fH O B0 W g cap bs->J done W ->
  Calls Yq.prog 123 #[.pointer p,mT g cap bs,yf l] W fun e W'=>e=.returned (.bool true)/\J (done++bV n f bs) W'/\fH O B0 W' g cap bs/\gY O g t W W':=by
 intro n;induction n with
 |zero=>intro p f bs done W g cap h hp;exact absurd h.1 hp
 |succ n ih=>
  intro p f bs done W g cap h hp hlen u F K M;rcases h with h|⟨gn,hv,kv,ks,rfl,hA,c0,c1,c2,hh,hks,hs,hch,hno,bl⟩
  .exact absurd h.1 hp
  rw [yR n f bs ks hs hno] at u ⊢;have hgt:=(C.tree gn hA);have H:∀X,Ag A w0 X->∀b j,A b->X.cell? ⟨b,j,none⟩=w0.cell? ⟨b,j,none⟩:=fun X hX b j hb=>cB (a:=⟨b,j,none⟩) (hX b hb)
  obtain ⟨v,hown⟩:∃v:KVs,(if (f []).isEmpty then [] else [(bs,f [])])=v:=⟨_,rfl⟩;have b2:Hid ((if (f []).isEmpty then [] else [(bs,f [])])=v):=hown;rw [hown] at u ⊢;go_enter (Yq.nq func123),ntmps123
  go_upto_region 1 with fail
  rename_i K1 hK1 K2 G;refine wpIn_wide.1 (show Code.wpIn (wf none) 0 _ _ _ _ _ from De (id:=1) (n:=0) C rfl rfl rfl rfl ((H W F gn 0 hA).trans c0) ((H W F gn 1 hA).trans c1) hgt.2.1 hgt.1 hh (by rw [hown];exact (List.prefix_append _ _).trans (by rw [pA];exact u)) K M (fun a w h1 h2 h3 h4 y hk1=>?_));rw [hown] at y;have h2:a.defers=[]:=h2;have ha:=iQ a 44 h1;have f0:a.eval (.tmp 0)=.pointer (some ⟨gn,0,none⟩):=h3 0 (by decide);have f1:a.eval (.tmp 1)=mT g cap bs:=h3 1 (by decide);have f2:a.eval (.tmp 2)=yf l:=h3 2 (by decide);have f6:a.eval (.tmp 6)=.bool false:=h3 6 (by decide);refine G _ _ ?_;rw [ha,h2];clear ha h1 h2 h3;generalize a.eval=ρ at f0 f1 f2 f6 h4 ⊢;simp only [List.range,List.range.loop,List.map_cons,List.map_nil,f0,f1,f2,f6,h4];clear f0 f1 f2 f6 h4 G K2;have hks':=hks;obtain ⟨ka,kc,rfl,hk0,bq⟩:=hks';have A1:Ag A w0 w:=F.keepR C M (hk1.row g) K.base;have KR1:fH O B0 w g cap bs:=by
   obtain ⟨x,e,z,ho⟩:=K.obj;exact ⟨K.toiv.same ((hk1.2.2.2 g _ ho rfl (by have:=K.base;have:=C.box;omega) K.no).trans ho.symm),sW hk1.2.2.1 ho K.no⟩
  have d2:w.cell? ⟨gn,2,none⟩=some (.slice ka ks.length kc):=(H w A1 gn 2 hA).trans c2;have HX:Hid (J (done++v) w/\fH O B0 w g cap bs/\gY O g t W w/\Ag A w0 w):=⟨y,KR1,hk1.row g,A1⟩;have hkl:ks.length<=256:=lw ks hs;have Q:Hid ((∀c q,(c,q)∈ks->ai A n w0 q fun k=>f (c::k))/\(∀c q,(c,q)∈ks->q≠none)/\gC A w0 (.slice ka ks.length kc) ks):=⟨hch,bl,hks⟩;obtain ⟨d,D⟩:∃d:Nat->KVs,d=fun i=>done++(v++(ks.take i).flatMap fun k=>bV n (fun x=>f (k.1::x)) (bs++[k.1])):=⟨_,rfl⟩
  have HL:Hid (d=fun i=>done++(v++(ks.take i).flatMap fun k=>bV n (fun x=>f (k.1::x)) (bs++[k.1]))):=D;have b0:Hid (done++(v++ks.flatMap fun k=>bV n (fun x=>f (k.1::x)) (bs++[k.1])) <+:total):=u;have HIH:=show Hid _ from ih;have s:Hid (qQ A w0 B0 t l O total J):=C;have ap:Hid (B0<=g/\t<B0):=⟨K.base,C.box⟩;clear y KR1 A1 hk1 hch bl bq u K M F hh hno hk0 hs hks ih C D H hgt;go_wp2_with fail
  go_loopw [8,29] (fun _ s29 wr=>∃i:Nat,i<=ks.length/\s29=.int .i64 i/\J (d i) wr/\fH O B0 wr g cap bs/\gY O g t W wr/\Ag A w0 wr) (fun _ s29 _=>ks.length-(intOf s29).toNat)
  case atStart=>exact ⟨0,Nat.zero_le _,rfl,by rw [HL.out];simpa using HX.out.1,HX.out.2.1,HX.out.2.2.1,HX.out.2.2.2⟩
  case round=>
   obtain ⟨i,hi,rfl,M,hK,hR,I⟩:=hrel;have HR:Hid (J (d i) wr/\fH O B0 wr g cap bs/\gY O g t W wr/\Ag A w0 wr):=⟨M,hK,hR,I⟩;by_cases hlt:i<ks.length
   .have hne:ks≠[]:=by intro e;rw [e] at hlt;simp at hlt
    obtain ⟨P,capk,he,hAk,hgl,a0,-⟩:=Q.out.2.2.cells hne;cases he;have c0:wr.cell? ⟨P,i * 2,none⟩=some (.int .u8 (ks[i].1.toNat:Int)):=(cB (a:=⟨P,i * 2,none⟩) (I P hAk)).trans (a0 i hlt).1;have c1:wr.cell? ⟨P,i * 2+1,none⟩=some (.pointer ks[i].2):=(cB (a:=⟨P,i * 2+1,none⟩) (I P hAk)).trans (a0 i hlt).2;have a3:Hid ((ks[i].1,ks[i].2)∈ks):=List.getElem_mem hlt;have bp:d (i+1)=d i++bV n (fun x=>f (ks[i].1::x)) (bs++[ks[i].1]):=by
     rw [HL.out];simp only;rw [tS hlt,List.flatMap_append,List.flatMap_singleton];simp only [pA]
    have V:Hid (d (i+1)=d i++bV n (fun x=>f (ks[i].1::x)) (bs++[ks[i].1])):=bp;clear bp;have bt:Hid (d (i+1) <+:total):=by
     rw [HL.out];simp only;refine List.IsPrefix.trans ?_ b0.out
     conv=>rhs;rw [<-List.take_append_drop (i+1) ks,List.flatMap_append]
     refine ⟨(ks.drop (i+1)).flatMap fun k=>bV n (fun x=>f (k.1::x)) (bs++[k.1]),?_⟩;simp
    generalize ks[i]=bv at *;obtain ⟨r,kq⟩:=bv;simp only at c0 c1 a3 V;clear M hK hR I a0
    go_upto_region 6 with fail
    rename_i K1 hK1 K2 G;obtain ⟨B,E,be,af⟩:=HR.out;have m:∀b,b<wr.heap.size->(wr.alloc (.cells #[.int .u8 (r.toNat:Int),.pointer kq] 190)).heap[b]?=wr.heap[b]?:=fun b hb=>bA _ _ _ hb
    have hBr:B0<=wr.heap.size:=s.out.size _ _ B;have hown:∀b,O (wr.alloc (.cells #[.int .u8 (r.toNat:Int),.pointer kq] 190)) b->O wr b:=fun b=>s.out.own _ _ b (m t (by have:=ap.out;omega))
    refine wpIn_wide.1 (show Code.wpIn (wf none) 0 _ _ _ _ _ from Df (id:=6) (n:=0) (kb:=wr.heap.size) (c:=r) (q:=kq) (pre:=d i) (sub:=bV n (fun x=>f (r::x)) (bs++[r])) s.out rfl rfl rfl rfl
     (by rw [cA (w:=wr) _ _ wr.heap.size 0 rfl];rfl) (by rw [cA (w:=wr) _ _ wr.heap.size 1 rfl];rfl) (by have:=ap.out;omega) (fun hO=>by have:=(s.out.ownB _ _ _ B (hown _ hO)).2;omega) (by have:=E.lt;omega) (by omega)
     (fun b hb=>(m b (by have:=s.out.tree b hb;omega)).trans (af b hb)) (E.same (m g E.lt) (hown g)) (s.out.stable _ _ _ B (fun b hb=>m b (by omega)) (fun b hb=>m b (s.out.ownB _ _ _ B hb).2) (by simp) rfl)
     (fun X g' bo hX b1 bx=>HIH.out kq (fun x=>f (r::x)) (bs++[r]) (d i) X g' bo (Q.out.1 r kq a3.out) (Q.out.2.1 r kq a3.out) (by simp;omega) (by rw [<-V.out];exact bt.out) hX b1 bx)
     (fun a w h1 h2 h3 h4 y N hk1=>?_))
    rw [<-V.out] at y;have bk:gY O g t wr (wr.alloc (.cells #[.int .u8 (r.toNat:Int),.pointer kq] 190)):=⟨by simp,rfl,fun b h=>.inl (hown b h),fun b o hb _ _ _ _=>(m b (eS hb).1).trans hb⟩;have bn:gY O g t W w:=be.trans (bk.trans hk1);clear bk;have L:Hid (J (d (i+1)) w/\fH O B0 w g cap bs/\gY O g t W w/\Ag A w0 w):=⟨y,N,bn,fun b hb=>by
     obtain ⟨h5,h6,o,h7,h8⟩:=s.out.tree b hb;rw [h7];exact hk1.2.2.2 b o ((m b (by omega)).trans ((af b hb).trans h7)) h8 h6 (by have:=ap.out;omega) (fun hO=>by have:=(s.out.ownB _ _ _ B (hown b hO)).1;omega)⟩
    have h2:a.defers=[]:=h2;have ha:=iQ a 44 h1;have f0:a.eval (.tmp 0)=.pointer (some ⟨gn,0,none⟩):=h3 0 (by decide);have f1:a.eval (.tmp 1)=mT g cap bs:=h3 1 (by decide);have f2:a.eval (.tmp 2)=yf l:=h3 2 (by decide);have f3:a.eval (.tmp 3)=ρ (.tmp 3):=h3 3 (by decide);have f4:a.eval (.tmp 4)=ρ (.tmp 4):=h3 4 (by decide);have f5:a.eval (.tmp 5)=ρ (.tmp 5):=h3 5 (by decide);have f6:a.eval (.tmp 6)=u6:=h3 6 (by decide);have f7:a.eval (.tmp 7)=ρ (.tmp 7):=h3 7 (by decide);have f8:a.eval (.tmp 8)=.pointer (some ⟨wr.heap.size,0,none⟩):=h3 8 (by decide);have f9:a.eval (.tmp 9)=ρ (.tmp 9):=h3 9 (by decide);have ab:a.eval (.tmp 10)=ρ (.tmp 10):=h3 10 (by decide);have a4:a.eval (.tmp 11)=ρ (.tmp 11):=h3 11 (by decide);have ad:a.eval (.tmp 12)=ρ (.tmp 12):=h3 12 (by decide);have T:a.eval (.tmp 13)=ρ (.tmp 13):=h3 13 (by decide);have Y:a.eval (.tmp 14)=ρ (.tmp 14):=h3 14 (by decide);have f15:a.eval (.tmp 15)=ρ (.tmp 15):=h3 15 (by decide);have U:a.eval (.tmp 16)=ρ (.tmp 16):=h3 16 (by decide);have a7:a.eval (.tmp 17)=ρ (.tmp 17):=h3 17 (by decide);have a6:a.eval (.tmp 18)=ρ (.tmp 18):=h3 18 (by decide);have R:a.eval (.tmp 19)=ρ (.tmp 19):=h3 19 (by decide);have a2:a.eval (.tmp 20)=ρ (.tmp 20):=h3 20 (by decide);have S:a.eval (.tmp 21)=ρ (.tmp 21):=h3 21 (by decide);have bd:a.eval (.tmp 22)=ρ (.tmp 22):=h3 22 (by decide);have a1:a.eval (.tmp 23)=.bool false:=h3 23 (by decide);have ar:a.eval (.tmp 24)=.pointer (some ⟨gn,0,none⟩):=h3 24 (by decide);have a8:a.eval (.tmp 25)=.pointer (some ⟨gn,0,none⟩):=h3 25 (by decide);have bb:a.eval (.tmp 26)=.pointer (some ⟨gn,2,none⟩):=h3 26 (by decide);have Z:a.eval (.tmp 27)=.slice (some ⟨P,0,none⟩) ks.length kc:=h3 27 (by decide);have f28:a.eval (.tmp 28)=.int .i64 (ks.length:Int):=h3 28 (by decide);have f29:a.eval (.tmp 29)=.int .i64 (i:Int):=h3 29 (by decide);have a9:a.eval (.tmp 30)=.bool true:=h3 30 (by decide);have a5:a.eval (.tmp 31)=.pointer (some ⟨P,i * 2,none⟩):=h3 31 (by decide);have al:a.eval (.tmp 32)=.agg #[.int .u8 (r.toNat:Int),.pointer kq]:=h3 32 (by decide);refine G _ _ ?_;rw [ha,h2];clear ha h1 h2 h3 B E be af y N hk1 bn m;generalize a.eval=σ at f0 f1 f2 f3 f4 f5 f6 f7 f8 f9 ab a4 ad T Y f15 U a7 a6 R a2 S bd a1 ar a8 bb Z f28 f29 a9 a5 al h4 ⊢;simp only [List.range,List.range.loop,List.map_cons,List.map_nil,f0,f1,f2,f3,f4,f5,f6,f7,f8,f9,ab,a4,ad,T,Y,f15,U,a7,a6,R,a2,S,bd,a1,ar,a8,bb,Z,f28,f29,a9,a5,al,h4];clear f0 f1 f2 f3 f4 f5 f6 f7 f8 f9 ab a4 ad T Y f15 U a7 a6 R a2 S bd a1 ar a8 bb Z f28 f29 a9 a5 al h4;go_wp2_with fail
    exact ⟨⟨_,_,_,⟨i+1,by omega,by simp,L.out.1,L.out.2.1,L.out.2.2.1,L.out.2.2.2⟩,rfl,rfl,rfl⟩,by simp [intOf];omega⟩
   .go_wp2_with fail
    have bw:i=ks.length:=by omega
    subst bw;have e1:d ks.length=done++(v++ks.flatMap fun k=>bV n (fun x=>f (k.1::x)) (bs++[k.1])):=by rw [HL.out];simp
    rw [e1] at M;go_ret;exact ⟨rfl,M,hK,hR⟩
end
def cu (f:List UInt8->List Ver)(p:List UInt8):KVs:=bV (41-p.length) (fun k=>f (p++k)) p
theorem pD {B:Nat}(w:Wz)(s:ByteArray)(cap:Nat)(d:B<=w.heap.size)(hc:s.size<=cap):
  iv B (w.drew.alloc (.cells (bytesRow s cap) 5 ((bytesRow s cap).size,(bytesRow s cap).size+1))) w.heap.size cap s.data.toList:=by
 have a:(w.drew.alloc (.cells (bytesRow s cap) 5 ((bytesRow s cap).size,(bytesRow s cap).size+1))).heap[w.heap.size]?=some (.cells (bytesRow s cap) 5 ((bytesRow s cap).size,(bytesRow s cap).size+1)):=by
  have:=aN w.drew (.cells (bytesRow s cap) 5 ((bytesRow s cap).size,(bytesRow s cap).size+1));exact this
 have hss:s.data.size=s.size:=rfl;have hsz:(bytesRow s cap).size=cap:=by simp [bytesRow];omega
 have hlen:s.data.toList.length=s.size:=by simp
 have b:∀j,(w.drew.alloc (.cells (bytesRow s cap) 5 ((bytesRow s cap).size,(bytesRow s cap).size+1))).cell? ⟨w.heap.size,j,none⟩=(bytesRow s cap)[j]?:=fun j=>cell_of_row _ w.heap.size j _ 5 _ a
 refine ⟨d,⟨_,_,_,a⟩,by rw [hlen];exact hc,fun j c=>?_,fun j c=>?_⟩
 .rw [b,bytesRow,Array.getElem?_append_left (by simpa using c)];simp at c;simp [c]
 .rw [b,World.frozen?,a];refine ⟨by simp [hsz,c],?_⟩;simp [hsz];omega
section
variable {A:Nat->Prop} {w0:Wz} {B0 t l:Nat} {O:Wz->Nat->Prop} {total:KVs} {J:KVs->Wz->Prop}
theorem xc (C:qQ A w0 B0 t l O total J)(root:Option Ww)(f:List UInt8->List Ver)(p:ByteArray)(W:Wz)(n y:Nat)(s:ai A 41 w0 root f)(i:total=cu f p.data.toList)(c:Ag A w0 W)(c1:W.cell? ⟨n,0,none⟩=some (.pointer root))(c2:W.cell? ⟨y,0,none⟩=some (.string p))(hp:p.size<=maxLen)(d:J [] W):
  Calls Yq.prog 122 #[yf l,.pointer (some ⟨n,0,none⟩),.pointer (some ⟨y,0,none⟩)] W fun e W'=>(∃v,e=.returned v)/\J total W':=by
 have hB:B0<=W.heap.size:=C.size _ _ d;have m:ai A 41 W root f:=ai.keep (fun b hb _=>⟨hb,c b hb⟩) 41 root f s;have HF:=pC A 41 root f p W hp m;have HC:Hid (qQ A w0 B0 t l O total J/\J [] W/\Ag A w0 W):=⟨C,d,c⟩;have HT:Hid (total=cu f p.data.toList):=i;clear C d c i s m;go_enter (Yq.nq func122),ntmps122;have HW:Hid (∀ (w1:Wz) (q:Option Ww),q.isSome=true->ai A (41-p.size) w1 q (fun x=>f (p.data.toList++x))->Below W.heap.size W w1 ->
   Calls Yq.prog 123 #[.pointer q,.slice (some ⟨w1.heap.size,0,none⟩) p.size (grownCap w1 p.size 0 5),yf l] (w1.drew.alloc (.cells (bytesRow p (grownCap w1 p.size 0 5)) 5 ((bytesRow p (grownCap w1 p.size 0 5)).size,(bytesRow p (grownCap w1 p.size 0 5)).size+1))) fun e W'=>e=.returned (.bool true)/\J total W'):=fun w1 q a hq hb=>by
  obtain ⟨C,d,c⟩:=HC.out;have hbl:∀b,b<W.heap.size->(w1.drew.alloc (.cells (bytesRow p (grownCap w1 p.size 0 5)) 5 ((bytesRow p (grownCap w1 p.size 0 5)).size,(bytesRow p (grownCap w1 p.size 0 5)).size+1))).heap[b]?=W.heap[b]?:=fun b h=>by
   rw [bA _ _ _ (by show b<w1.heap.size;have:=hb.size;omega)];exact hb.block b h
  have j:∀b,A b->b<W.heap.size:=fun b h=>by have:=(C.tree b h).1;omega
  have hlen:p.data.toList.length=p.size:=by simp
  have hn:p.size<=40:=by
   rcases Nat.lt_or_ge 40 p.size with h|h
   .have e:41-p.size=0:=by omega
    rw [e] at hq;rw [hq.1] at a;cases a
   .exact h
  have r:ai A (41-p.size) w0 q (fun x=>f (p.data.toList++x)):=ai.keep (fun b hA _=>⟨hA,((hb.block b (j b hA)).trans (c b hA)).symm⟩) _ q _ hq;have:=FF C (41-p.size) q (fun x=>f (p.data.toList++x)) p.data.toList [] _ w1.heap.size (grownCap w1 p.size 0 5) r (by intro e;rw [e] at a;cases a) (by omega) (by rw [HT.out,cu,hlen];exact List.prefix_refl _)
   (fun b hA=>(hbl b (j b hA)).trans (c b hA)) ⟨pD w1 p _ (by have:=hb.size;omega) (grownCap_ge _ _ _ _),fun h=>by
    have h1:=(C.ownB _ _ _ d (C.own _ _ _ (hbl t (by have:=C.box;omega)) h)).2;have:=hb.size;omega⟩ (C.stable _ _ _ d (fun b h=>hbl b (by omega)) (fun b h=>hbl b (C.ownB _ _ _ d h).2) (by have:=hb.size;rw [World.size_alloc];show W.heap.size<=w1.heap.size+1;omega) hb.os)
  rw [mT,hlen] at this;refine this.mono ?_;rintro e W' ⟨rfl,h1,-⟩;refine ⟨rfl,?_⟩;rw [HT.out,cu,hlen];exact h1
 go_wp2_with (first|(go_at_call 91;refine HF.mono ?_;clear HF;rintro e w1 ⟨q,rfl,hq,hb⟩;have c2':=aj hb c2;have hcv:=run_bytes_of_string (P:=Yq.prog) w1 9 48 5 p (Yq.u underlying9) (Yq.u underlying48) (Yq.u underlying5))|(go_at_call 123;refine (HW.out w1 q (by assumption) hq hb).mono ?_;rintro e w2 ⟨rfl,o⟩))
 .go_end0;exact ⟨⟨_,rfl⟩,o⟩
 .have a:q=none:=by
   cases q with
   |none=>rfl
   |some _=>simp at *
  subst a;go_end0;refine ⟨⟨_,rfl⟩,?_⟩;obtain ⟨C,d,-⟩:=HC.out;rw [HT.out,cu,iP _ _ _ (fun k=>hq.of_nil k)];exact C.stable _ _ _ d (fun b h=>hb.block b (by omega)) (fun b h=>hb.block b (C.ownB _ _ _ d h).2) hb.size hb.os
end
def lE (c t:Nat)(W W':Wz):Prop:=W.heap.size<=W'.heap.size/\W'.os=W.os/\∀b,b<W.heap.size->b≠c->b≠t->W'.heap[b]?=W.heap[b]?
theorem lE.below {c t:Nat}{W W':Wz}(h:Below W.heap.size W W'):lE c t W W':=⟨h.size,h.os,fun b hb _ _=>h.block b hb⟩
theorem lE.cells {c t:Nat}{W W':Wz}(h:lE c t W W')(hc:∃o:Obj,W.heap[c]?=some o/\o.isCells=false):dA t W W':=⟨h.1,h.2.1,fun b o hb ho ht=>by
 refine (h.2.2 b (eS hb).1 (fun e=>?_) ht).trans hb;subst e;obtain ⟨o',h1,h2⟩:=hc;rw [hb] at h1;cases h1;rw [ho] at h2;cases h2⟩
theorem fQ {t l:Nat}{W:Wz}{o:Obj}(h:W.heap[l]?=some o)(ho:o.isCells=false)(o':Obj):dA t W (W.putObj l o'):=⟨by simp,rfl,fun b x hb hx _=>by
 by_cases e:b=l
 .subst e;rw [h] at hb;cases hb;rw [ho] at hx;cases hx
 .exact (pO e).trans hb⟩
def eH (O:Wz->Nat->Prop)(c t:Nat)(W W':Wz):Prop:=W.heap.size<=W'.heap.size/\W'.os=W.os/\(∀b,O W' b->O W b\/W.heap.size<=b)/\∀b,b<W.heap.size->b≠c->b≠t->¬O W b->W'.heap[b]?=W.heap[b]?
def noO (_:Wz)(_:Nat):Prop:=False
theorem lE.own {c t:Nat}{W W':Wz}(h:lE c t W W'):eH noO c t W W':=⟨h.1,h.2.1,fun _ h=>h.elim,fun b h1 h2 h3 _=>h.2.2 b h1 h2 h3⟩
theorem eH.cells {O:Wz->Nat->Prop}{c t:Nat}{W W':Wz}(h:eH O c t W W')(hc:c=t\/∃o:Obj,W.heap[c]?=some o/\o.isCells=false):fy O t W W':=⟨h.1,h.2.1,h.2.2.1,fun b o hb ho ht hn=>by
 refine (h.2.2.2 b (eS hb).1 (fun e=>?_) ht hn).trans hb;subst e;rcases hc with h0|⟨o',h1,h2⟩
 .exact ht h0
 rw [hb] at h1;cases h1;rw [ho] at h2;cases h2⟩
theorem mw {O:Wz->Nat->Prop}{t l:Nat}{W:Wz}{o:Obj}(c:∀X Y b,Y.heap[t]?=X.heap[t]?->O Y b->O X b)(a:t≠l)(h:W.heap[l]?=some o)(ho:o.isCells=false)(o':Obj):fy O t W (W.putObj l o'):=⟨by simp,rfl,fun b hb=>.inl (c _ _ b (pO a) hb),fun b x hb hx _ _=>by
 by_cases e:b=l
 .subst e;rw [h] at hb;cases hb;rw [ho] at hx;cases hx
 .exact (pO e).trans hb⟩
section
variable {P:Program} {α β:Type}
theorem sY {g:Operand}{ps:Array Tmp}{assign body:Code}{Q:Exit->Act->Wz->Prop}{a:Act}{w:Wz}{n gf:Nat}{lb:Array Wq}{encs:β->Array Wq}(π:β->α)(hg:a.eval g=.func (.func gf) #[] lb)(eg:∀args w,(callFunc gf args).run P w=.ok (.enter gf args) w)(Z:∀x,(encs x).size=ps.size)
  (c t:Nat) (ht:t<w.heap.size) (O:Wz->Nat->Prop) (hO:∀X Y b,Y.heap[t]?=X.heap[t]?->O Y b->O X b) (I:List α->Wz->Prop) (y:List α->β->Prop) (total:List α)
  (s:∀pre X b,I pre X->O X b->w.heap.size<=b/\∃o:Obj,X.heap[b]?=some o/\o.isCells=true)
  (G:∀pre X Y,I pre X->(∀b,b<w.heap.size->Y.heap[b]?=X.heap[b]?)->(∀b,O X b->Y.heap[b]?=X.heap[b]?)->X.heap.size<=Y.heap.size->Y.os=X.os->I pre Y) (L:∀pre X,I pre X->(c=t\/c<w.heap.size)/\(c=t\/∃o:Obj,X.heap[c]?=some o/\o.isCells=false)) (h0:I [] w) (a₁:β->Act)
  (B:∀ (l:Nat) (J:List α->Wz->Prop) (W:Wz),W.heap.size=w.heap.size+2->(∀b,b<w.heap.size->W.heap[b]?=w.heap[b]?) ->
   (∀pre X b,J pre X->O X b->w.heap.size+2<=b/\b<X.heap.size)->(∀pre X Y,J pre X->(∀b,b<w.heap.size+2->Y.heap[b]?=X.heap[b]?)->(∀b,O X b->Y.heap[b]?=X.heap[b]?)->X.heap.size<=Y.heap.size->Y.os=X.os->J pre Y)->(∀pre X,J pre X->w.heap.size+2<=X.heap.size) ->
   (∀pre x X,y pre x->J pre X->YieldAt (wf none) 0 P l (encs x) X fun e X'=>e=.returned (.bool true)/\J (pre++[π x]) X'/\fy O t X X')->J [] W ->
   Calls P gf (#[.func (.yield l) #[] #[]]++lb) W fun e W'=>(∃v,e=.returned v)/\J total W')
  (q:∀ (l:Nat) (x:β) (W:Wz) (K:Act->Wz->Prop),K (a₁ x) W->assign.wpIn (wf (some l)) 0 P (Exit.then K (fun _ _ _=>False)) {tmps:=(ps.zip (encs x)).foldl (fun t (p,v)=>t.setIfInBounds p v) a.tmps,defers:=[]} W)
  (C:∀ (l:Nat) (pre:List α) (x:β) (W:Wz),y pre x->I pre W->body.wpIn (wf (some l)) 0 P (fun e _ W'=>e=.normal/\eH O c t W W'/\I (pre++[π x]) W') (a₁ x) W)
  (z:∀ (D:Nat) (W:Wz),w.heap.size<=D->I total W->W.heap[D]?=some (.deferred (some []))->Q .normal {a with defers:={target:=.collected D,args:=#[]} :: a.defers} W):
  (Code.rangeFunc g ps assign body).wpIn (wf none) n P Q a w:=by
 refine wpIn_rangeFunc ?_;intro fn hfn;obtain ⟨d,f⟩:∃d:LoopState->Loop,d=fun st=>{state:=st,pending:=none,fn,tmps:=a.tmps,params:=ps,assign,body,defers:=w.heap.size}:=⟨_,rfl⟩
 obtain ⟨W1,hW1⟩:∃W1,(w.alloc (.deferred (some []))).alloc (.loop (d .ready))=W1:=⟨_,rfl⟩;have T:W1.heap[w.heap.size+1]?=some (.loop (d .ready)):=by
  rw [<-hW1];have:=aN (w.alloc (.deferred (some []))) (.loop (d .ready));rwa [World.size_alloc] at this
 have hK1:W1.heap[w.heap.size]?=some (.deferred (some [])):=by
  rw [<-hW1];exact (bA _ _ _ (by simp)).trans (aN w _)
 have m:∀b,b<w.heap.size->W1.heap[b]?=w.heap[b]?:=fun b hb=>by
  rw [<-hW1,bA _ _ _ (by simp;omega),bA _ _ _ hb]
 have H:W1.heap.size=w.heap.size+2:=by rw [<-hW1];simp
 have hcl:c<w.heap.size:=by
  rcases (L _ _ h0).1 with h|h
  .omega
  .exact h
 have i:∀pre X b,I pre X->O X b->∀ {j:Nat} {o:Obj},X.heap[j]?=some o->o.isCells=false->b≠j:=fun pre X b hi hb j o hj hc e=>by
  obtain ⟨-,o',h1,h2⟩:=s _ _ _ hi hb;subst e;rw [hj] at h1;cases h1;rw [hc] at h2;cases h2
 have hI1:I [] W1:=G _ _ _ h0 m (fun b hb=>m b (eS (s _ _ _ h0 hb).2.choose_spec.1).1) (by omega) (by rw [<-hW1];rfl);refine ⟨w.heap.size+1,[{target:=.collected w.heap.size,args:=#[]}],W1,{target:=.fn (.func gf) lb,args:=#[.func (.yield (w.heap.size+1)) #[] #[]]},W1,gf,
  #[.func (.yield (w.heap.size+1)) #[] #[]]++lb,W1,?_,?_,fun _ _=>trivial,?_,(fun h=>by cases h),?_⟩
 .rw [<-hW1,f];exact run_enterLoop_outer _ _ _ _ _
 .simp only [resolve,hg];simp [go_sem]
 .simp [invoke,go_sem,eg]
 .refine callsIn_wide.2 ((B (w.heap.size+1) (fun pre W=>I pre W/\W.heap[w.heap.size+1]?=some (.loop (d .ready))/\W.heap[w.heap.size]?=some (.deferred (some []))) W1 H m (fun pre X b h hb=>by
   have h1:=(s _ _ _ h.1 hb).1;have h2:=i _ _ _ h.1 hb h.2.1 rfl;have h3:=i _ _ _ h.1 hb h.2.2 rfl;exact ⟨by omega,(eS (s _ _ _ h.1 hb).2.choose_spec.1).1⟩) (fun pre X Y h h1 V h2 h3=>⟨G pre X Y h.1 (fun b hb=>h1 b (by omega)) V h2 h3,(h1 _ (by omega)).trans h.2.1,(h1 _ (by omega)).trans h.2.2⟩) (fun pre X h=>(eS h.2.1).1) ?_ ⟨hI1,T,hK1⟩).mono ?_)
  .rintro pre x X A ⟨hi,hl,hk⟩;have hlt:w.heap.size+1<X.heap.size:=(eS hl).1;have hy:=run_yield (P:=P) (args:=encs x) hl (by rw [f];exact Z x);rw [f] at hy;refine ⟨fn,_,assign,body,hy,roundIn_of_wpIn (F:=wf none) trivial (q _ x X _ ?_)⟩;refine ⟨_,run_beginRound hl (by rw [f]),?_⟩;obtain ⟨X2,k⟩:∃X2,X.putObj (w.heap.size+1) (.loop {d .ready with state:=.busy})=X2:=⟨_,rfl⟩;have M:X2.heap[w.heap.size+1]?=some (.loop {d .ready with state:=.busy}):=by rw [<-k];exact World.putObj_heap_same hlt
   have r:∀b,b≠w.heap.size+1->X2.heap[b]?=X.heap[b]?:=fun b hb=>by rw [<-k];exact pO hb
   have hsz2:X2.heap.size=X.heap.size:=by rw [<-k];simp
   have E:X2.os=X.os:=by rw [<-k];rfl
   have hi2:I pre X2:=G _ _ _ hi (fun b hb=>r b (by omega)) (fun b hb=>r b (i _ _ _ hi hb hl rfl)) (by omega) E;have R:fy O t X X2:=by rw [<-k];exact mw hO (by omega) hl rfl _
   rw [k];refine wpIn_mono (C _ pre x _ A hi2) ?_;rintro e a3 X3 ⟨rfl,hkb,S⟩;have u:X3.heap[w.heap.size+1]?=some (.loop {d .ready with state:=.busy}):=(hkb.2.2.2 _ (by omega) (by omega) (by omega) (fun h=>i _ _ _ hi2 h M rfl rfl)).trans M;have hk3:X3.heap[w.heap.size]?=some (.deferred (some [])):=(hkb.2.2.2 _ (by omega) (by omega) (by omega) (fun h=>i _ _ _ hi2 h ((r _ (by omega)).trans hk) rfl rfl)).trans ((r _ (by omega)).trans hk);have her:=run_endRound (P:=P) none u;have hfin:({d .ready with state:=.busy}:Loop)={d .ready with state:=.busy}:=rfl;have e4:({({d .ready with state:=.busy}:Loop) with state:=if (none:Option Code).isNone then .ready else .done,pending:=none}:Loop)=d .ready:=by rw [f];rfl
   rw [e4] at her;have N:w.heap.size+1<X3.heap.size:=(eS u).1;refine ⟨_,_,her,rfl,⟨G _ _ _ S (fun b hb=>pO (by omega)) (fun b hb=>pO (i _ _ _ S hb u rfl)) (by simp) rfl,World.putObj_heap_same N,(pO (by omega)).trans hk3⟩,R.trans ((hkb.cells (L _ _ hi2).2).trans (mw hO (by omega) u rfl _))⟩
  .rintro e W2 ⟨⟨v,rfl⟩,hi,hl,hk⟩;have hel:=run_endLoop (P:=P) hl (by rw [f];simp);have U:(d .ready).pending=none:=by rw [f]
   rw [U] at hel;exact ⟨none,_,hel,z w.heap.size _ (lR _) (G _ _ _ hi (fun b hb=>pO (by omega)) (fun b hb=>pO (i _ _ _ hi hb hl rfl)) (by simp) rfl) ((pO (by omega)).trans hk)⟩
end
end
