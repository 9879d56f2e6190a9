/- A part. -/
import Derived.Test.YtnapepbdohidgaaGreatDoorQU08
import Derived.Deep.RegionLaw
import Derived.Deep.DeepCutAuto
import Derived.BigRegion
set_option maxHeartbeats 4000000
set_option maxRecDepth 100000
open Go renaming World->Wz,Value->Wq,Addr->Ww
namespace Go.Proofs.Qw
section
open Go
open Go.Conc Go.ConcX Go.ConcX.Gen Go.RowKit
noncomputable def DG:Code:=cIn (cIn (bB (fI (bB (bB (aZ Tryz.f123))))))
noncomputable def DH:Array Oper:=nt (fI (bB (cIn (fI (bB (bB DG))))))
structure Wd6 (W1 Wb Wc:Wz)(Post:Wz->Prop)(d:Nat->Bool)(w:Wz):Prop where
 w1:d 5=false->w=W1
 w2:d 5=true->d 6=false->w=Wb
 w3:d 6=true->d 8=false->w=Wc
 w4:d 8=true->Post w
 c6:d 6=true->d 5=true
 c8:d 8=true->d 6=true
theorem dx {d:Nat->Bool}{i j:Nat}(h:j≠i):dG d i j=d j:=by simp [dG,h]
theorem pV {d:Nat->Bool}{i:Nat}:dG d i i=true:=by simp [dG]
section
variable {W1 Wb Wc w:Wz} {Post:Wz->Prop} {d:Nat->Bool}
theorem Wd6.other (h:Wd6 W1 Wb Wc Post d w){i:Nat}(h5:i≠5)(h6:i≠6)(h8:i≠8):Wd6 W1 Wb Wc Post (dG d i) w:=by
 have e5:dG d i 5=d 5:=dx (fun e=>h5 e.symm);have e6:dG d i 6=d 6:=dx (fun e=>h6 e.symm);have e8:dG d i 8=d 8:=dx (fun e=>h8 e.symm);exact ⟨by rw [e5];exact h.w1,by rw [e5,e6];exact h.w2,by rw [e6,e8];exact h.w3,by rw [e8];exact h.w4,by rw [e5,e6];exact h.c6,by rw [e6,e8];exact h.c8⟩
theorem Wd6.at5 (h:Wd6 W1 Wb Wc Post d w)(n5:d 5=false):Wd6 W1 Wb Wc Post (dG d 5) Wb:=by
 have n6:d 6=false:=by
  cases e:d 6 with
  |false=>rfl
  |true=>rw [h.c6 e] at n5;cases n5
 have n8:d 8=false:=by
  cases e:d 8 with
  |false=>rfl
  |true=>rw [h.c8 e] at n6;cases n6
 have e6:dG d 5 6=false:=(dx (by decide)).trans n6;have e8:dG d 5 8=false:=(dx (by decide)).trans n8;exact ⟨fun k=>by (rw [pV] at k;cases k),fun _ _=>rfl,fun k=>(by rw [e6] at k;cases k),fun k=>(by rw [e8] at k;cases k),fun _=>pV,fun k=>(by rw [e8] at k;cases k)⟩
theorem Wd6.at6 (h:Wd6 W1 Wb Wc Post d w)(y5:d 5=true)(n6:d 6=false):Wd6 W1 Wb Wc Post (dG d 6) Wc:=by
 have n8:d 8=false:=by
  cases e:d 8 with
  |false=>rfl
  |true=>rw [h.c8 e] at n6;cases n6
 have e5:dG d 6 5=true:=(dx (by decide)).trans y5;have e8:dG d 6 8=false:=(dx (by decide)).trans n8;exact ⟨fun k=>(by rw [e5] at k;cases k),fun _ k=>(by rw [pV] at k;cases k),fun _ _=>rfl,fun k=>(by rw [e8] at k;cases k),fun _=>e5,fun k=>(by rw [e8] at k;cases k)⟩
theorem Wd6.at8 (h:Wd6 W1 Wb Wc Post d w)(y6:d 6=true){X:Wz}(hX:Post X):Wd6 W1 Wb Wc Post (dG d 8) X:=by
 have e5:dG d 8 5=true:=(dx (by decide)).trans (h.c6 y6);have e6:dG d 8 6=true:=(dx (by decide)).trans y6;exact ⟨fun k=>(by rw [e5] at k;cases k),fun _ k=>(by rw [e6] at k;cases k),fun _ k=>(by rw [pV] at k;cases k),fun _=>hX,fun _=>e5,fun _=>e6⟩
end
theorem hfun {ρ:Operand->Wq}(a:Act)(h:a.eval=ρ)(f:FuncId):ρ (.func f)=.func (.func f) #[] #[]:=by rw [<-h];rfl
theorem hnot {ops:Array Oper}{listed:Array Bool}{i:Nat}(hi:i∈Region.ready .any ops listed)(hl:listed.size=ops.size):listed.getD i false=false:=by
 have h:=(cf hi).2;have hlt:=(cf hi).1;rw [gD,eG (by omega)] at h ⊢;exact h
theorem rL {W:Wz}{b j:Nat}{v:Wq}(h:W.cell? ⟨b,j,none⟩=some v):∃o:Obj,W.heap[b]?=some o/\o.isCells=true:=by
 unfold World.cell? at h;cases ho:W.heap[b]? with
 |none=>simp [ho] at h
 |some o=>exact ⟨o,rfl,by cases o<;>simp_all [Obj.isCells]⟩
section
variable {A:Nat->Prop} {w0:Wz} {B0 t l:Nat} {O:Wz->Nat->Prop} {total:KVs} {J:KVs->Wz->Prop}
theorem Cn (C:pU A w0 B0 t l O total J){id n:Nat}{Q:Exit->Act->Wz->Prop}{a0:Act}{W:Wz}{kb g cap:Nat}{c:UInt8}{q:Option Ww}{bs:List UInt8}{pre sub:KVs}(hs:a0.tmps.size=44)(e1:a0.eval (.tmp 1)=mo g cap bs)(e2:a0.eval (.tmp 2)=yf l)(e8:a0.eval (.tmp 8)=.pointer (some ⟨kb,0,none⟩))
  (k0':W.cell? ⟨kb,0,none⟩=some (.int .u8 (c.toNat:Int))) (k1':W.cell? ⟨kb,1,none⟩=some (.pointer q)) (hkt:kb≠t) (hko:¬O W kb) (hkg:kb≠g) (hl:bs.length<=1000) (hAg:Ag A w0 W) (K:fk O B0 W g cap bs) (hJ:J pre W)
  (hchild:∀X g' cap',Ag A w0 X->fk O B0 X g' cap' (bs++[c])->J pre X->Calls Yq.prog 123 #[.pointer q,mo g' cap' (bs++[c]),yf l] X fun e X'=>e=.returned (.bool true)/\J (pre++sub) X'/\fk O B0 X' g' cap' (bs++[c])/\gC O g' t X X')
  (hend:∀a w,a.tmps.size=44->a.defers=a0.defers->(∀t,t<33->a.eval (.tmp t)=a0.eval (.tmp t))->a.eval (.tmp 42)=.bool false->J (pre++sub) w->fk O B0 w g cap bs->gC O g t W w->Q .normal a w):
  (Code.region id DH true).wpIn (wf none) n Yq.prog Q a0 W:=by
 obtain ⟨W1,hW1⟩:∃W1:Wz,W1={W with drawn:=W.drawn+1}:=⟨_,rfl⟩;have hheap:W1.heap=W.heap:=by rw [hW1]
 have hos1:W1.os=W.os:=by rw [hW1]
 have k0:W1.cell? ⟨kb,0,none⟩=some (.int .u8 (c.toNat:Int)):=(cB (a:=⟨kb,0,none⟩) (by rw [hheap])).trans k0';have k1:W1.cell? ⟨kb,1,none⟩=some (.pointer q):=(cB (a:=⟨kb,1,none⟩) (by rw [hheap])).trans k1';have hB:B0<=W.heap.size:=C.size pre W hJ;obtain ⟨Wb,hWb⟩:∃Wb:Wz,Wb=W1.alloc (.cells #[.int .u8 (c.toNat:Int)] 5):=⟨_,rfl⟩;have hbold:∀b,b<W.heap.size->Wb.heap[b]?=W.heap[b]?:=fun b hb=>by rw [hWb,bA _ _ _ (by rw [hheap];exact hb),hheap]
 have hbsz:Wb.heap.size=W.heap.size+1:=by rw [hWb,World.size_alloc,hheap]
 have htB:=C.box;have hob:∀b,O Wb b->O W b:=fun b=>C.own _ _ b (hbold t (by omega))
 have Kb:fk O B0 Wb g cap bs:=K.same (hbold g K.lt) (hob g);obtain ⟨g',cap',Wc,hrun,Kc',hg',hcold,hcsz,hcos⟩:=xM Kb.togU (by omega) hl W1.heap.size c (by rw [hWb,cA (w:=W1) _ _ W1.heap.size 0 rfl];rfl) 48;have hos:Wb.os=W.os:=by rw [hWb];exact hos1
 have hgB:=K.base;have hoc:∀b,O Wc b->O W b:=fun b h=>hob b (C.own _ _ b (hcold t (by omega) (by omega)) h)
 have Kc:fk O B0 Wc g' cap' (bs++[c]):=⟨Kc',fun h=>by
  have h1:=hoc _ h;rcases hg' with ⟨rfl,-⟩|⟨h2,-⟩
  .exact K.no h1
  .have:=(C.ownB _ _ _ hJ h1).2;omega⟩
 have Ac:Ag A w0 Wc:=fun b hb=>by
  obtain ⟨h1,h2,h3⟩:=C.tree b hb;rw [hcold b (by omega) (by omega),hbold b (by omega)];exact hAg b hb
 have Jc:J pre Wc:=C.stable pre W Wc hJ (fun b hb=>by rw [hcold b (by omega) (by omega),hbold b (by omega)]) (fun b hb=>by
  have h1:=(C.ownB _ _ _ hJ hb).2;rw [hcold b (by omega) (fun e=>K.no (e▸hb)),hbold b h1]) (by omega) (hcos.trans hos)
 have hsub:=hchild Wc g' cap' Ac Kc Jc;have hg'':g'=g\/W.heap.size<g':=by
  rcases hg' with h|h
  .exact .inl h.1
  .exact .inr (by omega)
 have hfin:∀w,(J (pre++sub) w/\fk O B0 w g' cap' (bs++[c])/\gC O g' t Wc w)->fk O B0 w g cap bs/\gC O g t W w:=fun w h=>by
  obtain ⟨hJ',hK',hR'⟩:=h;refine ⟨?_,⟨by have:=hR'.1;omega,hR'.2.1.trans (hcos.trans hos),fun b h=>(hR'.2.2.1 b h).elim (fun h=>.inl (hoc b h)) (fun h=>.inr (by omega)),fun b o hb ho ht hg hn=>?_⟩⟩
  .rcases hg' with ⟨rfl,rfl⟩|⟨h1,h2⟩
   .exact ⟨hK'.togU.take,hK'.no⟩
   .obtain ⟨x,e,z,hx⟩:=Kb.obj;have hno:¬O Wc g:=fun h=>K.no (hoc _ h)
    refine ⟨Kb.togU.same ((hR'.2.2.2 g _ (h2.trans hx) rfl ?_ ?_ hno).trans hx.symm),rK hR'.2.2.1 (h2.trans hx) hno⟩
    .have:=C.box;omega
    .have:=Kb.lt;omega
  .have hlt:b<W.heap.size:=(eS hb).1;exact hR'.2.2.2 b o ((hcold b (by omega) hg).trans ((hbold b hlt).trans hb)) ho ht (by omega) (fun h=>hn (hoc _ h))
 have hkl:kb<W.heap.size:=by
  obtain ⟨o,h,-⟩:=rL k0';exact (eS h).1
 have hcell:∀ {d:Nat->Bool} w,Wd6 W1 Wb Wc (fun w=>J (pre++sub) w/\fk O B0 w g' cap' (bs++[c])/\gC O g' t Wc w) d w->∀ (j:Nat) v,W1.cell? ⟨kb,j,none⟩=some v->w.cell? ⟨kb,j,none⟩=some v:=fun {d} w hw j v hv=>by
  have hvW:W.cell? ⟨kb,j,none⟩=some v:=(cB (a:=⟨kb,j,none⟩) (by rw [hheap])).trans hv;have hvb:Wb.cell? ⟨kb,j,none⟩=some v:=(cB (a:=⟨kb,j,none⟩) (hbold kb hkl)).trans hvW;have hvc:Wc.cell? ⟨kb,j,none⟩=some v:=(cB (a:=⟨kb,j,none⟩) (hcold kb (by omega) hkg)).trans hvb;cases h5:d 5 with
  |false=>rw [hw.w1 h5];exact hv
  |true=>cases h6:d 6 with
   |false=>rw [hw.w2 h5 h6];exact hvb
   |true=>cases h8:d 8 with
    |false=>rw [hw.w3 h6 h8];exact hvc
    |true=>
     obtain ⟨o,ho,hoc'⟩:=rL hvc;have:=(hw.w4 h8).2.2.2.2.2 kb o ho hoc' hkt (by omega) (fun h=>hko (hoc _ h));exact (cB (a:=⟨kb,j,none⟩) (this.trans ho.symm)).trans hvc
 refine jq (ro:=none) (a0:=a0) (w0:=W) mixed 33 10
  (fun i=>match i with| 0=>.pointer (some ⟨kb,1,none⟩)| 1=>.pointer q| 2=>mo g cap bs| 3=>.pointer (some ⟨kb,0,none⟩)| 4=>.int .u8 (c.toNat:Int)| 5=>.slice (some ⟨W1.heap.size,0,none⟩) 1 1| 6=>mo g' cap' (bs++[c])| 7=>yf l| 8=>.bool true| 9=>.bool false|_=>undef)
  (Wd6 W1 Wb Wc (fun w=>J (pre++sub) w/\fk O B0 w g' cap' (bs++[c])/\gC O g' t Wc w)) (by omega) (by rfl) (by rfl) (fun listed a w i o hi ho V hdep=>?_) (fun a w h1 h2 h3 h4 h5=>?_) ⟨fun _=>(by rw [hW1]),fun h=>(by cases h),fun h=>(by cases h),fun h=>(by cases h),fun h=>(by cases h),fun h=>(by cases h)⟩
 .have hlt:i<10:=(cf hi).1;have hnot:listed.getD i false=false:=hnot hi V.len;rcases i with - | - | - | - | - | - | - | - | - | - |i;all_goals first|omega|(have ho1:=ho;dsimp only [DH,DG,aZ,Tryz.f123,fI,bB,cIn,nt,Option.getD] at ho1;simp only [gA,gS,gZ,oI,Nat.reduceAdd,zA] at ho1;subst ho1)
  .have q0:a.eval (.tmp 8)=.pointer (some ⟨kb,0,none⟩):=(V.old 8 (by omega)).trans e8;refine am ho rfl (fun c h=>by cases h) (v:=.pointer (some ⟨kb,1,none⟩)) (w':=w) (by generalize a.eval=ρ at q0 ⊢;simp [go_sem,q0]) ⟨_,rfl,fun _=>rfl,V.world.other (by omega) (by omega) (by omega)⟩
  .have q0:a.eval (.tmp 33)=.pointer (some ⟨kb,1,none⟩):=V.new 0 (by omega) (hdep ⟨0,.data⟩ (by simp) rfl);refine am ho rfl (fun c h=>by cases h) (v:=.pointer q) (w':=w) (by generalize a.eval=ρ at q0 ⊢;simp [go_sem,q0,hcell w V.world 1 _ k1]) ⟨_,rfl,fun _=>rfl,V.world.other (by omega) (by omega) (by omega)⟩
  .have q0:a.eval (.tmp 1)=mo g cap bs:=(V.old 1 (by omega)).trans e1;refine am ho rfl (fun c h=>by cases h) (v:=mo g cap bs) (w':=w) (by generalize a.eval=ρ at q0 ⊢;simp [go_sem,q0]) ⟨_,rfl,fun _=>rfl,V.world.other (by omega) (by omega) (by omega)⟩
  .have q0:a.eval (.tmp 8)=.pointer (some ⟨kb,0,none⟩):=(V.old 8 (by omega)).trans e8;refine am ho rfl (fun c h=>by cases h) (v:=.pointer (some ⟨kb,0,none⟩)) (w':=w) (by generalize a.eval=ρ at q0 ⊢;simp [go_sem,q0]) ⟨_,rfl,fun _=>rfl,V.world.other (by omega) (by omega) (by omega)⟩
  .have q0:a.eval (.tmp 36)=.pointer (some ⟨kb,0,none⟩):=V.new 3 (by omega) (hdep ⟨3,.data⟩ (by simp) rfl);refine am ho rfl (fun c h=>by cases h) (v:=.int .u8 (c.toNat:Int)) (w':=w) (by generalize a.eval=ρ at q0 ⊢;simp [go_sem,q0,hcell w V.world 0 _ k0]) ⟨_,rfl,fun _=>rfl,V.world.other (by omega) (by omega) (by omega)⟩
  .have q0:a.eval (.tmp 37)=.int .u8 (c.toNat:Int):=V.new 4 (by omega) (hdep ⟨4,.data⟩ (by simp) rfl);have hw:=V.world.w1 hnot;subst hw;refine am ho rfl (fun c h=>by cases h) (v:=.slice (some ⟨w.heap.size,0,none⟩) 1 1) (w':=w.alloc (.cells #[.int .u8 (c.toNat:Int)] 5)) (by generalize a.eval=ρ at q0 ⊢;simp [go_sem,q0]) ⟨_,rfl,fun _=>rfl,(by rw [<-hWb];exact V.world.at5 hnot)⟩
  .have q0:a.eval (.tmp 35)=mo g cap bs:=V.new 2 (by omega) (hdep ⟨2,.data⟩ (by simp) rfl);have h5:=hdep ⟨5,.data⟩ (by simp) rfl;have q1:a.eval (.tmp 38)=.slice (some ⟨W1.heap.size,0,none⟩) 1 1:=V.new 5 (by omega) h5;have hw:=V.world.w2 h5 hnot;subst hw;refine am ho rfl (fun c h=>by cases h) (v:=mo g' cap' (bs++[c])) (w':=Wc) (by generalize a.eval=ρ at q0 q1 ⊢;simp [execOp,resolve,invoke,builtin,q0,q1,hrun,Result.andThen]) ⟨_,rfl,fun _=>rfl,V.world.at6 h5 hnot⟩
  .have q0:a.eval (.tmp 2)=yf l:=(V.old 2 (by omega)).trans e2;refine am ho rfl (fun c h=>by cases h) (v:=yf l) (w':=w) (by generalize a.eval=ρ at q0 ⊢;simp [go_sem,q0]) ⟨_,rfl,fun _=>rfl,V.world.other (by omega) (by omega) (by omega)⟩
  .have q0:a.eval (.tmp 34)=.pointer q:=V.new 1 (by omega) (hdep ⟨1,.data⟩ (by simp) rfl);have h6:=hdep ⟨6,.data⟩ (by simp) rfl;have q1:a.eval (.tmp 39)=mo g' cap' (bs++[c]):=V.new 6 (by omega) h6;have q2:a.eval (.tmp 40)=yf l:=V.new 7 (by omega) (hdep ⟨7,.data⟩ (by simp) rfl);have hw:=V.world.w3 h6 hnot;subst hw;refine iu (f:=123) (args:=#[.pointer q,mo g' cap' (bs++[c]),yf l]) (w':=w) ho rfl (fun c h=>by cases h) (by generalize hρ:a.eval=ρ at q0 q1 q2 ⊢;have qf:=hfun a hρ 123;simp [go_sem,q0,q1,q2,qf]) (hsub.mono ?_);rintro e X ⟨rfl,hX⟩;exact ⟨_,rfl,_,rfl,fun _=>rfl,V.world.at8 h6 hX⟩
  .have q0:a.eval (.tmp 41)=.bool true:=V.new 8 (by omega) (hdep ⟨8,.data⟩ (by simp) rfl);refine am ho rfl (fun c h=>by cases h) (v:=.bool false) (w':=w) (by generalize a.eval=ρ at q0 ⊢;simp [go_sem,q0]) ⟨_,rfl,fun _=>rfl,V.world.other (by omega) (by omega) (by omega)⟩
 .obtain ⟨d,hd,hw⟩:=h5;have hP:=hw.w4 (hd 8 (by decide));exact hend a w (h1.trans hs) h2 h3 (h4 9 (by omega) (by decide)) hP.1 (hfin w hP).1 (hfin w hP).2
end
end
section
open Go.RowKit
structure Place (ks:List (UInt8×Option Ww))(c:UInt8)(r:Nat):Prop where
 le:r<=ks.length
 lo:∀j (h:j<ks.length),j<r->ks[j].1<c
 hi:∀j (h:j<ks.length),r<=j->c<=ks[j].1
def mE (ks:List (UInt8×Option Ww))(c:UInt8)(r:Nat):Bool:=(ks[r]?.map (·.1))==some c
def labs (ks:List (UInt8×Option Ww))(i:Nat):Int:=((ks.getD i (0,none)).1.toNat:Int)
def ptrs (ks:List (UInt8×Option Ww))(i:Nat):Option Ww:=(ks.getD i (0,none)).2
theorem kI {ks:List (UInt8×Option Ww)}{i:Nat}(h:i<ks.length):labs ks i=(ks[i].1.toNat:Int):=by simp [labs,h]
theorem EC {ks:List (UInt8×Option Ww)}{i:Nat}(h:i<ks.length):ptrs ks i=ks[i].2:=by simp [ptrs,h]
theorem ED (ks:List (UInt8×Option Ww))(c:UInt8)(r:Nat):decide (r<ks.length/\labs ks r=(c.toNat:Int))=mE ks c r:=by
 unfold mE;by_cases hr:r<ks.length
 .rw [Bool.eq_iff_iff];simp only [hr,eL,Option.map_some,true_and,kI hr,decide_eq_true_eq,beq_iff_eq,oI];exact ⟨fun h=>UInt8.toNat_inj.1 (by omega),fun h=>by rw [h]⟩
 .simp [hr]
theorem nB (A:Nat->Prop)(g:Nat)(kv:Wq)(ks:List (UInt8×Option Ww))(c:UInt8)(w:Wz)
  (c2:w.cell? ⟨g,2,none⟩=some kv) (hk:fZ A w kv ks) (hs:ks.Pairwise (fun a b=>a.1<b.1)):
  Calls Yq.prog 116 #[.pointer (some ⟨g,0,none⟩),.int .u8 (c.toNat:Int)] w fun e w'=>∃r:Nat,Place ks c r /\
   e=.returned (.tuple #[.int .i64 r,.bool (mE ks c r)])/\Below w.heap.size w w':=by
 by_cases hne:ks=[]
 .subst hne;obtain ⟨a,cap,rfl,-,-⟩:=hk;go_enter (Yq.nq Tryz.func116),Tryz.ntmps116;go_wp2_with (go_at_call 133;refine (Ck _ _ _ _).mono ?_;rintro e w' ⟨rfl,rfl⟩)
  go_ret2
  exact ⟨0,⟨lR _,fun j h=>absurd h (Nat.not_lt_zero _),fun j h=>absurd h (Nat.not_lt_zero _)⟩,by simp [mE],bR _ _⟩
 .obtain ⟨gk,cap,rfl,-,-,hc,-⟩:=hk.cells hne;have hle:=kH ks hs;have hbs:Calls Yq.prog 133 #[.slice (some ⟨gk,0,none⟩) ks.length cap,.int .u8 (c.toNat:Int),.func (.func 134) #[] #[]] w fun e w'=>∃r:Nat,Place ks c r /\
    e=.returned (.tuple #[.int .i64 r,.bool (mE ks c r)])/\Below w.heap.size w w':=by
   refine (EA gk ks.length cap (labs ks) (ptrs ks) (c.toNat:Int) w (by omega)
    (fun i hi=>by rw [kI hi,EC hi];exact hc i hi) (fun i j hij hj=>by rw [kI hj,kI (Nat.lt_trans hij hj)];exact jr hs i j hij hj)).mono ?_
   rintro e w' ⟨r,h1,h2,h3,rfl,h5⟩;refine ⟨r,⟨h1,fun j h hj=>?_,fun j h hj=>?_⟩,by rw [ED],h5⟩
   .have:=h2 j hj;rw [kI h] at this;exact UInt8.lt_iff_toNat_lt.2 (by omega)
   .have:=h3 j hj h;rw [kI h] at this;exact UInt8.le_iff_toNat_le.2 (by omega)
  clear hc;go_enter (Yq.nq Tryz.func116),Tryz.ntmps116;go_wp2_with (go_at_call 133;refine hbs.mono ?_;rintro e w' ⟨r,h1,rfl,h5⟩)
  go_ret2
  exact ⟨r,h1,rfl,h5⟩
theorem Place.mem {ks:List (UInt8×Option Ww)}{c:UInt8}{r:Nat}(h:mE ks c r=true):∃hr:r<ks.length,ks[r].1=c:=by
 unfold mE at h;by_cases hr:r<ks.length
 .exact ⟨hr,by simpa [hr] using h⟩
 .simp [List.getElem?_eq_none (Nat.le_of_not_lt hr)] at h
theorem Place.nomem {ks:List (UInt8×Option Ww)}{c:UInt8}{r:Nat}(hp:Place ks c r)(hs:ks.Pairwise (fun a b=>a.1<b.1))(h:mE ks c r=false):∀q,(c,q) ∉ ks:=by
 intro q hq;obtain ⟨j,hj,e⟩:=gM hq;by_cases hjr:j<r
 .have:=hp.lo j hj hjr;rw [e] at this;have:=UInt8.lt_iff_toNat_lt.1 this;simp only at this;omega
 .have hr:r<ks.length:=by omega
  have h1:=hp.hi r hr (lR _);by_cases hjr2:j=r
  .subst hjr2;simp [mE,hj,e] at h
  .have h2:=jr hs r j (by omega) hj;rw [e] at h2;have:=UInt8.le_iff_toNat_le.1 h1;simp only at h2;omega
theorem ai.nil {A:Nat->Prop}{n:Nat}{w:Wz}{f:List UInt8->List Ver}(h:∀k,f k=[]):ai A n w none f:=by
 cases n with
 |zero=>exact ⟨rfl,h⟩
 |succ n=>exact Or.inl ⟨rfl,h⟩
theorem ai.of_nil {A:Nat->Prop}{n:Nat}{w:Wz}{f:List UInt8->List Ver}(h:ai A n w none f):∀k,f k=[]:=by
 cases n with
 |zero=>exact h.2
 |succ n=>
  rcases h with h|⟨g,hv,kv,ks,hp,_⟩
  .exact h.2
  .cases hp
theorem Ae (A:Nat->Prop)(g:Nat)(kv:Wq)(ks:List (UInt8×Option Ww))(c:UInt8)(w:Wz)
  (c2:w.cell? ⟨g,2,none⟩=some kv) (hk:fZ A w kv ks) (hs:ks.Pairwise (fun a b=>a.1<b.1)):
  Calls Yq.prog 111 #[.pointer (some ⟨g,0,none⟩),.int .u8 (c.toNat:Int)] w fun e w'=>∃q,e=.returned (.pointer q)/\((c,q)∈ks\/(q=none/\∀q',(c,q') ∉ ks))/\Below w.heap.size w w':=by
 have hf:=nB A g kv ks c w c2 hk hs;have HS:Hid (ks.Pairwise (fun a b=>a.1<b.1)):=hs;clear hs;go_enter (Yq.nq Tryz.func111),Tryz.ntmps111;go_wp2_with fail
 refine hf.mono ?_;rintro e w' ⟨r,h1,rfl,hb⟩;by_cases hat:mE ks c r=true
 .obtain ⟨hr,hrc⟩:=Place.mem hat;have hne:ks≠[]:=by intro h;subst h;simp at hr
  obtain ⟨gk,cap,rfl,-,-,hc,-⟩:=hk.cells hne;obtain ⟨d0,d1⟩:=hc r hr;have d1':=aj hb d1;have c2':=aj hb c2;have HR:Hid (ks[r].1=c):=hrc;clear hc d0 d1 c2 hrc;go_wp2;go_ret;exact ⟨_,rfl,Or.inl (by have:=List.getElem_mem hr;rw [<-HR.out];exact this),hb⟩
 .have hat':mE ks c r=false:=by simpa using hat
  clear hat;go_wp2;go_ret;exact ⟨_,rfl,Or.inr ⟨rfl,h1.nomem HS.out hat'⟩,hb⟩
theorem Af (A:Nat->Prop)(n:Nat)(a:Ww)(f:List UInt8->List Ver)(c:UInt8)(w:Wz)(h:ai A (n+1) w (some a) f):
  Calls Yq.prog 111 #[.pointer (some a),.int .u8 (c.toNat:Int)] w fun e w'=>∃q,e=.returned (.pointer q)/\ai A n w q (fun k=>f (c::k))/\Below w.heap.size w w':=by
 rcases h with h|⟨g,hv,kv,ks,hp,hA,c0,c1,c2,hh,hks,hs,hch,hno⟩
 .cases h.1
 .cases hp;refine (Ae A g kv ks c w c2 hks hs).mono ?_;rintro e w' ⟨q,he,hq,hb⟩;refine ⟨q,he,?_,hb⟩;rcases hq with hq|⟨rfl,hq⟩
  .exact hch c q hq
  .exact ai.nil (hno.1 c hq)
theorem Ah (s:ByteArray)(k:Nat)(h:k<s.size):s.data.toList.take (k+1)=s.data.toList.take k++[s[k]]:=by
 rw [tS (by simpa using h)];rfl
theorem mF (A:Nat->Prop)(w:Wz):aT A w (.slice none 0 0) []:=⟨none,0,rfl,fun _=>rfl,fun h=>absurd rfl h⟩
theorem oN (A:Nat->Prop)(n:Nat)(p:Option Ww)(f:List UInt8->List Ver)(key:ByteArray)(w:Wz)(h63:key.size<=maxLen)(h:ai A n w p f):
  Calls Yq.prog 91 #[.pointer p,.string key] w fun e w'=>∃q,e=.returned (.pointer q)/\ai A (n-key.size) w' q (fun x=>f (key.data.toList++x))/\Below w.heap.size w w':=by
 unfold maxLen at h63;have H:Hid (ai A n w p f):=h;clear h;go_enter (Yq.nq Tryz.func91),Tryz.ntmps91;go_wp2
 go_loopw [0,5] (fun q i wr=>∃ (k:Nat) (qa:Option Ww),k<=key.size/\q=.pointer qa/\i=.int .i64 k/\ai A (n-k) wr qa (fun x=>f (key.data.toList.take k++x))/\Below w.heap.size w wr) (fun _ i _=>key.size-(intOf i).toNat)
 case atStart=>exact ⟨0,p,Nat.zero_le _,rfl,rfl,by simpa using H.out,bR _ _⟩
 case round=>
  obtain ⟨k,qa,hk,rfl,rfl,hq,hb⟩:=hrel;cases qa with
  |none=>
   have hnil:∀x,f (key.data.toList++x)=[]:=fun x=>by
    have:=hq.of_nil (key.data.toList.drop k++x)
    rwa [<-pA,List.take_append_drop] at this
   have HN:Hid (∀x,f (key.data.toList++x)=[]):=hnil;clear hnil hq;go_wp2;go_ret;exact ⟨none,rfl,ai.nil HN.out,hb⟩
  |some a=>
   by_cases hlt:k<key.size
   .obtain ⟨m,hm⟩:∃m,n-k=m+1:=by
     cases hnk:n-k with
     |zero=>rw [hnk] at hq;exact absurd hq.1 (by simp)
     |succ m=>exact ⟨m,rfl⟩
    rw [hm] at hq;have HM:Hid (n-k=m+1):=hm;clear hm;have hch:=Af A m a _ key[k] wr hq;clear hq;go_wp2_with (go_at_call 111;refine hch.mono ?_;rintro e w' ⟨q,rfl,hq',hb'⟩)
    refine ⟨⟨k+1,q,by omega,rfl,by go_num,?_,hb.trans (hb'.mono hb.size)⟩,by simp [intOf];omega⟩;have e:n-(k+1)=m:=by have:=HM.out;omega
    rw [e,Ah key k hlt];simpa using hq'.on hb'
   .have hke:key.data.toList.take k=key.data.toList:=by
     rw [tO];have:key.data.toList.length=key.size:=by simp
     omega
    have hkk:k=key.size:=by omega
    rw [hke,hkk] at hq;have HQ:Hid (ai A (n-key.size) wr (some a) (fun x=>f (key.data.toList++x))):=hq;clear hq hke hkk;go_wp2;go_ret;exact ⟨some a,rfl,HQ.out,hb⟩
theorem mG (A:Nat->Prop)(n:Nat)(p:Option Ww)(f:List UInt8->List Ver)(key:ByteArray)(w:Wz)(hn:key.size<n)(h63:key.size<=maxLen)(h:ai A n w p f):
  Calls Yq.prog 63 #[.agg #[.pointer p],.string key] w fun e w'=>∃hv,e=.returned (.tuple #[hv,.bool (!(f key.data.toList).isEmpty)])/\aT A w' hv (f key.data.toList)/\Below w.heap.size w w':=by
 have hfo:=fun w' (h':ai A n w' p f)=>oN A n p f key w' h63 h'
 have H:Hid (ai A n w p f):=h;clear h;go_enter (Yq.nq Tryz.func63),Tryz.ntmps63;go_wp2_with fail
 refine (hfo _ (H.out.on ((bR _ _).alloc (lR _) _))).mono ?_;rintro e w1 ⟨q,rfl,hq,hb1⟩;have hb:Below w.heap.size w w1:=((bR _ w).alloc (lR _) _).trans (hb1.mono (by simp));cases q with
 |none=>
  have hnil:f key.data.toList=[]:=by
   have:=hq.of_nil [];simpa using this
  have HN:Hid (f key.data.toList=[]/\Below w.heap.size w w1):=⟨hnil,hb⟩;clear hnil hq hb hb1;go_wp2
  go_ret2
  refine ⟨.slice none 0 0,?_,?_,HN.out.2⟩
  .rw [HN.out.1];rfl
  .rw [HN.out.1];exact mF A _
 |some a=>
  obtain ⟨m,hm⟩:∃m,n-key.size=m+1:=⟨n-key.size-1,by omega⟩;rw [hm] at hq;rcases hq with hq|⟨g,hv,kv,ks,hp,hA,c0,c1,c2,hh,hks,hs,hch,hno⟩
  .cases hq.1
  .cases hp;simp only [List.append_nil] at c0 hh;clear hch hno hs hks hm;cases he:(f key.data.toList).isEmpty with
   |true=>
    rw [he] at c0;have HE:Hid ((f key.data.toList).isEmpty=true/\Below w.heap.size w w1):=⟨he,hb⟩;clear he hb hb1;go_wp2
    go_ret2
    have hnil:=List.isEmpty_iff.1 HE.out.1;refine ⟨.slice none 0 0,?_,?_,HE.out.2⟩
    .rw [HE.out.1];rfl
    .rw [hnil];exact mF A _
   |false=>
    rw [he] at c0;have HE:Hid ((f key.data.toList).isEmpty=false/\Below w.heap.size w w1):=⟨he,hb⟩;clear he hb hb1;go_wp2
    go_ret2
    refine ⟨hv,?_,hh,HE.out.2⟩;rw [HE.out.1];rfl
end
section
open Go
open Go.Conc Go.ConcX Go.ConcX.Gen Go.RowKit
theorem iw (a:Act)(n:Nat)(h:a.tmps.size=n):a=⟨((List.range n).map fun i=>a.eval (.tmp i)).toArray,a.defers⟩:=by
 obtain ⟨t,d⟩:=a;have:t=((List.range n).map fun i=>Act.eval ⟨t,d⟩ (.tmp i)).toArray:=by
  refine Array.ext (by simpa using h) (fun i h1 h2=>?_);simp [Act.eval,Array.getD_eq_getD_getElem?,h1]
 rw [<-this]
section
variable {A:Nat->Prop} {w0:Wz} {B0 t l:Nat} {O:Wz->Nat->Prop} {total:KVs} {J:KVs->Wz->Prop}
theorem EF (C:pU A w0 B0 t l O total J):∀ (n:Nat)(p:Option Ww)(f:List UInt8->List Ver)(bs:List UInt8)(done:KVs)(W:Wz)(g cap:Nat),ai A n w0 p f->p≠none->bs.length+n<=1000->done++cD n f bs <+:total->Ag A w0 W->fk O B0 W g cap bs->J done W ->
  Calls Yq.prog 123 #[.pointer p,mo g cap bs,yf l] W fun e W'=>e=.returned (.bool true)/\J (done++cD n f bs) W'/\fk O B0 W' g cap bs/\gC O g t W W':=by
 intro n;induction n with
 |zero=>intro p f bs done W g cap h hp;exact absurd h.1 hp
 |succ n ih=>
  intro p f bs done W g cap h hp hlen hpre hAg K hJ;rcases h with h|⟨gn,hv,kv,ks,rfl,hA,c0,c1,c2,hh,hks,hs,hch,hno,hnn⟩
  .exact absurd h.1 hp
  rw [xN n f bs ks hs hno] at hpre ⊢;have hgt:=(C.tree gn hA);have hcW:∀X,Ag A w0 X->∀b j,A b->X.cell? ⟨b,j,none⟩=w0.cell? ⟨b,j,none⟩:=fun X hX b j hb=>cB (a:=⟨b,j,none⟩) (hX b hb)
  obtain ⟨own,hown⟩:∃own:KVs,(if (f []).isEmpty then [] else [(bs,f [])])=own:=⟨_,rfl⟩;have HOWN:Hid ((if (f []).isEmpty then [] else [(bs,f [])])=own):=hown;rw [hown] at hpre ⊢;go_enter (Yq.nq Tryz.func123),Tryz.ntmps123
  go_upto_region 1 with fail
  rename_i K1 hK1 K2 hK2;refine wpIn_wide.1 (show Code.wpIn (wf none) 0 _ _ _ _ _ from Cm (id:=1) (n:=0) C rfl rfl rfl rfl ((hcW W hAg gn 0 hA).trans c0) ((hcW W hAg gn 1 hA).trans c1) hgt.2.1 hgt.1 hh (by rw [hown];exact (List.prefix_append _ _).trans (by rw [pA];exact hpre)) K hJ (fun a w h1 h2 h3 h4 hJ1 hk1=>?_));rw [hown] at hJ1;have h2:a.defers=[]:=h2;have ha:=iw a 44 h1;have f0:a.eval (.tmp 0)=.pointer (some ⟨gn,0,none⟩):=h3 0 (by decide);have f1:a.eval (.tmp 1)=mo g cap bs:=h3 1 (by decide);have f2:a.eval (.tmp 2)=yf l:=h3 2 (by decide);have f6:a.eval (.tmp 6)=.bool false:=h3 6 (by decide);refine hK2 _ _ ?_;rw [ha,h2];clear ha h1 h2 h3;generalize a.eval=ρ at f0 f1 f2 f6 h4 ⊢;simp only [List.range,List.range.loop,List.map_cons,List.map_nil,f0,f1,f2,f6,h4];clear f0 f1 f2 f6 h4 hK2 K2;have hks':=hks;obtain ⟨ka,kc,rfl,hk0,hkx⟩:=hks';have A1:Ag A w0 w:=hAg.keepR C hJ (hk1.row g) K.base;have KR1:fk O B0 w g cap bs:=by
   obtain ⟨x,e,z,ho⟩:=K.obj;exact ⟨K.togU.same ((hk1.2.2.2 g _ ho rfl (by have:=K.base;have:=C.box;omega) K.no).trans ho.symm),rK hk1.2.2.1 ho K.no⟩
  have d2:w.cell? ⟨gn,2,none⟩=some (.slice ka ks.length kc):=(hcW w A1 gn 2 hA).trans c2;have HX:Hid (J (done++own) w/\fk O B0 w g cap bs/\gC O g t W w/\Ag A w0 w):=⟨hJ1,KR1,hk1.row g,A1⟩;have hkl:ks.length<=256:=kH ks hs;have HKS:Hid ((∀c q,(c,q)∈ks->ai A n w0 q fun k=>f (c::k))/\(∀c q,(c,q)∈ks->q≠none)/\fZ A w0 (.slice ka ks.length kc) ks):=⟨hch,hnn,hks⟩;obtain ⟨kidL,hkidL⟩:∃kidL:Nat->KVs,kidL=fun i=>done++(own++(ks.take i).flatMap fun k=>cD n (fun x=>f (k.1::x)) (bs++[k.1])):=⟨_,rfl⟩
  have HL:Hid (kidL=fun i=>done++(own++(ks.take i).flatMap fun k=>cD n (fun x=>f (k.1::x)) (bs++[k.1]))):=hkidL;have HPR:Hid (done++(own++ks.flatMap fun k=>cD n (fun x=>f (k.1::x)) (bs++[k.1])) <+:total):=hpre;have HIH:=show Hid _ from ih;have HCX:Hid (pU A w0 B0 t l O total J):=C;have HGB:Hid (B0<=g/\t<B0):=⟨K.base,C.box⟩;clear hJ1 KR1 A1 hk1 hch hnn hkx hpre K hJ hAg hh hno hk0 hs hks ih C hkidL hcW hgt;go_wp2_with fail
  go_loopw [8,29] (fun _ s29 wr=>∃i:Nat,i<=ks.length/\s29=.int .i64 i/\J (kidL i) wr/\fk O B0 wr g cap bs/\gC O g t W wr/\Ag A w0 wr) (fun _ s29 _=>ks.length-(intOf s29).toNat)
  case atStart=>exact ⟨0,Nat.zero_le _,rfl,by rw [HL.out];simpa using HX.out.1,HX.out.2.1,HX.out.2.2.1,HX.out.2.2.2⟩
  case round=>
   obtain ⟨i,hi,rfl,hJ,hK,hR,hA2⟩:=hrel;have HR:Hid (J (kidL i) wr/\fk O B0 wr g cap bs/\gC O g t W wr/\Ag A w0 wr):=⟨hJ,hK,hR,hA2⟩;by_cases hlt:i<ks.length
   .have hne:ks≠[]:=by intro e;rw [e] at hlt;simp at hlt
    obtain ⟨gk,capk,he,hAk,hgl,hck,-⟩:=HKS.out.2.2.cells hne;cases he;have c0:wr.cell? ⟨gk,i * 2,none⟩=some (.int .u8 (ks[i].1.toNat:Int)):=(cB (a:=⟨gk,i * 2,none⟩) (hA2 gk hAk)).trans (hck i hlt).1;have c1:wr.cell? ⟨gk,i * 2+1,none⟩=some (.pointer ks[i].2):=(cB (a:=⟨gk,i * 2+1,none⟩) (hA2 gk hAk)).trans (hck i hlt).2;have HKI:Hid ((ks[i].1,ks[i].2)∈ks):=List.getElem_mem hlt;have hkt:kidL (i+1)=kidL i++cD n (fun x=>f (ks[i].1::x)) (bs++[ks[i].1]):=by
     rw [HL.out];simp only;rw [tS hlt,List.flatMap_append,List.flatMap_singleton];simp only [pA]
    have HKT:Hid (kidL (i+1)=kidL i++cD n (fun x=>f (ks[i].1::x)) (bs++[ks[i].1])):=hkt;clear hkt;have HKP:Hid (kidL (i+1) <+:total):=by
     rw [HL.out];simp only;refine List.IsPrefix.trans ?_ HPR.out
     conv=>rhs;rw [<-List.take_append_drop (i+1) ks,List.flatMap_append]
     refine ⟨(ks.drop (i+1)).flatMap fun k=>cD n (fun x=>f (k.1::x)) (bs++[k.1]),?_⟩;simp
    generalize ks[i]=kid at *;obtain ⟨kc',kq⟩:=kid;simp only at c0 c1 HKI HKT;clear hJ hK hR hA2 hck
    go_upto_region 6 with fail
    rename_i K1 hK1 K2 hK2;obtain ⟨hJr,hKr,hRr,hAr⟩:=HR.out;have hoth:∀b,b<wr.heap.size->(wr.alloc (.cells #[.int .u8 (kc'.toNat:Int),.pointer kq] 190)).heap[b]?=wr.heap[b]?:=fun b hb=>bA _ _ _ hb
    have hBr:B0<=wr.heap.size:=HCX.out.size _ _ hJr;have hown:∀b,O (wr.alloc (.cells #[.int .u8 (kc'.toNat:Int),.pointer kq] 190)) b->O wr b:=fun b=>HCX.out.own _ _ b (hoth t (by have:=HGB.out;omega))
    refine wpIn_wide.1 (show Code.wpIn (wf none) 0 _ _ _ _ _ from Cn (id:=6) (n:=0) (kb:=wr.heap.size) (c:=kc') (q:=kq) (pre:=kidL i) (sub:=cD n (fun x=>f (kc'::x)) (bs++[kc'])) HCX.out rfl rfl rfl rfl
     (by rw [cA (w:=wr) _ _ wr.heap.size 0 rfl];rfl) (by rw [cA (w:=wr) _ _ wr.heap.size 1 rfl];rfl) (by have:=HGB.out;omega) (fun hO=>by have:=(HCX.out.ownB _ _ _ hJr (hown _ hO)).2;omega) (by have:=hKr.lt;omega) (by omega)
     (fun b hb=>(hoth b (by have:=HCX.out.tree b hb;omega)).trans (hAr b hb)) (hKr.same (hoth g hKr.lt) (hown g)) (HCX.out.stable _ _ _ hJr (fun b hb=>hoth b (by omega)) (fun b hb=>hoth b (HCX.out.ownB _ _ _ hJr hb).2) (by simp) rfl)
     (fun X g' cap' hX hKX hJX=>HIH.out kq (fun x=>f (kc'::x)) (bs++[kc']) (kidL i) X g' cap' (HKS.out.1 kc' kq HKI.out) (HKS.out.2.1 kc' kq HKI.out) (by simp;omega) (by rw [<-HKT.out];exact HKP.out) hX hKX hJX)
     (fun a w h1 h2 h3 h4 hJ1 hK1' hk1=>?_))
    rw [<-HKT.out] at hJ1;have hal:gC O g t wr (wr.alloc (.cells #[.int .u8 (kc'.toNat:Int),.pointer kq] 190)):=⟨by simp,rfl,fun b h=>.inl (hown b h),fun b o hb _ _ _ _=>(hoth b (eS hb).1).trans hb⟩;have hRn:gC O g t W w:=hRr.trans (hal.trans hk1);clear hal;have HNX:Hid (J (kidL (i+1)) w/\fk O B0 w g cap bs/\gC O g t W w/\Ag A w0 w):=⟨hJ1,hK1',hRn,fun b hb=>by
     obtain ⟨h5,h6,o,h7,h8⟩:=HCX.out.tree b hb;rw [h7];exact hk1.2.2.2 b o ((hoth b (by omega)).trans ((hAr b hb).trans h7)) h8 h6 (by have:=HGB.out;omega) (fun hO=>by have:=(HCX.out.ownB _ _ _ hJr (hown b hO)).1;omega)⟩
    have h2:a.defers=[]:=h2;have ha:=iw a 44 h1;have f0:a.eval (.tmp 0)=.pointer (some ⟨gn,0,none⟩):=h3 0 (by decide);have f1:a.eval (.tmp 1)=mo g cap bs:=h3 1 (by decide);have f2:a.eval (.tmp 2)=yf l:=h3 2 (by decide);have f3:a.eval (.tmp 3)=ρ (.tmp 3):=h3 3 (by decide);have f4:a.eval (.tmp 4)=ρ (.tmp 4):=h3 4 (by decide);have f5:a.eval (.tmp 5)=ρ (.tmp 5):=h3 5 (by decide);have f6:a.eval (.tmp 6)=u6:=h3 6 (by decide);have f7:a.eval (.tmp 7)=ρ (.tmp 7):=h3 7 (by decide);have f8:a.eval (.tmp 8)=.pointer (some ⟨wr.heap.size,0,none⟩):=h3 8 (by decide);have f9:a.eval (.tmp 9)=ρ (.tmp 9):=h3 9 (by decide);have f10:a.eval (.tmp 10)=ρ (.tmp 10):=h3 10 (by decide);have f11:a.eval (.tmp 11)=ρ (.tmp 11):=h3 11 (by decide);have f12:a.eval (.tmp 12)=ρ (.tmp 12):=h3 12 (by decide);have f13:a.eval (.tmp 13)=ρ (.tmp 13):=h3 13 (by decide);have f14:a.eval (.tmp 14)=ρ (.tmp 14):=h3 14 (by decide);have f15:a.eval (.tmp 15)=ρ (.tmp 15):=h3 15 (by decide);have f16:a.eval (.tmp 16)=ρ (.tmp 16):=h3 16 (by decide);have f17:a.eval (.tmp 17)=ρ (.tmp 17):=h3 17 (by decide);have f18:a.eval (.tmp 18)=ρ (.tmp 18):=h3 18 (by decide);have f19:a.eval (.tmp 19)=ρ (.tmp 19):=h3 19 (by decide);have f20:a.eval (.tmp 20)=ρ (.tmp 20):=h3 20 (by decide);have f21:a.eval (.tmp 21)=ρ (.tmp 21):=h3 21 (by decide);have f22:a.eval (.tmp 22)=ρ (.tmp 22):=h3 22 (by decide);have f23:a.eval (.tmp 23)=.bool false:=h3 23 (by decide);have f24:a.eval (.tmp 24)=.pointer (some ⟨gn,0,none⟩):=h3 24 (by decide);have f25:a.eval (.tmp 25)=.pointer (some ⟨gn,0,none⟩):=h3 25 (by decide);have f26:a.eval (.tmp 26)=.pointer (some ⟨gn,2,none⟩):=h3 26 (by decide);have f27:a.eval (.tmp 27)=.slice (some ⟨gk,0,none⟩) ks.length kc:=h3 27 (by decide);have f28:a.eval (.tmp 28)=.int .i64 (ks.length:Int):=h3 28 (by decide);have f29:a.eval (.tmp 29)=.int .i64 (i:Int):=h3 29 (by decide);have f30:a.eval (.tmp 30)=.bool true:=h3 30 (by decide);have f31:a.eval (.tmp 31)=.pointer (some ⟨gk,i * 2,none⟩):=h3 31 (by decide);have f32:a.eval (.tmp 32)=.agg #[.int .u8 (kc'.toNat:Int),.pointer kq]:=h3 32 (by decide);refine hK2 _ _ ?_;rw [ha,h2];clear ha h1 h2 h3 hJr hKr hRr hAr hJ1 hK1' hk1 hRn hoth;generalize a.eval=σ at f0 f1 f2 f3 f4 f5 f6 f7 f8 f9 f10 f11 f12 f13 f14 f15 f16 f17 f18 f19 f20 f21 f22 f23 f24 f25 f26 f27 f28 f29 f30 f31 f32 h4 ⊢;simp only [List.range,List.range.loop,List.map_cons,List.map_nil,f0,f1,f2,f3,f4,f5,f6,f7,f8,f9,f10,f11,f12,f13,f14,f15,f16,f17,f18,f19,f20,f21,f22,f23,f24,f25,f26,f27,f28,f29,f30,f31,f32,h4];clear f0 f1 f2 f3 f4 f5 f6 f7 f8 f9 f10 f11 f12 f13 f14 f15 f16 f17 f18 f19 f20 f21 f22 f23 f24 f25 f26 f27 f28 f29 f30 f31 f32 h4;go_wp2_with fail
    exact ⟨⟨_,_,_,⟨i+1,by omega,by simp,HNX.out.1,HNX.out.2.1,HNX.out.2.2.1,HNX.out.2.2.2⟩,rfl,rfl,rfl⟩,by simp [intOf];omega⟩
   .go_wp2_with fail
    have hie:i=ks.length:=by omega
    subst hie;have e1:kidL ks.length=done++(own++ks.flatMap fun k=>cD n (fun x=>f (k.1::x)) (bs++[k.1])):=by rw [HL.out];simp
    rw [e1] at hJ;go_ret;exact ⟨rfl,hJ,hK,hR⟩
end
def db (f:List UInt8->List Ver)(p:List UInt8):KVs:=cD (41-p.length) (fun k=>f (p++k)) p
theorem oO {B:Nat}(w:Wz)(s:ByteArray)(cap:Nat)(hB:B<=w.heap.size)(hc:s.size<=cap):
  gU B (w.drew.alloc (.cells (bytesRow s cap) 5 ((bytesRow s cap).size,(bytesRow s cap).size+1))) w.heap.size cap s.data.toList:=by
 have hrow:(w.drew.alloc (.cells (bytesRow s cap) 5 ((bytesRow s cap).size,(bytesRow s cap).size+1))).heap[w.heap.size]?=some (.cells (bytesRow s cap) 5 ((bytesRow s cap).size,(bytesRow s cap).size+1)):=by
  have:=aN w.drew (.cells (bytesRow s cap) 5 ((bytesRow s cap).size,(bytesRow s cap).size+1));exact this
 have hss:s.data.size=s.size:=rfl;have hsz:(bytesRow s cap).size=cap:=by simp [bytesRow];omega
 have hlen:s.data.toList.length=s.size:=by simp
 have hce:∀j,(w.drew.alloc (.cells (bytesRow s cap) 5 ((bytesRow s cap).size,(bytesRow s cap).size+1))).cell? ⟨w.heap.size,j,none⟩=(bytesRow s cap)[j]?:=fun j=>cell_of_row _ w.heap.size j _ 5 _ hrow
 refine ⟨hB,⟨_,_,_,hrow⟩,by rw [hlen];exact hc,fun j hj=>?_,fun j hj=>?_⟩
 .rw [hce,bytesRow,Array.getElem?_append_left (by simpa using hj)];simp at hj;simp [hj]
 .rw [hce,World.frozen?,hrow];refine ⟨by simp [hsz,hj],?_⟩;simp [hsz];omega
section
variable {A:Nat->Prop} {w0:Wz} {B0 t l:Nat} {O:Wz->Nat->Prop} {total:KVs} {J:KVs->Wz->Prop}
theorem vV (C:pU A w0 B0 t l O total J)(root:Option Ww)(f:List UInt8->List Ver)(p:ByteArray)(W:Wz)(bst bp:Nat)(hN:ai A 41 w0 root f)(htot:total=db f p.data.toList)(hAg:Ag A w0 W)(c1:W.cell? ⟨bst,0,none⟩=some (.pointer root))(c2:W.cell? ⟨bp,0,none⟩=some (.string p))(hp:p.size<=maxLen)(hJ:J [] W):
  Calls Yq.prog 122 #[yf l,.pointer (some ⟨bst,0,none⟩),.pointer (some ⟨bp,0,none⟩)] W fun e W'=>(∃v,e=.returned v)/\J total W':=by
 have hB:B0<=W.heap.size:=C.size _ _ hJ;have hNW:ai A 41 W root f:=ai.keep (fun b hb _=>⟨hb,hAg b hb⟩) 41 root f hN;have HF:=oN A 41 root f p W hp hNW;have HC:Hid (pU A w0 B0 t l O total J/\J [] W/\Ag A w0 W):=⟨C,hJ,hAg⟩;have HT:Hid (total=db f p.data.toList):=htot;clear C hJ hAg htot hN hNW;go_enter (Yq.nq Tryz.func122),Tryz.ntmps122;have HW:Hid (∀ (w1:Wz) (q:Option Ww),q.isSome=true->ai A (41-p.size) w1 q (fun x=>f (p.data.toList++x))->Below W.heap.size W w1 ->
   Calls Yq.prog 123 #[.pointer q,.slice (some ⟨w1.heap.size,0,none⟩) p.size (grownCap w1 p.size 0 5),yf l] (w1.drew.alloc (.cells (bytesRow p (grownCap w1 p.size 0 5)) 5 ((bytesRow p (grownCap w1 p.size 0 5)).size,(bytesRow p (grownCap w1 p.size 0 5)).size+1))) fun e W'=>e=.returned (.bool true)/\J total W'):=fun w1 q hq0 hq hb=>by
  obtain ⟨C,hJ,hAg⟩:=HC.out;have hbl:∀b,b<W.heap.size->(w1.drew.alloc (.cells (bytesRow p (grownCap w1 p.size 0 5)) 5 ((bytesRow p (grownCap w1 p.size 0 5)).size,(bytesRow p (grownCap w1 p.size 0 5)).size+1))).heap[b]?=W.heap[b]?:=fun b h=>by
   rw [bA _ _ _ (by show b<w1.heap.size;have:=hb.size;omega)];exact hb.block b h
  have hA1:∀b,A b->b<W.heap.size:=fun b h=>by have:=(C.tree b h).1;omega
  have hlen:p.data.toList.length=p.size:=by simp
  have hn:p.size<=40:=by
   rcases Nat.lt_or_ge 40 p.size with h|h
   .have e:41-p.size=0:=by omega
    rw [e] at hq;rw [hq.1] at hq0;cases hq0
   .exact h
  have hq2:ai A (41-p.size) w0 q (fun x=>f (p.data.toList++x)):=ai.keep (fun b hA _=>⟨hA,((hb.block b (hA1 b hA)).trans (hAg b hA)).symm⟩) _ q _ hq;have:=EF C (41-p.size) q (fun x=>f (p.data.toList++x)) p.data.toList [] _ w1.heap.size (grownCap w1 p.size 0 5) hq2 (by intro e;rw [e] at hq0;cases hq0) (by omega) (by rw [HT.out,db,hlen];exact List.prefix_refl _)
   (fun b hA=>(hbl b (hA1 b hA)).trans (hAg b hA)) ⟨oO w1 p _ (by have:=hb.size;omega) (grownCap_ge _ _ _ _),fun h=>by
    have h1:=(C.ownB _ _ _ hJ (C.own _ _ _ (hbl t (by have:=C.box;omega)) h)).2;have:=hb.size;omega⟩ (C.stable _ _ _ hJ (fun b h=>hbl b (by omega)) (fun b h=>hbl b (C.ownB _ _ _ hJ h).2) (by have:=hb.size;rw [World.size_alloc];show W.heap.size<=w1.heap.size+1;omega) hb.os)
  rw [mo,hlen] at this;refine this.mono ?_;rintro e W' ⟨rfl,h1,-⟩;refine ⟨rfl,?_⟩;rw [HT.out,db,hlen];exact h1
 go_wp2_with (first|(go_at_call 91;refine HF.mono ?_;clear HF;rintro e w1 ⟨q,rfl,hq,hb⟩;have c2':=aj hb c2;have hcv:=run_bytes_of_string (P:=Yq.prog) w1 9 48 5 p (Yq.u Tryz.underlying9) (Yq.u Tryz.underlying48) (Yq.u Tryz.underlying5))|(go_at_call 123;refine (HW.out w1 q (by assumption) hq hb).mono ?_;rintro e w2 ⟨rfl,hJ2⟩))
 .go_end0;exact ⟨⟨_,rfl⟩,hJ2⟩
 .have hq0:q=none:=by
   cases q with
   |none=>rfl
   |some _=>simp at *
  subst hq0;go_end0;refine ⟨⟨_,rfl⟩,?_⟩;obtain ⟨C,hJ,-⟩:=HC.out;rw [HT.out,db,iv _ _ _ (fun k=>hq.of_nil k)];exact C.stable _ _ _ hJ (fun b h=>hb.block b (by omega)) (fun b h=>hb.block b (C.ownB _ _ _ hJ h).2) hb.size hb.os
end
def kJ (c t:Nat)(W W':Wz):Prop:=W.heap.size<=W'.heap.size/\W'.os=W.os/\∀b,b<W.heap.size->b≠c->b≠t->W'.heap[b]?=W.heap[b]?
theorem kJ.below {c t:Nat}{W W':Wz}(h:Below W.heap.size W W'):kJ c t W W':=⟨h.size,h.os,fun b hb _ _=>h.block b hb⟩
theorem kJ.cells {c t:Nat}{W W':Wz}(h:kJ c t W W')(hc:∃o:Obj,W.heap[c]?=some o/\o.isCells=false):dp t W W':=⟨h.1,h.2.1,fun b o hb ho ht=>by
 refine (h.2.2 b (eS hb).1 (fun e=>?_) ht).trans hb;subst e;obtain ⟨o',h1,h2⟩:=hc;rw [hb] at h1;cases h1;rw [ho] at h2;cases h2⟩
theorem fw {t l:Nat}{W:Wz}{o:Obj}(h:W.heap[l]?=some o)(ho:o.isCells=false)(o':Obj):dp t W (W.putObj l o'):=⟨by simp,rfl,fun b x hb hx _=>by
 by_cases e:b=l
 .subst e;rw [h] at hb;cases hb;rw [ho] at hx;cases hx
 .exact (pO e).trans hb⟩
def dZ (O:Wz->Nat->Prop)(c t:Nat)(W W':Wz):Prop:=W.heap.size<=W'.heap.size/\W'.os=W.os/\(∀b,O W' b->O W b\/W.heap.size<=b)/\∀b,b<W.heap.size->b≠c->b≠t->¬O W b->W'.heap[b]?=W.heap[b]?
def noO (_:Wz)(_:Nat):Prop:=False
theorem kJ.own {c t:Nat}{W W':Wz}(h:kJ c t W W'):dZ noO c t W W':=⟨h.1,h.2.1,fun _ h=>h.elim,fun b h1 h2 h3 _=>h.2.2 b h1 h2 h3⟩
theorem dZ.cells {O:Wz->Nat->Prop}{c t:Nat}{W W':Wz}(h:dZ O c t W W')(hc:c=t\/∃o:Obj,W.heap[c]?=some o/\o.isCells=false):fd O t W W':=⟨h.1,h.2.1,h.2.2.1,fun b o hb ho ht hn=>by
 refine (h.2.2.2 b (eS hb).1 (fun e=>?_) ht hn).trans hb;subst e;rcases hc with h0|⟨o',h1,h2⟩
 .exact ht h0
 rw [hb] at h1;cases h1;rw [ho] at h2;cases h2⟩
theorem lG {O:Wz->Nat->Prop}{t l:Nat}{W:Wz}{o:Obj}(hO:∀X Y b,Y.heap[t]?=X.heap[t]?->O Y b->O X b)(htl:t≠l)(h:W.heap[l]?=some o)(ho:o.isCells=false)(o':Obj):fd O t W (W.putObj l o'):=⟨by simp,rfl,fun b hb=>.inl (hO _ _ b (pO htl) hb),fun b x hb hx _ _=>by
 by_cases e:b=l
 .subst e;rw [h] at hb;cases hb;rw [ho] at hx;cases hx
 .exact (pO e).trans hb⟩
section
variable {P:Program} {α β:Type}
theorem rM {g:Operand}{ps:Array Tmp}{assign body:Code}{Q:Exit->Act->Wz->Prop}{a:Act}{w:Wz}{n gf:Nat}{lb:Array Wq}{encs:β->Array Wq}(π:β->α)(hg:a.eval g=.func (.func gf) #[] lb)(eg:∀args w,(callFunc gf args).run P w=.ok (.enter gf args) w)(hps:∀x,(encs x).size=ps.size)
  (c t:Nat) (ht:t<w.heap.size) (O:Wz->Nat->Prop) (hO:∀X Y b,Y.heap[t]?=X.heap[t]?->O Y b->O X b) (I:List α->Wz->Prop) (good:List α->β->Prop) (total:List α)
  (hOI:∀pre X b,I pre X->O X b->w.heap.size<=b/\∃o:Obj,X.heap[b]?=some o/\o.isCells=true)
  (hI:∀pre X Y,I pre X->(∀b,b<w.heap.size->Y.heap[b]?=X.heap[b]?)->(∀b,O X b->Y.heap[b]?=X.heap[b]?)->X.heap.size<=Y.heap.size->Y.os=X.os->I pre Y) (hIc:∀pre X,I pre X->(c=t\/c<w.heap.size)/\(c=t\/∃o:Obj,X.heap[c]?=some o/\o.isCells=false)) (h0:I [] w) (a₁:β->Act)
  (hcall:∀ (l:Nat) (J:List α->Wz->Prop) (W:Wz),W.heap.size=w.heap.size+2->(∀b,b<w.heap.size->W.heap[b]?=w.heap[b]?) ->
   (∀pre X b,J pre X->O X b->w.heap.size+2<=b/\b<X.heap.size)->(∀pre X Y,J pre X->(∀b,b<w.heap.size+2->Y.heap[b]?=X.heap[b]?)->(∀b,O X b->Y.heap[b]?=X.heap[b]?)->X.heap.size<=Y.heap.size->Y.os=X.os->J pre Y)->(∀pre X,J pre X->w.heap.size+2<=X.heap.size) ->
   (∀pre x X,good pre x->J pre X->YieldAt (wf none) 0 P l (encs x) X fun e X'=>e=.returned (.bool true)/\J (pre++[π x]) X'/\fd O t X X')->J [] W ->
   Calls P gf (#[.func (.yield l) #[] #[]]++lb) W fun e W'=>(∃v,e=.returned v)/\J total W')
  (hassign:∀ (l:Nat) (x:β) (W:Wz) (K:Act->Wz->Prop),K (a₁ x) W->assign.wpIn (wf (some l)) 0 P (Exit.then K (fun _ _ _=>False)) {tmps:=(ps.zip (encs x)).foldl (fun t (p,v)=>t.setIfInBounds p v) a.tmps,defers:=[]} W)
  (hbody:∀ (l:Nat) (pre:List α) (x:β) (W:Wz),good pre x->I pre W->body.wpIn (wf (some l)) 0 P (fun e _ W'=>e=.normal/\dZ O c t W W'/\I (pre++[π x]) W') (a₁ x) W)
  (hdone:∀ (D:Nat) (W:Wz),w.heap.size<=D->I total W->W.heap[D]?=some (.deferred (some []))->Q .normal {a with defers:={target:=.collected D,args:=#[]} :: a.defers} W):
  (Code.rangeFunc g ps assign body).wpIn (wf none) n P Q a w:=by
 refine wpIn_rangeFunc ?_;intro fn hfn;obtain ⟨rec,hrec⟩:∃rec:LoopState->Loop,rec=fun st=>{state:=st,pending:=none,fn,tmps:=a.tmps,params:=ps,assign,body,defers:=w.heap.size}:=⟨_,rfl⟩
 obtain ⟨W1,hW1⟩:∃W1,(w.alloc (.deferred (some []))).alloc (.loop (rec .ready))=W1:=⟨_,rfl⟩;have hL1:W1.heap[w.heap.size+1]?=some (.loop (rec .ready)):=by
  rw [<-hW1];have:=aN (w.alloc (.deferred (some []))) (.loop (rec .ready));rwa [World.size_alloc] at this
 have hK1:W1.heap[w.heap.size]?=some (.deferred (some [])):=by
  rw [<-hW1];exact (bA _ _ _ (by simp)).trans (aN w _)
 have hold:∀b,b<w.heap.size->W1.heap[b]?=w.heap[b]?:=fun b hb=>by
  rw [<-hW1,bA _ _ _ (by simp;omega),bA _ _ _ hb]
 have hsz1:W1.heap.size=w.heap.size+2:=by rw [<-hW1];simp
 have hcl:c<w.heap.size:=by
  rcases (hIc _ _ h0).1 with h|h
  .omega
  .exact h
 have hOl:∀pre X b,I pre X->O X b->∀ {j:Nat} {o:Obj},X.heap[j]?=some o->o.isCells=false->b≠j:=fun pre X b hi hb j o hj hc e=>by
  obtain ⟨-,o',h1,h2⟩:=hOI _ _ _ hi hb;subst e;rw [hj] at h1;cases h1;rw [hc] at h2;cases h2
 have hI1:I [] W1:=hI _ _ _ h0 hold (fun b hb=>hold b (eS (hOI _ _ _ h0 hb).2.choose_spec.1).1) (by omega) (by rw [<-hW1];rfl);refine ⟨w.heap.size+1,[{target:=.collected w.heap.size,args:=#[]}],W1,{target:=.fn (.func gf) lb,args:=#[.func (.yield (w.heap.size+1)) #[] #[]]},W1,gf,
  #[.func (.yield (w.heap.size+1)) #[] #[]]++lb,W1,?_,?_,fun _ _=>trivial,?_,(fun h=>by cases h),?_⟩
 .rw [<-hW1,hrec];exact run_enterLoop_outer _ _ _ _ _
 .simp only [resolve,hg];simp [go_sem]
 .simp [invoke,go_sem,eg]
 .refine callsIn_wide.2 ((hcall (w.heap.size+1) (fun pre W=>I pre W/\W.heap[w.heap.size+1]?=some (.loop (rec .ready))/\W.heap[w.heap.size]?=some (.deferred (some []))) W1 hsz1 hold (fun pre X b h hb=>by
   have h1:=(hOI _ _ _ h.1 hb).1;have h2:=hOl _ _ _ h.1 hb h.2.1 rfl;have h3:=hOl _ _ _ h.1 hb h.2.2 rfl;exact ⟨by omega,(eS (hOI _ _ _ h.1 hb).2.choose_spec.1).1⟩) (fun pre X Y h h1 h1' h2 h3=>⟨hI pre X Y h.1 (fun b hb=>h1 b (by omega)) h1' h2 h3,(h1 _ (by omega)).trans h.2.1,(h1 _ (by omega)).trans h.2.2⟩) (fun pre X h=>(eS h.2.1).1) ?_ ⟨hI1,hL1,hK1⟩).mono ?_)
  .rintro pre x X hgood ⟨hi,hl,hk⟩;have hlt:w.heap.size+1<X.heap.size:=(eS hl).1;have hy:=run_yield (P:=P) (args:=encs x) hl (by rw [hrec];exact hps x);rw [hrec] at hy;refine ⟨fn,_,assign,body,hy,roundIn_of_wpIn (F:=wf none) trivial (hassign _ x X _ ?_)⟩;refine ⟨_,run_beginRound hl (by rw [hrec]),?_⟩;obtain ⟨X2,hX2⟩:∃X2,X.putObj (w.heap.size+1) (.loop {rec .ready with state:=.busy})=X2:=⟨_,rfl⟩;have hl2:X2.heap[w.heap.size+1]?=some (.loop {rec .ready with state:=.busy}):=by rw [<-hX2];exact World.putObj_heap_same hlt
   have ho2:∀b,b≠w.heap.size+1->X2.heap[b]?=X.heap[b]?:=fun b hb=>by rw [<-hX2];exact pO hb
   have hsz2:X2.heap.size=X.heap.size:=by rw [<-hX2];simp
   have hos2:X2.os=X.os:=by rw [<-hX2];rfl
   have hi2:I pre X2:=hI _ _ _ hi (fun b hb=>ho2 b (by omega)) (fun b hb=>ho2 b (hOl _ _ _ hi hb hl rfl)) (by omega) hos2;have hkc2:fd O t X X2:=by rw [<-hX2];exact lG hO (by omega) hl rfl _
   rw [hX2];refine wpIn_mono (hbody _ pre x _ hgood hi2) ?_;rintro e a3 X3 ⟨rfl,hkb,hi3⟩;have hl3:X3.heap[w.heap.size+1]?=some (.loop {rec .ready with state:=.busy}):=(hkb.2.2.2 _ (by omega) (by omega) (by omega) (fun h=>hOl _ _ _ hi2 h hl2 rfl rfl)).trans hl2;have hk3:X3.heap[w.heap.size]?=some (.deferred (some [])):=(hkb.2.2.2 _ (by omega) (by omega) (by omega) (fun h=>hOl _ _ _ hi2 h ((ho2 _ (by omega)).trans hk) rfl rfl)).trans ((ho2 _ (by omega)).trans hk);have her:=run_endRound (P:=P) none hl3;have hfin:({rec .ready with state:=.busy}:Loop)={rec .ready with state:=.busy}:=rfl;have e4:({({rec .ready with state:=.busy}:Loop) with state:=if (none:Option Code).isNone then .ready else .done,pending:=none}:Loop)=rec .ready:=by rw [hrec];rfl
   rw [e4] at her;have hlt3:w.heap.size+1<X3.heap.size:=(eS hl3).1;refine ⟨_,_,her,rfl,⟨hI _ _ _ hi3 (fun b hb=>pO (by omega)) (fun b hb=>pO (hOl _ _ _ hi3 hb hl3 rfl)) (by simp) rfl,World.putObj_heap_same hlt3,(pO (by omega)).trans hk3⟩,hkc2.trans ((hkb.cells (hIc _ _ hi2).2).trans (lG hO (by omega) hl3 rfl _))⟩
  .rintro e W2 ⟨⟨v,rfl⟩,hi,hl,hk⟩;have hel:=run_endLoop (P:=P) hl (by rw [hrec];simp);have hpe:(rec .ready).pending=none:=by rw [hrec]
   rw [hpe] at hel;exact ⟨none,_,hel,hdone w.heap.size _ (lR _) (hI _ _ _ hi (fun b hb=>pO (by omega)) (fun b hb=>pO (hOl _ _ _ hi hb hl rfl)) (by simp) rfl) ((pO (by omega)).trans hk)⟩
end
end
