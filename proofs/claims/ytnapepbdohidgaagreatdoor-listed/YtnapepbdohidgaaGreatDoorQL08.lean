/- A part. -/
import Derived.Test.YtnapepbdohidgaaGreatDoorQL07
import Derived.Deep.RegionLaw
import Derived.Deep.DeepCutAuto
import Derived.BigRegion
set_option maxHeartbeats 4000000
set_option maxRecDepth 100000
open Go renaming World->Wj,Value->Wx,Addr->Wu
namespace Go.Proofs.Qw
open Tryz
section
open Go.Conc Go.ConcX Go.ConcX.Gen Go.RowKit
noncomputable def Ec:Code:=cIn (cIn (dr (jc (dr (dr (cF Tryz.f123))))))
noncomputable def Ed:Array Oper:=qG (jc (dr (cIn (jc (dr (dr Ec))))))
structure Wd6 (W1 Wb Wc:Wj)(Post:Wj->Prop)(d:Nat->Bool)(w:Wj):Prop where
 w1:d 5=false->w=W1
 w2:d 5=true->d 6=false->w=Wb
 w3:d 6=true->d 8=false->w=Wc
 w4:d 8=true->Post w
 c6:d 6=true->d 5=true
 c8:d 8=true->d 6=true
theorem dG {d:Nat->Bool}{i j:Nat}(h:j≠i):dQ d i j=d j:=by simp [dQ,h]
theorem p5 {d:Nat->Bool}{i:Nat}:dQ d i i=true:=by simp [dQ]
section
variable {W1 Wb Wc w:Wj} {Post:Wj->Prop} {d:Nat->Bool}
theorem Wd6.other (h:Wd6 W1 Wb Wc Post d w){i:Nat}(h5:i≠5)(h6:i≠6)(h8:i≠8):Wd6 W1 Wb Wc Post (dQ d i) w:=by
 have e5:dQ d i 5=d 5:=dG (fun e=>h5 e.symm);have e6:dQ d i 6=d 6:=dG (fun e=>h6 e.symm);have a:dQ d i 8=d 8:=dG (fun e=>h8 e.symm);exact ⟨by rw [e5];exact h.w1,by rw [e5,e6];exact h.w2,by rw [e6,a];exact h.w3,by rw [a];exact h.w4,by rw [e5,e6];exact h.c6,by rw [e6,a];exact h.c8⟩
theorem Wd6.at5 (h:Wd6 W1 Wb Wc Post d w)(n5:d 5=false):Wd6 W1 Wb Wc Post (dQ d 5) Wb:=by
 have n6:d 6=false:=by
  cases e:d 6 with
  |false=>rfl
  |true=>rw [h.c6 e] at n5;cases n5
 have b:d 8=false:=by
  cases e:d 8 with
  |false=>rfl
  |true=>rw [h.c8 e] at n6;cases n6
 have e6:dQ d 5 6=false:=(dG (by decide)).trans n6;have a:dQ d 5 8=false:=(dG (by decide)).trans b;exact ⟨fun k=>by (rw [p5] at k;cases k),fun _ _=>rfl,fun k=>(by rw [e6] at k;cases k),fun k=>(by rw [a] at k;cases k),fun _=>p5,fun k=>(by rw [a] at k;cases k)⟩
theorem Wd6.at6 (h:Wd6 W1 Wb Wc Post d w)(c:d 5=true)(n6:d 6=false):Wd6 W1 Wb Wc Post (dQ d 6) Wc:=by
 have b:d 8=false:=by
  cases e:d 8 with
  |false=>rfl
  |true=>rw [h.c8 e] at n6;cases n6
 have e5:dQ d 6 5=true:=(dG (by decide)).trans c;have a:dQ d 6 8=false:=(dG (by decide)).trans b;exact ⟨fun k=>(by rw [e5] at k;cases k),fun _ k=>(by rw [p5] at k;cases k),fun _ _=>rfl,fun k=>(by rw [a] at k;cases k),fun _=>e5,fun k=>(by rw [a] at k;cases k)⟩
theorem Wd6.at8 (h:Wd6 W1 Wb Wc Post d w)(a:d 6=true){X:Wj}(b:Post X):Wd6 W1 Wb Wc Post (dQ d 8) X:=by
 have e5:dQ d 8 5=true:=(dG (by decide)).trans (h.c6 a);have e6:dQ d 8 6=true:=(dG (by decide)).trans a;exact ⟨fun k=>(by rw [e5] at k;cases k),fun _ k=>(by rw [e6] at k;cases k),fun _ k=>(by rw [p5] at k;cases k),fun _=>b,fun _=>e5,fun _=>e6⟩
end
theorem hfun {ρ:Operand->Wx}(a:Act)(h:a.eval=ρ)(f:FuncId):ρ (.func f)=.func (.func f) #[] #[]:=by rw [<-h];rfl
theorem hnot {ops:Array Oper}{listed:Array Bool}{i:Nat}(a:i∈Region.ready .any ops listed)(hl:listed.size=ops.size):listed.getD i false=false:=by
 have h:=(cX a).2;have hlt:=(cX a).1;rw [gD,eG (by omega)] at h ⊢;exact h
theorem rJ {W:Wj}{b j:Nat}{v:Wx}(h:W.cell? ⟨b,j,none⟩=some v):∃o:Obj,W.heap[b]?=some o/\o.isCells=true:=by
 unfold World.cell? at h;cases ho:W.heap[b]? with
 |none=>simp [ho] at h
 |some o=>exact ⟨o,rfl,by cases o<;>simp_all [Obj.isCells]⟩
section
variable {A:Nat->Prop} {w0:Wj} {B0 t l:Nat} {O:Wj->Nat->Prop} {total:KVs} {J:KVs->Wj->Prop}
theorem CK (C:rH A w0 B0 t l O total J){id n:Nat}{Q:Exit->Act->Wj->Prop}{a0:Act}{W:Wj}{kb g cap:Nat}{c:UInt8}{q:Option Wu}{bs:List UInt8}{pre sub:KVs}(hs:a0.tmps.size=44)(e1:a0.eval (.tmp 1)=mn g cap bs)(e2:a0.eval (.tmp 2)=yf l)(e8:a0.eval (.tmp 8)=.pointer (some ⟨kb,0,none⟩))
  (U:W.cell? ⟨kb,0,none⟩=some (.int .u8 (c.toNat:Int))) (ad:W.cell? ⟨kb,1,none⟩=some (.pointer q)) (ac:kb≠t) (ap:¬O W kb) (al:kb≠g) (hl:bs.length<=1000) (Z:Ag A w0 W) (K:fi O B0 W g cap bs) (Y:J pre W)
  (E:∀X g' k,Ag A w0 X->fi O B0 X g' k (bs++[c])->J pre X->Calls Yq.prog 123 #[.pointer q,mn g' k (bs++[c]),yf l] X fun e X'=>e=.returned (.bool true)/\J (pre++sub) X'/\fi O B0 X' g' k (bs++[c])/\gw O g' t X X')
  (hend:∀a w,a.tmps.size=44->a.defers=a0.defers->(∀t,t<33->a.eval (.tmp t)=a0.eval (.tmp t))->a.eval (.tmp 42)=.bool false->J (pre++sub) w->fi O B0 w g cap bs->gw O g t W w->Q .normal a w):
  (Code.region id Ed true).wpIn (wf none) n Yq.prog Q a0 W:=by
 obtain ⟨W1,I⟩:∃W1:Wj,W1={W with drawn:=W.drawn+1}:=⟨_,rfl⟩;have s:W1.heap=W.heap:=by rw [I]
 have M:W1.os=W.os:=by rw [I]
 have k0:W1.cell? ⟨kb,0,none⟩=some (.int .u8 (c.toNat:Int)):=(cB (a:=⟨kb,0,none⟩) (by rw [s])).trans U;have k1:W1.cell? ⟨kb,1,none⟩=some (.pointer q):=(cB (a:=⟨kb,1,none⟩) (by rw [s])).trans ad;have hB:B0<=W.heap.size:=C.size pre W Y;obtain ⟨Wb,D⟩:∃Wb:Wj,Wb=W1.alloc (.cells #[.int .u8 (c.toNat:Int)] 5):=⟨_,rfl⟩;have m:∀b,b<W.heap.size->Wb.heap[b]?=W.heap[b]?:=fun b hb=>by rw [D,bA _ _ _ (by rw [s];exact hb),s]
 have hbsz:Wb.heap.size=W.heap.size+1:=by rw [D,World.size_alloc,s]
 have htB:=C.box;have S:∀b,O Wb b->O W b:=fun b=>C.own _ _ b (m t (by omega))
 have Kb:fi O B0 Wb g cap bs:=K.same (m g K.lt) (S g);obtain ⟨g',k,Wc,hrun,Kc',H,r,hcsz,G⟩:=xK Kb.togK (by omega) hl W1.heap.size c (by rw [D,cA (w:=W1) _ _ W1.heap.size 0 rfl];rfl) 48;have R:Wb.os=W.os:=by rw [D];exact M
 have hgB:=K.base;have B:∀b,O Wc b->O W b:=fun b h=>S b (C.own _ _ b (r t (by omega) (by omega)) h)
 have Kc:fi O B0 Wc g' k (bs++[c]):=⟨Kc',fun h=>by
  have h1:=B _ h;rcases H with ⟨rfl,-⟩|⟨h2,-⟩
  .exact K.no h1
  .have:=(C.ownB _ _ _ Y h1).2;omega⟩
 have Ac:Ag A w0 Wc:=fun b hb=>by
  obtain ⟨h1,h2,h3⟩:=C.tree b hb;rw [r b (by omega) (by omega),m b (by omega)];exact Z b hb
 have Jc:J pre Wc:=C.stable pre W Wc Y (fun b hb=>by rw [r b (by omega) (by omega),m b (by omega)]) (fun b hb=>by
  have h1:=(C.ownB _ _ _ Y hb).2;rw [r b (by omega) (fun e=>K.no (e▸hb)),m b h1]) (by omega) (G.trans R)
 have hsub:=E Wc g' k Ac Kc Jc;have hg'':g'=g\/W.heap.size<g':=by
  rcases H with h|h
  .exact .inl h.1
  .exact .inr (by omega)
 have F:∀w,(J (pre++sub) w/\fi O B0 w g' k (bs++[c])/\gw O g' t Wc w)->fi O B0 w g cap bs/\gw O g t W w:=fun w h=>by
  obtain ⟨hJ',T,u⟩:=h;refine ⟨?_,⟨by have:=u.1;omega,u.2.1.trans (G.trans R),fun b h=>(u.2.2.1 b h).elim (fun h=>.inl (B b h)) (fun h=>.inr (by omega)),fun b o hb ho ht hg hn=>?_⟩⟩
  .rcases H with ⟨rfl,rfl⟩|⟨h1,h2⟩
   .exact ⟨T.togK.take,T.no⟩
   .obtain ⟨x,e,z,hx⟩:=Kb.obj;have hno:¬O Wc g:=fun h=>K.no (B _ h)
    refine ⟨Kb.togK.same ((u.2.2.2 g _ (h2.trans hx) rfl ?_ ?_ hno).trans hx.symm),vO u.2.2.1 (h2.trans hx) hno⟩
    .have:=C.box;omega
    .have:=Kb.lt;omega
  .have hlt:b<W.heap.size:=(eS hb).1;exact u.2.2.2 b o ((r b (by omega) hg).trans ((m b hlt).trans hb)) ho ht (by omega) (fun h=>hn (B _ h))
 have ab:kb<W.heap.size:=by
  obtain ⟨o,h,-⟩:=rJ U;exact (eS h).1
 have y:∀ {d:Nat->Bool} w,Wd6 W1 Wb Wc (fun w=>J (pre++sub) w/\fi O B0 w g' k (bs++[c])/\gw O g' t Wc w) d w->∀ (j:Nat) v,W1.cell? ⟨kb,j,none⟩=some v->w.cell? ⟨kb,j,none⟩=some v:=fun {d} w hw j v hv=>by
  have af:W.cell? ⟨kb,j,none⟩=some v:=(cB (a:=⟨kb,j,none⟩) (by rw [s])).trans hv;have P:Wb.cell? ⟨kb,j,none⟩=some v:=(cB (a:=⟨kb,j,none⟩) (m kb ab)).trans af;have L:Wc.cell? ⟨kb,j,none⟩=some v:=(cB (a:=⟨kb,j,none⟩) (r kb (by omega) al)).trans P;cases h5:d 5 with
  |false=>rw [hw.w1 h5];exact hv
  |true=>cases h6:d 6 with
   |false=>rw [hw.w2 h5 h6];exact P
   |true=>cases h8:d 8 with
    |false=>rw [hw.w3 h6 h8];exact L
    |true=>
     obtain ⟨o,ho,N⟩:=rJ L;have:=(hw.w4 h8).2.2.2.2.2 kb o ho N ac (by omega) (fun h=>ap (B _ h));exact (cB (a:=⟨kb,j,none⟩) (this.trans ho.symm)).trans L
 refine jg (ro:=none) (a0:=a0) (w0:=W) mixed 33 10
  (fun i=>match i with| 0=>.pointer (some ⟨kb,1,none⟩)| 1=>.pointer q| 2=>mn g cap bs| 3=>.pointer (some ⟨kb,0,none⟩)| 4=>.int .u8 (c.toNat:Int)| 5=>.slice (some ⟨W1.heap.size,0,none⟩) 1 1| 6=>mn g' k (bs++[c])| 7=>yf l| 8=>.bool true| 9=>.bool false|_=>undef)
  (Wd6 W1 Wb Wc (fun w=>J (pre++sub) w/\fi O B0 w g' k (bs++[c])/\gw O g' t Wc w)) (by omega) (by rfl) (by rfl) (fun listed a w i o hi ho V p=>?_) (fun a w h1 h2 h3 h4 h5=>?_) ⟨fun _=>(by rw [I]),fun h=>(by cases h),fun h=>(by cases h),fun h=>(by cases h),fun h=>(by cases h),fun h=>(by cases h)⟩
 .have hlt:i<10:=(cX hi).1;have hnot:listed.getD i false=false:=hnot hi V.len;rcases i with - | - | - | - | - | - | - | - | - | - |i;all_goals first|omega|(have ho1:=ho;dsimp only [Ed,Ec,cF,Tryz.f123,jc,dr,cIn,qG,Option.getD] at ho1;simp only [gA,gS,gZ,oI,Nat.reduceAdd,zA] at ho1;subst ho1)
  .have q0:a.eval (.tmp 8)=.pointer (some ⟨kb,0,none⟩):=(V.old 8 (by omega)).trans e8;refine aq ho rfl (fun c h=>by cases h) (v:=.pointer (some ⟨kb,1,none⟩)) (w':=w) (by generalize a.eval=ρ at q0 ⊢;simp [go_sem,q0]) ⟨_,rfl,fun _=>rfl,V.world.other (by omega) (by omega) (by omega)⟩
  .have q0:a.eval (.tmp 33)=.pointer (some ⟨kb,1,none⟩):=V.new 0 (by omega) (p ⟨0,.data⟩ (by simp) rfl);refine aq ho rfl (fun c h=>by cases h) (v:=.pointer q) (w':=w) (by generalize a.eval=ρ at q0 ⊢;simp [go_sem,q0,y w V.world 1 _ k1]) ⟨_,rfl,fun _=>rfl,V.world.other (by omega) (by omega) (by omega)⟩
  .have q0:a.eval (.tmp 1)=mn g cap bs:=(V.old 1 (by omega)).trans e1;refine aq ho rfl (fun c h=>by cases h) (v:=mn g cap bs) (w':=w) (by generalize a.eval=ρ at q0 ⊢;simp [go_sem,q0]) ⟨_,rfl,fun _=>rfl,V.world.other (by omega) (by omega) (by omega)⟩
  .have q0:a.eval (.tmp 8)=.pointer (some ⟨kb,0,none⟩):=(V.old 8 (by omega)).trans e8;refine aq ho rfl (fun c h=>by cases h) (v:=.pointer (some ⟨kb,0,none⟩)) (w':=w) (by generalize a.eval=ρ at q0 ⊢;simp [go_sem,q0]) ⟨_,rfl,fun _=>rfl,V.world.other (by omega) (by omega) (by omega)⟩
  .have q0:a.eval (.tmp 36)=.pointer (some ⟨kb,0,none⟩):=V.new 3 (by omega) (p ⟨3,.data⟩ (by simp) rfl);refine aq ho rfl (fun c h=>by cases h) (v:=.int .u8 (c.toNat:Int)) (w':=w) (by generalize a.eval=ρ at q0 ⊢;simp [go_sem,q0,y w V.world 0 _ k0]) ⟨_,rfl,fun _=>rfl,V.world.other (by omega) (by omega) (by omega)⟩
  .have q0:a.eval (.tmp 37)=.int .u8 (c.toNat:Int):=V.new 4 (by omega) (p ⟨4,.data⟩ (by simp) rfl);have hw:=V.world.w1 hnot;subst hw;refine aq ho rfl (fun c h=>by cases h) (v:=.slice (some ⟨w.heap.size,0,none⟩) 1 1) (w':=w.alloc (.cells #[.int .u8 (c.toNat:Int)] 5)) (by generalize a.eval=ρ at q0 ⊢;simp [go_sem,q0]) ⟨_,rfl,fun _=>rfl,(by rw [<-D];exact V.world.at5 hnot)⟩
  .have q0:a.eval (.tmp 35)=mn g cap bs:=V.new 2 (by omega) (p ⟨2,.data⟩ (by simp) rfl);have h5:=p ⟨5,.data⟩ (by simp) rfl;have q1:a.eval (.tmp 38)=.slice (some ⟨W1.heap.size,0,none⟩) 1 1:=V.new 5 (by omega) h5;have hw:=V.world.w2 h5 hnot;subst hw;refine aq ho rfl (fun c h=>by cases h) (v:=mn g' k (bs++[c])) (w':=Wc) (by generalize a.eval=ρ at q0 q1 ⊢;simp [execOp,resolve,invoke,builtin,q0,q1,hrun,Result.andThen]) ⟨_,rfl,fun _=>rfl,V.world.at6 h5 hnot⟩
  .have q0:a.eval (.tmp 2)=yf l:=(V.old 2 (by omega)).trans e2;refine aq ho rfl (fun c h=>by cases h) (v:=yf l) (w':=w) (by generalize a.eval=ρ at q0 ⊢;simp [go_sem,q0]) ⟨_,rfl,fun _=>rfl,V.world.other (by omega) (by omega) (by omega)⟩
  .have q0:a.eval (.tmp 34)=.pointer q:=V.new 1 (by omega) (p ⟨1,.data⟩ (by simp) rfl);have h6:=p ⟨6,.data⟩ (by simp) rfl;have q1:a.eval (.tmp 39)=mn g' k (bs++[c]):=V.new 6 (by omega) h6;have q2:a.eval (.tmp 40)=yf l:=V.new 7 (by omega) (p ⟨7,.data⟩ (by simp) rfl);have hw:=V.world.w3 h6 hnot;subst hw;refine nB (f:=123) (args:=#[.pointer q,mn g' k (bs++[c]),yf l]) (w':=w) ho rfl (fun c h=>by cases h) (by generalize hρ:a.eval=ρ at q0 q1 q2 ⊢;have qf:=hfun a hρ 123;simp [go_sem,q0,q1,q2,qf]) (hsub.mono ?_);rintro e X ⟨rfl,hX⟩;exact ⟨_,rfl,_,rfl,fun _=>rfl,V.world.at8 h6 hX⟩
  .have q0:a.eval (.tmp 41)=.bool true:=V.new 8 (by omega) (p ⟨8,.data⟩ (by simp) rfl);refine aq ho rfl (fun c h=>by cases h) (v:=.bool false) (w':=w) (by generalize a.eval=ρ at q0 ⊢;simp [go_sem,q0]) ⟨_,rfl,fun _=>rfl,V.world.other (by omega) (by omega) (by omega)⟩
 .obtain ⟨d,hd,hw⟩:=h5;have hP:=hw.w4 (hd 8 (by decide));exact hend a w (h1.trans hs) h2 h3 (h4 9 (by omega) (by decide)) hP.1 (F w hP).1 (F w hP).2
end
end
section
open Go.RowKit
structure Place (ks:List (UInt8×Option Wu))(c:UInt8)(r:Nat):Prop where
 le:r<=ks.length
 lo:∀j (h:j<ks.length),j<r->ks[j].1<c
 hi:∀j (h:j<ks.length),r<=j->c<=ks[j].1
def mK (ks:List (UInt8×Option Wu))(c:UInt8)(r:Nat):Bool:=(ks[r]?.map (·.1))==some c
def labs (ks:List (UInt8×Option Wu))(i:Nat):Int:=((ks.getD i (0,none)).1.toNat:Int)
def ptrs (ks:List (UInt8×Option Wu))(i:Nat):Option Wu:=(ks.getD i (0,none)).2
theorem kH {ks:List (UInt8×Option Wu)}{i:Nat}(h:i<ks.length):labs ks i=(ks[i].1.toNat:Int):=by simp [labs,h]
theorem Fc {ks:List (UInt8×Option Wu)}{i:Nat}(h:i<ks.length):ptrs ks i=ks[i].2:=by simp [ptrs,h]
theorem Fd (ks:List (UInt8×Option Wu))(c:UInt8)(r:Nat):decide (r<ks.length/\labs ks r=(c.toNat:Int))=mK ks c r:=by
 unfold mK;by_cases hr:r<ks.length
 .rw [Bool.eq_iff_iff];simp only [hr,eL,Option.map_some,true_and,kH hr,decide_eq_true_eq,beq_iff_eq,oI];exact ⟨fun h=>UInt8.toNat_inj.1 (by omega),fun h=>by rw [h]⟩
 .simp [hr]
theorem nE (A:Nat->Prop)(g:Nat)(kv:Wx)(ks:List (UInt8×Option Wu))(c:UInt8)(w:Wj)
  (c2:w.cell? ⟨g,2,none⟩=some kv) (hk:fR A w kv ks) (hs:ks.Pairwise (fun a b=>a.1<b.1)):
  Calls Yq.prog 116 #[.pointer (some ⟨g,0,none⟩),.int .u8 (c.toNat:Int)] w fun e w'=>∃r:Nat,Place ks c r /\
   e=.returned (.tuple #[.int .i64 r,.bool (mK ks c r)])/\Below w.heap.size w w':=by
 by_cases hne:ks=[]
 .subst hne;obtain ⟨a,cap,rfl,-,-⟩:=hk;go_enter (Yq.nq func116),ntmps116;go_wp2_with (go_at_call 133;refine (CH _ _ _ _).mono ?_;rintro e w' ⟨rfl,rfl⟩)
  go_ret2
  exact ⟨0,⟨lR _,fun j h=>absurd h (Nat.not_lt_zero _),fun j h=>absurd h (Nat.not_lt_zero _)⟩,by simp [mK],bR _ _⟩
 .obtain ⟨l,cap,rfl,-,-,hc,-⟩:=hk.cells hne;have hle:=kG ks hs;have hbs:Calls Yq.prog 133 #[.slice (some ⟨l,0,none⟩) ks.length cap,.int .u8 (c.toNat:Int),.func (.func 134) #[] #[]] w fun e w'=>∃r:Nat,Place ks c r /\
    e=.returned (.tuple #[.int .i64 r,.bool (mK ks c r)])/\Below w.heap.size w w':=by
   refine (E9 l ks.length cap (labs ks) (ptrs ks) (c.toNat:Int) w (by omega)
    (fun i k=>by rw [kH k,Fc k];exact hc i k) (fun i j f d=>by rw [kH d,kH (Nat.lt_trans f d)];exact jh hs i j f d)).mono ?_
   rintro e w' ⟨r,h1,h2,h3,rfl,h5⟩;refine ⟨r,⟨h1,fun j h d=>?_,fun j h d=>?_⟩,by rw [Fd],h5⟩
   .have:=h2 j d;rw [kH h] at this;exact UInt8.lt_iff_toNat_lt.2 (by omega)
   .have:=h3 j d h;rw [kH h] at this;exact UInt8.le_iff_toNat_le.2 (by omega)
  clear hc;go_enter (Yq.nq func116),ntmps116;go_wp2_with (go_at_call 133;refine hbs.mono ?_;rintro e w' ⟨r,h1,rfl,h5⟩)
  go_ret2
  exact ⟨r,h1,rfl,h5⟩
theorem Place.mem {ks:List (UInt8×Option Wu)}{c:UInt8}{r:Nat}(h:mK ks c r=true):∃hr:r<ks.length,ks[r].1=c:=by
 unfold mK at h;by_cases hr:r<ks.length
 .exact ⟨hr,by simpa [hr] using h⟩
 .simp [List.getElem?_eq_none (Nat.le_of_not_lt hr)] at h
theorem Place.nomem {ks:List (UInt8×Option Wu)}{c:UInt8}{r:Nat}(hp:Place ks c r)(hs:ks.Pairwise (fun a b=>a.1<b.1))(h:mK ks c r=false):∀q,(c,q) ∉ ks:=by
 intro q hq;obtain ⟨j,i,e⟩:=gM hq;by_cases f:j<r
 .have:=hp.lo j i f;rw [e] at this;have:=UInt8.lt_iff_toNat_lt.1 this;simp only at this;omega
 .have hr:r<ks.length:=by omega
  have h1:=hp.hi r hr (lR _);by_cases d:j=r
  .subst d;simp [mK,i,e] at h
  .have h2:=jh hs r j (by omega) i;rw [e] at h2;have:=UInt8.le_iff_toNat_le.1 h1;simp only at h2;omega
theorem ak.nil {A:Nat->Prop}{n:Nat}{w:Wj}{f:List UInt8->List Ver}(h:∀k,f k=[]):ak A n w none f:=by
 cases n with
 |zero=>exact ⟨rfl,h⟩
 |succ n=>exact Or.inl ⟨rfl,h⟩
theorem ak.of_nil {A:Nat->Prop}{n:Nat}{w:Wj}{f:List UInt8->List Ver}(h:ak A n w none f):∀k,f k=[]:=by
 cases n with
 |zero=>exact h.2
 |succ n=>
  rcases h with h|⟨g,hv,kv,ks,hp,_⟩
  .exact h.2
  .cases hp
theorem Ak (A:Nat->Prop)(g:Nat)(kv:Wx)(ks:List (UInt8×Option Wu))(c:UInt8)(w:Wj)
  (c2:w.cell? ⟨g,2,none⟩=some kv) (hk:fR A w kv ks) (hs:ks.Pairwise (fun a b=>a.1<b.1)):
  Calls Yq.prog 111 #[.pointer (some ⟨g,0,none⟩),.int .u8 (c.toNat:Int)] w fun e w'=>∃q,e=.returned (.pointer q)/\((c,q)∈ks\/(q=none/\∀q',(c,q') ∉ ks))/\Below w.heap.size w w':=by
 have hf:=nE A g kv ks c w c2 hk hs;have HS:Hid (ks.Pairwise (fun a b=>a.1<b.1)):=hs;clear hs;go_enter (Yq.nq func111),ntmps111;go_wp2_with fail
 refine hf.mono ?_;rintro e w' ⟨r,h1,rfl,hb⟩;by_cases hat:mK ks c r=true
 .obtain ⟨hr,d⟩:=Place.mem hat;have hne:ks≠[]:=by intro h;subst h;simp at hr
  obtain ⟨gk,cap,rfl,-,-,hc,-⟩:=hk.cells hne;obtain ⟨d0,d1⟩:=hc r hr;have d1':=ai hb d1;have c2':=ai hb c2;have HR:Hid (ks[r].1=c):=d;clear hc d0 d1 c2 d;go_wp2;go_ret;exact ⟨_,rfl,Or.inl (by have:=List.getElem_mem hr;rw [<-HR.out];exact this),hb⟩
 .have f:mK ks c r=false:=by simpa using hat
  clear hat;go_wp2;go_ret;exact ⟨_,rfl,Or.inr ⟨rfl,h1.nomem HS.out f⟩,hb⟩
theorem Al (A:Nat->Prop)(n:Nat)(a:Wu)(f:List UInt8->List Ver)(c:UInt8)(w:Wj)(h:ak A (n+1) w (some a) f):
  Calls Yq.prog 111 #[.pointer (some a),.int .u8 (c.toNat:Int)] w fun e w'=>∃q,e=.returned (.pointer q)/\ak A n w q (fun k=>f (c::k))/\Below w.heap.size w w':=by
 rcases h with h|⟨g,hv,kv,ks,hp,hA,c0,c1,c2,hh,b,hs,hch,hno⟩
 .cases h.1
 .cases hp;refine (Ak A g kv ks c w c2 b hs).mono ?_;rintro e w' ⟨q,he,hq,hb⟩;refine ⟨q,he,?_,hb⟩;rcases hq with hq|⟨rfl,hq⟩
  .exact hch c q hq
  .exact ak.nil (hno.1 c hq)
theorem Am (s:ByteArray)(k:Nat)(h:k<s.size):s.data.toList.take (k+1)=s.data.toList.take k++[s[k]]:=by
 rw [tS (by simpa using h)];rfl
theorem mL (A:Nat->Prop)(w:Wj):bf A w (.slice none 0 0) []:=⟨none,0,rfl,fun _=>rfl,fun h=>absurd rfl h⟩
theorem oG (A:Nat->Prop)(n:Nat)(p:Option Wu)(f:List UInt8->List Ver)(key:ByteArray)(w:Wj)(l:key.size<=maxLen)(h:ak A n w p f):
  Calls Yq.prog 91 #[.pointer p,.string key] w fun e w'=>∃q,e=.returned (.pointer q)/\ak A (n-key.size) w' q (fun x=>f (key.data.toList++x))/\Below w.heap.size w w':=by
 unfold maxLen at l;have H:Hid (ak A n w p f):=h;clear h;go_enter (Yq.nq func91),ntmps91;go_wp2
 go_loopw [0,5] (fun q i wr=>∃ (k:Nat) (c:Option Wu),k<=key.size/\q=.pointer c/\i=.int .i64 k/\ak A (n-k) wr c (fun x=>f (key.data.toList.take k++x))/\Below w.heap.size w wr) (fun _ i _=>key.size-(intOf i).toNat)
 case atStart=>exact ⟨0,p,Nat.zero_le _,rfl,rfl,by simpa using H.out,bR _ _⟩
 case round=>
  obtain ⟨k,c,hk,rfl,rfl,hq,hb⟩:=hrel;cases c with
  |none=>
   have hnil:∀x,f (key.data.toList++x)=[]:=fun x=>by
    have:=hq.of_nil (key.data.toList.drop k++x)
    rwa [<-pA,List.take_append_drop] at this
   have HN:Hid (∀x,f (key.data.toList++x)=[]):=hnil;clear hnil hq;go_wp2;go_ret;exact ⟨none,rfl,ak.nil HN.out,hb⟩
  |some a=>
   by_cases hlt:k<key.size
   .obtain ⟨m,hm⟩:∃m,n-k=m+1:=by
     cases d:n-k with
     |zero=>rw [d] at hq;exact absurd hq.1 (by simp)
     |succ m=>exact ⟨m,rfl⟩
    rw [hm] at hq;have HM:Hid (n-k=m+1):=hm;clear hm;have hch:=Al A m a _ key[k] wr hq;clear hq;go_wp2_with (go_at_call 111;refine hch.mono ?_;rintro e w' ⟨q,rfl,j,b⟩)
    refine ⟨⟨k+1,q,by omega,rfl,by go_num,?_,hb.trans (b.mono hb.size)⟩,by simp [intOf];omega⟩;have e:n-(k+1)=m:=by have:=HM.out;omega
    rw [e,Am key k hlt];simpa using j.on b
   .have hke:key.data.toList.take k=key.data.toList:=by
     rw [tO];have:key.data.toList.length=key.size:=by simp
     omega
    have hkk:k=key.size:=by omega
    rw [hke,hkk] at hq;have HQ:Hid (ak A (n-key.size) wr (some a) (fun x=>f (key.data.toList++x))):=hq;clear hq hke hkk;go_wp2;go_ret;exact ⟨some a,rfl,HQ.out,hb⟩
theorem mM (A:Nat->Prop)(n:Nat)(p:Option Wu)(f:List UInt8->List Ver)(key:ByteArray)(w:Wj)(hn:key.size<n)(d:key.size<=maxLen)(h:ak A n w p f):
  Calls Yq.prog 63 #[.agg #[.pointer p],.string key] w fun e w'=>∃hv,e=.returned (.tuple #[hv,.bool (!(f key.data.toList).isEmpty)])/\bf A w' hv (f key.data.toList)/\Below w.heap.size w w':=by
 have hfo:=fun w' (h':ak A n w' p f)=>oG A n p f key w' d h'
 have H:Hid (ak A n w p f):=h;clear h;go_enter (Yq.nq func63),ntmps63;go_wp2_with fail
 refine (hfo _ (H.out.on ((bR _ _).alloc (lR _) _))).mono ?_;rintro e w1 ⟨q,rfl,hq,b⟩;have hb:Below w.heap.size w w1:=((bR _ w).alloc (lR _) _).trans (b.mono (by simp));cases q with
 |none=>
  have hnil:f key.data.toList=[]:=by
   have:=hq.of_nil [];simpa using this
  have HN:Hid (f key.data.toList=[]/\Below w.heap.size w w1):=⟨hnil,hb⟩;clear hnil hq hb b;go_wp2
  go_ret2
  refine ⟨.slice none 0 0,?_,?_,HN.out.2⟩
  .rw [HN.out.1];rfl
  .rw [HN.out.1];exact mL A _
 |some a=>
  obtain ⟨m,hm⟩:∃m,n-key.size=m+1:=⟨n-key.size-1,by omega⟩;rw [hm] at hq;rcases hq with hq|⟨g,hv,kv,ks,hp,hA,c0,c1,c2,i,c,hs,hch,hno⟩
  .cases hq.1
  .cases hp;simp only [List.append_nil] at c0 i;clear hch hno hs c hm;cases he:(f key.data.toList).isEmpty with
   |true=>
    rw [he] at c0;have HE:Hid ((f key.data.toList).isEmpty=true/\Below w.heap.size w w1):=⟨he,hb⟩;clear he hb b;go_wp2
    go_ret2
    have hnil:=List.isEmpty_iff.1 HE.out.1;refine ⟨.slice none 0 0,?_,?_,HE.out.2⟩
    .rw [HE.out.1];rfl
    .rw [hnil];exact mL A _
   |false=>
    rw [he] at c0;have HE:Hid ((f key.data.toList).isEmpty=false/\Below w.heap.size w w1):=⟨he,hb⟩;clear he hb b;go_wp2
    go_ret2
    refine ⟨hv,?_,i,HE.out.2⟩;rw [HE.out.1];rfl
end
section
open Go.Conc Go.ConcX Go.ConcX.Gen Go.RowKit
theorem An (a:Act)(n:Nat)(h:a.tmps.size=n):a=⟨((List.range n).map fun i=>a.eval (.tmp i)).toArray,a.defers⟩:=by
 obtain ⟨t,d⟩:=a;have:t=((List.range n).map fun i=>Act.eval ⟨t,d⟩ (.tmp i)).toArray:=by
  refine Array.ext (by simpa using h) (fun i h1 h2=>?_);simp [Act.eval,Array.getD_eq_getD_getElem?,h1]
 rw [<-this]
section
variable {A:Nat->Prop} {w0:Wj} {B0 t l:Nat} {O:Wj->Nat->Prop} {total:KVs} {J:KVs->Wj->Prop}
theorem Fe (C:rH A w0 B0 t l O total J):∀ (n:Nat)(p:Option Wu)(f:List UInt8->List Ver)(bs:List UInt8)(done:KVs)(W:Wj)(g cap:Nat),ak A n w0 p f->p≠none->bs.length+n<=1000->done++cI n f bs <+:total->Ag A w0 W->fi O B0 W g cap bs->J done W ->
  Calls Yq.prog 123 #[.pointer p,mn g cap bs,yf l] W fun e W'=>e=.returned (.bool true)/\J (done++cI n f bs) W'/\fi O B0 W' g cap bs/\gw O g t W W':=by
 intro n;induction n with
 |zero=>intro p f bs done W g cap h hp;exact absurd h.1 hp
 |succ n ih=>
  intro p f bs done W g cap h hp hlen u G K M;rcases h with h|⟨gn,hv,kv,ks,rfl,hA,c0,c1,c2,hh,ar,hs,hch,hno,bq⟩
  .exact absurd h.1 hp
  rw [xL n f bs ks hs hno] at u ⊢;have hgt:=(C.tree gn hA);have L:∀X,Ag A w0 X->∀b j,A b->X.cell? ⟨b,j,none⟩=w0.cell? ⟨b,j,none⟩:=fun X hX b j hb=>cB (a:=⟨b,j,none⟩) (hX b hb)
  obtain ⟨v,hown⟩:∃v:KVs,(if (f []).isEmpty then [] else [(bs,f [])])=v:=⟨_,rfl⟩;have b4:Hid ((if (f []).isEmpty then [] else [(bs,f [])])=v):=hown;rw [hown] at u ⊢;go_enter (Yq.nq func123),ntmps123
  go_upto_region 1 with fail
  rename_i K1 hK1 K2 H;refine wpIn_wide.1 (show Code.wpIn (wf none) 0 _ _ _ _ _ from CJ (id:=1) (n:=0) C rfl rfl rfl rfl ((L W G gn 0 hA).trans c0) ((L W G gn 1 hA).trans c1) hgt.2.1 hgt.1 hh (by rw [hown];exact (List.prefix_append _ _).trans (by rw [pA];exact u)) K M (fun a w h1 h2 h3 h4 y hk1=>?_));rw [hown] at y;have h2:a.defers=[]:=h2;have ha:=An a 44 h1;have f0:a.eval (.tmp 0)=.pointer (some ⟨gn,0,none⟩):=h3 0 (by decide);have f1:a.eval (.tmp 1)=mn g cap bs:=h3 1 (by decide);have f2:a.eval (.tmp 2)=yf l:=h3 2 (by decide);have f6:a.eval (.tmp 6)=.bool false:=h3 6 (by decide);refine H _ _ ?_;rw [ha,h2];clear ha h1 h2 h3;generalize a.eval=ρ at f0 f1 f2 f6 h4 ⊢;simp only [List.range,List.range.loop,List.map_cons,List.map_nil,f0,f1,f2,f6,h4];clear f0 f1 f2 f6 h4 H K2;have hks':=ar;obtain ⟨ka,kc,rfl,hk0,bx⟩:=hks';have A1:Ag A w0 w:=G.keepR C M (hk1.row g) K.base;have KR1:fi O B0 w g cap bs:=by
   obtain ⟨x,e,z,ho⟩:=K.obj;exact ⟨K.togK.same ((hk1.2.2.2 g _ ho rfl (by have:=K.base;have:=C.box;omega) K.no).trans ho.symm),vO hk1.2.2.1 ho K.no⟩
  have d2:w.cell? ⟨gn,2,none⟩=some (.slice ka ks.length kc):=(L w A1 gn 2 hA).trans c2;have HX:Hid (J (done++v) w/\fi O B0 w g cap bs/\gw O g t W w/\Ag A w0 w):=⟨y,KR1,hk1.row g,A1⟩;have hkl:ks.length<=256:=kG ks hs;have ad:Hid ((∀c q,(c,q)∈ks->ak A n w0 q fun k=>f (c::k))/\(∀c q,(c,q)∈ks->q≠none)/\fR A w0 (.slice ka ks.length kc) ks):=⟨hch,bq,ar⟩;obtain ⟨d,D⟩:∃d:Nat->KVs,d=fun i=>done++(v++(ks.take i).flatMap fun k=>cI n (fun x=>f (k.1::x)) (bs++[k.1])):=⟨_,rfl⟩
  have HL:Hid (d=fun i=>done++(v++(ks.take i).flatMap fun k=>cI n (fun x=>f (k.1::x)) (bs++[k.1]))):=D;have b2:Hid (done++(v++ks.flatMap fun k=>cI n (fun x=>f (k.1::x)) (bs++[k.1])) <+:total):=u;have HIH:=show Hid _ from ih;have s:Hid (rH A w0 B0 t l O total J):=C;have S:Hid (B0<=g/\t<B0):=⟨K.base,C.box⟩;clear y KR1 A1 hk1 hch bq bx u K M G hh hno hk0 hs ar ih C D L hgt;go_wp2_with fail
  go_loopw [8,29] (fun _ s29 wr=>∃i:Nat,i<=ks.length/\s29=.int .i64 i/\J (d i) wr/\fi O B0 wr g cap bs/\gw O g t W wr/\Ag A w0 wr) (fun _ s29 _=>ks.length-(intOf s29).toNat)
  case atStart=>exact ⟨0,Nat.zero_le _,rfl,by rw [HL.out];simpa using HX.out.1,HX.out.2.1,HX.out.2.2.1,HX.out.2.2.2⟩
  case round=>
   obtain ⟨i,hi,rfl,M,hK,hR,I⟩:=hrel;have HR:Hid (J (d i) wr/\fi O B0 wr g cap bs/\gw O g t W wr/\Ag A w0 wr):=⟨M,hK,hR,I⟩;by_cases hlt:i<ks.length
   .have hne:ks≠[]:=by intro e;rw [e] at hlt;simp at hlt
    obtain ⟨P,capk,he,hAk,hgl,ab,-⟩:=ad.out.2.2.cells hne;cases he;have c0:wr.cell? ⟨P,i * 2,none⟩=some (.int .u8 (ks[i].1.toNat:Int)):=(cB (a:=⟨P,i * 2,none⟩) (I P hAk)).trans (ab i hlt).1;have c1:wr.cell? ⟨P,i * 2+1,none⟩=some (.pointer ks[i].2):=(cB (a:=⟨P,i * 2+1,none⟩) (I P hAk)).trans (ab i hlt).2;have a0:Hid ((ks[i].1,ks[i].2)∈ks):=List.getElem_mem hlt;have bl:d (i+1)=d i++cI n (fun x=>f (ks[i].1::x)) (bs++[ks[i].1]):=by
     rw [HL.out];simp only;rw [tS hlt,List.flatMap_append,List.flatMap_singleton];simp only [pA]
    have R:Hid (d (i+1)=d i++cI n (fun x=>f (ks[i].1::x)) (bs++[ks[i].1])):=bl;clear bl;have b3:Hid (d (i+1) <+:total):=by
     rw [HL.out];simp only;refine List.IsPrefix.trans ?_ b2.out
     conv=>rhs;rw [<-List.take_append_drop (i+1) ks,List.flatMap_append]
     refine ⟨(ks.drop (i+1)).flatMap fun k=>cI n (fun x=>f (k.1::x)) (bs++[k.1]),?_⟩;simp
    generalize ks[i]=b0 at *;obtain ⟨r,kq⟩:=b0;simp only at c0 c1 a0 R;clear M hK hR I ab
    go_upto_region 6 with fail
    rename_i K1 hK1 K2 H;obtain ⟨B,F,bp,a8⟩:=HR.out;have m:∀b,b<wr.heap.size->(wr.alloc (.cells #[.int .u8 (r.toNat:Int),.pointer kq] 190)).heap[b]?=wr.heap[b]?:=fun b hb=>bA _ _ _ hb
    have hBr:B0<=wr.heap.size:=s.out.size _ _ B;have hown:∀b,O (wr.alloc (.cells #[.int .u8 (r.toNat:Int),.pointer kq] 190)) b->O wr b:=fun b=>s.out.own _ _ b (m t (by have:=S.out;omega))
    refine wpIn_wide.1 (show Code.wpIn (wf none) 0 _ _ _ _ _ from CK (id:=6) (n:=0) (kb:=wr.heap.size) (c:=r) (q:=kq) (pre:=d i) (sub:=cI n (fun x=>f (r::x)) (bs++[r])) s.out rfl rfl rfl rfl
     (by rw [cA (w:=wr) _ _ wr.heap.size 0 rfl];rfl) (by rw [cA (w:=wr) _ _ wr.heap.size 1 rfl];rfl) (by have:=S.out;omega) (fun hO=>by have:=(s.out.ownB _ _ _ B (hown _ hO)).2;omega) (by have:=F.lt;omega) (by omega)
     (fun b hb=>(m b (by have:=s.out.tree b hb;omega)).trans (a8 b hb)) (F.same (m g F.lt) (hown g)) (s.out.stable _ _ _ B (fun b hb=>m b (by omega)) (fun b hb=>m b (s.out.ownB _ _ _ B hb).2) (by simp) rfl)
     (fun X g' bk hX bw bv=>HIH.out kq (fun x=>f (r::x)) (bs++[r]) (d i) X g' bk (ad.out.1 r kq a0.out) (ad.out.2.1 r kq a0.out) (by simp;omega) (by rw [<-R.out];exact b3.out) hX bw bv)
     (fun a w h1 h2 h3 h4 y N hk1=>?_))
    rw [<-R.out] at y;have bn:gw O g t wr (wr.alloc (.cells #[.int .u8 (r.toNat:Int),.pointer kq] 190)):=⟨by simp,rfl,fun b h=>.inl (hown b h),fun b o hb _ _ _ _=>(m b (eS hb).1).trans hb⟩;have bo:gw O g t W w:=bp.trans (bn.trans hk1);clear bn;have E:Hid (J (d (i+1)) w/\fi O B0 w g cap bs/\gw O g t W w/\Ag A w0 w):=⟨y,N,bo,fun b hb=>by
     obtain ⟨h5,h6,o,h7,h8⟩:=s.out.tree b hb;rw [h7];exact hk1.2.2.2 b o ((m b (by omega)).trans ((a8 b hb).trans h7)) h8 h6 (by have:=S.out;omega) (fun hO=>by have:=(s.out.ownB _ _ _ B (hown b hO)).1;omega)⟩
    have h2:a.defers=[]:=h2;have ha:=An a 44 h1;have f0:a.eval (.tmp 0)=.pointer (some ⟨gn,0,none⟩):=h3 0 (by decide);have f1:a.eval (.tmp 1)=mn g cap bs:=h3 1 (by decide);have f2:a.eval (.tmp 2)=yf l:=h3 2 (by decide);have f3:a.eval (.tmp 3)=ρ (.tmp 3):=h3 3 (by decide);have f4:a.eval (.tmp 4)=ρ (.tmp 4):=h3 4 (by decide);have f5:a.eval (.tmp 5)=ρ (.tmp 5):=h3 5 (by decide);have f6:a.eval (.tmp 6)=u6:=h3 6 (by decide);have f7:a.eval (.tmp 7)=ρ (.tmp 7):=h3 7 (by decide);have f8:a.eval (.tmp 8)=.pointer (some ⟨wr.heap.size,0,none⟩):=h3 8 (by decide);have f9:a.eval (.tmp 9)=ρ (.tmp 9):=h3 9 (by decide);have Q:a.eval (.tmp 10)=ρ (.tmp 10):=h3 10 (by decide);have a7:a.eval (.tmp 11)=ρ (.tmp 11):=h3 11 (by decide);have a6:a.eval (.tmp 12)=ρ (.tmp 12):=h3 12 (by decide);have av:a.eval (.tmp 13)=ρ (.tmp 13):=h3 13 (by decide);have a9:a.eval (.tmp 14)=ρ (.tmp 14):=h3 14 (by decide);have a1:a.eval (.tmp 15)=ρ (.tmp 15):=h3 15 (by decide);have bi:a.eval (.tmp 16)=ρ (.tmp 16):=h3 16 (by decide);have a4:a.eval (.tmp 17)=ρ (.tmp 17):=h3 17 (by decide);have a2:a.eval (.tmp 18)=ρ (.tmp 18):=h3 18 (by decide);have U:a.eval (.tmp 19)=ρ (.tmp 19):=h3 19 (by decide);have be:a.eval (.tmp 20)=ρ (.tmp 20):=h3 20 (by decide);have Y:a.eval (.tmp 21)=ρ (.tmp 21):=h3 21 (by decide);have V:a.eval (.tmp 22)=ρ (.tmp 22):=h3 22 (by decide);have a3:a.eval (.tmp 23)=.bool false:=h3 23 (by decide);have ac:a.eval (.tmp 24)=.pointer (some ⟨gn,0,none⟩):=h3 24 (by decide);have al:a.eval (.tmp 25)=.pointer (some ⟨gn,0,none⟩):=h3 25 (by decide);have a5:a.eval (.tmp 26)=.pointer (some ⟨gn,2,none⟩):=h3 26 (by decide);have bb:a.eval (.tmp 27)=.slice (some ⟨P,0,none⟩) ks.length kc:=h3 27 (by decide);have Z:a.eval (.tmp 28)=.int .i64 (ks.length:Int):=h3 28 (by decide);have ap:a.eval (.tmp 29)=.int .i64 (i:Int):=h3 29 (by decide);have bd:a.eval (.tmp 30)=.bool true:=h3 30 (by decide);have af:a.eval (.tmp 31)=.pointer (some ⟨P,i * 2,none⟩):=h3 31 (by decide);have T:a.eval (.tmp 32)=.agg #[.int .u8 (r.toNat:Int),.pointer kq]:=h3 32 (by decide);refine H _ _ ?_;rw [ha,h2];clear ha h1 h2 h3 B F bp a8 y N hk1 bo m;generalize a.eval=σ at f0 f1 f2 f3 f4 f5 f6 f7 f8 f9 Q a7 a6 av a9 a1 bi a4 a2 U be Y V a3 ac al a5 bb Z ap bd af T h4 ⊢;simp only [List.range,List.range.loop,List.map_cons,List.map_nil,f0,f1,f2,f3,f4,f5,f6,f7,f8,f9,Q,a7,a6,av,a9,a1,bi,a4,a2,U,be,Y,V,a3,ac,al,a5,bb,Z,ap,bd,af,T,h4];clear f0 f1 f2 f3 f4 f5 f6 f7 f8 f9 Q a7 a6 av a9 a1 bi a4 a2 U be Y V a3 ac al a5 bb Z ap bd af T h4;go_wp2_with fail
    exact ⟨⟨_,_,_,⟨i+1,by omega,by simp,E.out.1,E.out.2.1,E.out.2.2.1,E.out.2.2.2⟩,rfl,rfl,rfl⟩,by simp [intOf];omega⟩
   .go_wp2_with fail
    have b1:i=ks.length:=by omega
    subst b1;have e1:d ks.length=done++(v++ks.flatMap fun k=>cI n (fun x=>f (k.1::x)) (bs++[k.1])):=by rw [HL.out];simp
    rw [e1] at M;go_ret;exact ⟨rfl,M,hK,hR⟩
end
def cD (f:List UInt8->List Ver)(p:List UInt8):KVs:=cI (41-p.length) (fun k=>f (p++k)) p
theorem xM {B:Nat}(w:Wj)(s:ByteArray)(cap:Nat)(c:B<=w.heap.size)(hc:s.size<=cap):
  gK B (w.drew.alloc (.cells (bytesRow s cap) 5 ((bytesRow s cap).size,(bytesRow s cap).size+1))) w.heap.size cap s.data.toList:=by
 have hrow:(w.drew.alloc (.cells (bytesRow s cap) 5 ((bytesRow s cap).size,(bytesRow s cap).size+1))).heap[w.heap.size]?=some (.cells (bytesRow s cap) 5 ((bytesRow s cap).size,(bytesRow s cap).size+1)):=by
  have:=aN w.drew (.cells (bytesRow s cap) 5 ((bytesRow s cap).size,(bytesRow s cap).size+1));exact this
 have hss:s.data.size=s.size:=rfl;have hsz:(bytesRow s cap).size=cap:=by simp [bytesRow];omega
 have hlen:s.data.toList.length=s.size:=by simp
 have a:∀j,(w.drew.alloc (.cells (bytesRow s cap) 5 ((bytesRow s cap).size,(bytesRow s cap).size+1))).cell? ⟨w.heap.size,j,none⟩=(bytesRow s cap)[j]?:=fun j=>cell_of_row _ w.heap.size j _ 5 _ hrow
 refine ⟨c,⟨_,_,_,hrow⟩,by rw [hlen];exact hc,fun j b=>?_,fun j b=>?_⟩
 .rw [a,bytesRow,Array.getElem?_append_left (by simpa using b)];simp at b;simp [b]
 .rw [a,World.frozen?,hrow];refine ⟨by simp [hsz,b],?_⟩;simp [hsz];omega
section
variable {A:Nat->Prop} {w0:Wj} {B0 t l:Nat} {O:Wj->Nat->Prop} {total:KVs} {J:KVs->Wj->Prop}
theorem CL (C:rH A w0 B0 t l O total J)(root:Option Wu)(f:List UInt8->List Ver)(p:ByteArray)(W:Wj)(m s:Nat)(y:ak A 41 w0 root f)(i:total=cD f p.data.toList)(c:Ag A w0 W)(c1:W.cell? ⟨m,0,none⟩=some (.pointer root))(c2:W.cell? ⟨s,0,none⟩=some (.string p))(hp:p.size<=maxLen)(d:J [] W):
  Calls Yq.prog 122 #[yf l,.pointer (some ⟨m,0,none⟩),.pointer (some ⟨s,0,none⟩)] W fun e W'=>(∃v,e=.returned v)/\J total W':=by
 have hB:B0<=W.heap.size:=C.size _ _ d;have n:ak A 41 W root f:=ak.keep (fun b hb _=>⟨hb,c b hb⟩) 41 root f y;have HF:=oG A 41 root f p W hp n;have HC:Hid (rH A w0 B0 t l O total J/\J [] W/\Ag A w0 W):=⟨C,d,c⟩;have HT:Hid (total=cD f p.data.toList):=i;clear C d c i y n;go_enter (Yq.nq func122),ntmps122;have HW:Hid (∀ (w1:Wj) (q:Option Wu),q.isSome=true->ak A (41-p.size) w1 q (fun x=>f (p.data.toList++x))->Below W.heap.size W w1 ->
   Calls Yq.prog 123 #[.pointer q,.slice (some ⟨w1.heap.size,0,none⟩) p.size (grownCap w1 p.size 0 5),yf l] (w1.drew.alloc (.cells (bytesRow p (grownCap w1 p.size 0 5)) 5 ((bytesRow p (grownCap w1 p.size 0 5)).size,(bytesRow p (grownCap w1 p.size 0 5)).size+1))) fun e W'=>e=.returned (.bool true)/\J total W'):=fun w1 q a hq hb=>by
  obtain ⟨C,d,c⟩:=HC.out;have hbl:∀b,b<W.heap.size->(w1.drew.alloc (.cells (bytesRow p (grownCap w1 p.size 0 5)) 5 ((bytesRow p (grownCap w1 p.size 0 5)).size,(bytesRow p (grownCap w1 p.size 0 5)).size+1))).heap[b]?=W.heap[b]?:=fun b h=>by
   rw [bA _ _ _ (by show b<w1.heap.size;have:=hb.size;omega)];exact hb.block b h
  have j:∀b,A b->b<W.heap.size:=fun b h=>by have:=(C.tree b h).1;omega
  have hlen:p.data.toList.length=p.size:=by simp
  have hn:p.size<=40:=by
   rcases Nat.lt_or_ge 40 p.size with h|h
   .have e:41-p.size=0:=by omega
    rw [e] at hq;rw [hq.1] at a;cases a
   .exact h
  have o:ak A (41-p.size) w0 q (fun x=>f (p.data.toList++x)):=ak.keep (fun b hA _=>⟨hA,((hb.block b (j b hA)).trans (c b hA)).symm⟩) _ q _ hq;have:=Fe C (41-p.size) q (fun x=>f (p.data.toList++x)) p.data.toList [] _ w1.heap.size (grownCap w1 p.size 0 5) o (by intro e;rw [e] at a;cases a) (by omega) (by rw [HT.out,cD,hlen];exact List.prefix_refl _)
   (fun b hA=>(hbl b (j b hA)).trans (c b hA)) ⟨xM w1 p _ (by have:=hb.size;omega) (grownCap_ge _ _ _ _),fun h=>by
    have h1:=(C.ownB _ _ _ d (C.own _ _ _ (hbl t (by have:=C.box;omega)) h)).2;have:=hb.size;omega⟩ (C.stable _ _ _ d (fun b h=>hbl b (by omega)) (fun b h=>hbl b (C.ownB _ _ _ d h).2) (by have:=hb.size;rw [World.size_alloc];show W.heap.size<=w1.heap.size+1;omega) hb.os)
  rw [mn,hlen] at this;refine this.mono ?_;rintro e W' ⟨rfl,h1,-⟩;refine ⟨rfl,?_⟩;rw [HT.out,cD,hlen];exact h1
 go_wp2_with (first|(go_at_call 91;refine HF.mono ?_;clear HF;rintro e w1 ⟨q,rfl,hq,hb⟩;have c2':=ai hb c2;have hcv:=run_bytes_of_string (P:=Yq.prog) w1 9 48 5 p (Yq.u underlying9) (Yq.u underlying48) (Yq.u underlying5))|(go_at_call 123;refine (HW.out w1 q (by assumption) hq hb).mono ?_;rintro e w2 ⟨rfl,r⟩))
 .go_end0;exact ⟨⟨_,rfl⟩,r⟩
 .have a:q=none:=by
   cases q with
   |none=>rfl
   |some _=>simp at *
  subst a;go_end0;refine ⟨⟨_,rfl⟩,?_⟩;obtain ⟨C,d,-⟩:=HC.out;rw [HT.out,cD,nD _ _ _ (fun k=>hq.of_nil k)];exact C.stable _ _ _ d (fun b h=>hb.block b (by omega)) (fun b h=>hb.block b (C.ownB _ _ _ d h).2) hb.size hb.os
end
def kJ (c t:Nat)(W W':Wj):Prop:=W.heap.size<=W'.heap.size/\W'.os=W.os/\∀b,b<W.heap.size->b≠c->b≠t->W'.heap[b]?=W.heap[b]?
theorem kJ.below {c t:Nat}{W W':Wj}(h:Below W.heap.size W W'):kJ c t W W':=⟨h.size,h.os,fun b hb _ _=>h.block b hb⟩
theorem kJ.cells {c t:Nat}{W W':Wj}(h:kJ c t W W')(hc:∃o:Obj,W.heap[c]?=some o/\o.isCells=false):dR t W W':=⟨h.1,h.2.1,fun b o hb ho ht=>by
 refine (h.2.2 b (eS hb).1 (fun e=>?_) ht).trans hb;subst e;obtain ⟨o',h1,h2⟩:=hc;rw [hb] at h1;cases h1;rw [ho] at h2;cases h2⟩
theorem fv {t l:Nat}{W:Wj}{o:Obj}(h:W.heap[l]?=some o)(ho:o.isCells=false)(o':Obj):dR t W (W.putObj l o'):=⟨by simp,rfl,fun b x hb hx _=>by
 by_cases e:b=l
 .subst e;rw [h] at hb;cases hb;rw [ho] at hx;cases hx
 .exact (pO e).trans hb⟩
def vP (O:Wj->Nat->Prop)(c t:Nat)(W W':Wj):Prop:=W.heap.size<=W'.heap.size/\W'.os=W.os/\(∀b,O W' b->O W b\/W.heap.size<=b)/\∀b,b<W.heap.size->b≠c->b≠t->¬O W b->W'.heap[b]?=W.heap[b]?
def noO (_:Wj)(_:Nat):Prop:=False
theorem kJ.own {c t:Nat}{W W':Wj}(h:kJ c t W W'):vP noO c t W W':=⟨h.1,h.2.1,fun _ h=>h.elim,fun b h1 h2 h3 _=>h.2.2 b h1 h2 h3⟩
theorem vP.cells {O:Wj->Nat->Prop}{c t:Nat}{W W':Wj}(h:vP O c t W W')(hc:c=t\/∃o:Obj,W.heap[c]?=some o/\o.isCells=false):fe O t W W':=⟨h.1,h.2.1,h.2.2.1,fun b o hb ho ht hn=>by
 refine (h.2.2.2 b (eS hb).1 (fun e=>?_) ht hn).trans hb;subst e;rcases hc with h0|⟨o',h1,h2⟩
 .exact ht h0
 rw [hb] at h1;cases h1;rw [ho] at h2;cases h2⟩
theorem lF {O:Wj->Nat->Prop}{t l:Nat}{W:Wj}{o:Obj}(hO:∀X Y b,Y.heap[t]?=X.heap[t]?->O Y b->O X b)(a:t≠l)(h:W.heap[l]?=some o)(ho:o.isCells=false)(o':Obj):fe O t W (W.putObj l o'):=⟨by simp,rfl,fun b hb=>.inl (hO _ _ b (pO a) hb),fun b x hb hx _ _=>by
 by_cases e:b=l
 .subst e;rw [h] at hb;cases hb;rw [ho] at hx;cases hx
 .exact (pO e).trans hb⟩
section
variable {P:Program} {α β:Type}
theorem Ao {g:Operand}{ps:Array Tmp}{assign body:Code}{Q:Exit->Act->Wj->Prop}{a:Act}{w:Wj}{n gf:Nat}{lb:Array Wx}{encs:β->Array Wx}(π:β->α)(hg:a.eval g=.func (.func gf) #[] lb)(eg:∀args w,(callFunc gf args).run P w=.ok (.enter gf args) w)(Z:∀x,(encs x).size=ps.size)
  (c t:Nat) (ht:t<w.heap.size) (O:Wj->Nat->Prop) (hO:∀X Y b,Y.heap[t]?=X.heap[t]?->O Y b->O X b) (I:List α->Wj->Prop) (z:List α->β->Prop) (total:List α)
  (y:∀pre X b,I pre X->O X b->w.heap.size<=b/\∃o:Obj,X.heap[b]?=some o/\o.isCells=true)
  (R:∀pre X Y,I pre X->(∀b,b<w.heap.size->Y.heap[b]?=X.heap[b]?)->(∀b,O X b->Y.heap[b]?=X.heap[b]?)->X.heap.size<=Y.heap.size->Y.os=X.os->I pre Y) (M:∀pre X,I pre X->(c=t\/c<w.heap.size)/\(c=t\/∃o:Obj,X.heap[c]?=some o/\o.isCells=false)) (h0:I [] w) (a₁:β->Act)
  (G:∀ (l:Nat) (J:List α->Wj->Prop) (W:Wj),W.heap.size=w.heap.size+2->(∀b,b<w.heap.size->W.heap[b]?=w.heap[b]?) ->
   (∀pre X b,J pre X->O X b->w.heap.size+2<=b/\b<X.heap.size)->(∀pre X Y,J pre X->(∀b,b<w.heap.size+2->Y.heap[b]?=X.heap[b]?)->(∀b,O X b->Y.heap[b]?=X.heap[b]?)->X.heap.size<=Y.heap.size->Y.os=X.os->J pre Y)->(∀pre X,J pre X->w.heap.size+2<=X.heap.size) ->
   (∀pre x X,z pre x->J pre X->YieldAt (wf none) 0 P l (encs x) X fun e X'=>e=.returned (.bool true)/\J (pre++[π x]) X'/\fe O t X X')->J [] W ->
   Calls P gf (#[.func (.yield l) #[] #[]]++lb) W fun e W'=>(∃v,e=.returned v)/\J total W')
  (q:∀ (l:Nat) (x:β) (W:Wj) (K:Act->Wj->Prop),K (a₁ x) W->assign.wpIn (wf (some l)) 0 P (Exit.then K (fun _ _ _=>False)) {tmps:=(ps.zip (encs x)).foldl (fun t (p,v)=>t.setIfInBounds p v) a.tmps,defers:=[]} W)
  (C:∀ (l:Nat) (pre:List α) (x:β) (W:Wj),z pre x->I pre W->body.wpIn (wf (some l)) 0 P (fun e _ W'=>e=.normal/\vP O c t W W'/\I (pre++[π x]) W') (a₁ x) W)
  (E:∀ (D:Nat) (W:Wj),w.heap.size<=D->I total W->W.heap[D]?=some (.deferred (some []))->Q .normal {a with defers:={target:=.collected D,args:=#[]} :: a.defers} W):
  (Code.rangeFunc g ps assign body).wpIn (wf none) n P Q a w:=by
 refine wpIn_rangeFunc ?_;intro fn hfn;obtain ⟨d,f⟩:∃d:LoopState->Loop,d=fun st=>{state:=st,pending:=none,fn,tmps:=a.tmps,params:=ps,assign,body,defers:=w.heap.size}:=⟨_,rfl⟩
 obtain ⟨W1,m⟩:∃W1,(w.alloc (.deferred (some []))).alloc (.loop (d .ready))=W1:=⟨_,rfl⟩;have ab:W1.heap[w.heap.size+1]?=some (.loop (d .ready)):=by
  rw [<-m];have:=aN (w.alloc (.deferred (some []))) (.loop (d .ready));rwa [World.size_alloc] at this
 have hK1:W1.heap[w.heap.size]?=some (.deferred (some [])):=by
  rw [<-m];exact (bA _ _ _ (by simp)).trans (aN w _)
 have r:∀b,b<w.heap.size->W1.heap[b]?=w.heap[b]?:=fun b hb=>by
  rw [<-m,bA _ _ _ (by simp;omega),bA _ _ _ hb]
 have L:W1.heap.size=w.heap.size+2:=by rw [<-m];simp
 have hcl:c<w.heap.size:=by
  rcases (M _ _ h0).1 with h|h
  .omega
  .exact h
 have i:∀pre X b,I pre X->O X b->∀ {j:Nat} {o:Obj},X.heap[j]?=some o->o.isCells=false->b≠j:=fun pre X b A hb j o hj hc e=>by
  obtain ⟨-,o',h1,h2⟩:=y _ _ _ A hb;subst e;rw [hj] at h1;cases h1;rw [hc] at h2;cases h2
 have hI1:I [] W1:=R _ _ _ h0 r (fun b hb=>r b (eS (y _ _ _ h0 hb).2.choose_spec.1).1) (by omega) (by rw [<-m];rfl);refine ⟨w.heap.size+1,[{target:=.collected w.heap.size,args:=#[]}],W1,{target:=.fn (.func gf) lb,args:=#[.func (.yield (w.heap.size+1)) #[] #[]]},W1,gf,
  #[.func (.yield (w.heap.size+1)) #[] #[]]++lb,W1,?_,?_,fun _ _=>trivial,?_,(fun h=>by cases h),?_⟩
 .rw [<-m,f];exact run_enterLoop_outer _ _ _ _ _
 .simp only [resolve,hg];simp [go_sem]
 .simp [invoke,go_sem,eg]
 .refine callsIn_wide.2 ((G (w.heap.size+1) (fun pre W=>I pre W/\W.heap[w.heap.size+1]?=some (.loop (d .ready))/\W.heap[w.heap.size]?=some (.deferred (some []))) W1 L r (fun pre X b h hb=>by
   have h1:=(y _ _ _ h.1 hb).1;have h2:=i _ _ _ h.1 hb h.2.1 rfl;have h3:=i _ _ _ h.1 hb h.2.2 rfl;exact ⟨by omega,(eS (y _ _ _ h.1 hb).2.choose_spec.1).1⟩) (fun pre X Y h h1 ac h2 h3=>⟨R pre X Y h.1 (fun b hb=>h1 b (by omega)) ac h2 h3,(h1 _ (by omega)).trans h.2.1,(h1 _ (by omega)).trans h.2.2⟩) (fun pre X h=>(eS h.2.1).1) ?_ ⟨hI1,ab,hK1⟩).mono ?_)
  .rintro pre x X B ⟨A,hl,hk⟩;have hlt:w.heap.size+1<X.heap.size:=(eS hl).1;have hy:=run_yield (P:=P) (args:=encs x) hl (by rw [f];exact Z x);rw [f] at hy;refine ⟨fn,_,assign,body,hy,roundIn_of_wpIn (F:=wf none) trivial (q _ x X _ ?_)⟩;refine ⟨_,run_beginRound hl (by rw [f]),?_⟩;obtain ⟨X2,k⟩:∃X2,X.putObj (w.heap.size+1) (.loop {d .ready with state:=.busy})=X2:=⟨_,rfl⟩;have U:X2.heap[w.heap.size+1]?=some (.loop {d .ready with state:=.busy}):=by rw [<-k];exact World.putObj_heap_same hlt
   have s:∀b,b≠w.heap.size+1->X2.heap[b]?=X.heap[b]?:=fun b hb=>by rw [<-k];exact pO hb
   have hsz2:X2.heap.size=X.heap.size:=by rw [<-k];simp
   have S:X2.os=X.os:=by rw [<-k];rfl
   have hi2:I pre X2:=R _ _ _ A (fun b hb=>s b (by omega)) (fun b hb=>s b (i _ _ _ A hb hl rfl)) (by omega) S;have T:fe O t X X2:=by rw [<-k];exact lF hO (by omega) hl rfl _
   rw [k];refine wpIn_mono (C _ pre x _ B hi2) ?_;rintro e a3 X3 ⟨rfl,hkb,N⟩;have u:X3.heap[w.heap.size+1]?=some (.loop {d .ready with state:=.busy}):=(hkb.2.2.2 _ (by omega) (by omega) (by omega) (fun h=>i _ _ _ hi2 h U rfl rfl)).trans U;have hk3:X3.heap[w.heap.size]?=some (.deferred (some [])):=(hkb.2.2.2 _ (by omega) (by omega) (by omega) (fun h=>i _ _ _ hi2 h ((s _ (by omega)).trans hk) rfl rfl)).trans ((s _ (by omega)).trans hk);have her:=run_endRound (P:=P) none u;have hfin:({d .ready with state:=.busy}:Loop)={d .ready with state:=.busy}:=rfl;have e4:({({d .ready with state:=.busy}:Loop) with state:=if (none:Option Code).isNone then .ready else .done,pending:=none}:Loop)=d .ready:=by rw [f];rfl
   rw [e4] at her;have H:w.heap.size+1<X3.heap.size:=(eS u).1;refine ⟨_,_,her,rfl,⟨R _ _ _ N (fun b hb=>pO (by omega)) (fun b hb=>pO (i _ _ _ N hb u rfl)) (by simp) rfl,World.putObj_heap_same H,(pO (by omega)).trans hk3⟩,T.trans ((hkb.cells (M _ _ hi2).2).trans (lF hO (by omega) u rfl _))⟩
  .rintro e W2 ⟨⟨v,rfl⟩,A,hl,hk⟩;have hel:=run_endLoop (P:=P) hl (by rw [f];simp);have V:(d .ready).pending=none:=by rw [f]
   rw [V] at hel;exact ⟨none,_,hel,E w.heap.size _ (lR _) (R _ _ _ A (fun b hb=>pO (by omega)) (fun b hb=>pO (i _ _ _ A hb hl rfl)) (by simp) rfl) ((pO (by omega)).trans hk)⟩
end
end
