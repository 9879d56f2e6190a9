/- Part of a proof. -/
import Derived.Test.YtnapepbdohidgaaGreatDoorQM15
set_option maxHeartbeats 4000000
set_option maxRecDepth 100000
namespace Go.Proofs.YtnapepbdohidgaaGreatDoorQ
section
open Go
open Go.Conc Go.ConcX Go.ConcX.Gen Go.RowKit
def oN (P:Program)(D0:Nat->Prop)(F:FuncId->Bool)(pin:Nat->Option (Array Value))(hb:NoM P 3):Ren where
 rel:=fun a b=>a=b/\D0 a
 fn:=fun _a _b _b' h1 h2=>h1.1.symm.trans h2.1
 inj:=fun _a _a' _b h1 h2=>h1.1.trans h2.1.symm
 prog:=P
 F:=F
 old:=fun _=>False
 ch:=fun _=>False
 loose:=false
 wide:=false
 tight:=fun _=>rfl
 pin:=pin
 bad:=3
 noM:=hb
structure Start (W:World)(D0:Nat->Prop):Prop where
 rows:∀b,D0 b->∃c e z,W.heap[b]?=some (.cells c e z)
 glob:∀g,g<Tryz.prog.globals.size->D0 g
theorem At {ρ:Ren}{v:Value}(h:kL v=true):RV ρ v v:=by
 cases v with
 |bool b=>exact .bool b
 |int k n=>exact .int k n
 |string s=>exact .string s
 |pointer a=>cases a with
  |none=>exact .pointer .none
  |some a=>cases h
 |slice a n c=>cases a with
  |none=>exact .slice n c .none
  |some a=>cases h
 |map r=>cases r with
  |none=>exact .map .none
  |some r=>cases h
 |chan r=>cases r with
  |none=>exact .chan .none
  |some r=>cases h
 |nilFunc=>exact .nilFunc
 |nilIface=>exact .nilIface
 |_=>cases h
theorem Au {ρ:Ren}{v v':Value}(h:kL v=true)(k:RV ρ v v'):v'=v:=by
 cases k with
 |bool|int|string|nilFunc|nilIface=>rfl
 |pointer k=>cases k with
  |none=>rfl
  |some _=>cases h
 |slice n c k=>cases k with
  |none=>rfl
  |some _=>cases h
 |map k=>cases k with
  |none=>rfl
  |some _=>cases h
 |chan k=>cases k with
  |none=>rfl
  |some _=>cases h
 |_=>cases h
structure ko (u v:Value):Prop where
 rel:∀ρ:Ren,ρ.bad=3->RV ρ u v
 one:kL v=true->u=v
 no:kL v=false->gz u=false\/∀ (ρ:Ren) v',RV ρ u v'->v'=v
theorem xT:∀ (n:Nat)(v:Value),SizeOf.sizeOf v<n->∃u,ko u v:=by
 intro n;induction n with
 |zero=>intro v h;omega
 |succ n ih=>
  intro v hn;have dead:gv v=true->kL v=false->∃u,ko u v:=fun h1 h2=>⟨.tuple #[],fun _ _=>.dead v h1,(fun h=>by rw [h2] at h;cases h),fun _=>.inl rfl⟩
  have self:kL v=true->∃u,ko u v:=fun h=>⟨v,fun _ _=>At h,fun _=>rfl,fun h2=>by rw [h] at h2;cases h2⟩
  cases v with
  |agg c=>
   obtain ⟨c0,h0,h1⟩:=mr (c:=c) (c':=c) (Q:=fun v _ u=>ko u v) rfl (fun i v v' hv _=>ih v (by
    have:=Array.sizeOf_lt_of_mem (Array.mem_of_getElem? hv);simp only [Value.agg.sizeOf_spec] at hn;omega))
   refine ⟨.agg c0,fun ρ hb=>.agg h0 (fun i u v k1 k2=>?_),fun h=>(by cases h),fun _=>.inl rfl⟩;obtain ⟨u2,e,k⟩:=h1 i v v k2 k2;rw [k1] at e;cases e;exact k.rel ρ hb
  |pointer a=>cases a with
   |none=>exact self rfl
   |some a=>exact dead rfl rfl
  |slice a n c=>cases a with
   |none=>exact self rfl
   |some a=>exact dead rfl rfl
  |map a=>cases a with
   |none=>exact self rfl
   |some a=>exact dead rfl rfl
  |chan a=>cases a with
   |none=>exact self rfl
   |some a=>exact dead rfl rfl
  |func f a c=>cases f with
   |method s=>
    refine ⟨.func (.method "") #[.iface 3 (.func (.method s) a c)] #[], fun ρ hb => .odd 3 s a c hb.symm, fun h => (by cases h), fun _ => .inr (fun ρ v' h => ?_)⟩
    cases h with
    |func hf=>cases hf
    |odd=>rfl
   |_=>exact dead rfl rfl
  |bool|int|string|nilFunc|nilIface=>exact self rfl
  |_=>exact dead rfl rfl
theorem vC (c:Array Value):∃c0:Array Value,c0.size=c.size/\∀ (i:Nat) v,c[i]?=some v->∃u,c0[i]?=some u/\ko u v:=by
 obtain ⟨c0,h0,h1⟩:=mr (c:=c) (c':=c) (Q:=fun v _ u=>ko u v) rfl (fun i v v' _ _=>xT _ v (Nat.lt_succ_self _));exact ⟨c0,h0,fun i v hv=>h1 i v v hv hv⟩
structure Clean (D0:Nat->Prop)(W V:World):Prop where
 os:V.os=W.os
 size:V.heap.size=W.heap.size
 rest:∀b,¬D0 b->V.heap[b]?=W.heap[b]?
 row:∀b,D0 b->∃c c0 e z,W.heap[b]?=some (.cells c e z)/\V.heap[b]?=some (.cells c0 e z)/\c0.size=c.size/\∀ (i:Nat) v,c[i]?=some v->∃u,c0[i]?=some u/\ko u v
theorem Av {W:World}{D0:Nat->Prop}(h:Start W D0):∃V,Clean D0 W V:=by
 classical
 have key:∀b:Nat,∃o:Obj,(D0 b->∃c c0 e z,W.heap[b]?=some (.cells c e z)/\o=.cells c0 e z/\c0.size=c.size/\∀ (i:Nat) v,c[i]?=some v->∃u,c0[i]?=some u/\ko u v)/\(¬D0 b->b<W.heap.size->W.heap[b]?=some o):=fun b=>by
  by_cases hd:D0 b
  ·obtain ⟨c,e,z,h1⟩:=h.rows b hd;obtain ⟨c0,h2,h3⟩:=vC c;exact ⟨.cells c0 e z,fun _=>⟨c,c0,e,z,h1,rfl,h2,h3⟩,fun k=>absurd hd k⟩
  ·by_cases hb:b<W.heap.size
   ·exact ⟨W.heap[b],fun k=>absurd k hd,fun _ _=>eG hb⟩
   ·exact ⟨.coro none,fun k=>absurd k hd,fun _ k=>absurd k hb⟩
 obtain ⟨f,key⟩:=Classical.skolem.1 key;refine ⟨{W with heap:=Array.ofFn (n:=W.heap.size) fun a=>f a.1},rfl,by simp,fun b hb=>?_,fun b hb=>?_⟩
 ·by_cases hlt:b<W.heap.size
  ·rw [(key b).2 hb hlt];simp [hlt]
  ·rw [Array.getElem?_eq_none (by simpa using hlt),Array.getElem?_eq_none (by omega)]
 ·obtain ⟨c,c0,e,z,h1,h2,h3⟩:=(key b).1 hb;have hlt:=(eS h1).1;exact ⟨c,c0,e,z,h1,by simp [hlt,h2],h3⟩
theorem Clean.cell {W V:World}{D0:Nat->Prop}(h:Clean D0 W V){a:Addr}{v:Value}(hv:W.cell? a=some v)(h1:kL v=true):V.cell? a=some v:=by
 unfold World.cell? at hv ⊢;by_cases hd:D0 a.block
 ·obtain ⟨c,c0,e,z,k1,k2,-,k4⟩:=h.row _ hd;rw [k1] at hv;rw [k2];simp only at hv ⊢;split at hv
  ·cases hv
  ·rename_i hs;obtain ⟨u,e1,e2⟩:=k4 _ _ hv;rw [if_neg hs,e1,e2.one h1]
 ·rw [h.rest _ hd];exact hv
noncomputable def jg (W:World)(D0:Nat->Prop)(b:Nat):Option (Array Value):=by
 classical
 exact if D0 b then match W.heap[b]? with|some (.cells c _ _)=>some c|_=>none else none
theorem qx {W V:World}{D0:Nat->Prop}(h:Clean D0 W V)(P:Program)(F:FuncId->Bool)(hb:NoM P 3):br (oN P D0 F (jg W D0) hb) V W:=by
 refine ⟨fun a b hab=>?_,fun _ h=>h.elim,fun _ h=>h.elim,h.os.symm,fun _ a c0 hp=>?_⟩
 ·obtain ⟨rfl,hd⟩:=hab;obtain ⟨c,c0,e,z,h1,h2,h3,h4⟩:=h.row a hd;refine ⟨_,_,h2,h1,.cells e (.inl rfl) ⟨h3,fun i u v k1 k2=>?_⟩⟩;obtain ⟨u2,e1,e2⟩:=h4 i v k2;rw [k1] at e1;cases e1;exact e2.rel _ rfl
 ·have hp:jg W D0 a=some c0:=hp;unfold jg at hp;split at hp
  ·rename_i hd;obtain ⟨c,c1,e,z,h1,h2,-⟩:=h.row a hd;rw [h1] at hp;cases hp;exact ⟨a,⟨rfl,hd⟩,c1,e,z,c0,z,h2,h1,fun _ _ _ _=>rfl⟩
  ·cases hp
structure qy (W W':World):Prop where
 os:W'.os=W.os
 output:W'.output=W.output
 size:W.heap.size<=W'.heap.size
 block:∀b,b<W.heap.size->W'.heap[b]?=W.heap[b]?
def jJ (Pre:Lst->List Value->World->Prop)(W:World)(e:Ending)(u:World):Prop:=
 (e=.returned (.bool true)/\u.os=W.os/\∀b,b<W.heap.size->u.heap[b]?=W.heap[b]?)\/∃x y l,e=.panicked (stopEntry x y::l)/\∃ls pn L,x=lV ls/\y=.int .i64 pn/\Pre ls L u
section
variable [Two Tryz.prog] [Two Yq.prog] {Gf Fs Fr Fa:FuncId->Bool} {Pre:Lst->List Value->World->Prop}
theorem Cr (E:oM Gf Fs Fr)(sG:fy Tryz.prog Gf)(sA:fy Yq.prog Fa)(mkA:∀f,¬Mk Fa f=true)(hG:Gf ft=false/\Gf j8=false/\Gf 69=false/\Gf j7=true)(hPre:xN Pre)(hRecv:ud)(hce:∀l L V u,Ce V u->Pre l L u->Pre l L V)
  {f0:FuncId} {fn:Func} {b0:Code} (hfz:Tryz.prog.funcs[f0]?=some fn) (hfq:Yq.prog.funcs[f0]?=some fn) (hb0:fn.body=some b0) (hinit:Tryz.prog.inits.idxOf? f0=none) (h0G:Gf f0=true) (h0A:Fa f0=true) {args:Array Value} {W:World} {D0:Nat->Prop} (hst:Start W D0) (hargs:∀ (ρ:Ren),(∀b,D0 b->ρ b b)->RVs ρ args args)
  (hcalls:∀V,Clean D0 W V->∀τ d,Calls Yq.prog f0 args (V.on τ d) (jJ Pre V)):Fin Tryz.prog (fun v W'=>v=.bool true/\qy W W') #[G (Frame.enter Tryz.prog f0 args .normal) []] W none #[]:=by
 obtain ⟨V0,hcl⟩:=Av hst;replace hcalls:=hcalls V0 hcl;have hbz:NoM Tryz.prog 3:=by unfold NoM;kernel_rfl
 have hbq:NoM Yq.prog 3:=xQ E hbz rfl;have hA:∀F,RVs (oN Tryz.prog D0 F (jg W D0) hbz) args args:=fun F=>hargs _ (fun b h=>⟨rfl,h⟩)
 have hA1:∀F,RVs (oN Yq.prog D0 F (jg W D0) hbq) args args:=fun F=>hargs _ (fun b h=>⟨rfl,h⟩)
 have frm:∀ (P Q:Program) (σ:Ren),P.funcs[f0]?=some fn->Q.funcs[f0]?=some fn->RVs σ args args->aA P σ.F b0=true->RFr P σ (Frame.enter Q f0 args .normal) (Frame.enter P f0 args .normal):=fun P Q σ hP hQ ha ho=>by
  have e1:(Frame.enter Q f0 args .normal).todo=[.code b0]:=by simp [Frame.enter,hQ,hb0]
  have e2:(Frame.enter P f0 args .normal).todo=[.code b0]:=by simp [Frame.enter,hP,hb0]
  have t1:(Frame.enter Q f0 args .normal).tmps=args++Array.replicate (fn.ntmps-args.size) undef:=by simp [Frame.enter,hQ]
  have t2:(Frame.enter P f0 args .normal).tmps=args++Array.replicate (fn.ntmps-args.size) undef:=by simp [Frame.enter,hP]
  refine ⟨rfl,?_,by rw [e1,e2];exact .cons (.code ho) .nil,.nil,.run,⟨rfl,rfl,by simp [Frame.enter]⟩,.none⟩;rw [t1,t2];refine ⟨rfl,fun i v v' h1 h2=>?_⟩;rw [h1] at h2;cases h2;rw [Array.getElem?_append] at h1;split at h1
  ·exact ha.at_ i v v h1 h1
  ·simp only [Array.getElem?_replicate] at h1;split at h1
   ·cases h1;exact cD
   ·cases h1
 have hout:∀ (τ:Nat->Question->Nat) (d:Nat) (u:World),¬jJ Pre V0 .outgrown u:=fun τ d u h=>by
  rcases h with ⟨h,-⟩|⟨_,_,_,h,-⟩<;>cases h
 have hself:Self Yq.prog ([trap Yq.prog],[]) (fun _=>False) Fa {frame:=Frame.enter Yq.prog f0 args .normal,callers:=[trap Yq.prog],status:=.running,dying:=none} V0:=
  ⟨rfl,oN Yq.prog D0 Fa (jg W D0) hbq,{frame:=Frame.enter Yq.prog f0 args .normal,callers:=[],status:=.running,dying:=none},W,⟨frm Yq.prog Yq.prog _ hfq hfq (hA1 _) (sA.code f0 fn b0 h0A hfq hb0),.base,⟨fun _=>rfl,fun _=>rfl⟩,⟨rfl,rfl⟩,⟨rfl,rfl⟩,rfl,rfl⟩,qx hcl _ _ _,sA.gid (σ:=oN Yq.prog D0 Fa (jg W D0) hbq) (fun g hg=>⟨rfl,hst.glob g (by rw [Yq.globals_size] at hg;exact hg)⟩) rfl (fun _ _ h=>h),sA.ext,rfl,rfl,⟨rfl,fun _ h=>h.elim,rfl⟩,fun _ h=>h,mkA⟩
 have hD:=(qk E.zero1 E.count1 (R:=fun _ _=>jJ Pre V0) hcalls hout hself).imp (N':=fun g _=>NB [trap Yq.prog] g) (fun g w h=>h.2)
 let U:Outer:=⟨fun b=>b<W.heap.size/\¬D0 b,W,fun b h=>h.1,fun a b=>a=b/\D0 a,jg W D0,3⟩
 have hleaf:Leaf Tryz.prog U Gf (Ends Tryz.prog.alt f0 (fun _ _=>jJ Pre V0)) (fun v W'=>v=.bool true/\qy W W'):=by
  refine Ch (page:=69) hG.2.2.1 hinit (fun τ d e u h=>?_) (fun h V ρ g W1 ρ' W' hE hm hRel hle S hK=>⟨rfl,?_⟩)
  ·rcases h with ⟨h,-⟩|⟨x,y,l,h,-⟩
   ·exact .inl h
   ·exact .inr ⟨_,_,_,_,_,_,h⟩
  ·obtain ⟨τ,d,τ',d',e,fr,hR,rfl,-,hlv,-⟩:=hE;rcases hR with ⟨rfl,hos,hrow⟩|⟨x,y,l,rfl,-⟩
   ·refine ⟨S.os.trans (hos.trans hcl.os),hK.2.1,hK.1,fun b hb=>?_⟩;by_cases hd:D0 b
    ·have hbb:ρ' b b:=hle _ _ (hRel.out.2.2.1 b b ⟨rfl,hd⟩);obtain ⟨c,c0,e,z,h1,h0,h3,h2⟩:=hcl.row b hd;obtain ⟨o,o',k1,k2,k3⟩:=S.obj b b hbb;have hF:ρ'.F j7=true:=by rw [hle.F,hRel.same];exact hG.2.2.2
     have hpin:ρ'.pin b=some c:=by
      rw [hle.pin,hRel.out.2.2.2.1];show jg W D0 b=some c;unfold jg;rw [if_pos hd,h1]
     obtain ⟨b2,hb2,c1,e1,z1,c2,z2,p1,p2,p3⟩:=S.pin hF b c hpin;obtain rfl:=ρ'.fn _ _ _ hbb hb2;have hrow:V.heap[b]?=V0.heap[b]?:=hrow b (by rw [hcl.size];exact hb);rw [hrow,h0] at k1 p1;cases k1;cases p1;rw [p2] at k2;cases k2;cases k3 with
     |cells e hz hv=>
      rcases hz with rfl|⟨hz,-⟩
      ·rw [p2,h1];refine congrArg (fun x=>some (Obj.cells x e z)) ?_;refine Array.ext_getElem? (fun i=>?_);by_cases hi:i<c.size
       ·obtain ⟨u,q1,q2⟩:=h2 i _ (eG hi);by_cases ho:kL c[i]=true
        ·have q3:i<c2.size:=by rw [<-hv.size,h3];exact hi
         have q4:=q2.one ho;have:=hv.at_ i u _ q1 (eG q3);rw [q4] at this;rw [eG q3,eG hi,Au ho this]
        ·rcases q2.no (by simpa using ho) with q5|q5
         ·exact p3 i u q1 q5
         ·have q3:i<c2.size:=by rw [<-hv.size,h3];exact hi
          rw [eG q3,eG hi,q5 _ _ (hv.at_ i u _ q1 (eG q3))]
       ·rw [Array.getElem?_eq_none (by rw [<-hv.size,h3];omega),Array.getElem?_eq_none (by omega)]
      ·rw [hF] at hz;cases hz
    ·exact hK.2.2 b ⟨hb,hd⟩
   ·have hlv:=hlv.1;rw [hm] at hlv;cases hlv
 have hap:si Tryz.prog U Gf [] (Ends Tryz.prog.alt f0 (fun _ _=>jJ Pre V0)) (fun v W'=>v=.bool true/\qy W W'):=by
  rw [E.alt];refine vB E hPre hRecv ⟨fun τ d x y e u h=>?_⟩ hce;rcases h with ⟨h,-⟩|⟨x',y',l,h,hp⟩
  ·cases h
  ·cases h;exact hp
 have hD':Dem Tryz.prog.alt (fun g _=>NB [trap Tryz.prog.alt] g) (Ends Tryz.prog.alt f0 (fun _ _=>jJ Pre V0)) {frame:=Frame.enter Yq.prog f0 args .normal,callers:=[trap Yq.prog],status:=.running,dying:=none} V0:=by
  rw [E.alt];exact hD
 have hrel:Rel Tryz.prog U Gf [] (oN Tryz.prog D0 Gf (jg W D0) hbz) {frame:=Frame.enter Yq.prog f0 args .normal,callers:=[trap Yq.prog],status:=.running,dying:=none} {frame:=Frame.enter Tryz.prog f0 args .normal,callers:=[],status:=.running,dying:=none} V0 W:=by
  have hf:=frm Tryz.prog Yq.prog (oN Tryz.prog D0 Gf (jg W D0) hbz) hfz hfq (hA _) (sG.code f0 fn b0 h0G hfz hb0);have hgid:GId Tryz.prog (oN Tryz.prog D0 Gf (jg W D0) hbz):=sG.gid (σ:=oN Tryz.prog D0 Gf (jg W D0) hbz) (fun g hg=>⟨rfl,hst.glob g hg⟩) rfl (fun _ _ h=>h);have hk:∀P:Program,(Frame.enter P f0 args .normal).kind=.normal/\(Frame.enter P f0 args .normal).roundOf=none:=fun _=>⟨rfl,rfl⟩
  refine ⟨⟨hf,by rw [E.alt];exact .base,⟨fun _=>(hk _).1.trans (hk _).1.symm,fun _=>(hk _).2⟩,⟨rfl,rfl⟩,⟨rfl,rfl⟩,rfl,rfl⟩,qx hcl _ _ _,hgid,sG.ext,hG.1,rfl,⟨rfl,rfl⟩,⟨hG.2.1,fun a b o hab ho hc=>?_⟩,⟨⟨lR _,rfl,fun _ _=>rfl⟩,fun a b hab hk=>?_,fun a b h=>h,rfl,rfl⟩⟩
  ·obtain ⟨_,c,e,z,-,h1,-⟩:=hcl.row a hab.2;rw [h1] at ho;cases ho;cases hc
  ·obtain ⟨rfl,hd⟩:=hab;exact hk.2 hd
 have hlv:Lv Tryz.prog (fun _=>False) #[] #[({frame:=Frame.enter Tryz.prog f0 args .normal,callers:=[],status:=.running,dying:=none}:Goroutine)] (fun _=>0):=by
  refine ⟨fun j y hj _ hy=>?_,fun j hj=>?_⟩
  ·cases j with
   |zero=>omega
   |succ j=>simp at hy
  ·exact (Go.Conc.leavers_one Tryz.prog {frame:=Frame.enter Tryz.prog f0 args .normal,callers:=[],status:=.running,dying:=none}).above j hj
 exact Cd E.zero E.count (xG hleaf) hap hD' _ _ (.refl _ _) _ _ W none #[] (fun _=>0) _ rfl hlv (Go.Conc.past_nil.mono (Nat.zero_le _)) hrel
end
end
