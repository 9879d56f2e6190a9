/- A part. -/
import Derived.Test.YtnapepbdohidgaaGreatDoorQU04
set_option maxHeartbeats 4000000
set_option maxRecDepth 100000
open Go renaming World->Wz,Value->Wq,Goroutine->Wj,Program->Wx,Frame->Wv
namespace Go.Proofs.Qw
section
open Go
open Go.Conc (crowd Past EvL Deaf QuitsD woken awake crowd_pick runT_crowd_go rcase scase parked ph)
open Go.ConcN (sumTo upd sumTo_upd upd_ne upd_same)
variable {P:Wx} [Two P] {D:PhD P} {Post:Wq->Wz->Prop}
def Half (ρ ρs:Ren):Prop:=∀b x y,ρ x b->ρs y b->ρs.old y\/ρs.ch y
inductive jl (D:PhD P)(ρ ρr:Ren)(W:Wz)(buf:List Wq)(hr:Wj)(Vr:Wz):Wj->List Wq->Nat->Prop
 |run {h g:Wj} {V:Wz} {L:List Wq} (R:n9 D ρ ρr W h hr g V Vr L) (hd:Dem P.alt (fun g _=>NB [trap P.alt] g) D.T h V) (hp:LSs P.alt D.T D.h0 D.V0 h V):jl D ρ ρr W buf hr Vr g L 1
 |park {h1 hr1 g1 h:Wj} {V1 Vr1 V:Wz} {v z:Wq} {L:List Wq} {sh:CommShape} (C:FA D ρ ρr W h1 hr1 g1 V1 Vr1 (v::L) z sh h hr V Vr) (hb:buf=[]) (hd:Dem P.alt (fun g _=>NB [trap P.alt] g) D.T h V) (hp:LSs P.alt D.T D.h0 D.V0 h V):jl D ρ ρr W buf hr Vr (parked g1 #[rcase D.c z] sh) (v::L) 0
 |last {h1 hr1 g1 h hr':Wj} {V1 Vr1 V Vr':Wz} {z:Wq} {sh:CommShape} (C:FA D ρ ρr W h1 hr1 g1 V1 Vr1 [] z sh h hr' V Vr') (hb:buf=[]) (hp:LSs P.alt D.T D.h0 D.V0 h V):jl D ρ ρr W buf hr Vr (parked g1 #[rcase D.c z] sh) [] 0
 |pre {h g y:Wj} {V:Wz} {L:List Wq} (k:Nat) (R:n9 D ρ ρr W h hr g V Vr L) (hd:Dem P.alt (fun g _=>NB [trap P.alt] g) D.T h V) (hp:LSs P.alt D.T D.h0 D.V0 h V) (hbo:(∃x,ρr x D.bo/\¬ρr.ch x)/\D.bo≠D.c) (hy:Alone P D.bo g k y W):jl D ρ ρr W buf hr Vr y L (k+2)
inductive fW (D:PhD P)(ρs:Ren)(W:Wz)(n:Nat)(buf:List Wq)(hs:Wj)(Vs:Wz):Wj->List Wq->Nat->Prop
 |run {s:Wj} {L:List Wq} (S:Snd P ([trap P.alt],D.Bs) ρs hs s Vs W D.cs D.c L):fW D ρs W n buf hs Vs s L 1
 |new {y s:Wj} {L:List Wq} (S:Snd P ([trap P.alt],D.Bs) ρs hs s Vs W D.cs D.c L) (hy:∀v,stepG P false y v=.go s v #[]) (hst:y.status=.running):fW D ρs W n buf hs Vs y L 2
 |park {h1 s1:Wj} {V1:Wz} {L:List Wq} {cc:CommCase} {v z:Wq} (S:Snd P ([trap P.alt],D.Bs) ρs h1 s1 V1 W D.cs D.c L) (rc:RC ρs cc (scase D.c v z)) (lc:LC P.alt h1 cc .send V1 hs Vs) (hf:n<=buf.length):fW D ρs W n buf hs Vs (parked s1 #[scase D.c v z] .send) L 0
section
variable {ρ ρr ρs ρ' ρr' ρs':Ren} {W W1:Wz} {n:Nat} {buf:List Wq} {hr hs x:Wj} {Vr Vs:Wz} {L:List Wq} {f:Nat} {es:Array Event}
theorem n9.stays {h g:Wj}{V:Wz}(R:n9 D ρ ρr W h hr g V Vr L)(hos:W1.os=W.os)(h1:∀x b,ρ x b->b≠D.c->W1.heap[b]?=W.heap[b]?)(h2:∀x b,ρr x b->b≠D.c->W1.heap[b]?=W.heap[b]?)(hc:W1.heap[D.c]?=W.heap[D.c]?):n9 D ρ ρr W1 h hr g V Vr L:=
 ⟨R.side.stays hos h1 hc,R.sideR.stays hos h2 hc,R.only,R.chR,R.unmk,R.base,R.all,fun a b hch hab hne=>by
  obtain ⟨n,s,q,tm,n',s',q',e1,e2⟩:=R.rest a b hch hab hne;exact ⟨n,s,q,tm,n',s',q',e1,by rw [h1 a b hab (fun e=>hne (ρ.inj _ _ _ hab (e▸R.side.pair)))];exact e2⟩⟩
theorem jl.stays (R:jl D ρ ρr W buf hr Vr x L f)(hos:W1.os=W.os)(h1:∀x b,ρ x b->b≠D.c->W1.heap[b]?=W.heap[b]?)(h2:∀x b,ρr x b->b≠D.c->W1.heap[b]?=W.heap[b]?)(hc:W1.heap[D.c]?=W.heap[D.c]?):jl D ρ ρr W1 buf hr Vr x L f:=by
 cases R with
 |run R hd hp=>exact .run (R.stays hos h1 h2 hc) hd hp
 |park C hb hd hp=>exact .park ⟨C.at1.stays hos h1 h2 hc,C.sh,C.atc,C.rc,C.rcr⟩ hb hd hp
 |last C hb hp=>exact .last ⟨C.at1.stays hos h1 h2 hc,C.sh,C.atc,C.rc,C.rcr⟩ hb hp
 |pre k R hd hp hbo hy=>
  obtain ⟨⟨x0,k1,k2⟩,k3⟩:=hbo;exact .pre k (R.stays hos h1 h2 hc) hd hp ⟨⟨x0,k1,k2⟩,k3⟩ (hy.rely (h2 _ _ k1 k3))
theorem fW.stays (S:fW D ρs W n buf hs Vs x L f)(hos:W1.os=W.os)(h1:∀x b,ρs x b->b≠D.c->W1.heap[b]?=W.heap[b]?)(hc:W1.heap[D.c]?=W.heap[D.c]?):fW D ρs W1 n buf hs Vs x L f:=by
 cases S with
 |run S=>exact .run (S.stays hos h1 hc)
 |new S hy hst=>exact .new (S.stays hos h1 hc) hy hst
 |park S rc lc hf=>exact .park (S.stays hos h1 hc) rc lc hf
theorem fW.lt (S:fW D ρs W n buf hs Vs x L f):∀y b,ρs y b->b<W.heap.size:=fun y b k=>by
 cases S with
 |run S=>exact (S.sim.lt k).2
 |new S _ _=>exact (S.sim.lt k).2
 |park S _ _ _=>exact (S.sim.lt k).2
theorem fW.ch (S:fW D ρs W n buf hs Vs x L f):(∀y,ρs.ch y↔y=D.cs)/\ρs D.cs D.c:=by
 cases S with
 |run S=>exact ⟨S.ch,S.pair⟩
 |new S _ _=>exact ⟨S.ch,S.pair⟩
 |park S _ _ _=>exact ⟨S.ch,S.pair⟩
theorem jl.ch (R:jl D ρ ρr W buf hr Vr x L f):((∀y,ρr.ch y->y=D.cr)/\ρr D.cr D.c)/\(∀y b,ρ y b->b<W.heap.size)/\∀y b,ρr y b->b<W.heap.size:=by
 cases R with
 |run R _ _=>exact ⟨⟨R.chR,R.sideR.pair⟩,fun y b k=>(R.side.sim.lt k).2,fun y b k=>(R.sideR.sim.lt k).2⟩
 |park C _ _ _=>exact ⟨⟨C.at1.chR,C.at1.sideR.pair⟩,fun y b k=>(C.at1.side.sim.lt k).2,fun y b k=>(C.at1.sideR.sim.lt k).2⟩
 |last C _ _=>exact ⟨⟨C.at1.chR,C.at1.sideR.pair⟩,fun y b k=>(C.at1.side.sim.lt k).2,fun y b k=>(C.at1.sideR.sim.lt k).2⟩
 |pre _ R _ _ _ _=>exact ⟨⟨R.chR,R.sideR.pair⟩,fun y b k=>(R.side.sim.lt k).2,fun y b k=>(R.sideR.sim.lt k).2⟩
theorem fW.pre (O:vC P D Post)(hD:Dem P.alt D.Ns D.Ts hs Vs)(S:fW D ρs W n buf hs Vs x L f){b:List Wq}{s q:Nat}{tm:Bool}(r:j7 W D.c n b false s q tm):L <+:D.L:=by
 have key:∀ {s:Wj} {W:Wz} {L:List Wq},Snd P ([trap P.alt],D.Bs) ρs hs s Vs W D.cs D.c L->L <+:D.L:=fun S=>by
  obtain ⟨n,b,s,q,tm,h1,h2⟩:=S.row;exact h2▸(O.pre hD _ _ _ _ _ _ h1).2
 cases S with
 |run S=>exact key S
 |new S _ _=>exact key S
 |park S rc lc hf=>
  obtain ⟨v0,-,S2⟩:=S.push rc lc rfl (fun _ _=>rfl) r r;exact (List.prefix_append _ _).trans (key S2)
omit [Two P] in
theorem Moved.left (m:Moved ρ ρ' ρr ρr' W W1 D.c es)(hF:Far ρr ρs)(hS:∀y b,ρs y b->b<W.heap.size)(hch:∀y,ρr.ch y->ρr y D.c):∀x b,ρs x b->b≠D.c->W1.heap[b]?=W.heap[b]?:=fun x b hb hne=>
 m.keep.block b (hS x b hb) (fun a ha=>by
  rcases hF b a x ha hb with ⟨k,-⟩|⟨k,-⟩
  .exact k
  .exact absurd (ρr.fn _ _ _ ha (hch a k)) hne)
omit [Two P] in
theorem Moved.half (m:Moved ρ ρ' ρr ρr' W W1 D.c es)(hH:Half ρ ρs)(hS:∀y b,ρs y b->b<W.heap.size):Half ρ' ρs:=fun b x y h1 h2=>by
 rcases m.new x b h1 with k|k
 .exact hH b x y k h2
 .have:=hS y b h2;omega
omit [Two P] in
theorem jK.far (m:jK ρs ρs' W W1 D.c es)(hF:Far ρr ρs)(hR:∀y b,ρr y b->b<W.heap.size):Far ρr ρs':=fun b x y h1 h2=>by
 rcases m.new y b h2 with k|k
 .rw [m.le.old,m.le.ch];exact hF b x y h1 k
 .have:=hR x b h1;omega
omit [Two P] in
theorem jK.half (m:jK ρs ρs' W W1 D.c es)(hH:Half ρ ρs)(hR:∀y b,ρ y b->b<W.heap.size):Half ρ ρs':=fun b x y h1 h2=>by
 rcases m.new y b h2 with k|k
 .rw [m.le.old,m.le.ch];exact hH b x y h1 k
 .have:=hR x b h1;omega
omit [Two P] in
theorem jK.left (m:jK ρs ρs' W W1 D.c es){σ:Ren}(hH:Half σ ρs)(hR:∀y b,σ y b->b<W.heap.size)(hch:∀y,ρs.ch y->ρs y D.c):∀x b,σ x b->b≠D.c->W1.heap[b]?=W.heap[b]?:=fun x b hb hne=>
 m.keep.block b (hR x b hb) (fun a ha=>by
  rcases hH b x a hb ha with k|k
  .exact k
  .exact absurd (ρs.fn _ _ _ ha (hch a k)) hne)
theorem Far.half (h:Far ρr ρs):Half ρr ρs:=fun b x y h1 h2=>(h b x y h1 h2).imp (·.2) (·.2)
theorem jl.again (R:jl D ρ ρr W buf hr Vr x L f){w:Wz}{n':Nat}{b:List Wq}{s q:Nat}{tm:Bool}(r:j7 w D.c n' b false s q tm):x.again w=x:=by
 obtain ⟨a,r,-⟩:=r;cases R with
 |run R _ _=>exact Conc.again_running _ (.inl R.run)
 |park C _ _ _=>exact Conc.again_recv_open r
 |last C _ _=>exact Conc.again_recv_open r
 |pre _ R _ _ _ hy=>exact Conc.again_running _ (.inl (hy.status R.run))
theorem fW.again (S:fW D ρs W n buf hs Vs x L f){w:Wz}{n':Nat}{b:List Wq}{s q:Nat}{tm:Bool}(r:j7 w D.c n' b false s q tm):x.again w=x:=by
 obtain ⟨a,r,-⟩:=r;cases S with
 |run S=>exact Conc.again_running _ (.inl S.go.status.2)
 |new S _ hst=>exact Conc.again_running _ (.inl hst)
 |park S _ _ _=>exact Conc.again_send_open r
theorem jl.status (R:jl D ρ ρr W buf hr Vr x L f):x.status=.running\/x.status=.blocked:=by
 cases R with
 |run R _ _=>exact .inl R.run
 |park C _ _ _=>exact .inr rfl
 |last C _ _=>exact .inr rfl
 |pre _ R _ _ _ hy=>exact .inl (hy.status R.run)
theorem fW.status (S:fW D ρs W n buf hs Vs x L f):x.status=.running\/x.status=.blocked:=by
 cases S with
 |run S=>exact .inl S.go.status.2
 |new S _ hst=>exact .inl hst
 |park S _ _ _=>exact .inr rfl
end
end
section
open Go
open Go.Conc (crowd Past EvL Deaf QuitsD woken awake crowd_pick runT_crowd_go rcase scase parked ph)
open Go.ConcN (sumTo upd sumTo_upd upd_ne upd_same)
variable {P:Wx} [Two P] {D:PhD P} {Post:Wq->Wz->Prop}
structure kx (D:PhD P)(ρ ρr ρs:Ren)(W:Wz):Prop where
 half:Half ρ ρs
 out:xy D ρ ρr W
 offS:Off D.U ρs
omit [Two P] in
theorem kx.rcv {ρ ρr ρs ρ' ρr':Ren}{W W1:Wz}{es:Array Event}(h:kx D ρ ρr ρs W)(m:Moved ρ ρ' ρr ρr' W W1 D.c es)(hS:∀y b,ρs y b->b<W.heap.size):kx D ρ' ρr' ρs W1:=⟨m.half h.half hS,h.out.rcv m,h.offS⟩
omit [Two P] in
theorem kx.snd {ρ ρr ρs ρs':Ren}{W W1:Wz}{es:Array Event}(h:kx D ρ ρr ρs W)(m:jK ρs ρs' W W1 D.c es)(hR:∀y b,ρ y b->b<W.heap.size):kx D ρ ρr ρs' W1:=⟨m.half h.half hR,⟨h.out.kp.keep h.offS m.keep,h.out.off,h.out.offR,h.out.chan⟩,h.offS.new h.out.kp m.le.sub m.new ⟨m.le.pin,m.le.bad⟩⟩
omit [Two P] in
theorem kx.set {ρ ρr ρs:Ren}{W:Wz}(h:kx D ρ ρr ρs W){n:Nat}{b:Array Wq}{cl:Bool}{s q:Nat}{tm:Bool}:kx D ρ ρr ρs (W.setChan D.c n b cl s q tm):=⟨h.half,h.out.set _ _ _ _ _ _,h.offS⟩
omit [Two P] in
theorem xy.shut {ρ ρr:Ren}{W:Wz}(h:xy D ρ ρr W){n:Nat}{b:Array Wq}{s q:Nat}{tm:Bool}:xy D ρ ρr (dN W D.c n b s q tm):=h.set _ _ _ _ _ _
omit [Two P] in
theorem kx.at {ρ ρr ρs:Ren}{W:Wz}(h:kx D ρ ρr ρs W)(d:Nat):kx D ρ ρr ρs (W.at d):=⟨h.half,⟨h.out.kp,h.out.off,h.out.offR,h.out.chan⟩,h.offS⟩
def io (P:Wx) [Two P](D:PhD P)(Post:Wq->Wz->Prop)(hr:Wj)(Vr:Wz)(hs:Wj)(Vs:Wz):Prop:=
 ∀ (gs:Array Wj) (W:Wz) (sl:Option (Nat×Nat)) (t:Trace) (qs:Nat->Nat) (ρ ρr ρs:Ren) (x0 xk:Wj) (L Ls buf taken:List Wq) (n s q:Nat) (tm:Bool) (f1 f2:Nat),jl D ρ ρr W buf hr Vr x0 L f1->fW D ρs W n buf hs Vs xk Ls f2->j7 W D.c n buf false s q tm->0<n->Ls=taken++buf->D.L=taken++L->Far ρr ρs->kx D ρ ρr ρs W->gs[0]?=some x0->gs[D.k]?=some xk->Lv P (fun i=>i=D.k) t gs qs->PhT 0 D.k ρr ρs W.heap.size t->Fin P Post gs W sl t
omit [Two P] in
theorem gz {gs:Array Wj}{t:Trace}{qs:Nat->Nat}{k i:Nat}(hL:Lv P (fun j=>j=k) t gs qs){y:Wj}{j:Nat}(hij:(i=0/\j=k)\/(i=k/\j=0))(hj:gs[j]?=some y)(r:Nat)(b:Bool)(hy:Conc.offersAt y r b=[]):partners (gs.setIfInBounds i ph) r b=[]:=by
 refine Conc.partners_nil (fun l x hx=>?_);rcases Conc.getElem?_stand gs i l x hx with ⟨-,rfl⟩|⟨hne,hx⟩
 .exact Conc.offersAt_ph r b
 .by_cases hlj:l=j
  .subst hlj;rw [hj] at hx;cases hx;exact hy
  .refine Conc.offersAt_of_not_blocked (fun e=>?_) r b;have h0:0<l:=by rcases hij with ⟨rfl,rfl⟩|⟨rfl,rfl⟩<;>omega
   have hk:¬l=k:=by rcases hij with ⟨rfl,rfl⟩|⟨rfl,rfl⟩<;>assumption
   rcases (hL.old l x h0 hk hx).status with h|h<;>rw [h] at e<;>cases e
omit [Two P] in
theorem oC {gs:Array Wj}{t:Trace}{qs:Nat->Nat}{k i:Nat}(hL:Lv P (fun j=>j=k) t gs qs){y:Wj}{j:Nat}(hij:(i=0/\j=k)\/(i=k/\j=0))(hne0:k≠0)(hj:gs[j]?=some y)(r:Nat)(b:Bool)(hy:Conc.offersAt y r b=[0]):partners (gs.setIfInBounds i ph) r b=[(j,0)]:=by
 have hji:j≠i:=by rcases hij with ⟨rfl,rfl⟩|⟨rfl,rfl⟩<;>omega
 rw [Conc.partners_one (Conc.stand_get hji hj) (fun l x hl hx=>?_),hy]
 .rfl
 .rcases Conc.getElem?_stand gs i l x hx with ⟨-,rfl⟩|⟨hne,hx⟩
  .exact Conc.offersAt_ph r b
  .refine Conc.offersAt_of_not_blocked (fun e=>?_) r b;have h0:0<l:=by rcases hij with ⟨rfl,rfl⟩|⟨rfl,rfl⟩<;>omega
   have hk:¬l=k:=by rcases hij with ⟨rfl,rfl⟩|⟨rfl,rfl⟩<;>assumption
   rcases (hL.old l x h0 hk hx).status with h|h<;>rw [h] at e<;>cases e
theorem vG {a b c l:List Wq}{v:Wq}(h1:a=c++(v::b))(h:a <+:c++l):∃l',l=v::l':=by
 subst h1;obtain ⟨e,he⟩:=h;simp only [pA,List.append_cancel_left_eq,List.cons_append] at he;exact ⟨_,he.symm⟩
theorem n9.other {ρ ρr:Ren}{W W1:Wz}{h hr g:Wj}{V Vr:Wz}{L:List Wq}(R:n9 D ρ ρr W h hr g V Vr L)(hos:W1.os=W.os)(hs:∀b,b≠D.c->W1.heap[b]?=W.heap[b]?){n n':Nat}{b b':List Wq}{cl cl':Bool}{s q s' q':Nat}{tm:Bool}(r1:j7 W D.c n b cl s q tm)(r2:j7 W1 D.c n' b' cl' s' q' tm):n9 D ρ ρr W1 h hr g V Vr L:=
 ⟨R.side.other hos (fun _ b _ hb=>hs b hb) r1 r2,R.sideR.other hos (fun _ b _ hb=>hs b hb) r1 r2,R.only,R.chR,R.unmk,R.base,R.all,fun a b hch hab hne=>by
  obtain ⟨n,s,q,tm,n',s',q',e1,e2⟩:=R.rest a b hch hab hne;exact ⟨n,s,q,tm,n',s',q',e1,by rw [hs b (fun e=>hne (ρ.inj _ _ _ hab (e▸R.side.pair)))];exact e2⟩⟩
theorem PhT.ops {p q:Nat}{ρ ρ':Ren}{B:Nat}(hF:Far ρ ρ'):∀ (l:List MemOp)(t:Trace),PhT p q ρ ρ' B t->(∀op∈l,(op.g=p\/op.g=q)/\cP B op.act)->PhT p q ρ ρ' B (t++l.toArray):=by
 intro l;induction l with
 |nil=>intro t h _;simpa using h
 |cons x l ih=>
  intro t h hl;have e:t++(x::l).toArray=(t++#[x])++l.toArray:=by apply Array.ext';simp
  rw [e];refine ih _ ?_ (fun op hop=>hl op (by simp [hop]));obtain ⟨hg,hc⟩:=hl x (by simp);rcases hg with hg|hg
  .exact h.app (Ren.le_refl _) hF (lR _) (fun op hop=>by simp at hop;subst hop;exact ⟨hg,uj hc⟩)
  .exact (h.symm.app (Ren.le_refl _) hF.symm (lR _) (fun op hop=>by simp at hop;subst hop;exact ⟨hg,uj hc⟩)).symm
theorem mB (O:vC P D Post){hr hs:Wj}{Vr Vs:Wz}(hDs:Dem P.alt D.Ns D.Ts hs Vs)(hnb:NB [trap P.alt] hr)(hls:∀τ d,∃hr' Vr',LS P.alt hr (Vr.on τ d) hr' Vr')
  (hn:∀τ d hr' Vr',LS P.alt hr (Vr.on τ d) hr' Vr'->(∀hs Vs,Dem P.alt D.Ns D.Ts hs Vs->io P D Post hr' Vr' hs Vs)\/((∀n b s q tm,Vr.heap[D.cr]?=some (.chan n b true s q tm)->b.toList=[])/\∃h1 cc s V1 es,stepG P.alt true hr (Vr.on τ d)=.comm h1 cc true s V1 es))
  (hclosed:eY P D Post hr Vr)
  (hcase:(NB [trap P.alt] hs/\∀τ d,(∃hs' Vs',LS P.alt hs (Vs.on τ d) hs' Vs')/\∀hs' Vs',LS P.alt hs (Vs.on τ d) hs' Vs'->Dem P.alt D.Ns D.Ts hs' Vs'/\io P D Post hr Vr hs' Vs')\/D.Ts hs Vs):io P D Post hr Vr hs Vs:=by
 intro gs W sl t qs ρ ρr ρs x0 xk L Ls buf taken n s q tm f1 f2 RP SP r hn0 hLs hLL hF hH h0 hk hL hP;obtain ⟨M,hM⟩:∃M,sumTo gs.size qs+f1+f2<=M:=⟨_,lR _⟩;induction M using Nat.strongRecOn generalizing gs W sl t qs x0 xk ρ ρr ρs f1 f2 with
 |_ M ih=>
  have hkpos:0<D.k:=Nat.pos_of_ne_zero O.k0;have hlt0:0<gs.size:=(eS h0).1;have hltk:D.k<gs.size:=(eS hk).1;have haw:∀y∈gs,awake y:=fun y hy=>by
   obtain ⟨i,hi,rfl⟩:=Array.mem_iff_getElem.1 hy;by_cases hi0:i=0
   .subst hi0;have:gs[0]=x0:=by simpa [eG hi] using h0
    rw [this];exact Conc.awake_of (RP.status.imp id .inl)
   .by_cases hik:i=D.k
    .subst hik;have:gs[D.k]=xk:=by simpa [eG hi] using hk
     rw [this];exact Conc.awake_of (SP.status.imp id .inl)
    .exact Conc.awake_of ((hL.old i _ (by omega) hik (eG hi)).status.elim .inl fun x=>.inr (.inr x))
  have hsome:∃ (i:Nat) (g:Wj),gs[i]?=some g/\g.status=.running:=by
   cases RP with
   |run R _ _=>exact ⟨0,_,h0,R.run⟩
   |pre _ R _ _ _ hy=>exact ⟨0,_,h0,hy.status R.run⟩
   |park C hb _ _=>
    cases SP with
    |run S=>exact ⟨_,_,hk,S.go.status.2⟩
    |new S _ hst=>exact ⟨_,_,hk,hst⟩
    |park _ _ _ hf=>rw [hb] at hf;simp at hf;omega
   |last C hb _=>
    cases SP with
    |run S=>exact ⟨_,_,hk,S.go.status.2⟩
    |new S _ hst=>exact ⟨_,_,hk,hst⟩
    |park _ _ _ hf=>rw [hb] at hf;simp at hf;omega
  obtain ⟨i,x,d,sl',hi,hx,hst⟩:=crowd_pick (P:=P) (w:=W) (sl:=sl) haw hsome;by_cases hi0:i=0
  .subst hi0;obtain rfl:x0=x:=by rw [h0] at hi;exact oJ hi
   cases RP with
   |park C _ _ _=>cases hx
   |last C _ _=>cases hx
   | @pre h g _ V _ k R hd hp hbo hy=>
    rcases hy.next with rfl|⟨hst2,k',rfl,hnx⟩
    .exact ih (sumTo gs.size qs+1+f2) (by omega) gs W sl t qs ρ ρr ρs x0 xk 1 f2 (.run R hd hp) SP r hF hH h0 hk hL hP (lR _)
    .obtain ⟨y',es,hg,hev,hy'⟩:=hnx d;obtain ⟨gs',ops,e1,e2,e3,e4,e5,e6⟩:=pE (K:=fun i=>i=D.k) hL hi (.inl rfl) hst (show stepG P (0==0) x0 (W.at d)=_ from hg);subst e2;have SP1:fW D ρs (W.at d) n buf hs Vs xk Ls f2:=SP.stays rfl (fun _ _ _ _=>rfl) rfl;exact Fin.next e1 (ih (sumTo gs'.size qs+(k'+2)+f2) (by rw [e3];omega) gs' (W.at d) sl' _ qs ρ ρr ρs y' xk (k'+2) f2 (.pre k' (R.at d) hd hp hbo hy') SP1 r hF (hH.at d) e4 (by rw [e5 D.k xk O.k0 hk,fu (SP1.again (w:=W.at d) r)]) e6 (hP.app (Ren.le_refl _) hF (lR _) (jI (R.at d).sideR.sim (vF hbo.1 hev) 0 _ _)) (lR _))
   | @run h _ V _ R hd hp=>
    obtain ⟨h',V',hl,hd',hp'⟩:=rn O R hd hp d;obtain ⟨hr',Vr',hlr⟩:=hls W.tape d;have hnx:=hn _ _ _ _ hlr;obtain ⟨g1,W1,es,ρ',ρr',m,hcs⟩:=vD O R hnb d hl hlr;have hBs:=SP.lt;have hF':=m.far hF hBs;have hH':=hH.rcv m hBs;have hsz:W.heap.size<=W1.heap.size:=m.keep.size;have r1:j7 W1 D.c n buf false s q tm:=by
     obtain ⟨a,k1,k2⟩:=r;exact ⟨a,m.row.trans k1,k2⟩
    have hleft:=m.left hF hBs (fun y k=>by rw [R.chR y k];exact R.sideR.pair);have SP1:fW D ρs W1 n buf hs Vs xk Ls f2:=SP.stays m.keep.os hleft m.row;have hPre:=SP.pre O hDs r;rcases hcs with ⟨hg,R'⟩|⟨h1,hr1,V1,Vr1,z,sh,hg,C⟩
    .have hC:∀hs Vs,Dem P.alt D.Ns D.Ts hs Vs->io P D Post hr' Vr' hs Vs:=by
      rcases hnx with k|⟨-,_,_,_,_,_,k⟩
      .exact k
      .exfalso;have hbr:Base ([trap P.alt],D.X.2) hr.frame x0.callers:=fun e=>hnb (R.sideR.go.callers.tail e)
       obtain ⟨-,sr⟩:=mA O.zero O.count true R.sideR.go hbr R.sideR.sim R.sideR.gid R.sideR.ext R.unmk.1 d rfl hlr;rw [k,hg] at sr;cases sr
     obtain ⟨gs',ops,e1,e2,e3,e4,e5,e6⟩:=pE (K:=fun i=>i=D.k) hL hi (.inl rfl) hst (show stepG P (0==0) x0 (W.at d)=_ from hg);subst e2;exact Fin.next e1 (hC hs Vs hDs gs' W1 sl' _ qs ρ' ρr' ρs g1 xk L Ls buf taken n s q tm 1 f2 (.run R' hd' hp') SP1 r1 hn0 hLs hLL hF' hH' e4 (by rw [e5 D.k xk O.k0 hk,fu (SP1.again r1)]) e6 (hP.app m.ler hF' hsz (jI R'.sideR.sim m.ev 0 _ _)))
    .obtain ⟨a,ha1,ha2⟩:=r1;have hlt:D.c<W1.heap.size:=(eS ha1).1;have hev:=jI C.at1.sideR.sim m.ev 0 x0.frame.fn x0.frame.place;have hP1:=hP.app m.ler hF' hsz hev;have hg0:stepG P (0==0) x0 (W.at d)=.comm g1 #[rcase D.c z] true sh W1 es:=hg;cases buf with
     |nil=>
      have hoff:Conc.offersAt xk D.c true=[]:=by
       cases SP1 with
       |run S=>exact Conc.offersAt_of_not_blocked (by rw [S.go.status.2];exact fun h=>by cases h) _ _
       |new S _ hst=>exact Conc.offersAt_of_not_blocked (by rw [hst];exact fun h=>by cases h) _ _
       |park _ _ _ hf=>simp at hf;omega
      have ha:a=#[]:=Array.toList_inj.1 (by simpa using ha2);subst ha;have hrt:=Conc.crowd_waits (sl:=sl') (i:=0) hi hg0 (fun cc hcc=>by
       simp at hcc;subst hcc;exact Conc.ways_recv_none ha1 (gz hL (.inl ⟨rfl,rfl⟩) hk D.c true hoff))
      have hLv:Lv P (fun i=>i=D.k) (t++MemOp.ofEvents 0 x0.frame.fn x0.frame.place es) (gs.setIfInBounds 0 (parked g1 #[rcase D.c z] sh)) qs:=hL.put (fun op hop=>(hev op hop).2.2.1) (by simp) (fun j hj _=>sN (by omega));have hk':(gs.setIfInBounds 0 (parked g1 #[rcase D.c z] sh))[D.k]?=some xk:=by rw [sN (by omega)];exact hk
      have h0':(gs.setIfInBounds 0 (parked g1 #[rcase D.c z] sh))[0]?=some (parked g1 #[rcase D.c z] sh):=by simp [hlt0]
      refine Fin.next (hst.trans hrt) ?_
      cases L with
      |nil=>exact ih (sumTo gs.size qs+0+f2) (by omega) _ W1 sl' _ qs ρ' ρr' ρs _ xk 0 f2 (.last C rfl hp') SP1 ⟨_,ha1,ha2⟩ hF' hH' h0' hk' hLv hP1 (by simp)
      |cons v L=>
       have hC:∀hs Vs,Dem P.alt D.Ns D.Ts hs Vs->io P D Post hr' Vr' hs Vs:=by
        rcases hnx with k|⟨k,-⟩
        .exact k
        .exfalso;obtain ⟨n0,b0,s0,q0,tm0,k1,k2⟩:=R.sideR.row;rw [k _ _ _ _ _ k1] at k2;cases k2
       exact hC hs Vs hDs _ W1 sl' _ qs ρ' ρr' ρs _ xk (v::L) Ls [] taken n s q tm 0 f2 (.park C rfl hd' hp') SP1 ⟨_,ha1,ha2⟩ hn0 hLs hLL hF' hH' h0' hk' hLv hP1
     |cons v rest=>
      obtain ⟨L',rfl⟩:=vG hLs (hLL▸hPre);have hC:∀hs Vs,Dem P.alt D.Ns D.Ts hs Vs->io P D Post hr' Vr' hs Vs:=by
       rcases hnx with k|⟨k,-⟩
       .exact k
       .exfalso;obtain ⟨n0,b0,s0,q0,tm0,k1,k2⟩:=R.sideR.row;rw [k _ _ _ _ _ k1] at k2;cases k2
      have hv:v∈D.L:=by rw [hLL];simp
      have hsome2:0<a.size:=by rw [<-lY,ha2];simp
      have hget:a.getD 0 undef=v:=by rw [gD,<-gT,ha2];rfl
      have hext:(a.extract 1 a.size).toList=rest:=by
       have hl:a.toList.length=a.size:=lY;rw [Array.toList_extract,ha2] at *;simp at hl ⊢;rw [<-hl];simp
      have nop:Conc.offersAt xk D.c true=[]->(∀W2:Wz,W2.os=W1.os->(∀b,b≠D.c->W2.heap[b]?=W1.heap[b]?)->∀b' s' q',j7 W2 D.c n b' false s' q' tm->fW D ρs W2 n b' hs Vs xk Ls f2)->Fin P Post gs W sl t:=fun hoff hSP=>by
       have hrt:=Conc.crowd_recv_buf (sl:=sl') (i:=0) hi hg0 ha1 hsome2 (gz hL (.inl ⟨rfl,rfl⟩) hk D.c true hoff);rw [hget] at hrt;have r2:=dw W1 D.c n (a.extract 1 a.size) false s (q+1) tm hlt;rw [hext] at r2;have R2:=C.take O hv (W':=W1.setChan D.c n (a.extract 1 a.size) false s (q+1) tm) rfl (fun b hb=>aF _ _ _ _ _ _ _ _ hb) ⟨a,ha1,ha2⟩ r2;have hu:∀op∈[({g:=0,fn:=g1.frame.fn,pos:=g1.frame.place,act:=.recv D.c q n}:MemOp),{g:=0,fn:=g1.frame.fn,pos:=g1.frame.place,act:=.recvDone D.c q}],(op.g=0\/op.g=D.k)/\cP W1.heap.size op.act:=fun op hop=>by
        simp at hop;rcases hop with rfl|rfl<;>exact ⟨.inl rfl,hlt⟩
       refine Fin.next (hst.trans hrt) (hC hs Vs hDs _ _ sl' _ qs ρ' ρr' ρs _ xk L' Ls rest (taken++[v]) n s (q+1) tm 1 f2 (.run R2 hd' hp') (hSP (W1.setChan D.c n (a.extract 1 a.size) false s (q+1) tm) rfl (fun b hb=>aF _ _ _ _ _ _ _ _ hb) _ _ _ r2) r2 hn0 (by rw [hLs];simp) (by rw [hLL];simp) hF' hH'.set (by simp [hlt0]) (by rw [sN (by omega)];exact hk) (hL.put (fun op hop=>?_) (by simp) (fun j hj _=>sN (by omega))) ?_)
       .rcases Array.mem_append.1 hop with k|k
        .exact (hev op k).2.2.1
        .exact (hu op (by simpa using k)).2.still
       .rw [<-Array.append_assoc,bV];exact PhT.ops hF' _ _ hP1 hu
      cases SP1 with
      |run S=>exact nop (Conc.offersAt_of_not_blocked (by rw [S.go.status.2];exact fun h=>by cases h) _ _) (fun W2 hos hb b' s' q' r2=>.run (S.other hos (fun _ b _ k=>hb b k) ⟨a,ha1,ha2⟩ r2))
      |new S hy hst2=>exact nop (Conc.offersAt_of_not_blocked (by rw [hst2];exact fun h=>by cases h) _ _) (fun W2 hos hb b' s' q' r2=>.new (S.other hos (fun _ b _ k=>hb b k) ⟨a,ha1,ha2⟩ r2) hy hst2)
      | @park h1s s1 V1s _ cc v1 z1 S rc lc hf=>
       have hoff:Conc.offersAt (parked s1 #[scase D.c v1 z1] .send) D.c true=[0]:=by rw [Conc.offersAt_parked_send];simp
       have hrt:=nk (sl:=sl') (i:=0) (j:=D.k) hi hg0 ha1 hsome2 O.k0 hk (oC hL (.inl ⟨rfl,rfl⟩) O.k0 hk D.c true hoff);rw [hget] at hrt;have r2:=dw W1 D.c n ((a.extract 1 a.size).push v1) false (s+1) (q+1) tm hlt;rw [Array.toList_push,hext] at r2;have R2:=C.take O hv (W':=W1.setChan D.c n ((a.extract 1 a.size).push v1) false (s+1) (q+1) tm) rfl (fun b hb=>aF _ _ _ _ _ _ _ _ hb) ⟨a,ha1,ha2⟩ r2;obtain ⟨v0,hrv,S2⟩:=S.push rc lc (W':=W1.setChan D.c n ((a.extract 1 a.size).push v1) false (s+1) (q+1) tm) rfl (fun b hb=>aF _ _ _ _ _ _ _ _ hb) ⟨a,ha1,ha2⟩ r2;have hpre2:Ls++[v0] <+:D.L:=by
        obtain ⟨_,_,_,_,_,k1,k2⟩:=S2.row;exact k2▸(O.pre hDs _ _ _ _ _ _ k1).2
       obtain rfl:v1=v0:=(O.flat v0 (hpre2.subset (by simp)) ρs).2 v1 hrv;have hu:∀op∈[({g:=0,fn:=g1.frame.fn,pos:=g1.frame.place,act:=.recv D.c q n}:MemOp),{g:=0,fn:=g1.frame.fn,pos:=g1.frame.place,act:=.recvDone D.c q},{g:=D.k,fn:=s1.frame.fn,pos:=s1.frame.place,act:=.send D.c s},{g:=D.k,fn:=s1.frame.fn,pos:=s1.frame.place,act:=.sendDone D.c s}],(op.g=0\/op.g=D.k)/\cP W1.heap.size op.act:=fun op hop=>by
        simp at hop;rcases hop with rfl|rfl|rfl|rfl
        .exact ⟨.inl rfl,hlt⟩
        .exact ⟨.inl rfl,hlt⟩
        .exact ⟨.inr rfl,hlt⟩
        .exact ⟨.inr rfl,hlt⟩
       refine Fin.next (hst.trans hrt) (hC hs Vs hDs _ _ sl' _ qs ρ' ρr' ρs _ (s1.finishComm P #[scase D.c v1 z1] .send 0 undef false) L' (Ls++[v1]) (rest++[v1]) (taken++[v]) n (s+1) (q+1) tm 1 1 (.run R2 hd' hp') (.run S2) r2 hn0 (by rw [hLs];simp) (by rw [hLL];simp) hF' hH'.set (by simp [hlt0]) (by rw [sN (by omega)];simp [hltk]) (hL.put (fun op hop=>?_) (by simp) (fun j hj hjk=>by rw [sN (by omega),sN (fun e=>hjk e.symm)])) ?_)
       .rcases Array.mem_append.1 hop with k|k
        .exact (hev op k).2.2.1
        .exact (hu op (by simpa using k)).2.still
       .rw [<-Array.append_assoc,bV];exact PhT.ops hF' _ _ hP1 hu
  .by_cases hik:i=D.k
   .subst hik;obtain rfl:xk=x:=by rw [hk] at hi;exact oJ hi
    have hkk:(D.k==0)=false:=beq_eq_false_iff_ne.2 O.k0;obtain ⟨⟨hchr,hpr⟩,hBv,hBr⟩:=RP.ch;have hchs:∀y,ρs.ch y->ρs y D.c:=fun y k=>by rw [(SP.ch.1 y).1 k];exact SP.ch.2
    cases SP with
    |park _ _ _ _=>cases hx
    | @new _ s0 _ S hy hst2=>
     obtain ⟨gs',ops,e1,e2,e3,e4,e5,e6⟩:=pE (K:=fun i=>i=D.k) hL hi (.inr rfl) hst (show stepG P (D.k==0) xk (W.at d)=.go s0 (W.at d) #[] by rw [hkk];exact hy _);subst e2;rw [im,Array.append_empty] at e6;rw [im] at e1;refine Fin.next e1 (ih (sumTo gs'.size qs+f1+1) (by rw [e3];omega) gs' (W.at d) sl' _ qs ρ ρr ρs x0 s0 f1 1 (RP.stays rfl (fun _ _ _ _=>rfl) (fun _ _ _ _=>rfl) rfl) (.run (S.stays rfl (fun _ _ _ _=>rfl) rfl)) r hF (hH.at d) ?_ e4 ?_ ?_ (lR _))
     .rw [e5 0 x0 (by omega) h0,fu (RP.again (w:=W.at d) r)]
     .rw [Array.append_empty];exact e6
     .rw [Array.append_empty];exact hP
    |run S=>
     rcases hcase with ⟨hnbs,hstep⟩|hTs
     .obtain ⟨⟨hs',Vs',hl⟩,hall⟩:=hstep W.tape d;obtain ⟨hDs',hO⟩:=hall _ _ hl;obtain ⟨s1,W1,es,ρs',m,hcs⟩:=BZ O S hnbs d hl (fun n b cl s q tm k=>(O.pre hDs' _ _ _ _ _ _ k).1);have hF':=m.far hF hBr;have hH':=hH.snd m hBv;have hsz:W.heap.size<=W1.heap.size:=m.keep.size;have RP1:jl D ρ ρr W1 buf hr Vr x0 L f1:=RP.stays m.keep.os (m.left hH.half hBv hchs) (m.left hF.half hBr hchs) m.row;have r1:j7 W1 D.c n buf false s q tm:=by
       obtain ⟨a,k1,k2⟩:=r;exact ⟨a,m.row.trans k1,k2⟩
      rcases hcs with ⟨hg,S'⟩|⟨h1,V1,cc,v,z,hg,S1,rc,lc⟩|⟨r',v,z,n',b',s',q',tm',hg,hrow,S'⟩
      .obtain ⟨gs',ops,e1,e2,e3,e4,e5,e6⟩:=pE (K:=fun i=>i=D.k) hL hi (.inr rfl) hst (show stepG P (D.k==0) xk (W.at d)=_ by rw [hkk];exact hg);subst e2;exact Fin.next e1 (hO gs' W1 sl' _ qs ρ ρr ρs' x0 s1 L Ls buf taken n s q tm f1 1 RP1 (.run S') r1 hn0 hLs hLL hF' hH' (by rw [e5 0 x0 (by omega) h0,fu (RP1.again r1)]) e4 e6 (hP.symm.app m.le hF'.symm hsz (jI S'.sim m.ev D.k _ _)).symm)
      .obtain ⟨a,ha1,ha2⟩:=r1;have hlt:D.c<W1.heap.size:=(eS ha1).1;have hev:=jI S1.sim m.ev D.k xk.frame.fn xk.frame.place;have hP1:=(hP.symm.app m.le hF'.symm hsz hev).symm;have hg0:stepG P (D.k==0) xk (W.at d)=.comm s1 #[scase D.c v z] true .send W1 es:=by rw [hkk];exact hg
       have push:∀ (W2:Wz),W2.os=W1.os->(∀b,b≠D.c->W2.heap[b]?=W1.heap[b]?)->∀n' b' s' q',j7 W2 D.c n' b' false s' q' tm->Ls++[v] <+:D.L/\Snd P ([trap P.alt],D.Bs) ρs' hs' (s1.finishComm P #[scase D.c v z] .send 0 undef false) Vs' W2 D.cs D.c (Ls++[v]):=fun W2 hos hb n' b' s' q' r2=>by
        obtain ⟨v0,hrv,S2⟩:=S1.push rc lc hos hb ⟨a,ha1,ha2⟩ r2;have hpre2:Ls++[v0] <+:D.L:=by
         obtain ⟨_,_,_,_,_,k1,k2⟩:=S2.row;exact k2▸(O.pre hDs' _ _ _ _ _ _ k1).2
        obtain rfl:v=v0:=(O.flat v0 (hpre2.subset (by simp)) ρs').2 v hrv;exact ⟨hpre2,S2⟩
       have hkset:∀y,(gs.setIfInBounds D.k y)[0]?=some x0:=fun y=>by rw [sN O.k0];exact h0
       have lv:∀ (y:Wj) (u:Trace),(∀op∈u,cP W1.heap.size op.act)->Lv P (fun i=>i=D.k) (t++(MemOp.ofEvents D.k xk.frame.fn xk.frame.place es++u)) (gs.setIfInBounds D.k y) qs:=fun y u hu=>hL.put (fun op hop=>by
        rcases Array.mem_append.1 hop with k|k
        .exact (hev op k).2.2.1
        .exact (hu op k).still) (by simp) (fun j hj hjk=>sN (fun e=>hjk e.symm))
       cases RP1 with
       |last C hb hp=>
        subst hb;obtain ⟨k1,-⟩:=push W1 rfl (fun _ _=>rfl) n [] s q ⟨a,ha1,ha2⟩;rw [hLs,hLL] at k1;have:=k1.length_le;simp only [lP,lC,lN] at this;omega
       | @park h1' hr1' g1 h' V1' Vr1' V' vL z' L' sh C hb hd' hp'=>
        subst hb;have hoff:Conc.offersAt (parked g1 #[rcase D.c z'] sh) D.c false=[0]:=by rw [Conc.offersAt_parked_recv];simp
        have hrt:=Conc.crowd_send_meets (sl:=sl') (i:=D.k) (j:=0) hi hg0 ha1 (Ne.symm O.k0) h0 (oC hL (.inr ⟨rfl,rfl⟩) O.k0 h0 D.c false hoff);have r2:=dw W1 D.c n a false (s+1) (q+1) tm hlt;rw [ha2] at r2;obtain ⟨k1,S2⟩:=push (W1.setChan D.c n a false (s+1) (q+1) tm) rfl (fun b hb=>aF _ _ _ _ _ _ _ _ hb) n [] (s+1) (q+1) r2;obtain ⟨L2,hL2⟩:=vG (a:=Ls++[v]) (b:=[]) (c:=taken) (v:=v) (l:=vL::L') (by rw [hLs];simp) (hLL▸k1);cases hL2;have hv:v∈D.L:=k1.subset (by simp);have R2:=C.take O hv (W':=W1.setChan D.c n a false (s+1) (q+1) tm) rfl (fun b hb=>aF _ _ _ _ _ _ _ _ hb) ⟨a,ha1,ha2⟩ r2;have hu:∀op∈[({g:=D.k,fn:=s1.frame.fn,pos:=s1.frame.place,act:=.send D.c s}:MemOp),{g:=0,fn:=g1.frame.fn,pos:=g1.frame.place,act:=.recv D.c q n},{g:=D.k,fn:=s1.frame.fn,pos:=s1.frame.place,act:=.sendDone D.c s},{g:=0,fn:=g1.frame.fn,pos:=g1.frame.place,act:=.recvDone D.c q}],(op.g=0\/op.g=D.k)/\cP W1.heap.size op.act:=fun op hop=>by
         simp at hop;rcases hop with rfl|rfl|rfl|rfl
         .exact ⟨.inr rfl,hlt⟩
         .exact ⟨.inl rfl,hlt⟩
         .exact ⟨.inr rfl,hlt⟩
         .exact ⟨.inl rfl,hlt⟩
        refine Fin.next (hst.trans hrt) (hO _ _ sl' _ qs ρ ρr ρs' (g1.finishComm P #[rcase D.c z'] sh 0 v true) _ L' (Ls++[v]) [] (taken++[v]) n (s+1) (q+1) tm 1 1 (.run R2 hd' hp') (.run S2) r2 hn0 (by rw [hLs];simp) (by rw [hLL];simp) hF' hH'.set (by rw [sN O.k0];simp [hlt0]) (by simp [hltk]) (hL.put (fun op hop=>?_) (by simp) (fun j hj hjk=>by rw [sN (fun e=>hjk e.symm),sN (by omega)])) ?_)
        .rcases Array.mem_append.1 hop with k|k
         .exact (hev op k).2.2.1
         .exact (hu op (by simpa using k)).2.still
        .rw [<-Array.append_assoc,bV];exact PhT.ops hF' _ _ hP1 hu
       | @run h' _ V' _ R hd' hp'=>
        have hoff:Conc.offersAt x0 D.c false=[]:=Conc.offersAt_of_not_blocked (by rw [R.run];exact fun h=>by cases h) _ _;have hp0:=gz (i:=D.k) hL (.inr ⟨rfl,rfl⟩) h0 D.c false hoff;by_cases hroom:a.size<n
        .have hrt:=Conc.crowd_send_room (sl:=sl') (i:=D.k) hi hg0 ha1 hroom hp0;have r2:=dw W1 D.c n (a.push v) false (s+1) q tm hlt;rw [Array.toList_push,ha2] at r2;obtain ⟨k1,S2⟩:=push (W1.setChan D.c n (a.push v) false (s+1) q tm) rfl (fun b hb=>aF _ _ _ _ _ _ _ _ hb) n (buf++[v]) (s+1) q r2;have R2:=R.other (W1:=W1.setChan D.c n (a.push v) false (s+1) q tm) rfl (fun b hb=>aF _ _ _ _ _ _ _ _ hb) ⟨a,ha1,ha2⟩ r2;have hu:∀op∈[({g:=D.k,fn:=s1.frame.fn,pos:=s1.frame.place,act:=.send D.c s}:MemOp),{g:=D.k,fn:=s1.frame.fn,pos:=s1.frame.place,act:=.sendDone D.c s}],(op.g=0\/op.g=D.k)/\cP W1.heap.size op.act:=fun op hop=>by
          simp at hop;rcases hop with rfl|rfl<;>exact ⟨.inr rfl,hlt⟩
         refine Fin.next (hst.trans hrt) (hO _ _ sl' _ qs ρ ρr ρs' x0 _ L (Ls++[v]) (buf++[v]) taken n (s+1) q tm 1 1 (.run R2 hd' hp') (.run S2) r2 hn0 (by rw [hLs];simp) hLL hF' hH'.set (hkset _) (by simp [hltk]) (lv _ _ (fun op hop=>(hu op (by simpa using hop)).2)) ?_)
         rw [<-Array.append_assoc,bV];exact PhT.ops hF' _ _ hP1 hu
        .have hfull:n<=a.size:=by omega
         have hrt:=Conc.crowd_waits (sl:=sl') (i:=D.k) hi hg0 (fun cc hcc=>by
          simp at hcc;subst hcc;exact Conc.ways_send_none ha1 hfull hp0)
         refine Fin.next (hst.trans hrt) (hO _ W1 sl' _ qs ρ ρr ρs' x0 _ L Ls buf taken n s q tm 1 0 (.run R hd' hp') (.park S1 rc lc (by rw [<-ha2,lY];exact hfull)) ⟨a,ha1,ha2⟩ hn0 hLs hLL hF' hH' (hkset _) (by simp [hltk]) ?_ hP1)
         have:=lv (parked s1 #[scase D.c v z] .send) #[] (fun op hop=>by simp at hop);rw [Array.append_empty] at this;exact this
       | @pre h' g' _ V' _ k R hd' hp' hbo hy=>
        have hoff:Conc.offersAt x0 D.c false=[]:=Conc.offersAt_of_not_blocked (by rw [hy.status R.run];exact fun h=>by cases h) _ _;have hp0:=gz (i:=D.k) hL (.inr ⟨rfl,rfl⟩) h0 D.c false hoff;by_cases hroom:a.size<n
        .have hrt:=Conc.crowd_send_room (sl:=sl') (i:=D.k) hi hg0 ha1 hroom hp0;have r2:=dw W1 D.c n (a.push v) false (s+1) q tm hlt;rw [Array.toList_push,ha2] at r2;obtain ⟨k1,S2⟩:=push (W1.setChan D.c n (a.push v) false (s+1) q tm) rfl (fun b hb=>aF _ _ _ _ _ _ _ _ hb) n (buf++[v]) (s+1) q r2;have R2:=R.other (W1:=W1.setChan D.c n (a.push v) false (s+1) q tm) rfl (fun b hb=>aF _ _ _ _ _ _ _ _ hb) ⟨a,ha1,ha2⟩ r2;have hu:∀op∈[({g:=D.k,fn:=s1.frame.fn,pos:=s1.frame.place,act:=.send D.c s}:MemOp),{g:=D.k,fn:=s1.frame.fn,pos:=s1.frame.place,act:=.sendDone D.c s}],(op.g=0\/op.g=D.k)/\cP W1.heap.size op.act:=fun op hop=>by
          simp at hop;rcases hop with rfl|rfl<;>exact ⟨.inr rfl,hlt⟩
         refine Fin.next (hst.trans hrt) (hO _ _ sl' _ qs ρ ρr ρs' x0 _ L (Ls++[v]) (buf++[v]) taken n (s+1) q tm (k+2) 1 (.pre k R2 hd' hp' hbo (hy.rely (aF _ _ _ _ _ _ _ _ hbo.2))) (.run S2) r2 hn0 (by rw [hLs];simp) hLL hF' hH'.set (hkset _) (by simp [hltk]) (lv _ _ (fun op hop=>(hu op (by simpa using hop)).2)) ?_)
         rw [<-Array.append_assoc,bV];exact PhT.ops hF' _ _ hP1 hu
        .have hfull:n<=a.size:=by omega
         have hrt:=Conc.crowd_waits (sl:=sl') (i:=D.k) hi hg0 (fun cc hcc=>by
          simp at hcc;subst hcc;exact Conc.ways_send_none ha1 hfull hp0)
         refine Fin.next (hst.trans hrt) (hO _ W1 sl' _ qs ρ ρr ρs' x0 _ L Ls buf taken n s q tm (k+2) 0 (.pre k R hd' hp' hbo hy) (.park S1 rc lc (by rw [<-ha2,lY];exact hfull)) ⟨a,ha1,ha2⟩ hn0 hLs hLL hF' hH' (hkset _) (by simp [hltk]) ?_ hP1)
         have:=lv (parked s1 #[scase D.c v z] .send) #[] (fun op hop=>by simp at hop);rw [Array.append_empty] at this;exact this
      .have hev:=jI S'.sim m.ev D.k xk.frame.fn xk.frame.place;have hrt:=nl (sl:=sl') (i:=D.k) hi (show stepG P (D.k==0) xk (W.at d)=_ by rw [hkk];exact hg) hrow;exact Fin.next (hst.trans hrt) (hO _ W1 sl' _ qs ρ ρr ρs' x0 _ L Ls buf taken n s q tm f1 1 RP1 (.run S') r1 hn0 hLs hLL hF' hH' (by rw [sN O.k0];exact h0) (by simp [hltk]) (hL.put (fun op hop=>(hev op hop).2.2.1) (by simp) (fun j hj hjk=>sN (fun e=>hjk e.symm))) (hP.symm.app m.le hF'.symm hsz hev).symm)
     .obtain ⟨a,ha1,ha2⟩:=r;have hlt:D.c<W.heap.size:=(eS ha1).1;have hLD:Ls=D.L:=by
       obtain ⟨n0,b0,s0,q0,tm0,k1,k2⟩:=S.row;rw [<-k2];exact (O.ts hs Vs hTs _ _ _ _ _ _ k1).2
      have hbL:buf=L:=by
       have:taken++buf=taken++L:=by rw [<-hLs,<-hLL,hLD]
       exact List.append_cancel_left this
      obtain ⟨g',hmw,hgs,hg,mQ,hQ⟩:=O.close hs Vs ρs xk (W.at d) hTs ((hLD▸S).stays rfl (fun _ _ _ _=>rfl) rfl) n a s q tm ha1;have hrt:=runT_crowd_go (P:=P) (sl:=sl') (i:=D.k) hi (show stepG P (D.k==0) xk (W.at d)=_ by rw [hkk];exact hg);have hw:∀o,woken P xk g' (dN (W.at d) D.c n a s q tm) o=o.again (dN (W.at d) D.c n a s q tm):=fun o=>by
       unfold Conc.woken;rw [hmw,hgs];rfl
      have hW2:j7 (dN (W.at d) D.c n a s q tm) D.c n L true s q tm:=by
       have:=dw (W.at d) D.c n a true s q tm hlt;rw [ha2,hbL] at this;exact this
      have hops:MemOp.ofEvents D.k xk.frame.fn xk.frame.place #[⟨.obj D.c,false,true⟩,⟨.obj D.c,true,true⟩]=#[{g:=D.k,fn:=xk.frame.fn,pos:=xk.frame.place,act:=.access ⟨.obj D.c,false,true⟩}]++#[{g:=D.k,fn:=xk.frame.fn,pos:=xk.frame.place,act:=.close D.c}]:=by rw [Conc.ofEvents_eq];simp [MemAct.ofEvent]
      rw [hops] at hrt;have hstill:∀op∈(#[{g:=D.k,fn:=xk.frame.fn,pos:=xk.frame.place,act:=.access ⟨.obj D.c,false,true⟩}]++#[{g:=D.k,fn:=xk.frame.fn,pos:=xk.frame.place,act:=.close D.c}]:Trace),op.act≠.mark .disable/\op.act≠.mark .enable:=fun op hop=>by
       simp at hop;rcases hop with rfl|rfl<;>exact ⟨by simp,by simp⟩
      have hP1:=(hP.symm.app (u:=#[{g:=D.k,fn:=xk.frame.fn,pos:=xk.frame.place,act:=.access ⟨.obj D.c,false,true⟩}]) (Ren.le_refl _) hF.symm (lR _) (fun op hop=>by
       simp at hop;subst hop;refine ⟨rfl,hlt,⟨by simp,by simp⟩,fun x hx=>?_⟩;simp only [MemAct.touch?,oI] at hx;subst hx;exact ⟨D.cs,S.pair,(fun h=>by cases h),(fun h=>by simp at h)⟩)).symm
      have hPC:=hP1.close (y:={g:=D.k,fn:=xk.frame.fn,pos:=xk.frame.place,act:=.close D.c}) ⟨rfl,rfl⟩ hlt;have hsz2:(dN (W.at d) D.c n a s q tm).heap.size=W.heap.size:=bV _ _ _ _ _ _ _ _;have hgsz:((gs.map (woken P xk g' (dN (W.at d) D.c n a s q tm))).setIfInBounds D.k g').size=gs.size:=by simp
      have hLv:Lv P (fun _=>False) (t++(#[{g:=D.k,fn:=xk.frame.fn,pos:=xk.frame.place,act:=.access ⟨.obj D.c,false,true⟩}]++#[{g:=D.k,fn:=xk.frame.fn,pos:=xk.frame.place,act:=.close D.c}])) ((gs.map (woken P xk g' (dN (W.at d) D.c n a s q tm))).setIfInBounds D.k g') (upd qs D.k mQ):=by
       refine ⟨fun j y hj _ hy=>?_,fun j hj=>?_⟩
       .rw [bj t j _ hstill];by_cases hjk:D.k=j
        .subst hjk;rw [sS (by simpa using hltk)] at hy;cases hy;rw [upd_same,hP.hq];exact hQ
        .rw [sN hjk,Array.getElem?_map] at hy;obtain ⟨z,hz,rfl⟩:=Option.map_eq_some_iff.1 hy;have hq:=hL.old j z hj (fun e=>hjk e.symm) hz;rw [fu (jk hq _),upd_ne qs mQ (Ne.symm hjk)];exact hq
       .rw [bj t j _ hstill];exact hL.above j (by rw [hgsz] at hj;exact hj)
      have hg0:((gs.map (woken P xk g' (dN (W.at d) D.c n a s q tm))).setIfInBounds D.k g')[0]?=some (x0.again (dN (W.at d) D.c n a s q tm)):=by
       rw [sN O.k0,Array.getElem?_map,h0];simp only [Option.map_some,hw]
      obtain ⟨pc,hPC'⟩:∃pc,PhC D.c pc ρs (dN (W.at d) D.c n a s q tm).heap.size (t++(#[{g:=D.k,fn:=xk.frame.fn,pos:=xk.frame.place,act:=.access ⟨.obj D.c,false,true⟩}]++#[{g:=D.k,fn:=xk.frame.fn,pos:=xk.frame.place,act:=.close D.c}])):=by
       rw [hsz2,<-Array.append_assoc];exact ⟨_,hPC⟩
      have hother:∀b,b≠D.c->(dN (W.at d) D.c n a s q tm).heap[b]?=W.heap[b]?:=fun b hb=>aF _ _ _ _ _ _ _ _ hb
      refine Fin.next (hst.trans hrt) ?_
      cases RP with
      | @run h' _ V' _ R hd' hp'=>
       have hag:x0.again (dN (W.at d) D.c n a s q tm)=x0:=Conc.again_running _ (.inl R.run);rw [hag] at hg0;exact hclosed _ _ sl' _ _ ρ ρr ρs h' x0 V' L n s q tm _ (R.other rfl hother ⟨a,ha1,ha2⟩ hW2) hd' hp' (fun v hv=>by rw [hLL];simp [hv]) hW2 hF (hH.at d).out.shut (fun y b k=>by rw [hsz2];exact (S.sim.lt k).2) hg0 hLv hPC'
      |park C hb _ _=>rw [hb] at hbL;cases hbL
      | @pre h' g1 _ V' _ k R hd' hp' hbo hy=>
       have hag:x0.again (dN (W.at d) D.c n a s q tm)=x0:=Conc.again_running _ (.inl (hy.status R.run));rw [hag] at hg0;exact xz hclosed hd' hp' (fun v hv=>by rw [hLL];simp [hv]) hF hbo.1 k _ _ sl' _ _ x0 (R.other rfl hother ⟨a,ha1,ha2⟩ hW2) (hy.rely (hother _ hbo.2)) hW2 (hH.at d).out.shut (fun y b k=>by rw [hsz2];exact (S.sim.lt k).2) hg0 hLv hPC'
      | @last h1' hr1' g1 h' hr'' V1' Vr1' V' Vr'' z' sh C hb hp'=>
       obtain ⟨a2,hr2,ha2'⟩:=hW2;rw [Conc.again_recv_closed hr2] at hg0;exact uk O hp' (sumTo _ (upd qs D.k mQ)) _ _ sl' _ _ (lR _) ⟨C.at1.other rfl hother ⟨a,ha1,ha2⟩ ⟨a2,hr2,ha2'⟩,C.sh,C.atc,C.rc,C.rcr⟩ ⟨a2,hr2,ha2'⟩ (hH.at d).out.shut hg0 hLv hPC'
   .have hfirm:∀j o,(j=0\/j=D.k)->gs[j]?=some o->o.again (W.at d)=o:=fun j o hj ho=>by
     rcases hj with rfl|rfl
     .rw [h0] at ho;cases ho;exact RP.again (w:=W.at d) r
     .rw [hk] at ho;cases ho;exact SP.again (w:=W.at d) r
    obtain ⟨gs',q',ops,e1,e2,e3,e4,e5,e6,-⟩:=slip (K:=fun i=>i=D.k) hL hP (fun t i fn pos es hi hk h hm=>h.mute hi hk hm) hi hx (by omega) hik hfirm hst;exact Fin.next e1 (ih _ (by omega) gs' (W.at d) sl' (t++ops) q' ρ ρr ρs x0 xk f1 f2 (RP.stays rfl (fun _ _ _ _=>rfl) (fun _ _ _ _=>rfl) rfl) (SP.stays rfl (fun _ _ _ _=>rfl) rfl) r hF (hH.at d) ((e3 0 (.inl rfl)).trans h0) ((e3 D.k (.inr rfl)).trans hk) e4 e5 (lR _))
theorem D6 (O:vC P D Post){hr:Wj}{Vr:Wz}(hD:Dem P.alt D.Nr D.Tr hr Vr):∀hs Vs,Dem P.alt D.Ns D.Ts hs Vs->io P D Post hr Vr hs Vs:=by
 induction hD with
 | @stop g w hT=>
  have hcl:=rp O (.stop (N:=D.Nr) hT);obtain ⟨h1,h2,h3⟩:=O.tr g w hT;have hls:∀τ d,∃hr' Vr',LS P.alt g (w.on τ d) hr' Vr':=fun τ d=>by
   obtain ⟨_,_,_,_,_,h',V',e,l⟩:=h3 τ d;exact ⟨h',V',.comm e l⟩
  have hn:∀τ d hr' Vr',LS P.alt g (w.on τ d) hr' Vr'->(∀hs Vs,Dem P.alt D.Ns D.Ts hs Vs->io P D Post hr' Vr' hs Vs)\/((∀n b s q tm,w.heap[D.cr]?=some (.chan n b true s q tm)->b.toList=[])/\∃h1 cc s V1 es,stepG P.alt true g (w.on τ d)=.comm h1 cc true s V1 es):=fun τ d hr' Vr' _=>.inr ⟨h2,by
   obtain ⟨_,_,_,_,_,h',V',e,l⟩:=h3 τ d;exact ⟨_,_,_,_,_,e⟩⟩
  intro hs Vs hDs;induction hDs with
  |stop hTs=>exact mB O (.stop hTs) h1 hls hn hcl (.inr hTs)
  |step hN hT2 hgo hnx ih=>exact mB O (.step hN hT2 hgo hnx) h1 hls hn hcl (.inl ⟨O.ns _ _ hN,fun τ d=>⟨hgo τ d,fun hs' Vs' l=>⟨hnx τ d hs' Vs' l,ih τ d hs' Vs' l⟩⟩⟩)
 | @step g w hN hT hgo hnx ihr=>
  have hcl:=rp O (.step hN hT hgo hnx);intro hs Vs hDs;induction hDs with
  |stop hTs=>exact mB O (.stop hTs) (O.nr g w hN) hgo (fun τ d hr' Vr' l=>.inl (ihr τ d hr' Vr' l)) hcl (.inr hTs)
  |step hN2 hT2 hgo2 hnx2 ih=>exact mB O (.step hN2 hT2 hgo2 hnx2) (O.nr g w hN) hgo (fun τ d hr' Vr' l=>.inl (ihr τ d hr' Vr' l)) hcl (.inl ⟨O.ns _ _ hN2,fun τ d=>⟨hgo2 τ d,fun hs' Vs' l=>⟨hnx2 τ d hs' Vs' l,ih τ d hs' Vs' l⟩⟩⟩)
end
section
open Go
section
variable {P:Wx} [Two P] {X:List Wv×List Wv} {A:Nat->Prop} {G:FuncId->Bool} {g g':Wj} {w w':Wz}
theorem jF.grow (hZ:bu P)(hN:bI P)(hG:G Fz=false){cs:Nat}(hA:A cs)(h:jF P X A G g w)(hl:LS P g w g' w'){n:Nat}{b:Array Wq}{cl:Bool}{s q:Nat}{tm:Bool}(hr:w.heap[cs]?=some (.chan n b cl s q tm)):
  ∃n' b' cl' s' q' tm',w'.heap[cs]?=some (.chan n' b' cl' s' q' tm')/\((b.toList <+:b'.toList/\(cl=true->cl'=true))\/cl'=true):=by
 obtain ⟨⟨hrn,ρ,k,u,hGo,S,hI,hE,ho,hwi,⟨hch,hcb,hFG⟩,hold,hmk⟩,hb⟩:=h;have hin:Base X g.frame k.callers:=fun e=>hb (hGo.callers.tail e)
 have sf:=iN hZ hE hN hI true hGo hin (S.onR w.tape w.drawn) (fun i=>rfl);obtain ⟨b0,hb0⟩:=hcb cs hA;have row:∀ {ρ':Ren} {v v':Wz},Reach ρ ρ' w (u.on w.tape w.drawn) v v'->∃n' b' cl' s' q' tm',v.heap[cs]?=some (.chan n' b' cl' s' q' tm')/\((b.toList <+:b'.toList/\(cl=true->cl'=true))\/cl'=true):=fun R=>by
  rcases R.chs.row cs b0 (by rw [hch];exact hA) hb0 with ⟨e,-⟩|⟨-,n',b',s',q',tm',e⟩
  .exact ⟨_,_,_,_,_,_,e.trans hr,.inl ⟨List.prefix_refl _,fun h=>h⟩⟩
  .exact ⟨_,_,_,_,_,_,e,.inr rfl⟩
 rcases sf.rel with ⟨h1,-⟩|⟨-,h2⟩|⟨f,_,_,_,_,_,_,_,_,_,_,_,A⟩
 rotate_left 2
 .exact absurd A.mark (hmk f)
 .cases hl with
  |go h hr hd=>
   rw [h] at h1;obtain ⟨⟨d,f,e,-⟩,-⟩:=h1;rw [hd] at e;cases e
  |comm h _=>rw [h] at h1;exact h1.elim
 .cases hl with
  |go h hr hd=>
   rw [h] at h2;generalize stepG P true k (u.on w.tape w.drawn)=y at h2;cases h2 with
   |go es ρ' R hg he=>exact row R
  | @comm g1 c s1 w1 es _ _ h hc=>
   rw [h] at h2;generalize stepG P true k (u.on w.tape w.drawn)=y at h2;cases h2 with
   | @comm _ k1 _ c' hC _ hs hrun _ u1 _ es' ρ' R hg hcc he _=>
    have hsn:c.send≠none:=fun e=>by have:=hC.2 e;rw [hFG,hG] at this;cases this
    obtain ⟨n1,b1,cl1,s1',q1,tm1,e1,e2⟩:=row R;cases hc with
    |recv q1 q2 q3 q4=>exact absurd q2 hsn
    |shut q1 q2 q3=>exact absurd q2 hsn
    |dead q1 q2 q3=>exact ⟨_,_,_,_,_,_,e1,e2⟩
    | @send r cap sent rcvd buf tm0 v0 q1 q2 q3 q4=>
     by_cases e:r=cs
     .subst e;rw [e1] at q3;cases q3;have hlt:=(eS e1).1;refine ⟨_,_,_,_,_,_,sS hlt,?_⟩;rcases e2 with ⟨k1,k2⟩|k
      .exact .inl ⟨k1.trans (by rw [Array.toList_push];exact List.prefix_append _ _),k2⟩
      .cases k
     .exact ⟨_,_,_,_,_,_,by simp only [sN e];exact e1,e2⟩
end
theorem ip {α:Type}{p p':α->Bool}(hp:∀a,p a=true->p' a=true){l:Array α}(h:l.all p=true):l.all p'=true:=by
 rw [Array.all_eq_true] at h ⊢;exact fun i hi=>hp _ (h i hi)
section
variable {P:Wx} {F F':FuncId->Bool} (hF:∀f,F f=true->F' f=true)
include hF
theorem ky {x:Operand}(h:okX P F x=true):okX P F' x=true:=by
 cases x with
 |func f=>exact hF f h
 |_=>exact h
theorem vH {b:Builtin}(h:BC F b=true):BC F' b=true:=by
 unfold BC at h ⊢;rw [Bool.or_eq_true] at h ⊢;refine h.imp id (fun h=>?_);cases b<;>first|exact hF _ h|exact h
theorem kz {c:Call}(h:jB P F c=true):jB P F' c=true:=by
 unfold jB at h ⊢;rw [bT] at h ⊢;refine ⟨?_,ip (fun _=>ky hF) h.2⟩;have h1:=h.1;cases hc:c.callee with
 |builtin b=>rw [hc] at h1;simp only [bT] at h1 ⊢;exact ⟨vH hF h1.1,h1.2⟩
 |value f=>rw [hc] at h1;exact ky hF h1
 |invoke a b=>rw [hc] at h1;exact h1
theorem ul {c:Call}(h:ke P F c=true):ke P F' c=true:=by
 unfold ke at h ⊢;rw [Bool.or_eq_true,bT] at h ⊢;refine h.imp (kz hF) (fun h=>⟨?_,ip (fun _=>ky hF) h.2⟩);have h1:=h.1;split at h1
 .rw [bT] at h1 ⊢;exact ⟨hF _ h1.1,h1.2⟩
 .cases h1
theorem vI {o:Op}(h:fR P F o=true):fR P F' o=true:=by
 have hx:∀ {x:Operand},okX P F x=true->okX P F' x=true:=fun h=>ky hF h
 have ho:∀ {x:Option Operand},x.all (okX P F)=true->x.all (okX P F')=true:=fun {x} h=>by
  cases x with
  |none=>rfl
  |some x=>exact hx h
 cases o with
 |makeFunc f a c=>
  cases f with
  |func f=>
   simp only [fR,bT] at h ⊢;exact ⟨⟨hF _ h.1.1,ip (fun _=>hx) h.1.2⟩,ip (fun _=>hx) h.2⟩
  |_=>exact h
 |makeMap t r=>cases r<;>exact h
 |call c=>exact ul hF h
 |defer c=>simp only [fR,bT,Bool.or_eq_true] at h ⊢;exact ⟨h.1.imp (hF _) (hF _),kz hF h.2⟩
 |go c=>simp only [fR,bT] at h ⊢;exact ⟨hF _ h.1,kz hF h.2⟩
 |slice t x lo hi mx=>simp only [fR,bT] at h ⊢;exact ⟨⟨⟨hx h.1.1.1,ho h.1.1.2⟩,ho h.1.2⟩,ho h.2⟩
 |build t ps=>exact ip (fun _=>hx) h
 |buildSlice t n ps=>exact ip (fun _=>hx) h
 |recv t x b=>simp only [fR,bT] at h ⊢;exact ⟨hF _ h.1,hx h.2⟩
 |makeChan t x=>simp only [fR,bT] at h ⊢;exact ⟨hF _ h.1,hx h.2⟩
 |send a x=>simp only [fR,bT] at h ⊢;exact ⟨⟨hF _ h.1.1,hx h.1.2⟩,hx h.2⟩
 |pick a b c=>simp only [fR,bT] at h ⊢;exact ⟨⟨hx h.1.1,hx h.1.2⟩,hx h.2⟩
 |binOp op t a x r=>simp only [fR,bT] at h ⊢;exact ⟨⟨hx h.1.1,hx h.1.2⟩,h.2⟩
 |store t a x=>simp only [fR,bT] at h ⊢;exact ⟨hx h.1,hx h.2⟩
 |makeSlice t a x=>simp only [fR,bT] at h ⊢;exact ⟨hx h.1,hx h.2⟩
 |indexAddr t a x=>simp only [fR,bT] at h ⊢;exact ⟨hx h.1,hx h.2⟩
 |index t a x=>simp only [fR,bT] at h ⊢;exact ⟨hx h.1,hx h.2⟩
 |convert s d x=>simp only [fR,bT] at h ⊢;exact ⟨h.1,hx h.2⟩
 |lookup t x i b=>simp only [fR,bT] at h ⊢;exact ⟨⟨h.1.1,hx h.1.2⟩,hx h.2⟩
 |mapUpdate t m k x=>simp only [fR,bT] at h ⊢;exact ⟨⟨⟨h.1.1.1,hx h.1.1.2⟩,hx h.1.2⟩,hx h.2⟩
 |_=>first|exact hx h|exact h
theorem eO:∀ {c:Code},aA P F c=true->aA P F' c=true:=by
 intro c;induction c with
 |region id ops d=>intro h;exact ip (fun _=>vI hF) h
 |seq a b iha ihb=>intro h;simp only [aA,bT] at h ⊢;exact ⟨iha h.1,ihb h.2⟩
 |cond c a b iha ihb=>intro h;simp only [aA,bT] at h ⊢;exact ⟨⟨ky hF h.1.1,iha h.1.2⟩,ihb h.2⟩
 |block id a ih=>intro h;exact ih h
 |loop a ih=>intro h;exact ih h
 |scope a ih=>intro h;exact ih h
 |rangeFunc f ps a b iha ihb=>intro h;simp only [aA,bT] at h ⊢;exact ⟨⟨ky hF h.1.1,iha h.1.2⟩,ihb h.2⟩
 |_=>intro h;exact h
end
structure Ren.sub' (ρ ρ':Ren):Prop where
 rel:∀a b,ρ a b->ρ' a b
 prog:ρ'.prog=ρ.prog
 F:∀f,ρ.F f=true->ρ'.F f=true
 bad:ρ'.bad=ρ.bad
section
variable {ρ ρ':Ren} (l:ρ.sub' ρ')
include l
theorem RA.re {a a':Addr}(h:RA ρ a a'):RA ρ' a a':=⟨l.rel _ _ h.1,h.2⟩
theorem RAo.re {a a':Option Addr}(h:RAo ρ a a'):RAo ρ' a a':=by
 cases h with
 |none=>exact .none
 |some h=>exact .some (RA.re l h)
theorem RNo.re {a a':Option Nat}(h:RNo ρ a a'):RNo ρ' a a':=by
 cases h with
 |none=>exact .none
 |some h=>exact .some (l.rel _ _ h)
theorem RFn.re {a a':Fn}(h:RFn ρ a a'):RFn ρ' a a':=by
 cases h with
 |func f h=>exact .func f (l.F _ h)
 |yield h=>exact .yield (l.rel _ _ h)
theorem RV.re {v v':Wq}(h:RV ρ v v'):RV ρ' v v':=by
 induction h with
 |bool b=>exact .bool b
 |int k n=>exact .int k n
 |string s=>exact .string s
 |pointer h=>exact .pointer (RAo.re l h)
 |slice n c h=>exact .slice n c (RAo.re l h)
 |map h=>exact .map (RNo.re l h)
 |chan h=>exact .chan (RNo.re l h)
 |func hf ha hc _ _ i1 i2=>exact .func (RFn.re l hf) ha hc i1 i2
 |nilFunc=>exact .nilFunc
 |iface t _ ih=>exact .iface t ih
 |nilIface=>exact .nilIface
 |agg hc _ ih=>exact .agg hc ih
 |tuple hc _ ih=>exact .tuple hc ih
 |dead v' h=>exact .dead v' h
 |odd n s a c hn=>exact .odd n s a c (hn.trans l.bad.symm)
theorem RVs.re {c c':Array Wq}(h:RVs ρ c c'):RVs ρ' c c':=⟨h.size,fun i v v' h1 h2=>RV.re l (h.at_ i v v' h1 h2)⟩
theorem RT.re {a a':Target}(h:RT ρ a a'):RT ρ' a a':=by
 cases h with
 |fn hf hc=>exact .fn (RFn.re l hf) (RVs.re l hc)
 |nil=>exact .nil
 |builtin b hb a ha t cs=>exact .builtin b (vH l.F hb) a (by rw [l.prog];exact ha) t cs
 |collected h=>exact .collected (l.rel _ _ h)
theorem RD.re {a a':Deferred}(h:RD ρ a a'):RD ρ' a a':=by
 cases h with
 |mk h1 h2=>exact .mk (RT.re l h1) (RVs.re l h2)
 |odd n v a s c a' hn=>exact .odd n v a s c a' (hn.trans l.bad.symm)
theorem RDs.re {a a':List Deferred}(h:RDs ρ a a'):RDs ρ' a a':=by
 induction h with
 |nil=>exact .nil
 |cons h _ hS ih=>exact .cons (RD.re l h) ih (hS.imp id (fun k=>by
  rw [Bool.or_eq_true] at k ⊢;exact k.imp (l.F _) (l.F _)))
theorem RL.re {a a':Loop}(h:RL ρ a a'):RL ρ' a a':=⟨h.state,h.pending,h.fn,RVs.re l h.tmps,h.params,h.assign,h.body,l.rel _ _ h.defers,by rw [l.prog];exact eO l.F h.okA,by rw [l.prog];exact eO l.F h.okBo,fun c e=>by rw [l.prog];exact eO l.F (h.okP c e)⟩
theorem RMs.re {a a':List MapEntry}(h:RMs ρ a a'):RMs ρ' a a':=by
 induction h with
 |nil=>exact .nil
 |cons b hk h _ ih=>exact .cons b (RV.re l hk) (RV.re l h) ih
theorem RO.re (hb:ρ'.F lp=ρ.F lp){a a':Obj}(h:RO ρ a a')(hc:a.isChan=true->RO ρ' a a'):RO ρ' a a':=by
 cases h with
 |cells e hz h=>exact .cells e (by rw [hb];exact hz) (RVs.re l h)
 |chan=>exact hc rfl
 |map c h=>exact .map c (RMs.re l h)
 |stringIter s n=>exact .stringIter s n
 |loop h=>exact .loop (RL.re l h)
 |deferred h=>exact .deferred (RDs.re l h)
 |taken=>exact .taken
 |number b h=>exact .number b (RA.re l h)
 |dead _ h=>exact .dead _ h
variable {P:Wx}
theorem RI.re {i i':Item}(h:RI P ρ i i'):RI P ρ' i i':=by
 cases h with
 |code h=>exact .code (eO l.F h)
 |inBlock id=>exact .inBlock id
 |inLoop h=>exact .inLoop (eO l.F h)
 |inScope h=>exact .inScope (eO l.F h)
 |inRegion k h=>exact .inRegion k (ip (fun _=>vI l.F) h)
 |regionEnd a b=>exact .regionEnd a b
 |inRangeFunc h=>exact .inRangeFunc (l.rel _ _ h)
 |endRangeFunc h=>exact .endRangeFunc (l.rel _ _ h)
 |beginRound=>exact .beginRound
theorem RIs.re {k k':List Item}(h:RIs P ρ k k'):RIs P ρ' k k':=by
 induction h with
 |nil=>exact .nil
 |cons h _ ih=>exact .cons (RI.re l h) ih
theorem RPn.re {k k':List PanicEntry}(h:RPn ρ k k'):RPn ρ' k k':=by
 induction h with
 |nil=>exact .nil
 |cons r g h _ ih=>exact .cons r g (RV.re l h) ih
theorem RM.re {m m':FrameMode}(h:RM ρ m m'):RM ρ' m m':=by
 cases h with
 |run=>exact .run
 |returning=>exact .returning
 |panicking h=>exact .panicking (RPn.re l h)
theorem RFr.re {f f':Wv}(h:RFr P ρ f f'):RFr P ρ' f f':=⟨h.fn,RVs.re l h.tmps,RIs.re l h.todo,RDs.re l h.defers,RM.re l h.mode,h.early,RNo.re l h.round⟩
theorem RFs.re {X Y:List Wv×List Wv}(hY:RFs P ρ' Y X.1 X.2)(h2:2<=X.1.length)(hne:Y.2.length<X.2.length){k k':List Wv}(h:RFs P ρ X k k'):RFs P ρ' Y k k':=by
 induction h with
 |base=>exact hY
 |cons h hk hl ih=>
  refine .cons (RFr.re l h) ⟨fun _=>hk.1 (.inr h2),fun e=>?_⟩ ih;have:=hl.len;rw [e] at this;omega
theorem RGo.re {X Y:List Wv×List Wv}(hY:RFs P ρ' Y X.1 X.2)(h2:2<=X.1.length)(hne:Y.2.length<X.2.length){g g':Wj}(h:RGo P ρ X g g'):RGo P ρ' Y g g':=by
 refine ⟨RFr.re l h.frame,RFs.re l hY h2 hne h.callers,⟨fun _=>h.kind.1 (.inr h2),fun e=>?_⟩,h.status,h.dying,h.offers⟩;have:=h.callers.len;rw [e] at this;omega
end
end
section
open Go
open Go.Conc (crowd Past EvL Deaf QuitsD)
variable {P:Wx} [Two P]
def Ren.back (ρ ρ0:Ren):Ren where
 rel:=ρ.rel
 fn:=ρ.fn
 inj:=ρ.inj
 prog:=ρ.prog
 F:=ρ0.F
 old:=fun _=>False
 ch:=fun _=>False
 loose:=false
 wide:=false
 tight:=fun _=>rfl
 pin:=ρ.pin
 bad:=ρ.bad
 noM:=ρ.noM
theorem zC {D:PhD P}{Post:Wq->Wz->Prop}{ρ0:Ren}(hR0:∀a b,ρ0 a b->D.R0 a b)(hI:GId P ρ0)(hE:fH P ρ0.F)(hS:ρ0.F fS=false)(hBM:ρ0.F lq=false)(hF:∀f,D.Fp f=true->ρ0.F f=true)(hFb:ρ0.F lp=D.Fp lp)(hO0:ρ0.bad=D.U.bad)(hX:RFs P ρ0 ([trap P.alt],[]) D.X.1 D.X.2)(h2:2<=D.X.1.length)(h3:0<D.X.2.length)
  (hsolo:∀h V,LSs P.alt D.T D.h0 D.V0 h V->oA P D.U ρ0.F [] Post h V):
  ∀ρ h g V W n s q tm gs sl t qs,Side P D.X ρ h g V W D.cV D.c []->zB D ρ V W->Kp D.U W/\Off D.U ρ->W.heap[D.c]?=some (.chan n #[] true s q tm)->LSs P.alt D.T D.h0 D.V0 h V->gs[0]?=some g->Lv P (fun _=>False) t gs qs->Past gR W.heap.size t->Fin P Post gs W sl t:=by
 intro ρ h g V W n s q tm gs sl t qs S O hU hrow hp h0 hL hP;have hprog:ρ0.prog=ρ.prog:=hI.prog.trans S.gid.prog.symm;have l0:ρ0.sub' (ρ.back ρ0):=⟨fun a b k=>O.base.1 a b (hR0 a b k),hprog.symm,fun f k=>k,hU.2.2.2.2.trans hO0.symm⟩;have l1:ρ.sub' (ρ.back ρ0):=⟨fun a b k=>k,rfl,fun f k=>hF f (by rw [<-O.base.2];exact k),rfl⟩;have hX':RFs P (ρ.back ρ0) ([trap P.alt],[]) D.X.1 D.X.2:=by
  have key:∀ {k k':List Wv},RFs P ρ0 ([trap P.alt],[]) k k'->RFs P (ρ.back ρ0) ([trap P.alt],[]) k k':=fun h=>by
   induction h with
   |base=>exact .base
   |cons h hk _ ih=>exact .cons (RFr.re l0 h) hk ih
  exact key hX
 refine hsolo h V hp gs g W sl t qs (ρ.back ρ0) h0 hL hP ⟨RGo.re l1 hX' h2 h3 S.go,⟨fun a b hab=>?_,fun a k=>k.elim,fun c k=>k.elim,S.sim.os,fun hb a c0 hp=>S.sim.pin (by rw [O.base.2,<-hFb];exact hb) a c0 hp⟩,⟨fun g hg=>O.base.1 _ _ (hR0 _ _ (hI.glob g hg)),S.gid.prog,hI.code,hI.alt,fun _ _ k=>k,hI.same,hI.size,hI.apart⟩,hE,hS,rfl,⟨rfl,rfl⟩,⟨hBM,fun a b o hab ho hc=>?_⟩,hU⟩
 rotate_left
 .by_cases ha:a=D.cV
  .subst ha;obtain ⟨n1,b1,s1,q1,tm1,k1,k2⟩:=S.row;rw [k1] at ho;cases ho;have hb:b1=#[]:=Array.toList_inj.1 (by simpa using k2);subst hb;exact ⟨_,_,_,_,rfl⟩
  .obtain ⟨n1,s1,q1,tm1,n2,s2,q2,k1,k2⟩:=O.rest a b (O.all a b o hab ho hc) hab ha;rw [k1] at ho;cases ho;exact ⟨_,_,_,_,rfl⟩
 obtain ⟨o,o',e1,e2,e3⟩:=S.sim.obj a b hab;refine ⟨o,o',e1,e2,RO.re l1 (by rw [O.base.2];exact hFb) e3 (fun hc=>?_)⟩;by_cases ha:a=D.cV
 .subst ha;obtain rfl:b=D.c:=ρ.fn _ _ _ hab S.pair;obtain ⟨n1,b1,s1,q1,tm1,k1,k2⟩:=S.row;rw [k1] at e1;cases e1;rw [hrow] at e2;cases e2;have hb:b1=#[]:=Array.toList_inj.1 (by simpa using k2);subst hb;cases e3;exact .chan _ _ _ _ _ _ _ _ _ (.inr RVs.nil) (.inr rfl)
 .obtain ⟨n1,s1,q1,tm1,n2,s2,q2,k1,k2⟩:=O.rest a b (O.all a b o hab e1 hc) hab ha;rw [k1] at e1;cases e1;rw [k2] at e2;cases e2;exact .chan _ _ _ _ _ _ _ _ _ (.inr RVs.nil) (.inr rfl)
end
section
open Go
open Go.Conc (crowd Past EvL Deaf QuitsD)
def dA (P:Wx):Wv:={(default:Wv) with fn:=P.funcs.size,defers:=[],mode:=.panicking [goexitEntry]}
section
variable {P:Wx}
theorem um (w:Wz):stepG P false {frame:=dA P,callers:=[],status:=.running,dying:=none} w=.go {frame:=dA P,callers:=[],status:=.finished,dying:=none} w #[]:=by
 have hc:(dA P).catches P=false:=by
  have e:(dA P).todo=[]:=rfl;unfold Frame.catches;rw [e];cases P.funcs[(dA P).fn]?<;>rfl
 have e:stepG P false {frame:=dA P,callers:=[],status:=.running,dying:=none} w=unwind P false (dA P) [] none w:=rfl;rw [e];unfold unwind;simp only [hc];rfl
theorem xA {fr:Wv}{fn:Func}(hf:P.funcs[fr.fn]?=some fn)(hr:fn.results=#[])(hm:fr.mode=.returning)(hd:fr.defers=[])(w:Wz):stepG P false {frame:=fr,callers:=[dA P],status:=.running,dying:=none} w=.go {frame:=dA P,callers:=[],status:=.running,dying:=none} w #[]:=by
 have e1:(results fn fr.tmps).runT P w #[]=(.ok (.tuple #[]) w,#[]):=by
  unfold results;rw [hr,Array.mapM_eq_mapM_toList];rfl
 have e2:doReturn P false fr [dA P] none (.tuple #[]) w=.go {frame:=dA P,callers:=[],status:=.running,dying:=none} w #[]:=by
  unfold doReturn;cases h:fr.kind<;>rfl
 simp only [stepG,hm,unwind,hd,hf,e1,e2,ft,bQ]
theorem xB {fr:Wv}{fn:Func}(hf:P.funcs[fr.fn]?=some fn)(hr:fn.results=#[])(hm:fr.mode=.returning)(hd:fr.defers=[]):QuitsD P 2 0 {frame:=fr,callers:=[dA P],status:=.running,dying:=none}:=
 .inr ⟨rfl,_,#[],by simp,xA hf hr hm hd,.inr ⟨rfl,_,#[],by simp,um,rfl,rfl⟩⟩
theorem rq {c n s q:Nat}{b:Array Wq}{tm:Bool}{W:Wz}(at_:Array TypeId)(t:TypeId)(cs:Array Bool)(h:W.heap[c]?=some (.chan n b false s q tm)):(invoke (.builtin .close at_ t cs) #[.chan (some c)]).runT P W #[]=(.ok (.value (.tuple #[])) (dN W c n b s q tm),#[⟨.obj c,false,true⟩,⟨.obj c,true,true⟩]):=by
 show Sem.runT P (Sem.getObj c _) W #[]=_;simp only [Sem.runT,h];show Sem.runT P (Sem.setObj c (.chan n b true s q tm) _) W _=_;simp only [Sem.runT,h];rfl
variable [Two P]
def D7 (P:Wx) [Two P](f:FuncId)(cs:Nat)(h:Wj):Prop:=
 h.callers=[trap P.alt]/\h.frame.fn=f/\h.frame.mode=.returning/\∃at_ t k,h.frame.defers=[{target:=.builtin .close at_ t k,args:=#[.chan (some cs)]}]
theorem B3 {f:FuncId}{fn:Func}(hfn:P.funcs[f]?=some fn)(hres:fn.results=#[]){ρ:Ren}{h g:Wj}{V W:Wz}{cs c:Nat}{L:List Wq}(S:Snd P ([trap P.alt],[dA P]) ρ h g V W cs c L)(hA:D7 P f cs h){n:Nat}{b:Array Wq}{s q:Nat}{tm:Bool}(hrow:W.heap[c]?=some (.chan n b false s q tm)):
  ∃g',mayWake P g=true/\g'.status=.running/\stepG P false g W=.go g' (dN W c n b s q tm) #[⟨.obj c,false,true⟩,⟨.obj c,true,true⟩]/\∃m,QuitsD P m 0 g':=by
 obtain ⟨h1,h2,h3,at_,t,k,h4⟩:=hA;have hcs:g.callers=[dA P]:=by
  have hl:=S.go.callers;rw [h1] at hl;generalize hX:(([trap P.alt],[dA P]):List Wv×List Wv)=X at hl;generalize hl0:[trap P.alt]=l at hl;generalize g.callers=l' at hl ⊢;cases hl with
  |base=>rw [<-hX]
  |cons _ _ hl=>
   cases hl0;have:=hl.len1;rw [<-hX] at this;simp at this
 have hm:g.frame.mode=.returning:=by
  have:=S.go.frame.mode;rw [h3] at this;generalize g.frame.mode=x at this;cases this;rfl
 have hd:g.frame.defers=[{target:=.builtin .close at_ t k,args:=#[.chan (some c)]}]:=by
  have:=S.go.frame.defers;rw [h4] at this;generalize g.frame.defers=x at this;cases this with
  | @cons _ d' _ _ hd hl _=>
   cases hl;obtain ⟨tg,ar⟩:=d';obtain ⟨ht,ha⟩:=hd;simp only at ht ha;cases ht;have hsz:=ha.size;obtain ⟨l⟩:=ar;rcases l with - |⟨x,- |⟨y,l⟩⟩<;>simp at hsz
   have:=ha.at_ 0 _ x rfl rfl;cases this with
   |chan hc=>
    cases hc with
    |some hc=>rw [ρ.fn _ _ _ hc S.pair]
 have hfn':P.funcs[g.frame.fn]?=some fn:=by rw [<-S.go.frame.fn,h2];exact hfn
 have hse:seen P g.frame.fn #[⟨.obj c,false,true⟩,⟨.obj c,true,true⟩]=#[⟨.obj c,false,true⟩,⟨.obj c,true,true⟩]:=by unfold seen;simp
 obtain ⟨fr,cl,st,dy,of⟩:=g;simp only at hcs hm hd hfn' hse;subst hcs;have hdy:dy=none:=S.go.dying.2;subst hdy;refine ⟨{frame:={fr with defers:=[]},callers:=[dA P],status:=.running,dying:=none},?_,rfl,?_,2,xB (fr:={fr with defers:=[]}) hfn' hres hm rfl⟩
 .simp only [mayWake,hm]
 .simp only [stepG,hm,unwind,hd];unfold callDeferred;simp only [rq at_ t k hrow];simp [hse,GStep.after]
end
end
section
open Go
variable {P:Wx} [Two P]
theorem D8 {U:Outer}{G:FuncId->Bool}{Post:Wq->Wz->Prop}{f page:FuncId}{R:(Nat->Question->Nat)->Nat->Ending->Wz->Prop}(hpage:G page=false)(hinit:P.inits.idxOf? f=none)
  (hR:∀τ d e u,R τ d e u->e=.returned (.bool true)\/∃t a c r x l,e=.panicked ({v:=.iface t (.func (.func page) a c),recovered:=r,goexit:=x} :: l))
  (hpost:∀h V ρ g W ρ' W',Ends P.alt f R h V->h.frame.mode=.returning->Rel P U G [] ρ h g V W->ρ.le ρ'->bm ρ' V W'->Kp U W'->Post (.bool true) W'):Leaf P U G (Ends P.alt f R) Post:=by
 intro h g V W ρ hT hRel d;have hT0:=hT;obtain ⟨τ,d0,τ',d',e,fr,hr,rfl,hfn,hlv,-⟩:=hT;have hcs:g.callers=[]:=RFs.nil_of hRel.go.callers;obtain ⟨gf,gc,gst,gd,go⟩:=g;simp only at hcs;subst hcs;obtain rfl:gd=none:=hRel.go.dying.2;have hfr:=hRel.go.frame;simp only at hfr;rcases hR _ _ _ _ hr with rfl|⟨t,a,c,r,x,l,rfl⟩
 .obtain ⟨hm,hd,hk,fn,hfa,hrun⟩:=hlv;have hm':gf.mode=.returning:=by
   have:=hfr.mode;rw [hm] at this;generalize gf.mode=y at this;cases this;rfl
  have hd':gf.defers=[]:=by
   have:=hfr.defers;rw [hd] at this;generalize gf.defers=y at this;cases this;rfl
  obtain ⟨fn2,hf2⟩:∃fn2,P.funcs[fr.fn]?=some fn2:=by
   cases hx:P.funcs[fr.fn]? with
   |some y=>exact ⟨y,rfl⟩
   |none=>rw [(ku hRel.gid fr.fn).2 hx] at hfa;cases hfa
  rw [ng hRel.gid hfa hf2 fr.tmps] at hrun;have hS:bm ρ (V.on τ' d') (W.at d):=⟨hRel.sim.obj,hRel.sim.fix,hRel.sim.chan,hRel.sim.os,hRel.sim.pin⟩;have hrs:RS P QV ρ (results fn2 fr.tmps) (results fn2 gf.tmps):=oz fn2 hfr.tmps;have halt:((results fn2 fr.tmps).runT P.alt (V.on τ' d') #[]).1=.ok (.bool true) (V.on τ' d'):=by rw [Sem.runT_fst];exact hrun
  obtain ⟨m1,o1⟩:=pp hrs (V.on τ' d') ((W.at d).on τ' d') #[] #[] ⟨hRel.sim.obj,hRel.sim.fix,hRel.sim.chan,hRel.sim.os,hRel.sim.pin⟩ (fun i _=>rfl);have hP1:(results fn2 fr.tmps).runT P (V.on τ' d') #[]=(results fn2 fr.tmps).runT P.alt (V.on τ' d') #[]:=by
   rcases o1 with ⟨-,x,u,k,-⟩|⟨k,-⟩
   .rw [halt] at k;cases k
   .exact k.symm
  have hP2:((results fn2 fr.tmps).runT P (V.on W.tape d) #[]).1=.ok (.bool true) (V.on W.tape d):=by
   have m3:=m1.2.2;have hw:((results fn2 fr.tmps).runT P (V.on τ' d') #[]).1=.ok (.bool true) (V.on τ' d'):=by rw [hP1];exact halt
   have:=m3 W.tape d (fun i hi=>by rw [hw] at hi;simp only [Result.w] at hi;omega);rw [zv] at this;rw [this];show Result.on W.tape d d' ((results fn2 fr.tmps).runT P (V.on τ' d') #[]).1=_;rw [hw];show Result.ok _ ((V.on τ' d').on W.tape (d+(d'-d')))=_;rw [Nat.sub_self,Nat.add_zero,zv]
  obtain ⟨-,o2⟩:=pp hrs (V.on W.tape d) (W.at d) #[] #[] ⟨hRel.sim.obj,hRel.sim.fix,hRel.sim.chan,hRel.sim.os,hRel.sim.pin⟩ (fun i _=>rfl);rcases o2 with ⟨⟨x,u,k,-⟩,-⟩|⟨-,ρ',le,S',hRR,K,-,-,E,-,-⟩
  .rw [hP2] at k;cases k
  rw [hP2] at hRR S';generalize hcr:(results fn2 gf.tmps).runT P (W.at d) #[]=cr at hRR S' K E;obtain ⟨r2,es⟩:=cr;simp only at hRR S' K E;cases hRR with
  | @ok _ v' _ W' hv=>
   have hv:RV ρ' (.bool true) v':=hv;cases hv;obtain ⟨E0,hE1,hE2⟩:=E;refine ⟨.bool true,seen P gf.fn es,ρ',V.on W.tape d,W',?_,hpost _ V ρ _ W ρ' W' hT0 hm hRel le ⟨S'.obj,S'.fix,S'.chan,S'.os,S'.pin⟩ (hRel.out.1.keep hRel.out.2 ⟨K.os,K.output,K.tape,K.size,K.block⟩),S',K.size,fun e he=>hE2 e (by have:=dF he;rw [hE1] at this;simpa using this)⟩;have hf2':P.funcs[gf.fn]?=some fn2:=by rw [<-hfr.fn];exact hf2
   have hin:P.inits.idxOf? gf.fn=none:=by rw [<-hfr.fn,hfn];exact hinit
   have hret:doReturn P true gf [] none (.bool true) W'=.ended (.done (.bool true)) W':=by
    unfold doReturn;have:=hfr.early.2.2;cases hkd:gf.kind with
    |report=>exact absurd hkd this
    |_=>simp [hin]
   simp only [stepG,hm',unwind,hd',hf2',hcr,hret];simp [GStep.after]
 .obtain ⟨hm,-⟩:=hlv;exfalso;have:=hfr.mode;rw [hm] at this;generalize gf.mode=y at this;cases this with
  |panicking hp=>
   cases hp with
   |cons _ _ hv _=>
    cases hv with
    |iface _ hv=>
     cases hv with
     |func hf _ _ _ _=>
      cases hf with
      |func _ hF=>rw [hRel.same,hpage] at hF;cases hF
end
section
open Go
open Go.Conc (crowd Past EvL Deaf QuitsD woken awake crowd_pick runT_crowd_go)
open Go.ConcN (sumTo upd sumTo_upd upd_ne upd_same)
variable {P:Wx} {Post:Wq->Wz->Prop}
theorem br (W:Wz)(a b:Nat):(W.at a).at b=W.at b:=rfl
theorem zD {g g' child:Wj}{W:Wz}(hr:g.status=.running)(h:∀d,stepG P true g (W.at d)=.spawn g' child (W.at d) #[]){ρr ρs:Ren}
  (hfin:∀ (gs:Array Wj) (sl:Option (Nat×Nat)) (t:Trace) (q:Nat->Nat) (d k:Nat),k≠0->gs[0]?=some g'->gs[k]?=some child->Lv P (fun i=>i=k) t gs q->PhT 0 k ρr ρs W.heap.size t->Fin P Post gs (W.at d) sl t):
  ∀ (gs:Array Wj) (sl:Option (Nat×Nat)) (t:Trace) (q:Nat->Nat) (d:Nat),gs[0]?=some g->Lv P (fun _=>False) t gs q->Past gR W.heap.size t->Fin P Post gs (W.at d) sl t:=by
 intro gs sl t q d h0 hL hP;obtain ⟨M,hM⟩:∃M,sumTo gs.size q<=M:=⟨_,lR _⟩;induction M using Nat.strongRecOn generalizing gs sl t q d with
 |_ M ihM=>
  obtain ⟨i,x,d',sl',hi,hx,hst⟩:=crowd_pick (P:=P) (w:=W.at d) (sl:=sl) (il hL h0 hr) ⟨0,g,h0,hr⟩;rw [br] at hst;have hlt:0<gs.size:=(eS h0).1;rcases Nat.eq_zero_or_pos i with rfl|hpos
  .obtain rfl:x=g:=by rw [h0] at hi;exact (oJ hi).symm
   have hrt:=Conc.runT_crowd_spawn (P:=P) (sl:=sl') (i:=0) hi (show stepG P (0==0) x (W.at d')=_ from h d');have hops:((MemOp.ofEvents 0 x.frame.fn x.frame.place #[]).push {g:=0,fn:=x.frame.fn,pos:=x.frame.place,act:=.go gs.size} |>.push {g:=gs.size,fn:=child.frame.fn,pos:=x.frame.place,act:=.start})=#[{g:=0,fn:=x.frame.fn,pos:=x.frame.place,act:=.go gs.size},{g:=gs.size,fn:=child.frame.fn,pos:=x.frame.place,act:=.start}]:=rfl;rw [hops] at hrt;have hst2:∀op∈(#[{g:=0,fn:=x.frame.fn,pos:=x.frame.place,act:=.go gs.size},{g:=gs.size,fn:=child.frame.fn,pos:=x.frame.place,act:=.start}]:Trace),op.act≠.mark .disable/\op.act≠.mark .enable:=fun op hop=>by
    simp at hop;rcases hop with rfl|rfl<;>exact ⟨by simp,by simp⟩
   refine Fin.next (hst.trans hrt) (hfin _ sl' _ q d' gs.size (by omega) (by rw [gP,if_neg (by simp;omega)];simp [hlt]) (by rw [gP,if_pos (by simp)]) ⟨fun j y hj hjk hy=>?_,fun j hj=>?_⟩ (PhT.start hP (by omega) (hL.above gs.size (lR _)) ⟨rfl,rfl⟩ ⟨rfl,rfl⟩))
   .rw [bj t j _ hst2];refine hL.old j y hj (fun k=>k) ?_;simp only [gP,Array.size_setIfInBounds] at hy;rw [if_neg hjk,sN (by omega)] at hy;exact hy
   .rw [bj t j _ hst2];exact hL.above j (by simp at hj;omega)
  .obtain ⟨gs',q',ops,e1,e2,e3,e4,e5,e6,-⟩:=slip (w:=W.at d) (d:=d') hL hP (jH W.heap.size) hi hx hpos (fun k=>k) (firm0 h0 hr _) (by rw [br];exact hst);rw [br] at e1;exact Fin.next e1 (ihM _ (by omega) gs' sl' (t++ops) q' d' ((e3 0 (.inl rfl)).trans h0) e4 e5 (lR _))
end
section
open Go
inductive Good:Wq->Prop
 |bool (b:Bool):Good (.bool b)
 |int (k:IntKind) (n:Int):Good (.int k n)
 |string (s:ByteArray):Good (.string s)
 |pointer (a:Option Addr):Good (.pointer a)
 |slice (a:Option Addr) (n c:Nat):Good (.slice a n c)
 |map (r:Option Nat):Good (.map r)
 |chan (r:Option Nat):Good (.chan r)
 |nilFunc:Good .nilFunc
 |nilIface:Good .nilIface
 |agg {c:Array Wq} (h:∀ (i:Nat) v,c[i]?=some v->Good v):Good (.agg c)
 |tuple {c:Array Wq} (h:∀ (i:Nat) v,c[i]?=some v->Good v):Good (.tuple c)
section
variable {ρ σ:Ren}
theorem np {Q:Wq->Wq->Wq->Prop}{c c':Array Wq}(hc:c.size=c'.size)(h:∀ (i:Nat) v v',c[i]?=some v->c'[i]?=some v'->∃v0,Q v v' v0):
  ∃c0:Array Wq,c0.size=c'.size/\∀ (i:Nat) v v',c[i]?=some v->c'[i]?=some v'->∃v0,c0[i]?=some v0/\Q v v' v0:=by
 have hx:∀i:_root_.Fin c'.size,∃v0,Q (c[i.1]'(by omega)) c'[i.1] v0:=fun i=>h i.1 _ _ (eG _) (eG _)
 refine ⟨Array.ofFn fun i=>(hx i).choose,by simp,fun i v v' h1 h2=>?_⟩;obtain ⟨hi,e1⟩:=eS h1;obtain ⟨hi',e2⟩:=eS h2;refine ⟨(hx ⟨i,hi'⟩).choose,?_,?_⟩
 .rw [Array.getElem?_ofFn];simp [hi']
 .have:=(hx ⟨i,hi'⟩).choose_spec;rw [<-e1,<-e2];exact this
theorem vJ {c c' c0:Array Wq}(hc:c.size=c'.size)(h0:c0.size=c'.size)(h:∀ (i:Nat) v v',c[i]?=some v->c'[i]?=some v'->∃v0,c0[i]?=some v0/\RV σ v0 v'/\(Good v->v0=v))(hg:∀ (i:Nat) v,c[i]?=some v->Good v):c0=c:=by
 refine Array.ext (by omega) (fun i h1 h2=>?_);have h3:i<c'.size:=by omega
 obtain ⟨v0,e,-,k⟩:=h i _ _ (eG h2) (eG h3);have:=k (hg i _ (eG h2));rw [eG h1] at e;cases e;exact this
theorem un {c c' c0:Array Wq}(hc:c.size=c'.size)(h0:c0.size=c'.size)(h:∀ (i:Nat) v v',c[i]?=some v->c'[i]?=some v'->∃v0,c0[i]?=some v0/\RV σ v0 v'/\(Good v->v0=v)):∀ (i:Nat) v v',c0[i]?=some v->c'[i]?=some v'->RV σ v v':=fun i v v' h1 h2=>by
 have hi:i<c'.size:=(eS h2).1;obtain ⟨v0,e,k,-⟩:=h i _ v' (eG (by omega)) h2;rw [h1] at e;cases e;exact k
theorem D9 (hrel:∀a b,ρ a b->σ a b)(ho:σ.bad=ρ.bad){v v':Wq}(h:RV ρ v v'):∃v0,RV σ v0 v'/\(Good v->v0=v):=by
 have hAo:∀ {a a':Option Addr},RAo ρ a a'->RAo σ a a':=fun h=>by
  cases h with
  |none=>exact .none
  |some h=>exact .some ⟨hrel _ _ h.1,h.2⟩
 have hNo:∀ {a a':Option Nat},RNo ρ a a'->RNo σ a a':=fun h=>by
  cases h with
  |none=>exact .none
  |some h=>exact .some (hrel _ _ h)
 induction h with
 |bool b=>exact ⟨_,.bool b,fun _=>rfl⟩
 |int k n=>exact ⟨_,.int k n,fun _=>rfl⟩
 |string s=>exact ⟨_,.string s,fun _=>rfl⟩
 |pointer h=>exact ⟨_,.pointer (hAo h),fun _=>rfl⟩
 |slice n c h=>exact ⟨_,.slice n c (hAo h),fun _=>rfl⟩
 |map h=>exact ⟨_,.map (hNo h),fun _=>rfl⟩
 |chan h=>exact ⟨_,.chan (hNo h),fun _=>rfl⟩
 |func hf ha hc _ _ _ _=>exact ⟨_,.dead _ (by cases hf<;>rfl),fun k=>by cases k⟩
 |nilFunc=>exact ⟨_,.nilFunc,fun _=>rfl⟩
 |iface t h _=>exact ⟨_,.dead _ rfl,fun k=>by cases k⟩
 |nilIface=>exact ⟨_,.nilIface,fun _=>rfl⟩
 |agg hc _ ih=>
  obtain ⟨c0,h0,h1⟩:=np hc ih;exact ⟨.agg c0,.agg h0 (un hc h0 h1),fun k=>by cases k with|agg k=>rw [vJ hc h0 h1 k]⟩
 |tuple hc _ ih=>
  obtain ⟨c0,h0,h1⟩:=np hc ih;exact ⟨.tuple c0,.tuple h0 (un hc h0 h1),fun k=>by cases k with|tuple k=>rw [vJ hc h0 h1 k]⟩
 |dead v' h=>exact ⟨_,.dead v' h,fun _=>rfl⟩
 |odd n s a c hn=>exact ⟨_,.odd n s a c (hn.trans ho.symm),fun k=>by cases k⟩
theorem vK (hrel:∀a b,ρ a b->σ a b)(ho:σ.bad=ρ.bad){c c':Array Wq}(h:RVs ρ c c'):∃c0,RVs σ c0 c'/\c0.size=c.size/\∀ (i:Nat) v,c[i]?=some v->Good v->c0[i]?=some v:=by
 obtain ⟨c0,h0,h1⟩:=np h.size (fun i v v' h1 h2=>D9 (σ:=σ) hrel ho (h.at_ i v v' h1 h2));refine ⟨c0,⟨h0,un h.size h0 h1⟩,by rw [h0,h.size],fun i v hv hg=>?_⟩;have hi:i<c.size:=(eS hv).1;obtain ⟨v0,e,-,k⟩:=h1 i v _ hv (eG (by rw [<-h.size];exact hi));rw [e,k hg]
theorem Ea (hrel:∀a b,ρ a b->σ a b)(ho:σ.bad=ρ.bad)(hF:σ.F lp=false){o o':Obj}(h:RO ρ o o'):∃o0,RO σ o0 o'/\Fixed o0/\o0.isChan=false/\∀c e z,o=.cells c e z->∃c0 z0,o0=.cells c0 e z0/\∀ (i:Nat) v,c[i]?=some v->Good v->c0[i]?=some v:=by
 cases h with
 | @cells c c' e z z' hz h=>
  obtain ⟨c0,k1,k2,k3⟩:=vK hrel ho h;refine ⟨.cells c0 e (0,max (max c.size z'.2) 1),.cells e (.inr ⟨hF,rfl,by simp;omega,by simp only;omega,by simp only;omega⟩) k1,⟨rfl,by simp only;omega⟩,rfl,fun c1 e1 z1 hc=>?_⟩;cases hc;exact ⟨c0,_,rfl,k3⟩
 |number b h=>exact ⟨_,.number b ⟨hrel _ _ h.1,h.2⟩,trivial,rfl,fun _ _ _ h=>by cases h⟩
 |dead o' h=>exact ⟨_,.dead o' h,trivial,rfl,fun _ _ _ h=>by cases h⟩
 |_=>exact ⟨_,.dead _ rfl,trivial,rfl,fun _ _ _ h=>by cases h⟩
end
def vM (o:Obj):Prop:=(∃c e z,o=.cells c e z)\/Fixed o
def Ren.low (ρ:Ren)(F:FuncId->Bool)(live:Nat->Prop)(c:Nat)(wide:Bool)(ht:F fS=true->wide=false):Ren where
 rel:=ρ.rel
 fn:=ρ.fn
 inj:=ρ.inj
 prog:=ρ.prog
 F:=F
 old:=fun a=>(∃b,ρ a b)/\¬live a/\a≠c
 ch:=fun a=>a=c
 loose:=true
 wide:=wide
 tight:=ht
 pin:=ρ.pin
 bad:=ρ.bad
 noM:=ρ.noM
theorem lower {ρ:Ren}{V W:Wz}(S:bm ρ V W){F:FuncId->Bool}{live:Nat->Prop}{c c':Nat}{wide:Bool}(ht:F fS=true->wide=false)(hF:F lp=false)(hc:ρ c c'){n n' s s' q q':Nat}{b b':Array Wq}{cl cl' tm:Bool}(hW:W.heap[c']?=some (.chan n' b' cl' s' q' tm))(hcl:wide=true\/cl=cl')
  (hlive:∀a,live a->a≠c/\∃x e z,V.heap[a]?=some (.cells x e z)/\(∀ (i:Nat) v,x[i]?=some v->Good v)/\∀y,ρ a y->∃x',W.heap[y]?=some (.cells x' e z)):
  ∃V':Wz,bm (ρ.low F live c wide ht) V' W/\V'.heap.size=V.heap.size/\V'.tape=V.tape/\V'.drawn=V.drawn/\V'.os=V.os/\V'.heap[c]?=some (.chan n b cl s q tm)/\(∀ (a:Nat) o,V'.heap[a]?=some o->o.isChan=true->a=c) /\
   (∀a y i v,ρ a y->V.cell? ⟨a,i,none⟩=some v->Good v->V'.cell? ⟨a,i,none⟩=some v)/\(∀a,live a->V'.heap[a]?=V.heap[a]?)/\∀a y,ρ a y->a≠c->∃o,V'.heap[a]?=some o/\vM o:=by
 classical
 generalize hσ:ρ.low F live c wide ht=σ;have hrel:∀a b,ρ a b->σ a b:=fun a b h=>by subst hσ;exact h
 have hrel':∀a b,σ a b->ρ a b:=fun a b h=>by subst hσ;exact h
 have hF':σ.F lp=false:=by subst hσ;exact hF
 have ho:σ.bad=ρ.bad:=by subst hσ;rfl
 have hlt:=(S.lt hc).1;have key:∀a:Nat,∃o0:Obj,(∀y,ρ a y->a≠c->∃o',W.heap[y]?=some o'/\RO σ o0 o')/\(a≠c->¬live a->Fixed o0)/\(a≠c->o0.isChan=false)/\(∀y x e z,ρ a y->a≠c->V.heap[a]?=some (.cells x e z)->∃x0 z0,o0=.cells x0 e z0/\∀ (i:Nat) v,x[i]?=some v->Good v->x0[i]?=some v)/\(live a->V.heap[a]?=some o0)/\(a=c->o0=.chan n b cl s q tm):=fun a=>by
  by_cases hac:a=c
  .exact ⟨.chan n b cl s q tm,fun _ _ k=>absurd hac k,fun k=>absurd hac k,fun k=>absurd hac k,fun _ _ _ _ _ k=>absurd hac k,fun k=>absurd hac (hlive a k).1,fun _=>rfl⟩
  by_cases hl:live a
  .obtain ⟨-,x,e,z,h1,h2,h3⟩:=hlive a hl;refine ⟨.cells x e z,fun y hy _=>?_,fun _ k=>absurd hl k,fun _=>rfl,fun y x1 e1 z1 hy _ hx=>?_,fun _=>h1,fun k=>absurd k hac⟩
   .obtain ⟨o,o',k1,k2,k3⟩:=S.obj a y hy;obtain ⟨x',k4⟩:=h3 y hy;rw [h1] at k1;cases k1;rw [k4] at k2;cases k2;cases k3 with
    |cells e hz h=>
     obtain ⟨c0,m1,m2,m3⟩:=vK (σ:=σ) hrel ho h;have:c0=x:=by
      refine Array.ext m2 (fun i i1 i2=>?_);have:=m3 i _ (eG i2) (h2 i _ (eG i2));rw [eG i1] at this;exact oJ this
     subst this;exact ⟨_,k4,.cells e (.inl rfl) m1⟩
   .rw [h1] at hx;cases hx;exact ⟨_,_,rfl,fun i v h _=>h⟩
  by_cases hy:∃y,ρ a y
  .obtain ⟨y,hy⟩:=hy;obtain ⟨o,o',k1,k2,k3⟩:=S.obj a y hy;obtain ⟨o0,m1,m2,m3,m4⟩:=Ea (σ:=σ) hrel ho hF' k3;refine ⟨o0,fun y2 hy2 _=>?_,fun _ _=>m2,fun _=>m3,fun y2 x e z hy2 _ hx=>?_,fun k=>absurd k hl,fun k=>absurd k hac⟩
   .obtain rfl:=ρ.fn _ _ _ hy hy2;exact ⟨o',k2,m1⟩
   .rw [hx] at k1;cases k1;exact m4 x e z rfl
  .exact ⟨.coro none,fun y k=>absurd ⟨y,k⟩ hy,fun _ _=>trivial,fun _=>rfl,fun y _ _ _ k=>absurd ⟨y,k⟩ hy,fun k=>absurd k hl,fun k=>absurd k hac⟩
 obtain ⟨f,key⟩:=Classical.skolem.1 key;generalize hV':({V with heap:=Array.ofFn (n:=V.heap.size) fun a=>f a.1}:Wz)=V';have hsz:V'.heap.size=V.heap.size:=by subst hV';simp
 have row:∀a,a<V.heap.size->V'.heap[a]?=some (f a):=fun a ha=>by
  subst hV';simp [ha]
 have rowc:V'.heap[c]?=some (.chan n b cl s q tm):=by rw [row c hlt,(key c).2.2.2.2.2 rfl]
 have onlyc:∀ (a:Nat) o,V'.heap[a]?=some o->o.isChan=true->a=c:=fun a o ho hch=>by
  refine Classical.byContradiction fun hne=>?_
  have ha:a<V.heap.size:=by rw [<-hsz];exact (eS ho).1
  rw [row a ha] at ho;cases ho;rw [(key a).2.2.1 hne] at hch;cases hch
 refine ⟨V',⟨fun a y hay=>?_,fun a hold=>?_,fun a hch=>?_,?_,fun hb=>by rw [hF'] at hb;cases hb⟩,hsz,by subst hV';rfl,by subst hV';rfl,by subst hV';rfl,rowc,onlyc,fun a y i v hay hv hg=>?_,fun a hl=>?_,fun a y hay hne=>?_⟩
 .have hay:=hrel' _ _ hay;have ha:=(S.lt hay).1;by_cases hac:a=c
  .subst hac;obtain rfl:=ρ.fn _ _ _ hay hc;subst hσ;exact ⟨_,_,rowc,hW,.chan _ _ _ _ _ _ _ _ _ (.inl rfl) hcl⟩
  .obtain ⟨o',k1,k2⟩:=(key a).1 y hay hac;exact ⟨_,o',row a ha,k1,k2⟩
 .subst hσ;obtain ⟨⟨y,hy⟩,h1,h2⟩:=hold;exact ⟨_,row a (S.lt hy).1,(key a).2.1 h2 h1⟩
 .subst hσ;have hch:a=c:=hch;subst hch;exact ⟨_,rowc,rfl⟩
 .subst hV';exact S.os
 .have ha:=(S.lt hay).1;unfold World.cell? at hv ⊢;rw [row a ha];cases hr:V.heap[a]? with
  |none=>rw [hr] at hv;cases hv
  |some o=>
   rw [hr] at hv;cases o with
   |cells x e z=>
    by_cases hac:a=c
    .subst hac;obtain ⟨o,o',k1,k2,k3⟩:=S.obj a c' hc;rw [hW] at k2;cases k2;rw [hr] at k1;cases k1;cases k3
    .obtain ⟨x0,z0,k1,k2⟩:=(key a).2.2.2.1 y x e z hay hac hr;rw [k1];simp only at hv ⊢;exact k2 i v hv hg
   |_=>cases hv
 .have ha:a<V.heap.size:=by
   obtain ⟨-,x,e,z,h1,-⟩:=hlive a hl;exact (eS h1).1
  exact (row a ha).trans ((key a).2.2.2.2.1 hl).symm
 .refine ⟨_,row a (S.lt hay).1,?_⟩;by_cases hl:live a
  .obtain ⟨-,x,e,z,h1,-⟩:=hlive a hl;have:=(key a).2.2.2.2.1 hl;rw [h1] at this;exact .inl ⟨x,e,z,(oJ this).symm⟩
  .exact .inr ((key a).2.1 hne hl)
section
variable {P:Wx} {N T:Wj->Wz->Prop} {g g':Wj} {w w':Wz}
theorem LC.status {c:CommCase}{s:CommShape}(h:LC P g c s w g' w'):g'.status=.running:=by
 cases h with
 |dead _ _ _ hg=>exact hg
 |_=>rfl
theorem LS.status (h:LS P g w g' w'):g'.status=.running:=by
 cases h with
 |go _ hr _=>exact hr
 |comm _ hc=>exact hc.status
theorem LS.next (hr:g.status=.running)(h:LS P g w g' w'){m:Machine}(hs:step P (solo g w)=.next m):m=solo g' w'\/∃b,b.status=.blocked/\m.gs=#[b]/\∃u,m=solo b u:=by
 cases h with
 |go h _ _=>
  rw [kw hr h] at hs;exact .inl (by cases hs;rfl)
 | @comm g1 c s w1 es _ _ h hc=>
  rw [ri hr h] at hs;by_cases hg1:g1.status=.running
  .rcases rj hg1 hs with ⟨b,q,hb,rfl⟩|rfl
   .obtain ⟨rfl,rfl⟩:=(LS.comm h hb).fn (LS.comm h hc);exact .inl rfl
   .exact .inr ⟨_,rfl,rfl,_,rfl⟩
  .have hs':(communicate P {timers:=#[],alone:=none,slice:=none} #[away] 0 g1 #[c] true s w1).1=.next m:=hs
   obtain ⟨ch,sd,z⟩:=c;cases hc with
   |dead _ _ _ hg=>exact absurd hg hg1
   |send h1 h2 h3 h4=>
    simp only at h1 h2;subst h1;subst h2;simp [communicate,ways,h3,bU,h4,choose,Sem.run,Question.forced,bind,Sem.bind,pure] at hs';exact .inl hs'.symm
   |recv h1 h2 h3 h4=>
    simp only at h1 h2;subst h1;subst h2;simp [communicate,ways,h3,bU,h4,choose,Sem.run,Question.forced,bind,Sem.bind,pure] at hs';refine .inl ?_;rw [<-hs'];simp [solo,h4]
   |shut h1 h2 h3=>
    simp only at h1 h2;subst h1;subst h2;simp [communicate,ways,h3,bU,choose,Sem.run,Question.forced,bind,Sem.bind,pure] at hs';exact .inl hs'.symm
theorem zE (hT:∀g w,T g w->∀n g2 w2,runN P n (solo g w)=.next (solo g2 w2)->g2.callers.length<=1):∀ (n:Nat)(g:Wj)(w:Wz),Dem P N T g w->g.status=.running->∀g2 w2,runN P n (solo g w)=.next (solo g2 w2)->g2.status=.running->1<g2.callers.length->LSs P T g w g2 w2/\Dem P N T g2 w2:=by
 intro n;induction n with
 |zero=>
  intro g w hD _ g2 w2 h _ _;simp only [runN,Stepped.next.injEq] at h;have e1:#[g]=#[g2]:=congrArg Machine.gs h;have e2:w=w2:=congrArg Machine.world h;simp at e1;subst e1;subst e2;exact ⟨.refl _ _,hD⟩
 |succ n ih=>
  intro g w hD hr g2 w2 h hr2 hl;cases hD with
  |stop k=>
   have:=hT g w k _ _ _ h;omega
  |step hN hnT hgo hn=>
   obtain ⟨g',w',hls⟩:=hgo w.tape w.drawn;have hls':LS P g w g' w':=hls;simp only [runN] at h;cases hs:step P (solo g w) with
   |ended o u=>rw [hs] at h;cases h
   |next m=>
    rw [hs] at h;rcases hls'.next hr hs with rfl|⟨b,hb,-,u,rfl⟩
    .obtain ⟨k1,k2⟩:=ih g' w' (hn _ _ _ _ hls) hls.status g2 w2 h hr2 hl;exact ⟨.step hnT w.tape w.drawn hls k1,k2⟩
    .cases n with
     |zero=>
      simp only [runN,Stepped.next.injEq] at h;have e1:#[b]=#[g2]:=congrArg Machine.gs h;simp at e1;subst e1;rw [hb] at hr2;cases hr2
     |succ n=>
      obtain ⟨o,z,e⟩:=ik (P:=P) (w:=u) (g:=b) hb;simp only [runN,e] at h;cases h
theorem Dem.on (hN:∀g w τ d,N g w->N g (w.on τ d))(hT:∀g w τ d,T g (w.on τ d)↔T g w)(h:Dem P N T g w)(τ:Nat->Question->Nat)(d:Nat):Dem P N T g (w.on τ d):=by
 cases h with
 |stop k=>exact .stop ((hT _ _ _ _).2 k)
 |step h1 h2 h3 h4=>exact .step (hN _ _ _ _ h1) (fun k=>h2 ((hT _ _ _ _).1 k)) h3 h4
theorem LSs.on {τ:Nat->Question->Nat}{d:Nat}(hT:∀g w τ d,T g (w.on τ d)↔T g w){g2:Wj}{w2:Wz}(h:LSs P T g (w.on τ d) g2 w2):(g2=g/\w2=w.on τ d)\/LSs P T g w g2 w2:=by
 cases h with
 |refl=>exact .inl ⟨rfl,rfl⟩
 |step hnT τ' d' h hs=>exact .inr (.step (fun k=>hnT ((hT _ _ _ _).2 k)) τ' d' h hs)
theorem oD {f:FuncId}{R:(Nat->Question->Nat)->Nat->Ending->Wz->Prop}(h:Ends P f R g w):∀n g2 w2,runN P n (solo g w)=.next (solo g2 w2)->g2.callers.length<=1:=by
 obtain ⟨τ,d,τ',d',e,fr,-,rfl,-,hlv,hne⟩:=h;intro n g2 w2 hrun;have same:∀ {a b:Wj} {u v:Wz},solo a u=solo b v->a=b:=fun h=>by
  have e1:=congrArg Machine.gs h;simpa [solo] using e1
 cases n with
 |zero=>
  simp only [runN,Stepped.next.injEq] at hrun;rw [<-same hrun];exact lR _
 |succ n=>
  have hst:(∃o u es,stepG P true {frame:=fr,callers:=[trap P],status:=.running,dying:=none} w=.ended o u es)\/∃f1 u es,stepG P true {frame:=fr,callers:=[trap P],status:=.running,dying:=none} w=.go {frame:=f1,callers:=[],status:=.running,dying:=none} u es/\(f1=trap P\/∃c,f1=(trap P).raise c):=by
   cases e with
   |outgrown=>exact absurd rfl hne
   |panicked c=>
    obtain ⟨hm,hd,fn,hf⟩:=hlv;have hc:fr.catches P=false:=by unfold Frame.catches;rw [hf]
    refine .inr ⟨(trap P).raise c,w,#[],?_,.inr ⟨c,rfl⟩⟩;simp only [stepG,hm,unwind,hd,hc];rfl
   |returned v=>
    obtain ⟨hm,hd,hk,fn,hf,-⟩:=hlv;have e0:stepG P true {frame:=fr,callers:=[trap P],status:=.running,dying:=none} w=unwind P true fr [trap P] none w:=by simp only [stepG,hm]
    rw [e0];unfold unwind;simp only [hd,hm,hf];cases hr:(results fn fr.tmps).runT P w #[] with
    |mk r es=>
     cases r with
     |ok v u=>
      obtain ⟨f1,e1,h1⟩:=jj (P:=P) fr (by rw [hk];rfl) v u;simp only [e1];exact .inr ⟨f1,_,_,rfl,h1⟩
     |halt x u=>cases x<;>exact .inl ⟨_,_,_,rfl⟩
  simp only [runN] at hrun;rcases hst with ⟨o,u,es,he⟩|⟨f1,u,es,he,hf1⟩
  .rw [eN (g:={frame:=fr,callers:=[trap P],status:=.running,dying:=none}) rfl he] at hrun;cases hrun
  .rw [kw (g:={frame:=fr,callers:=[trap P],status:=.running,dying:=none}) rfl he] at hrun;cases n with
   |zero=>
    simp only [runN,Stepped.next.injEq] at hrun;rw [<-same hrun];exact Nat.zero_le _
   |succ n=>
    obtain ⟨o,z,es2,e2⟩:=rl (P:=P) hf1 u;simp only [runN,eN (g:={frame:=f1,callers:=[],status:=.running,dying:=none}) rfl e2] at hrun;cases hrun
end
def Marks (ρ:Ren)(l:List Deferred):Prop:=∀d∈l,∃r b,d.target=.collected r/\ρ r b
theorem RDs.marks {ρ:Ren}(hS:(ρ.F fS||ρ.F lq)=false){l l':List Deferred}(h:RDs ρ l l'):Marks ρ l:=by
 induction h with
 |nil=>exact fun d hd=>by cases hd
 | @cons d d' l l' h _ hk ih=>
  intro x hx;rcases List.mem_cons.1 hx with rfl|hx
  .rcases hk with ⟨r,hr⟩|hk
   .cases h with
    |odd=>cases hr
    |mk this _=>
     rw [hr] at this;generalize d'.target=y at this;cases this with
     |collected k=>exact ⟨r,_,hr,k⟩
   .rw [hS] at hk;cases hk
  .exact ih x hx
inductive Fl (P:Wx)(ρ:Ren):List Wv->Prop
 |base:Fl P ρ [trap P]
 |cons {f:Wv} {l:List Wv} (hc:f.catches P=false) (hm:Marks ρ f.defers) (hl:Fl P ρ l):Fl P ρ (f::l)
theorem RFs.fl {P Q:Wx}{ρ:Ren}(hS:(ρ.F fS||ρ.F lq)=false){l l':List Wv}(h:RFs P ρ ([trap Q],[]) l l'):Fl Q ρ l:=by
 generalize hX:(([trap Q],[]):List Wv×List Wv)=X at h;induction h with
 |base=>rw [<-hX];exact .base
 |cons h _ _ ih=>exact .cons (eM h Q).1 (h.defers.marks hS) ih
def Ce (V w:Wz):Prop:=w.heap.size=V.heap.size/\∀a,w.cell? a=V.cell? a
theorem Eb {P:Wx}{f:FuncId}{R:(Nat->Question->Nat)->Nat->Ending->Wz->Prop}{ρ:Ren}{en:PanicEntry}{V:Wz}{g:Wj}{w:Wz}(hD:Dem P (fun g _=>NB [trap P] g) (Ends P f R) g w):
  ∀l,g.frame.mode=.panicking (en::l)->g.dying=none->g.frame.catches P=false->Marks ρ g.frame.defers->Fl P ρ g.callers->(∀r b,ρ r b->∀l,w.heap[r]?=some (.deferred (some l))->Marks ρ l)->Ce V w->∃τ d l u,R τ d (.panicked (en::l)) u/\Ce V u:=by
 induction hD with
 | @stop g w hT=>
  intro l hm hdy _ _ _ _ hce;obtain ⟨τ,d,τ',d',e,fr,hR,rfl,-,hlv,hne⟩:=hT;simp only at hm;cases e with
  |outgrown=>exact absurd rfl hne
  |returned v=>
   obtain ⟨h,-⟩:=hlv;rw [hm] at h;cases h
  |panicked c=>
   obtain ⟨h,-⟩:=hlv;rw [hm] at h;cases h;exact ⟨τ,d,l,_,hR,hce⟩
 | @step g w hN hT hgo hn ih=>
  intro l hm hdy hcat hmk hfl hrow hce;obtain ⟨g',w',hls⟩:=hgo w.tape w.drawn;have hls':LS P g w g' w':=hls;have hun:stepG P true g w=unwind P true g.frame g.callers none w:=by
   obtain ⟨fr,cs,st,dy,off⟩:=g;simp only at hm hdy;subst hdy;simp only [stepG,hm]
  cases hdf:g.frame.defers with
  |cons x ds=>
   obtain ⟨r,b,hx,hrb⟩:=hmk x (by rw [hdf];exact List.mem_cons_self ..);obtain ⟨tg,ar⟩:=x;simp only at hx;subst hx;have hrun:∀l0,w.heap[r]?=some (.deferred (some l0))->(Instr.takeDeferred r).runT P w #[]=(.ok l0 {w with heap:=w.heap.setIfInBounds r (.deferred none)},#[⟨.obj r,false,false⟩,⟨.obj r,true,false⟩]):=fun l0 h0=>by
    unfold Instr.takeDeferred;show Sem.runT P (Sem.getObj r _) w #[]=_;simp only [Sem.runT,h0];show Sem.runT P (Sem.setObj r (.deferred none) _) w _=_;simp only [Sem.runT,h0];rfl
   have hbad:(∀l0,w.heap[r]?≠some (.deferred (some l0)))->∃h u es,(Instr.takeDeferred r).runT P w #[]=(.halt h u,es):=fun hno=>by
    unfold Instr.takeDeferred;show ∃h u es,Sem.runT P (Sem.getObj r _) w #[]=(.halt h u,es);cases h0:w.heap[r]? with
    |none=>simp only [Sem.runT,h0];exact ⟨_,_,_,rfl⟩
    |some o=>
     cases o with
     |deferred q=>
      cases q with
      |none=>simp only [Sem.runT,h0];exact ⟨_,_,_,rfl⟩
      |some l0=>exact absurd h0 (hno l0)
     |_=>simp only [Sem.runT,h0];exact ⟨_,_,_,rfl⟩
   unfold unwind at hun;simp only [hdf] at hun;by_cases hex:∃l0,w.heap[r]?=some (.deferred (some l0))
   .obtain ⟨l0,h0⟩:=hex;rw [hrun l0 h0] at hun;have hun2:∃es,stepG P true g w=.go {frame:={g.frame with defers:=l0++ds},callers:=g.callers,status:=.running,dying:=none} {w with heap:=w.heap.setIfInBounds r (.deferred none)} es:=⟨_,hun⟩;obtain ⟨es,hun2⟩:=hun2;cases hls' with
    |comm h _=>rw [hun2] at h;cases h
    |go h _ _=>
     rw [hun2] at h;cases h;refine ih _ _ _ _ hls l hm rfl hcat (fun d hd=>?_) hfl (fun r1 b1 hr1 l1 h1=>?_) ⟨?_,fun a=>?_⟩
     .rcases List.mem_append.1 hd with k|k
      .exact hrow r b hrb l0 h0 d k
      .exact hmk d (by rw [hdf];exact List.mem_cons_of_mem _ k)
     .by_cases e:r=r1
      .subst e;simp only at h1;rw [sS (eS h0).1] at h1;cases h1
      .simp only [sN e] at h1;exact hrow r1 b1 hr1 l1 h1
     .simp only [Array.size_setIfInBounds];exact hce.1
     .rw [<-hce.2 a];unfold World.cell?;by_cases e:r=a.block
      .simp only [<-e,sS (eS h0).1,h0]
      .simp only [sN e]
   .obtain ⟨h,u,es,hb⟩:=hbad (fun l0 k=>hex ⟨l0,k⟩);rw [hb] at hun;exfalso;have:∃o u es,stepG P true g w=.ended o u es:=⟨_,_,_,hun⟩;obtain ⟨o,u,es,hun⟩:=this;cases hls' with
    |comm h _=>rw [hun] at h;cases h
    |go h _ _=>rw [hun] at h;cases h
  |nil=>
   unfold unwind at hun;simp only [hdf,hm,hcat] at hun;generalize hcs:g.callers=cs at hfl hun;cases hfl with
   |base=>
    exfalso;rcases hN hcs with k|k
    .rw [hm] at k;cases k
    .exact k hdf
   | @cons c rest hc1 hm1 hl1=>
    have hun2:stepG P true g w=.go {frame:=c.raise (en::l),callers:=rest,status:=.running,dying:=none} w #[]:=hun;cases hls' with
    |comm h _=>rw [hun2] at h;cases h
    |go h _ _=>
     rw [hun2] at h;cases h;have hr:∃l2,(c.raise (en::l)).mode=.panicking (en::l2):=by
      unfold Frame.raise;cases c.mode with
      |panicking ch=>exact ⟨l++ch,rfl⟩
      |_=>exact ⟨l,rfl⟩
     obtain ⟨l2,hr⟩:=hr;have hk:(c.raise (en::l)).defers=c.defers/\(c.raise (en::l)).catches P=c.catches P:=by
      unfold Frame.raise Frame.catches;cases c.mode<;>exact ⟨rfl,rfl⟩
     exact ih _ _ _ _ hls l2 hr rfl (by rw [hk.2];exact hc1) (by rw [hk.1];exact hm1) hl1 hrow hce
end
section
open Go
open Go.Conc (crowd Past EvL Deaf QuitsD woken awake crowd_pick runT_crowd_go Goes AtRel goes_elim)
open Go.ConcN (sumTo upd sumTo_upd upd_ne upd_same)
variable {P:Wx} {Post:Wq->Wz->Prop}
def DB (B:Nat):Wz->Wz->Array Event->Prop:=fun _ _ es=>∀e∈es,EvL gR B e
def FL (P:Wx)(Post:Wq->Wz->Prop)(B:Nat)(g:Wj)(W:Wz):Prop:=
 ∀ (gs:Array Wj) (sl:Option (Nat×Nat)) (t:Trace) (q:Nat->Nat),gs[0]?=some g->Lv P (fun _=>False) t gs q->Past gR B t->Fin P Post gs W sl t
theorem vN {B:Nat}:∀ {n:Nat}{g:Wj}{W:Wz},Goes P true AtRel (DB B) (FL P Post B) n g W->FL P Post B g W:=by
 intro n;induction n with
 |zero=>intro g W h;exact h W ⟨W.drawn,rfl⟩
 |succ n ih=>
  intro g W h gs sl t q h0 hL hP;rcases h with h|⟨hr,h⟩
  .exact h W ⟨W.drawn,rfl⟩ gs sl t q h0 hL hP
  .obtain ⟨M,hM⟩:∃M,sumTo gs.size q<=M:=⟨_,lR _⟩;obtain ⟨d0,hd0⟩:∃d0,W=W.at d0:=⟨W.drawn,rfl⟩;rw [hd0];clear hd0;induction M using Nat.strongRecOn generalizing gs sl t q d0 with
   |_ M ihM=>
    obtain ⟨i,x,d',sl',hi,hx,hst⟩:=crowd_pick (P:=P) (w:=W.at d0) (sl:=sl) (il hL h0 hr) ⟨0,g,h0,hr⟩;rw [br] at hst;rcases Nat.eq_zero_or_pos i with rfl|hpos
    .obtain rfl:x=g:=by rw [h0] at hi;exact (oJ hi).symm
     obtain ⟨g',W',es,hgo,hev,hnx⟩:=goes_elim (h (W.at d') ⟨d',rfl⟩);obtain ⟨gs',ops,e1,e2,e3,e4,-,e6⟩:=pE (w:=W.at d0) hL hi (.inl rfl) (d:=d') (by rw [br];exact hst) (show stepG P (0==0) x ((W.at d0).at d')=_ from hgo);subst e2;exact Fin.next e1 (ih hnx gs' sl' _ q e4 e6 (hP.own hev))
    .obtain ⟨gs',q',ops,e1,e2,e3,e4,e5,e6,-⟩:=slip (w:=W.at d0) (d:=d') hL hP (jH B) hi hx hpos (fun k=>k) (firm0 h0 hr _) (by rw [br];exact hst);rw [br] at e1;exact Fin.next e1 (ihM _ (by omega) gs' sl' (t++ops) q' ((e3 0 (.inl rfl)).trans h0) e4 e5 (lR _) d')
end
