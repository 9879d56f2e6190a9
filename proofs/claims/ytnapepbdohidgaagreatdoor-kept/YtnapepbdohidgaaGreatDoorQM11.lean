/- Part of a proof. -/
import Derived.Test.YtnapepbdohidgaaGreatDoorQM10
set_option maxHeartbeats 4000000
set_option maxRecDepth 100000
namespace Go.Proofs.YtnapepbdohidgaaGreatDoorQ
section
open Go
open Go.Conc (crowd Past EvL Deaf QuitsD woken awake crowd_pick runT_crowd_go rcase scase parked ph)
open Go.ConcN (sumTo upd sumTo_upd upd_ne upd_same)
variable {P:Program} [Two P] {D:PhD P} {Post:Value->World->Prop}
def Half (ρ ρs:Ren):Prop:=∀b x y,ρ x b->ρs y b->ρs.old y\/ρs.ch y
inductive iI (D:PhD P)(ρ ρr:Ren)(W:World)(buf:List Value)(hr:Goroutine)(Vr:World):Goroutine->List Value->Nat->Prop
 |run {h g:Goroutine} {V:World} {L:List Value} (R:nc D ρ ρr W h hr g V Vr L) (hd:Dem P.alt (fun g _=>NB [trap P.alt] g) D.T h V) (hp:LSs P.alt D.T D.h0 D.V0 h V):iI D ρ ρr W buf hr Vr g L 1
 |park {h1 hr1 g1 h:Goroutine} {V1 Vr1 V:World} {v z:Value} {L:List Value} {sh:CommShape} (C:Dr D ρ ρr W h1 hr1 g1 V1 Vr1 (v::L) z sh h hr V Vr) (hb:buf=[]) (hd:Dem P.alt (fun g _=>NB [trap P.alt] g) D.T h V) (hp:LSs P.alt D.T D.h0 D.V0 h V):iI D ρ ρr W buf hr Vr (parked g1 #[rcase D.c z] sh) (v::L) 0
 |last {h1 hr1 g1 h hr':Goroutine} {V1 Vr1 V Vr':World} {z:Value} {sh:CommShape} (C:Dr D ρ ρr W h1 hr1 g1 V1 Vr1 [] z sh h hr' V Vr') (hb:buf=[]) (hp:LSs P.alt D.T D.h0 D.V0 h V):iI D ρ ρr W buf hr Vr (parked g1 #[rcase D.c z] sh) [] 0
 |pre {h g y:Goroutine} {V:World} {L:List Value} (k:Nat) (R:nc D ρ ρr W h hr g V Vr L) (hd:Dem P.alt (fun g _=>NB [trap P.alt] g) D.T h V) (hp:LSs P.alt D.T D.h0 D.V0 h V) (hbo:(∃x,ρr x D.bo/\¬ρr.ch x)/\D.bo≠D.c) (hy:Alone P D.bo g k y W):iI D ρ ρr W buf hr Vr y L (k+2)
inductive fx (D:PhD P)(ρs:Ren)(W:World)(n:Nat)(buf:List Value)(hs:Goroutine)(Vs:World):Goroutine->List Value->Nat->Prop
 |run {s:Goroutine} {L:List Value} (S:Snd P ([trap P.alt],D.Bs) ρs hs s Vs W D.cs D.c L):fx D ρs W n buf hs Vs s L 1
 |new {y s:Goroutine} {L:List Value} (S:Snd P ([trap P.alt],D.Bs) ρs hs s Vs W D.cs D.c L) (hy:∀v,stepG P false y v=.go s v #[]) (hst:y.status=.running):fx D ρs W n buf hs Vs y L 2
 |park {h1 s1:Goroutine} {V1:World} {L:List Value} {cc:CommCase} {v z:Value} (S:Snd P ([trap P.alt],D.Bs) ρs h1 s1 V1 W D.cs D.c L) (rc:RC ρs cc (scase D.c v z)) (lc:LC P.alt h1 cc .send V1 hs Vs) (hf:n<=buf.length):fx D ρs W n buf hs Vs (parked s1 #[scase D.c v z] .send) L 0
section
variable {ρ ρr ρs ρ' ρr' ρs':Ren} {W W1:World} {n:Nat} {buf:List Value} {hr hs x:Goroutine} {Vr Vs:World} {L:List Value} {f:Nat} {es:Array Event}
theorem nc.stays {h g:Goroutine}{V:World}(R:nc D ρ ρr W h hr g V Vr L)(hos:W1.os=W.os)(h1:∀x b,ρ x b->b≠D.c->W1.heap[b]?=W.heap[b]?)(h2:∀x b,ρr x b->b≠D.c->W1.heap[b]?=W.heap[b]?)(hc:W1.heap[D.c]?=W.heap[D.c]?):nc D ρ ρr W1 h hr g V Vr L:=
 ⟨R.side.stays hos h1 hc,R.sideR.stays hos h2 hc,R.only,R.chR,R.unmk,R.base,R.all,fun a b hch hab hne=>by
  obtain ⟨n,s,q,tm,n',s',q',e1,e2⟩:=R.rest a b hch hab hne;exact ⟨n,s,q,tm,n',s',q',e1,by rw [h1 a b hab (fun e=>hne (ρ.inj _ _ _ hab (e▸R.side.pair)))];exact e2⟩⟩
theorem iI.stays (R:iI D ρ ρr W buf hr Vr x L f)(hos:W1.os=W.os)(h1:∀x b,ρ x b->b≠D.c->W1.heap[b]?=W.heap[b]?)(h2:∀x b,ρr x b->b≠D.c->W1.heap[b]?=W.heap[b]?)(hc:W1.heap[D.c]?=W.heap[D.c]?):iI D ρ ρr W1 buf hr Vr x L f:=by
 cases R with
 |run R hd hp=>exact .run (R.stays hos h1 h2 hc) hd hp
 |park C hb hd hp=>exact .park ⟨C.at1.stays hos h1 h2 hc,C.sh,C.atc,C.rc,C.rcr⟩ hb hd hp
 |last C hb hp=>exact .last ⟨C.at1.stays hos h1 h2 hc,C.sh,C.atc,C.rc,C.rcr⟩ hb hp
 |pre k R hd hp hbo hy=>
  obtain ⟨⟨x0,k1,k2⟩,k3⟩:=hbo;exact .pre k (R.stays hos h1 h2 hc) hd hp ⟨⟨x0,k1,k2⟩,k3⟩ (hy.rely (h2 _ _ k1 k3))
theorem fx.stays (S:fx D ρs W n buf hs Vs x L f)(hos:W1.os=W.os)(h1:∀x b,ρs x b->b≠D.c->W1.heap[b]?=W.heap[b]?)(hc:W1.heap[D.c]?=W.heap[D.c]?):fx D ρs W1 n buf hs Vs x L f:=by
 cases S with
 |run S=>exact .run (S.stays hos h1 hc)
 |new S hy hst=>exact .new (S.stays hos h1 hc) hy hst
 |park S rc lc hf=>exact .park (S.stays hos h1 hc) rc lc hf
theorem fx.lt (S:fx D ρs W n buf hs Vs x L f):∀y b,ρs y b->b<W.heap.size:=fun y b k=>by
 cases S with
 |run S=>exact (S.sim.lt k).2
 |new S _ _=>exact (S.sim.lt k).2
 |park S _ _ _=>exact (S.sim.lt k).2
theorem fx.ch (S:fx D ρs W n buf hs Vs x L f):(∀y,ρs.ch y↔y=D.cs)/\ρs D.cs D.c:=by
 cases S with
 |run S=>exact ⟨S.ch,S.pair⟩
 |new S _ _=>exact ⟨S.ch,S.pair⟩
 |park S _ _ _=>exact ⟨S.ch,S.pair⟩
theorem iI.ch (R:iI D ρ ρr W buf hr Vr x L f):((∀y,ρr.ch y->y=D.cr)/\ρr D.cr D.c)/\(∀y b,ρ y b->b<W.heap.size)/\∀y b,ρr y b->b<W.heap.size:=by
 cases R with
 |run R _ _=>exact ⟨⟨R.chR,R.sideR.pair⟩,fun y b k=>(R.side.sim.lt k).2,fun y b k=>(R.sideR.sim.lt k).2⟩
 |park C _ _ _=>exact ⟨⟨C.at1.chR,C.at1.sideR.pair⟩,fun y b k=>(C.at1.side.sim.lt k).2,fun y b k=>(C.at1.sideR.sim.lt k).2⟩
 |last C _ _=>exact ⟨⟨C.at1.chR,C.at1.sideR.pair⟩,fun y b k=>(C.at1.side.sim.lt k).2,fun y b k=>(C.at1.sideR.sim.lt k).2⟩
 |pre _ R _ _ _ _=>exact ⟨⟨R.chR,R.sideR.pair⟩,fun y b k=>(R.side.sim.lt k).2,fun y b k=>(R.sideR.sim.lt k).2⟩
theorem fx.pre (O:tN P D Post)(hD:Dem P.alt D.Ns D.Ts hs Vs)(S:fx D ρs W n buf hs Vs x L f){b:List Value}{s q:Nat}{tm:Bool}(r:jv W D.c n b false s q tm):L <+:D.L:=by
 have key:∀ {s:Goroutine} {W:World} {L:List Value},Snd P ([trap P.alt],D.Bs) ρs hs s Vs W D.cs D.c L->L <+:D.L:=fun S=>by
  obtain ⟨n,b,s,q,tm,h1,h2⟩:=S.row;exact h2▸(O.pre hD _ _ _ _ _ _ h1).2
 cases S with
 |run S=>exact key S
 |new S _ _=>exact key S
 |park S rc lc hf=>
  obtain ⟨v0,-,S2⟩:=S.push rc lc rfl (fun _ _=>rfl) r r;exact (List.prefix_append _ _).trans (key S2)
omit [Two P] in
theorem Moved.left (m:Moved ρ ρ' ρr ρr' W W1 D.c es)(hF:Far ρr ρs)(hS:∀y b,ρs y b->b<W.heap.size)(hch:∀y,ρr.ch y->ρr y D.c):∀x b,ρs x b->b≠D.c->W1.heap[b]?=W.heap[b]?:=fun x b hb hne=>
 m.keep.block b (hS x b hb) (fun a ha=>by
  rcases hF b a x ha hb with ⟨k,-⟩|⟨k,-⟩
  ·exact k
  ·exact absurd (ρr.fn _ _ _ ha (hch a k)) hne)
omit [Two P] in
theorem Moved.half (m:Moved ρ ρ' ρr ρr' W W1 D.c es)(hH:Half ρ ρs)(hS:∀y b,ρs y b->b<W.heap.size):Half ρ' ρs:=fun b x y h1 h2=>by
 rcases m.new x b h1 with k|k
 ·exact hH b x y k h2
 ·have:=hS y b h2;omega
omit [Two P] in
theorem jd.far (m:jd ρs ρs' W W1 D.c es)(hF:Far ρr ρs)(hR:∀y b,ρr y b->b<W.heap.size):Far ρr ρs':=fun b x y h1 h2=>by
 rcases m.new y b h2 with k|k
 ·rw [m.le.old,m.le.ch];exact hF b x y h1 k
 ·have:=hR x b h1;omega
omit [Two P] in
theorem jd.half (m:jd ρs ρs' W W1 D.c es)(hH:Half ρ ρs)(hR:∀y b,ρ y b->b<W.heap.size):Half ρ ρs':=fun b x y h1 h2=>by
 rcases m.new y b h2 with k|k
 ·rw [m.le.old,m.le.ch];exact hH b x y h1 k
 ·have:=hR x b h1;omega
omit [Two P] in
theorem jd.left (m:jd ρs ρs' W W1 D.c es){σ:Ren}(hH:Half σ ρs)(hR:∀y b,σ y b->b<W.heap.size)(hch:∀y,ρs.ch y->ρs y D.c):∀x b,σ x b->b≠D.c->W1.heap[b]?=W.heap[b]?:=fun x b hb hne=>
 m.keep.block b (hR x b hb) (fun a ha=>by
  rcases hH b x a hb ha with k|k
  ·exact k
  ·exact absurd (ρs.fn _ _ _ ha (hch a k)) hne)
theorem Far.half (h:Far ρr ρs):Half ρr ρs:=fun b x y h1 h2=>(h b x y h1 h2).imp (·.2) (·.2)
theorem iI.again (R:iI D ρ ρr W buf hr Vr x L f){w:World}{n':Nat}{b:List Value}{s q:Nat}{tm:Bool}(r:jv w D.c n' b false s q tm):x.again w=x:=by
 obtain ⟨a,r,-⟩:=r;cases R with
 |run R _ _=>exact Conc.again_running _ (.inl R.run)
 |park C _ _ _=>exact Conc.again_recv_open r
 |last C _ _=>exact Conc.again_recv_open r
 |pre _ R _ _ _ hy=>exact Conc.again_running _ (.inl (hy.status R.run))
theorem fx.again (S:fx D ρs W n buf hs Vs x L f){w:World}{n':Nat}{b:List Value}{s q:Nat}{tm:Bool}(r:jv w D.c n' b false s q tm):x.again w=x:=by
 obtain ⟨a,r,-⟩:=r;cases S with
 |run S=>exact Conc.again_running _ (.inl S.go.status.2)
 |new S _ hst=>exact Conc.again_running _ (.inl hst)
 |park S _ _ _=>exact Conc.again_send_open r
theorem iI.status (R:iI D ρ ρr W buf hr Vr x L f):x.status=.running\/x.status=.blocked:=by
 cases R with
 |run R _ _=>exact .inl R.run
 |park C _ _ _=>exact .inr rfl
 |last C _ _=>exact .inr rfl
 |pre _ R _ _ _ hy=>exact .inl (hy.status R.run)
theorem fx.status (S:fx D ρs W n buf hs Vs x L f):x.status=.running\/x.status=.blocked:=by
 cases S with
 |run S=>exact .inl S.go.status.2
 |new S _ hst=>exact .inl hst
 |park S _ _ _=>exact .inr rfl
end
end
section
open Go
open Go.Conc (crowd Past EvL Deaf QuitsD woken awake crowd_pick runT_crowd_go rcase scase parked ph)
open Go.ConcN (sumTo upd sumTo_upd upd_ne upd_same)
variable {P:Program} [Two P] {D:PhD P} {Post:Value->World->Prop}
structure jF (D:PhD P)(ρ ρr ρs:Ren)(W:World):Prop where
 half:Half ρ ρs
 out:vt D ρ ρr W
 offS:Off D.U ρs
omit [Two P] in
theorem jF.rcv {ρ ρr ρs ρ' ρr':Ren}{W W1:World}{es:Array Event}(h:jF D ρ ρr ρs W)(m:Moved ρ ρ' ρr ρr' W W1 D.c es)(hS:∀y b,ρs y b->b<W.heap.size):jF D ρ' ρr' ρs W1:=⟨m.half h.half hS,h.out.rcv m,h.offS⟩
omit [Two P] in
theorem jF.snd {ρ ρr ρs ρs':Ren}{W W1:World}{es:Array Event}(h:jF D ρ ρr ρs W)(m:jd ρs ρs' W W1 D.c es)(hR:∀y b,ρ y b->b<W.heap.size):jF D ρ ρr ρs' W1:=⟨m.half h.half hR,⟨h.out.kp.keep h.offS m.keep,h.out.off,h.out.offR,h.out.chan⟩,h.offS.new h.out.kp m.le.sub m.new ⟨m.le.pin,m.le.bad⟩⟩
omit [Two P] in
theorem jF.set {ρ ρr ρs:Ren}{W:World}(h:jF D ρ ρr ρs W){n:Nat}{b:Array Value}{cl:Bool}{s q:Nat}{tm:Bool}:jF D ρ ρr ρs (W.setChan D.c n b cl s q tm):=⟨h.half,h.out.set _ _ _ _ _ _,h.offS⟩
omit [Two P] in
theorem vt.shut {ρ ρr:Ren}{W:World}(h:vt D ρ ρr W){n:Nat}{b:Array Value}{s q:Nat}{tm:Bool}:vt D ρ ρr (dG W D.c n b s q tm):=h.set _ _ _ _ _ _
omit [Two P] in
theorem jF.at {ρ ρr ρs:Ren}{W:World}(h:jF D ρ ρr ρs W)(d:Nat):jF D ρ ρr ρs (W.at d):=⟨h.half,⟨h.out.kp,h.out.off,h.out.offR,h.out.chan⟩,h.offS⟩
def gK (P:Program) [Two P](D:PhD P)(Post:Value->World->Prop)(hr:Goroutine)(Vr:World)(hs:Goroutine)(Vs:World):Prop:=
 ∀ (gs:Array Goroutine) (W:World) (sl:Option (Nat×Nat)) (t:Trace) (qs:Nat->Nat) (ρ ρr ρs:Ren) (x0 xk:Goroutine) (L Ls buf taken:List Value) (n s q:Nat) (tm:Bool) (f1 f2:Nat),iI D ρ ρr W buf hr Vr x0 L f1->fx D ρs W n buf hs Vs xk Ls f2->jv W D.c n buf false s q tm->0<n->Ls=taken++buf->D.L=taken++L->Far ρr ρs->jF D ρ ρr ρs W->gs[0]?=some x0->gs[D.k]?=some xk->Lv P (fun i=>i=D.k) t gs qs->PhT 0 D.k ρr ρs W.heap.size t->Fin P Post gs W sl t
omit [Two P] in
theorem fQ {gs:Array Goroutine}{t:Trace}{qs:Nat->Nat}{k i:Nat}(hL:Lv P (fun j=>j=k) t gs qs){y:Goroutine}{j:Nat}(hij:(i=0/\j=k)\/(i=k/\j=0))(hj:gs[j]?=some y)(r:Nat)(b:Bool)(hy:Conc.offersAt y r b=[]):partners (gs.setIfInBounds i ph) r b=[]:=by
 refine Conc.partners_nil (fun l x hx=>?_);rcases Conc.getElem?_stand gs i l x hx with ⟨-,rfl⟩|⟨hne,hx⟩
 ·exact Conc.offersAt_ph r b
 ·by_cases hlj:l=j
  ·subst hlj;rw [hj] at hx;cases hx;exact hy
  ·refine Conc.offersAt_of_not_blocked (fun e=>?_) r b;have h0:0<l:=by rcases hij with ⟨rfl,rfl⟩|⟨rfl,rfl⟩<;>omega
   have hk:¬l=k:=by rcases hij with ⟨rfl,rfl⟩|⟨rfl,rfl⟩<;>assumption
   rcases (hL.old l x h0 hk hx).status with h|h<;>rw [h] at e<;>cases e
omit [Two P] in
theorem nI {gs:Array Goroutine}{t:Trace}{qs:Nat->Nat}{k i:Nat}(hL:Lv P (fun j=>j=k) t gs qs){y:Goroutine}{j:Nat}(hij:(i=0/\j=k)\/(i=k/\j=0))(hne0:k≠0)(hj:gs[j]?=some y)(r:Nat)(b:Bool)(hy:Conc.offersAt y r b=[0]):partners (gs.setIfInBounds i ph) r b=[(j,0)]:=by
 have hji:j≠i:=by rcases hij with ⟨rfl,rfl⟩|⟨rfl,rfl⟩<;>omega
 rw [Conc.partners_one (Conc.stand_get hji hj) (fun l x hl hx=>?_),hy]
 ·rfl
 ·rcases Conc.getElem?_stand gs i l x hx with ⟨-,rfl⟩|⟨hne,hx⟩
  ·exact Conc.offersAt_ph r b
  ·refine Conc.offersAt_of_not_blocked (fun e=>?_) r b;have h0:0<l:=by rcases hij with ⟨rfl,rfl⟩|⟨rfl,rfl⟩<;>omega
   have hk:¬l=k:=by rcases hij with ⟨rfl,rfl⟩|⟨rfl,rfl⟩<;>assumption
   rcases (hL.old l x h0 hk hx).status with h|h<;>rw [h] at e<;>cases e
theorem tR {a b c l:List Value}{v:Value}(h1:a=c++(v::b))(h:a <+:c++l):∃l',l=v::l':=by
 subst h1;obtain ⟨e,he⟩:=h;simp only [List.append_assoc,List.append_cancel_left_eq,List.cons_append] at he;exact ⟨_,he.symm⟩
theorem nc.other {ρ ρr:Ren}{W W1:World}{h hr g:Goroutine}{V Vr:World}{L:List Value}(R:nc D ρ ρr W h hr g V Vr L)(hos:W1.os=W.os)(hs:∀b,b≠D.c->W1.heap[b]?=W.heap[b]?){n n':Nat}{b b':List Value}{cl cl':Bool}{s q s' q':Nat}{tm:Bool}(r1:jv W D.c n b cl s q tm)(r2:jv W1 D.c n' b' cl' s' q' tm):nc D ρ ρr W1 h hr g V Vr L:=
 ⟨R.side.other hos (fun _ b _ hb=>hs b hb) r1 r2,R.sideR.other hos (fun _ b _ hb=>hs b hb) r1 r2,R.only,R.chR,R.unmk,R.base,R.all,fun a b hch hab hne=>by
  obtain ⟨n,s,q,tm,n',s',q',e1,e2⟩:=R.rest a b hch hab hne;exact ⟨n,s,q,tm,n',s',q',e1,by rw [hs b (fun e=>hne (ρ.inj _ _ _ hab (e▸R.side.pair)))];exact e2⟩⟩
theorem PhT.ops {p q:Nat}{ρ ρ':Ren}{B:Nat}(hF:Far ρ ρ'):∀ (l:List MemOp)(t:Trace),PhT p q ρ ρ' B t->(∀op∈l,(op.g=p\/op.g=q)/\cK B op.act)->PhT p q ρ ρ' B (t++l.toArray):=by
 intro l;induction l with
 |nil=>intro t h _;simpa using h
 |cons x l ih=>
  intro t h hl;have e:t++(x::l).toArray=(t++#[x])++l.toArray:=by apply Array.ext';simp
  rw [e];refine ih _ ?_ (fun op hop=>hl op (by simp [hop]));obtain ⟨hg,hc⟩:=hl x (by simp);rcases hg with hg|hg
  ·exact h.app (Ren.le_refl _) hF (lR _) (fun op hop=>by simp at hop;subst hop;exact ⟨hg,sj hc⟩)
  ·exact (h.symm.app (Ren.le_refl _) hF.symm (lR _) (fun op hop=>by simp at hop;subst hop;exact ⟨hg,sj hc⟩)).symm
theorem lp (O:tN P D Post){hr hs:Goroutine}{Vr Vs:World}(hDs:Dem P.alt D.Ns D.Ts hs Vs)(hnb:NB [trap P.alt] hr)(hls:∀τ d,∃hr' Vr',LS P.alt hr (Vr.on τ d) hr' Vr')
  (hn:∀τ d hr' Vr',LS P.alt hr (Vr.on τ d) hr' Vr'->(∀hs Vs,Dem P.alt D.Ns D.Ts hs Vs->gK P D Post hr' Vr' hs Vs)\/((∀n b s q tm,Vr.heap[D.cr]?=some (.chan n b true s q tm)->b.toList=[])/\∃h1 cc s V1 es,stepG P.alt true hr (Vr.on τ d)=.comm h1 cc true s V1 es))
  (hclosed:eE P D Post hr Vr)
  (hcase:(NB [trap P.alt] hs/\∀τ d,(∃hs' Vs',LS P.alt hs (Vs.on τ d) hs' Vs')/\∀hs' Vs',LS P.alt hs (Vs.on τ d) hs' Vs'->Dem P.alt D.Ns D.Ts hs' Vs'/\gK P D Post hr Vr hs' Vs')\/D.Ts hs Vs):gK P D Post hr Vr hs Vs:=by
 intro gs W sl t qs ρ ρr ρs x0 xk L Ls buf taken n s q tm f1 f2 RP SP r hn0 hLs hLL hF hH h0 hk hL hP;obtain ⟨M,hM⟩:∃M,sumTo gs.size qs+f1+f2<=M:=⟨_,lR _⟩;induction M using Nat.strongRecOn generalizing gs W sl t qs x0 xk ρ ρr ρs f1 f2 with
 |_ M ih=>
  have hkpos:0<D.k:=Nat.pos_of_ne_zero O.k0;have hlt0:0<gs.size:=(eS h0).1;have hltk:D.k<gs.size:=(eS hk).1;have haw:∀y∈gs,awake y:=fun y hy=>by
   obtain ⟨i,hi,rfl⟩:=Array.mem_iff_getElem.1 hy;by_cases hi0:i=0
   ·subst hi0;have:gs[0]=x0:=by simpa [eG hi] using h0
    rw [this];exact Conc.awake_of (RP.status.imp id .inl)
   ·by_cases hik:i=D.k
    ·subst hik;have:gs[D.k]=xk:=by simpa [eG hi] using hk
     rw [this];exact Conc.awake_of (SP.status.imp id .inl)
    ·exact Conc.awake_of ((hL.old i _ (by omega) hik (eG hi)).status.elim .inl fun x=>.inr (.inr x))
  have hsome:∃ (i:Nat) (g:Goroutine),gs[i]?=some g/\g.status=.running:=by
   cases RP with
   |run R _ _=>exact ⟨0,_,h0,R.run⟩
   |pre _ R _ _ _ hy=>exact ⟨0,_,h0,hy.status R.run⟩
   |park C hb _ _=>
    cases SP with
    |run S=>exact ⟨_,_,hk,S.go.status.2⟩
    |new S _ hst=>exact ⟨_,_,hk,hst⟩
    |park _ _ _ hf=>rw [hb] at hf;simp at hf;omega
   |last C hb _=>
    cases SP with
    |run S=>exact ⟨_,_,hk,S.go.status.2⟩
    |new S _ hst=>exact ⟨_,_,hk,hst⟩
    |park _ _ _ hf=>rw [hb] at hf;simp at hf;omega
  obtain ⟨i,x,d,sl',hi,hx,hst⟩:=crowd_pick (P:=P) (w:=W) (sl:=sl) haw hsome;by_cases hi0:i=0
  ·subst hi0;obtain rfl:x0=x:=by rw [h0] at hi;exact Option.some.inj hi
   cases RP with
   |park C _ _ _=>cases hx
   |last C _ _=>cases hx
   | @pre h g _ V _ k R hd hp hbo hy=>
    rcases hy.next with rfl|⟨hst2,k',rfl,hnx⟩
    ·exact ih (sumTo gs.size qs+1+f2) (by omega) gs W sl t qs ρ ρr ρs x0 xk 1 f2 (.run R hd hp) SP r hF hH h0 hk hL hP (lR _)
    ·obtain ⟨y',es,hg,hev,hy'⟩:=hnx d;obtain ⟨gs',ops,e1,e2,e3,e4,e5,e6⟩:=oF (K:=fun i=>i=D.k) hL hi (.inl rfl) hst (show stepG P (0==0) x0 (W.at d)=_ from hg);subst e2;have SP1:fx D ρs (W.at d) n buf hs Vs xk Ls f2:=SP.stays rfl (fun _ _ _ _=>rfl) rfl;exact Fin.next e1 (ih (sumTo gs'.size qs+(k'+2)+f2) (by rw [e3];omega) gs' (W.at d) sl' _ qs ρ ρr ρs y' xk (k'+2) f2 (.pre k' (R.at d) hd hp hbo hy') SP1 r hF (hH.at d) e4 (by rw [e5 D.k xk O.k0 hk,eU (SP1.again (w:=W.at d) r)]) e6 (hP.app (Ren.le_refl _) hF (lR _) (jb (R.at d).sideR.sim (tQ hbo.1 hev) 0 _ _)) (lR _))
   | @run h _ V _ R hd hp=>
    obtain ⟨h',V',hl,hd',hp'⟩:=ql O R hd hp d;obtain ⟨hr',Vr',hlr⟩:=hls W.tape d;have hnx:=hn _ _ _ _ hlr;obtain ⟨g1,W1,es,ρ',ρr',m,hcs⟩:=tO O R hnb d hl hlr;have hBs:=SP.lt;have hF':=m.far hF hBs;have hH':=hH.rcv m hBs;have hsz:W.heap.size<=W1.heap.size:=m.keep.size;have r1:jv W1 D.c n buf false s q tm:=by
     obtain ⟨a,k1,k2⟩:=r;exact ⟨a,m.row.trans k1,k2⟩
    have hleft:=m.left hF hBs (fun y k=>by rw [R.chR y k];exact R.sideR.pair);have SP1:fx D ρs W1 n buf hs Vs xk Ls f2:=SP.stays m.keep.os hleft m.row;have hPre:=SP.pre O hDs r;rcases hcs with ⟨hg,R'⟩|⟨h1,hr1,V1,Vr1,z,sh,hg,C⟩
    ·have hC:∀hs Vs,Dem P.alt D.Ns D.Ts hs Vs->gK P D Post hr' Vr' hs Vs:=by
      rcases hnx with k|⟨-,_,_,_,_,_,k⟩
      ·exact k
      ·exfalso;have hbr:Base ([trap P.alt],D.X.2) hr.frame x0.callers:=fun e=>hnb (R.sideR.go.callers.tail e)
       obtain ⟨-,sr⟩:=ln O.zero O.count true R.sideR.go hbr R.sideR.sim R.sideR.gid R.sideR.ext R.unmk.1 d rfl hlr;rw [k,hg] at sr;cases sr
     obtain ⟨gs',ops,e1,e2,e3,e4,e5,e6⟩:=oF (K:=fun i=>i=D.k) hL hi (.inl rfl) hst (show stepG P (0==0) x0 (W.at d)=_ from hg);subst e2;exact Fin.next e1 (hC hs Vs hDs gs' W1 sl' _ qs ρ' ρr' ρs g1 xk L Ls buf taken n s q tm 1 f2 (.run R' hd' hp') SP1 r1 hn0 hLs hLL hF' hH' e4 (by rw [e5 D.k xk O.k0 hk,eU (SP1.again r1)]) e6 (hP.app m.ler hF' hsz (jb R'.sideR.sim m.ev 0 _ _)))
    ·obtain ⟨a,ha1,ha2⟩:=r1;have hlt:D.c<W1.heap.size:=(eS ha1).1;have hev:=jb C.at1.sideR.sim m.ev 0 x0.frame.fn x0.frame.place;have hP1:=hP.app m.ler hF' hsz hev;have hg0:stepG P (0==0) x0 (W.at d)=.comm g1 #[rcase D.c z] true sh W1 es:=hg;cases buf with
     |nil=>
      have hoff:Conc.offersAt xk D.c true=[]:=by
       cases SP1 with
       |run S=>exact Conc.offersAt_of_not_blocked (by rw [S.go.status.2];exact fun h=>by cases h) _ _
       |new S _ hst=>exact Conc.offersAt_of_not_blocked (by rw [hst];exact fun h=>by cases h) _ _
       |park _ _ _ hf=>simp at hf;omega
      have ha:a=#[]:=Array.toList_inj.1 (by simpa using ha2);subst ha;have hrt:=Conc.crowd_waits (sl:=sl') (i:=0) hi hg0 (fun cc hcc=>by
       simp at hcc;subst hcc;exact Conc.ways_recv_none ha1 (fQ hL (.inl ⟨rfl,rfl⟩) hk D.c true hoff))
      have hLv:Lv P (fun i=>i=D.k) (t++MemOp.ofEvents 0 x0.frame.fn x0.frame.place es) (gs.setIfInBounds 0 (parked g1 #[rcase D.c z] sh)) qs:=hL.put (fun op hop=>(hev op hop).2.2.1) (by simp) (fun j hj _=>sN (by omega));have hk':(gs.setIfInBounds 0 (parked g1 #[rcase D.c z] sh))[D.k]?=some xk:=by rw [sN (by omega)];exact hk
      have h0':(gs.setIfInBounds 0 (parked g1 #[rcase D.c z] sh))[0]?=some (parked g1 #[rcase D.c z] sh):=by simp [hlt0]
      refine Fin.next (hst.trans hrt) ?_
      cases L with
      |nil=>exact ih (sumTo gs.size qs+0+f2) (by omega) _ W1 sl' _ qs ρ' ρr' ρs _ xk 0 f2 (.last C rfl hp') SP1 ⟨_,ha1,ha2⟩ hF' hH' h0' hk' hLv hP1 (by simp)
      |cons v L=>
       have hC:∀hs Vs,Dem P.alt D.Ns D.Ts hs Vs->gK P D Post hr' Vr' hs Vs:=by
        rcases hnx with k|⟨k,-⟩
        ·exact k
        ·exfalso;obtain ⟨n0,b0,s0,q0,tm0,k1,k2⟩:=R.sideR.row;rw [k _ _ _ _ _ k1] at k2;cases k2
       exact hC hs Vs hDs _ W1 sl' _ qs ρ' ρr' ρs _ xk (v::L) Ls [] taken n s q tm 0 f2 (.park C rfl hd' hp') SP1 ⟨_,ha1,ha2⟩ hn0 hLs hLL hF' hH' h0' hk' hLv hP1
     |cons v rest=>
      obtain ⟨L',rfl⟩:=tR hLs (hLL▸hPre);have hC:∀hs Vs,Dem P.alt D.Ns D.Ts hs Vs->gK P D Post hr' Vr' hs Vs:=by
       rcases hnx with k|⟨k,-⟩
       ·exact k
       ·exfalso;obtain ⟨n0,b0,s0,q0,tm0,k1,k2⟩:=R.sideR.row;rw [k _ _ _ _ _ k1] at k2;cases k2
      have hv:v∈D.L:=by rw [hLL];simp
      have hsome2:0<a.size:=by rw [<-Array.length_toList,ha2];simp
      have hget:a.getD 0 undef=v:=by rw [gD,<-Array.getElem?_toList,ha2];rfl
      have hext:(a.extract 1 a.size).toList=rest:=by
       have hl:a.toList.length=a.size:=Array.length_toList;rw [Array.toList_extract,ha2] at *;simp at hl ⊢;rw [<-hl];simp
      have nop:Conc.offersAt xk D.c true=[]->(∀W2:World,W2.os=W1.os->(∀b,b≠D.c->W2.heap[b]?=W1.heap[b]?)->∀b' s' q',jv W2 D.c n b' false s' q' tm->fx D ρs W2 n b' hs Vs xk Ls f2)->Fin P Post gs W sl t:=fun hoff hSP=>by
       have hrt:=Conc.crowd_recv_buf (sl:=sl') (i:=0) hi hg0 ha1 hsome2 (fQ hL (.inl ⟨rfl,rfl⟩) hk D.c true hoff);rw [hget] at hrt;have r2:=dn W1 D.c n (a.extract 1 a.size) false s (q+1) tm hlt;rw [hext] at r2;have R2:=C.take O hv (W':=W1.setChan D.c n (a.extract 1 a.size) false s (q+1) tm) rfl (fun b hb=>aG _ _ _ _ _ _ _ _ hb) ⟨a,ha1,ha2⟩ r2;have hu:∀op∈[({g:=0,fn:=g1.frame.fn,pos:=g1.frame.place,act:=.recv D.c q n}:MemOp),{g:=0,fn:=g1.frame.fn,pos:=g1.frame.place,act:=.recvDone D.c q}],(op.g=0\/op.g=D.k)/\cK W1.heap.size op.act:=fun op hop=>by
        simp at hop;rcases hop with rfl|rfl<;>exact ⟨.inl rfl,hlt⟩
       refine Fin.next (hst.trans hrt) (hC hs Vs hDs _ _ sl' _ qs ρ' ρr' ρs _ xk L' Ls rest (taken++[v]) n s (q+1) tm 1 f2 (.run R2 hd' hp') (hSP (W1.setChan D.c n (a.extract 1 a.size) false s (q+1) tm) rfl (fun b hb=>aG _ _ _ _ _ _ _ _ hb) _ _ _ r2) r2 hn0 (by rw [hLs];simp) (by rw [hLL];simp) hF' hH'.set (by simp [hlt0]) (by rw [sN (by omega)];exact hk) (hL.put (fun op hop=>?_) (by simp) (fun j hj _=>sN (by omega))) ?_)
       ·rcases Array.mem_append.1 hop with k|k
        ·exact (hev op k).2.2.1
        ·exact (hu op (by simpa using k)).2.still
       ·rw [<-Array.append_assoc,bR];exact PhT.ops hF' _ _ hP1 hu
      cases SP1 with
      |run S=>exact nop (Conc.offersAt_of_not_blocked (by rw [S.go.status.2];exact fun h=>by cases h) _ _) (fun W2 hos hb b' s' q' r2=>.run (S.other hos (fun _ b _ k=>hb b k) ⟨a,ha1,ha2⟩ r2))
      |new S hy hst2=>exact nop (Conc.offersAt_of_not_blocked (by rw [hst2];exact fun h=>by cases h) _ _) (fun W2 hos hb b' s' q' r2=>.new (S.other hos (fun _ b _ k=>hb b k) ⟨a,ha1,ha2⟩ r2) hy hst2)
      | @park h1s s1 V1s _ cc v1 z1 S rc lc hf=>
       have hoff:Conc.offersAt (parked s1 #[scase D.c v1 z1] .send) D.c true=[0]:=by rw [Conc.offersAt_parked_send];simp
       have hrt:=mo (sl:=sl') (i:=0) (j:=D.k) hi hg0 ha1 hsome2 O.k0 hk (nI hL (.inl ⟨rfl,rfl⟩) O.k0 hk D.c true hoff);rw [hget] at hrt;have r2:=dn W1 D.c n ((a.extract 1 a.size).push v1) false (s+1) (q+1) tm hlt;rw [Array.toList_push,hext] at r2;have R2:=C.take O hv (W':=W1.setChan D.c n ((a.extract 1 a.size).push v1) false (s+1) (q+1) tm) rfl (fun b hb=>aG _ _ _ _ _ _ _ _ hb) ⟨a,ha1,ha2⟩ r2;obtain ⟨v0,hrv,S2⟩:=S.push rc lc (W':=W1.setChan D.c n ((a.extract 1 a.size).push v1) false (s+1) (q+1) tm) rfl (fun b hb=>aG _ _ _ _ _ _ _ _ hb) ⟨a,ha1,ha2⟩ r2;have hpre2:Ls++[v0] <+:D.L:=by
        obtain ⟨_,_,_,_,_,k1,k2⟩:=S2.row;exact k2▸(O.pre hDs _ _ _ _ _ _ k1).2
       obtain rfl:v1=v0:=(O.flat v0 (hpre2.subset (by simp)) ρs).2 v1 hrv;have hu:∀op∈[({g:=0,fn:=g1.frame.fn,pos:=g1.frame.place,act:=.recv D.c q n}:MemOp),{g:=0,fn:=g1.frame.fn,pos:=g1.frame.place,act:=.recvDone D.c q},{g:=D.k,fn:=s1.frame.fn,pos:=s1.frame.place,act:=.send D.c s},{g:=D.k,fn:=s1.frame.fn,pos:=s1.frame.place,act:=.sendDone D.c s}],(op.g=0\/op.g=D.k)/\cK W1.heap.size op.act:=fun op hop=>by
        simp at hop;rcases hop with rfl|rfl|rfl|rfl
        ·exact ⟨.inl rfl,hlt⟩
        ·exact ⟨.inl rfl,hlt⟩
        ·exact ⟨.inr rfl,hlt⟩
        ·exact ⟨.inr rfl,hlt⟩
       refine Fin.next (hst.trans hrt) (hC hs Vs hDs _ _ sl' _ qs ρ' ρr' ρs _ (s1.finishComm P #[scase D.c v1 z1] .send 0 undef false) L' (Ls++[v1]) (rest++[v1]) (taken++[v]) n (s+1) (q+1) tm 1 1 (.run R2 hd' hp') (.run S2) r2 hn0 (by rw [hLs];simp) (by rw [hLL];simp) hF' hH'.set (by simp [hlt0]) (by rw [sN (by omega)];simp [hltk]) (hL.put (fun op hop=>?_) (by simp) (fun j hj hjk=>by rw [sN (by omega),sN (fun e=>hjk e.symm)])) ?_)
       ·rcases Array.mem_append.1 hop with k|k
        ·exact (hev op k).2.2.1
        ·exact (hu op (by simpa using k)).2.still
       ·rw [<-Array.append_assoc,bR];exact PhT.ops hF' _ _ hP1 hu
  ·by_cases hik:i=D.k
   ·subst hik;obtain rfl:xk=x:=by rw [hk] at hi;exact Option.some.inj hi
    have hkk:(D.k==0)=false:=beq_eq_false_iff_ne.2 O.k0;obtain ⟨⟨hchr,hpr⟩,hBv,hBr⟩:=RP.ch;have hchs:∀y,ρs.ch y->ρs y D.c:=fun y k=>by rw [(SP.ch.1 y).1 k];exact SP.ch.2
    cases SP with
    |park _ _ _ _=>cases hx
    | @new _ s0 _ S hy hst2=>
     obtain ⟨gs',ops,e1,e2,e3,e4,e5,e6⟩:=oF (K:=fun i=>i=D.k) hL hi (.inr rfl) hst (show stepG P (D.k==0) xk (W.at d)=.go s0 (W.at d) #[] by rw [hkk];exact hy _);subst e2;rw [gJ,Array.append_empty] at e6;rw [gJ] at e1;refine Fin.next e1 (ih (sumTo gs'.size qs+f1+1) (by rw [e3];omega) gs' (W.at d) sl' _ qs ρ ρr ρs x0 s0 f1 1 (RP.stays rfl (fun _ _ _ _=>rfl) (fun _ _ _ _=>rfl) rfl) (.run (S.stays rfl (fun _ _ _ _=>rfl) rfl)) r hF (hH.at d) ?_ e4 ?_ ?_ (lR _))
     ·rw [e5 0 x0 (by omega) h0,eU (RP.again (w:=W.at d) r)]
     ·rw [Array.append_empty];exact e6
     ·rw [Array.append_empty];exact hP
    |run S=>
     rcases hcase with ⟨hnbs,hstep⟩|hTs
     ·obtain ⟨⟨hs',Vs',hl⟩,hall⟩:=hstep W.tape d;obtain ⟨hDs',hO⟩:=hall _ _ hl;obtain ⟨s1,W1,es,ρs',m,hcs⟩:=Ah O S hnbs d hl (fun n b cl s q tm k=>(O.pre hDs' _ _ _ _ _ _ k).1);have hF':=m.far hF hBr;have hH':=hH.snd m hBv;have hsz:W.heap.size<=W1.heap.size:=m.keep.size;have RP1:iI D ρ ρr W1 buf hr Vr x0 L f1:=RP.stays m.keep.os (m.left hH.half hBv hchs) (m.left hF.half hBr hchs) m.row;have r1:jv W1 D.c n buf false s q tm:=by
       obtain ⟨a,k1,k2⟩:=r;exact ⟨a,m.row.trans k1,k2⟩
      rcases hcs with ⟨hg,S'⟩|⟨h1,V1,cc,v,z,hg,S1,rc,lc⟩|⟨r',v,z,n',b',s',q',tm',hg,hrow,S'⟩
      ·obtain ⟨gs',ops,e1,e2,e3,e4,e5,e6⟩:=oF (K:=fun i=>i=D.k) hL hi (.inr rfl) hst (show stepG P (D.k==0) xk (W.at d)=_ by rw [hkk];exact hg);subst e2;exact Fin.next e1 (hO gs' W1 sl' _ qs ρ ρr ρs' x0 s1 L Ls buf taken n s q tm f1 1 RP1 (.run S') r1 hn0 hLs hLL hF' hH' (by rw [e5 0 x0 (by omega) h0,eU (RP1.again r1)]) e4 e6 (hP.symm.app m.le hF'.symm hsz (jb S'.sim m.ev D.k _ _)).symm)
      ·obtain ⟨a,ha1,ha2⟩:=r1;have hlt:D.c<W1.heap.size:=(eS ha1).1;have hev:=jb S1.sim m.ev D.k xk.frame.fn xk.frame.place;have hP1:=(hP.symm.app m.le hF'.symm hsz hev).symm;have hg0:stepG P (D.k==0) xk (W.at d)=.comm s1 #[scase D.c v z] true .send W1 es:=by rw [hkk];exact hg
       have push:∀ (W2:World),W2.os=W1.os->(∀b,b≠D.c->W2.heap[b]?=W1.heap[b]?)->∀n' b' s' q',jv W2 D.c n' b' false s' q' tm->Ls++[v] <+:D.L/\Snd P ([trap P.alt],D.Bs) ρs' hs' (s1.finishComm P #[scase D.c v z] .send 0 undef false) Vs' W2 D.cs D.c (Ls++[v]):=fun W2 hos hb n' b' s' q' r2=>by
        obtain ⟨v0,hrv,S2⟩:=S1.push rc lc hos hb ⟨a,ha1,ha2⟩ r2;have hpre2:Ls++[v0] <+:D.L:=by
         obtain ⟨_,_,_,_,_,k1,k2⟩:=S2.row;exact k2▸(O.pre hDs' _ _ _ _ _ _ k1).2
        obtain rfl:v=v0:=(O.flat v0 (hpre2.subset (by simp)) ρs').2 v hrv;exact ⟨hpre2,S2⟩
       have hkset:∀y,(gs.setIfInBounds D.k y)[0]?=some x0:=fun y=>by rw [sN O.k0];exact h0
       have lv:∀ (y:Goroutine) (u:Trace),(∀op∈u,cK W1.heap.size op.act)->Lv P (fun i=>i=D.k) (t++(MemOp.ofEvents D.k xk.frame.fn xk.frame.place es++u)) (gs.setIfInBounds D.k y) qs:=fun y u hu=>hL.put (fun op hop=>by
        rcases Array.mem_append.1 hop with k|k
        ·exact (hev op k).2.2.1
        ·exact (hu op k).still) (by simp) (fun j hj hjk=>sN (fun e=>hjk e.symm))
       cases RP1 with
       |last C hb hp=>
        subst hb;obtain ⟨k1,-⟩:=push W1 rfl (fun _ _=>rfl) n [] s q ⟨a,ha1,ha2⟩;rw [hLs,hLL] at k1;have:=k1.length_le;simp only [lP,lC,lN] at this;omega
       | @park h1' hr1' g1 h' V1' Vr1' V' vL z' L' sh C hb hd' hp'=>
        subst hb;have hoff:Conc.offersAt (parked g1 #[rcase D.c z'] sh) D.c false=[0]:=by rw [Conc.offersAt_parked_recv];simp
        have hrt:=Conc.crowd_send_meets (sl:=sl') (i:=D.k) (j:=0) hi hg0 ha1 (Ne.symm O.k0) h0 (nI hL (.inr ⟨rfl,rfl⟩) O.k0 h0 D.c false hoff);have r2:=dn W1 D.c n a false (s+1) (q+1) tm hlt;rw [ha2] at r2;obtain ⟨k1,S2⟩:=push (W1.setChan D.c n a false (s+1) (q+1) tm) rfl (fun b hb=>aG _ _ _ _ _ _ _ _ hb) n [] (s+1) (q+1) r2;obtain ⟨L2,hL2⟩:=tR (a:=Ls++[v]) (b:=[]) (c:=taken) (v:=v) (l:=vL::L') (by rw [hLs];simp) (hLL▸k1);cases hL2;have hv:v∈D.L:=k1.subset (by simp);have R2:=C.take O hv (W':=W1.setChan D.c n a false (s+1) (q+1) tm) rfl (fun b hb=>aG _ _ _ _ _ _ _ _ hb) ⟨a,ha1,ha2⟩ r2;have hu:∀op∈[({g:=D.k,fn:=s1.frame.fn,pos:=s1.frame.place,act:=.send D.c s}:MemOp),{g:=0,fn:=g1.frame.fn,pos:=g1.frame.place,act:=.recv D.c q n},{g:=D.k,fn:=s1.frame.fn,pos:=s1.frame.place,act:=.sendDone D.c s},{g:=0,fn:=g1.frame.fn,pos:=g1.frame.place,act:=.recvDone D.c q}],(op.g=0\/op.g=D.k)/\cK W1.heap.size op.act:=fun op hop=>by
         simp at hop;rcases hop with rfl|rfl|rfl|rfl
         ·exact ⟨.inr rfl,hlt⟩
         ·exact ⟨.inl rfl,hlt⟩
         ·exact ⟨.inr rfl,hlt⟩
         ·exact ⟨.inl rfl,hlt⟩
        refine Fin.next (hst.trans hrt) (hO _ _ sl' _ qs ρ ρr ρs' (g1.finishComm P #[rcase D.c z'] sh 0 v true) _ L' (Ls++[v]) [] (taken++[v]) n (s+1) (q+1) tm 1 1 (.run R2 hd' hp') (.run S2) r2 hn0 (by rw [hLs];simp) (by rw [hLL];simp) hF' hH'.set (by rw [sN O.k0];simp [hlt0]) (by simp [hltk]) (hL.put (fun op hop=>?_) (by simp) (fun j hj hjk=>by rw [sN (fun e=>hjk e.symm),sN (by omega)])) ?_)
        ·rcases Array.mem_append.1 hop with k|k
         ·exact (hev op k).2.2.1
         ·exact (hu op (by simpa using k)).2.still
        ·rw [<-Array.append_assoc,bR];exact PhT.ops hF' _ _ hP1 hu
       | @run h' _ V' _ R hd' hp'=>
        have hoff:Conc.offersAt x0 D.c false=[]:=Conc.offersAt_of_not_blocked (by rw [R.run];exact fun h=>by cases h) _ _;have hp0:=fQ (i:=D.k) hL (.inr ⟨rfl,rfl⟩) h0 D.c false hoff;by_cases hroom:a.size<n
        ·have hrt:=Conc.crowd_send_room (sl:=sl') (i:=D.k) hi hg0 ha1 hroom hp0;have r2:=dn W1 D.c n (a.push v) false (s+1) q tm hlt;rw [Array.toList_push,ha2] at r2;obtain ⟨k1,S2⟩:=push (W1.setChan D.c n (a.push v) false (s+1) q tm) rfl (fun b hb=>aG _ _ _ _ _ _ _ _ hb) n (buf++[v]) (s+1) q r2;have R2:=R.other (W1:=W1.setChan D.c n (a.push v) false (s+1) q tm) rfl (fun b hb=>aG _ _ _ _ _ _ _ _ hb) ⟨a,ha1,ha2⟩ r2;have hu:∀op∈[({g:=D.k,fn:=s1.frame.fn,pos:=s1.frame.place,act:=.send D.c s}:MemOp),{g:=D.k,fn:=s1.frame.fn,pos:=s1.frame.place,act:=.sendDone D.c s}],(op.g=0\/op.g=D.k)/\cK W1.heap.size op.act:=fun op hop=>by
          simp at hop;rcases hop with rfl|rfl<;>exact ⟨.inr rfl,hlt⟩
         refine Fin.next (hst.trans hrt) (hO _ _ sl' _ qs ρ ρr ρs' x0 _ L (Ls++[v]) (buf++[v]) taken n (s+1) q tm 1 1 (.run R2 hd' hp') (.run S2) r2 hn0 (by rw [hLs];simp) hLL hF' hH'.set (hkset _) (by simp [hltk]) (lv _ _ (fun op hop=>(hu op (by simpa using hop)).2)) ?_)
         rw [<-Array.append_assoc,bR];exact PhT.ops hF' _ _ hP1 hu
        ·have hfull:n<=a.size:=by omega
         have hrt:=Conc.crowd_waits (sl:=sl') (i:=D.k) hi hg0 (fun cc hcc=>by
          simp at hcc;subst hcc;exact Conc.ways_send_none ha1 hfull hp0)
         refine Fin.next (hst.trans hrt) (hO _ W1 sl' _ qs ρ ρr ρs' x0 _ L Ls buf taken n s q tm 1 0 (.run R hd' hp') (.park S1 rc lc (by rw [<-ha2,Array.length_toList];exact hfull)) ⟨a,ha1,ha2⟩ hn0 hLs hLL hF' hH' (hkset _) (by simp [hltk]) ?_ hP1)
         have:=lv (parked s1 #[scase D.c v z] .send) #[] (fun op hop=>by simp at hop);rw [Array.append_empty] at this;exact this
       | @pre h' g' _ V' _ k R hd' hp' hbo hy=>
        have hoff:Conc.offersAt x0 D.c false=[]:=Conc.offersAt_of_not_blocked (by rw [hy.status R.run];exact fun h=>by cases h) _ _;have hp0:=fQ (i:=D.k) hL (.inr ⟨rfl,rfl⟩) h0 D.c false hoff;by_cases hroom:a.size<n
        ·have hrt:=Conc.crowd_send_room (sl:=sl') (i:=D.k) hi hg0 ha1 hroom hp0;have r2:=dn W1 D.c n (a.push v) false (s+1) q tm hlt;rw [Array.toList_push,ha2] at r2;obtain ⟨k1,S2⟩:=push (W1.setChan D.c n (a.push v) false (s+1) q tm) rfl (fun b hb=>aG _ _ _ _ _ _ _ _ hb) n (buf++[v]) (s+1) q r2;have R2:=R.other (W1:=W1.setChan D.c n (a.push v) false (s+1) q tm) rfl (fun b hb=>aG _ _ _ _ _ _ _ _ hb) ⟨a,ha1,ha2⟩ r2;have hu:∀op∈[({g:=D.k,fn:=s1.frame.fn,pos:=s1.frame.place,act:=.send D.c s}:MemOp),{g:=D.k,fn:=s1.frame.fn,pos:=s1.frame.place,act:=.sendDone D.c s}],(op.g=0\/op.g=D.k)/\cK W1.heap.size op.act:=fun op hop=>by
          simp at hop;rcases hop with rfl|rfl<;>exact ⟨.inr rfl,hlt⟩
         refine Fin.next (hst.trans hrt) (hO _ _ sl' _ qs ρ ρr ρs' x0 _ L (Ls++[v]) (buf++[v]) taken n (s+1) q tm (k+2) 1 (.pre k R2 hd' hp' hbo (hy.rely (aG _ _ _ _ _ _ _ _ hbo.2))) (.run S2) r2 hn0 (by rw [hLs];simp) hLL hF' hH'.set (hkset _) (by simp [hltk]) (lv _ _ (fun op hop=>(hu op (by simpa using hop)).2)) ?_)
         rw [<-Array.append_assoc,bR];exact PhT.ops hF' _ _ hP1 hu
        ·have hfull:n<=a.size:=by omega
         have hrt:=Conc.crowd_waits (sl:=sl') (i:=D.k) hi hg0 (fun cc hcc=>by
          simp at hcc;subst hcc;exact Conc.ways_send_none ha1 hfull hp0)
         refine Fin.next (hst.trans hrt) (hO _ W1 sl' _ qs ρ ρr ρs' x0 _ L Ls buf taken n s q tm (k+2) 0 (.pre k R hd' hp' hbo hy) (.park S1 rc lc (by rw [<-ha2,Array.length_toList];exact hfull)) ⟨a,ha1,ha2⟩ hn0 hLs hLL hF' hH' (hkset _) (by simp [hltk]) ?_ hP1)
         have:=lv (parked s1 #[scase D.c v z] .send) #[] (fun op hop=>by simp at hop);rw [Array.append_empty] at this;exact this
      ·have hev:=jb S'.sim m.ev D.k xk.frame.fn xk.frame.place;have hrt:=mq (sl:=sl') (i:=D.k) hi (show stepG P (D.k==0) xk (W.at d)=_ by rw [hkk];exact hg) hrow;exact Fin.next (hst.trans hrt) (hO _ W1 sl' _ qs ρ ρr ρs' x0 _ L Ls buf taken n s q tm f1 1 RP1 (.run S') r1 hn0 hLs hLL hF' hH' (by rw [sN O.k0];exact h0) (by simp [hltk]) (hL.put (fun op hop=>(hev op hop).2.2.1) (by simp) (fun j hj hjk=>sN (fun e=>hjk e.symm))) (hP.symm.app m.le hF'.symm hsz hev).symm)
     ·obtain ⟨a,ha1,ha2⟩:=r;have hlt:D.c<W.heap.size:=(eS ha1).1;have hLD:Ls=D.L:=by
       obtain ⟨n0,b0,s0,q0,tm0,k1,k2⟩:=S.row;rw [<-k2];exact (O.ts hs Vs hTs _ _ _ _ _ _ k1).2
      have hbL:buf=L:=by
       have:taken++buf=taken++L:=by rw [<-hLs,<-hLL,hLD]
       exact List.append_cancel_left this
      obtain ⟨g',hmw,hgs,hg,mQ,hQ⟩:=O.close hs Vs ρs xk (W.at d) hTs ((hLD▸S).stays rfl (fun _ _ _ _=>rfl) rfl) n a s q tm ha1;have hrt:=runT_crowd_go (P:=P) (sl:=sl') (i:=D.k) hi (show stepG P (D.k==0) xk (W.at d)=_ by rw [hkk];exact hg);have hw:∀o,woken P xk g' (dG (W.at d) D.c n a s q tm) o=o.again (dG (W.at d) D.c n a s q tm):=fun o=>by
       unfold Conc.woken;rw [hmw,hgs];rfl
      have hW2:jv (dG (W.at d) D.c n a s q tm) D.c n L true s q tm:=by
       have:=dn (W.at d) D.c n a true s q tm hlt;rw [ha2,hbL] at this;exact this
      have hops:MemOp.ofEvents D.k xk.frame.fn xk.frame.place #[⟨.obj D.c,false,true⟩,⟨.obj D.c,true,true⟩]=#[{g:=D.k,fn:=xk.frame.fn,pos:=xk.frame.place,act:=.access ⟨.obj D.c,false,true⟩}]++#[{g:=D.k,fn:=xk.frame.fn,pos:=xk.frame.place,act:=.close D.c}]:=by rw [Conc.ofEvents_eq];simp [MemAct.ofEvent]
      rw [hops] at hrt;have hstill:∀op∈(#[{g:=D.k,fn:=xk.frame.fn,pos:=xk.frame.place,act:=.access ⟨.obj D.c,false,true⟩}]++#[{g:=D.k,fn:=xk.frame.fn,pos:=xk.frame.place,act:=.close D.c}]:Trace),op.act≠.mark .disable/\op.act≠.mark .enable:=fun op hop=>by
       simp at hop;rcases hop with rfl|rfl<;>exact ⟨by simp,by simp⟩
      have hP1:=(hP.symm.app (u:=#[{g:=D.k,fn:=xk.frame.fn,pos:=xk.frame.place,act:=.access ⟨.obj D.c,false,true⟩}]) (Ren.le_refl _) hF.symm (lR _) (fun op hop=>by
       simp at hop;subst hop;refine ⟨rfl,hlt,⟨by simp,by simp⟩,fun x hx=>?_⟩;simp only [MemAct.touch?,oI] at hx;subst hx;exact ⟨D.cs,S.pair,(fun h=>by cases h),(fun h=>by simp at h)⟩)).symm
      have hPC:=hP1.close (y:={g:=D.k,fn:=xk.frame.fn,pos:=xk.frame.place,act:=.close D.c}) ⟨rfl,rfl⟩ hlt;have hsz2:(dG (W.at d) D.c n a s q tm).heap.size=W.heap.size:=bR _ _ _ _ _ _ _ _;have hgsz:((gs.map (woken P xk g' (dG (W.at d) D.c n a s q tm))).setIfInBounds D.k g').size=gs.size:=by simp
      have hLv:Lv P (fun _=>False) (t++(#[{g:=D.k,fn:=xk.frame.fn,pos:=xk.frame.place,act:=.access ⟨.obj D.c,false,true⟩}]++#[{g:=D.k,fn:=xk.frame.fn,pos:=xk.frame.place,act:=.close D.c}])) ((gs.map (woken P xk g' (dG (W.at d) D.c n a s q tm))).setIfInBounds D.k g') (upd qs D.k mQ):=by
       refine ⟨fun j y hj _ hy=>?_,fun j hj=>?_⟩
       ·rw [bm t j _ hstill];by_cases hjk:D.k=j
        ·subst hjk;rw [sS (by simpa using hltk)] at hy;cases hy;rw [upd_same,hP.hq];exact hQ
        ·rw [sN hjk,Array.getElem?_map] at hy;obtain ⟨z,hz,rfl⟩:=Option.map_eq_some_iff.1 hy;have hq:=hL.old j z hj (fun e=>hjk e.symm) hz;rw [eU (iH hq _),upd_ne qs mQ (Ne.symm hjk)];exact hq
       ·rw [bm t j _ hstill];exact hL.above j (by rw [hgsz] at hj;exact hj)
      have hg0:((gs.map (woken P xk g' (dG (W.at d) D.c n a s q tm))).setIfInBounds D.k g')[0]?=some (x0.again (dG (W.at d) D.c n a s q tm)):=by
       rw [sN O.k0,Array.getElem?_map,h0];simp only [Option.map_some,hw]
      obtain ⟨pc,hPC'⟩:∃pc,PhC D.c pc ρs (dG (W.at d) D.c n a s q tm).heap.size (t++(#[{g:=D.k,fn:=xk.frame.fn,pos:=xk.frame.place,act:=.access ⟨.obj D.c,false,true⟩}]++#[{g:=D.k,fn:=xk.frame.fn,pos:=xk.frame.place,act:=.close D.c}])):=by
       rw [hsz2,<-Array.append_assoc];exact ⟨_,hPC⟩
      have hother:∀b,b≠D.c->(dG (W.at d) D.c n a s q tm).heap[b]?=W.heap[b]?:=fun b hb=>aG _ _ _ _ _ _ _ _ hb
      refine Fin.next (hst.trans hrt) ?_
      cases RP with
      | @run h' _ V' _ R hd' hp'=>
       have hag:x0.again (dG (W.at d) D.c n a s q tm)=x0:=Conc.again_running _ (.inl R.run);rw [hag] at hg0;exact hclosed _ _ sl' _ _ ρ ρr ρs h' x0 V' L n s q tm _ (R.other rfl hother ⟨a,ha1,ha2⟩ hW2) hd' hp' (fun v hv=>by rw [hLL];simp [hv]) hW2 hF (hH.at d).out.shut (fun y b k=>by rw [hsz2];exact (S.sim.lt k).2) hg0 hLv hPC'
      |park C hb _ _=>rw [hb] at hbL;cases hbL
      | @pre h' g1 _ V' _ k R hd' hp' hbo hy=>
       have hag:x0.again (dG (W.at d) D.c n a s q tm)=x0:=Conc.again_running _ (.inl (hy.status R.run));rw [hag] at hg0;exact vu hclosed hd' hp' (fun v hv=>by rw [hLL];simp [hv]) hF hbo.1 k _ _ sl' _ _ x0 (R.other rfl hother ⟨a,ha1,ha2⟩ hW2) (hy.rely (hother _ hbo.2)) hW2 (hH.at d).out.shut (fun y b k=>by rw [hsz2];exact (S.sim.lt k).2) hg0 hLv hPC'
      | @last h1' hr1' g1 h' hr'' V1' Vr1' V' Vr'' z' sh C hb hp'=>
       obtain ⟨a2,hr2,ha2'⟩:=hW2;rw [Conc.again_recv_closed hr2] at hg0;exact sk O hp' (sumTo _ (upd qs D.k mQ)) _ _ sl' _ _ (lR _) ⟨C.at1.other rfl hother ⟨a,ha1,ha2⟩ ⟨a2,hr2,ha2'⟩,C.sh,C.atc,C.rc,C.rcr⟩ ⟨a2,hr2,ha2'⟩ (hH.at d).out.shut hg0 hLv hPC'
   ·have hfirm:∀j o,(j=0\/j=D.k)->gs[j]?=some o->o.again (W.at d)=o:=fun j o hj ho=>by
     rcases hj with rfl|rfl
     ·rw [h0] at ho;cases ho;exact RP.again (w:=W.at d) r
     ·rw [hk] at ho;cases ho;exact SP.again (w:=W.at d) r
    obtain ⟨gs',q',ops,e1,e2,e3,e4,e5,e6,-⟩:=slip (K:=fun i=>i=D.k) hL hP (fun t i fn pos es hi hk h hm=>h.mute hi hk hm) hi hx (by omega) hik hfirm hst;exact Fin.next e1 (ih _ (by omega) gs' (W.at d) sl' (t++ops) q' ρ ρr ρs x0 xk f1 f2 (RP.stays rfl (fun _ _ _ _=>rfl) (fun _ _ _ _=>rfl) rfl) (SP.stays rfl (fun _ _ _ _=>rfl) rfl) r hF (hH.at d) ((e3 0 (.inl rfl)).trans h0) ((e3 D.k (.inr rfl)).trans hk) e4 e5 (lR _))
theorem Cf (O:tN P D Post){hr:Goroutine}{Vr:World}(hD:Dem P.alt D.Nr D.Tr hr Vr):∀hs Vs,Dem P.alt D.Ns D.Ts hs Vs->gK P D Post hr Vr hs Vs:=by
 induction hD with
 | @stop g w hT=>
  have hcl:=qm O (.stop (N:=D.Nr) hT);obtain ⟨h1,h2,h3⟩:=O.tr g w hT;have hls:∀τ d,∃hr' Vr',LS P.alt g (w.on τ d) hr' Vr':=fun τ d=>by
   obtain ⟨_,_,_,_,_,h',V',e,l⟩:=h3 τ d;exact ⟨h',V',.comm e l⟩
  have hn:∀τ d hr' Vr',LS P.alt g (w.on τ d) hr' Vr'->(∀hs Vs,Dem P.alt D.Ns D.Ts hs Vs->gK P D Post hr' Vr' hs Vs)\/((∀n b s q tm,w.heap[D.cr]?=some (.chan n b true s q tm)->b.toList=[])/\∃h1 cc s V1 es,stepG P.alt true g (w.on τ d)=.comm h1 cc true s V1 es):=fun τ d hr' Vr' _=>.inr ⟨h2,by
   obtain ⟨_,_,_,_,_,h',V',e,l⟩:=h3 τ d;exact ⟨_,_,_,_,_,e⟩⟩
  intro hs Vs hDs;induction hDs with
  |stop hTs=>exact lp O (.stop hTs) h1 hls hn hcl (.inr hTs)
  |step hN hT2 hgo hnx ih=>exact lp O (.step hN hT2 hgo hnx) h1 hls hn hcl (.inl ⟨O.ns _ _ hN,fun τ d=>⟨hgo τ d,fun hs' Vs' l=>⟨hnx τ d hs' Vs' l,ih τ d hs' Vs' l⟩⟩⟩)
 | @step g w hN hT hgo hnx ihr=>
  have hcl:=qm O (.step hN hT hgo hnx);intro hs Vs hDs;induction hDs with
  |stop hTs=>exact lp O (.stop hTs) (O.nr g w hN) hgo (fun τ d hr' Vr' l=>.inl (ihr τ d hr' Vr' l)) hcl (.inr hTs)
  |step hN2 hT2 hgo2 hnx2 ih=>exact lp O (.step hN2 hT2 hgo2 hnx2) (O.nr g w hN) hgo (fun τ d hr' Vr' l=>.inl (ihr τ d hr' Vr' l)) hcl (.inl ⟨O.ns _ _ hN2,fun τ d=>⟨hgo2 τ d,fun hs' Vs' l=>⟨hnx2 τ d hs' Vs' l,ih τ d hs' Vs' l⟩⟩⟩)
end
section
open Go
section
variable {P:Program} [Two P] {X:List Frame×List Frame} {A:Nat->Prop} {G:FuncId->Bool} {g g':Goroutine} {w w':World}
theorem i7.grow (hZ:bB P)(hN:bH P)(hG:G Dq=false){cs:Nat}(hA:A cs)(h:i7 P X A G g w)(hl:LS P g w g' w'){n:Nat}{b:Array Value}{cl:Bool}{s q:Nat}{tm:Bool}(hr:w.heap[cs]?=some (.chan n b cl s q tm)):
  ∃n' b' cl' s' q' tm',w'.heap[cs]?=some (.chan n' b' cl' s' q' tm')/\((b.toList <+:b'.toList/\(cl=true->cl'=true))\/cl'=true):=by
 obtain ⟨⟨hrn,ρ,k,u,hGo,S,hI,hE,ho,hwi,⟨hch,hcb,hFG⟩,hold,hmk⟩,hb⟩:=h;have hin:Base X g.frame k.callers:=fun e=>hb (hGo.callers.tail e)
 have sf:=il hZ hE hN hI true hGo hin (S.onR w.tape w.drawn) (fun i=>rfl);obtain ⟨b0,hb0⟩:=hcb cs hA;have row:∀ {ρ':Ren} {v v':World},Reach ρ ρ' w (u.on w.tape w.drawn) v v'->∃n' b' cl' s' q' tm',v.heap[cs]?=some (.chan n' b' cl' s' q' tm')/\((b.toList <+:b'.toList/\(cl=true->cl'=true))\/cl'=true):=fun R=>by
  rcases R.chs.row cs b0 (by rw [hch];exact hA) hb0 with ⟨e,-⟩|⟨-,n',b',s',q',tm',e⟩
  ·exact ⟨_,_,_,_,_,_,e.trans hr,.inl ⟨List.prefix_refl _,fun h=>h⟩⟩
  ·exact ⟨_,_,_,_,_,_,e,.inr rfl⟩
 rcases sf.rel with ⟨h1,-⟩|⟨-,h2⟩|⟨f,_,_,_,_,_,_,_,_,_,_,_,A⟩
 rotate_left 2
 ·exact absurd A.mark (hmk f)
 ·cases hl with
  |go h hr hd=>
   rw [h] at h1;obtain ⟨⟨d,f,e,-⟩,-⟩:=h1;rw [hd] at e;cases e
  |comm h _=>rw [h] at h1;exact h1.elim
 ·cases hl with
  |go h hr hd=>
   rw [h] at h2;generalize stepG P true k (u.on w.tape w.drawn)=y at h2;cases h2 with
   |go es ρ' R hg he=>exact row R
  | @comm g1 c s1 w1 es _ _ h hc=>
   rw [h] at h2;generalize stepG P true k (u.on w.tape w.drawn)=y at h2;cases h2 with
   | @comm _ k1 _ c' hC _ hs hrun _ u1 _ es' ρ' R hg hcc he _=>
    have hsn:c.send≠none:=fun e=>by have:=hC.2 e;rw [hFG,hG] at this;cases this
    obtain ⟨n1,b1,cl1,s1',q1,tm1,e1,e2⟩:=row R;cases hc with
    |recv q1 q2 q3 q4=>exact absurd q2 hsn
    |shut q1 q2 q3=>exact absurd q2 hsn
    |dead q1 q2 q3=>exact ⟨_,_,_,_,_,_,e1,e2⟩
    | @send r cap sent rcvd buf tm0 v0 q1 q2 q3 q4=>
     by_cases e:r=cs
     ·subst e;rw [e1] at q3;cases q3;have hlt:=(eS e1).1;refine ⟨_,_,_,_,_,_,sS hlt,?_⟩;rcases e2 with ⟨k1,k2⟩|k
      ·exact .inl ⟨k1.trans (by rw [Array.toList_push];exact List.prefix_append _ _),k2⟩
      ·cases k
     ·exact ⟨_,_,_,_,_,_,by simp only [sN e];exact e1,e2⟩
end
end
