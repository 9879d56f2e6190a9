/- Part of a proof. -/
import Derived.Test.YtnapepbdohidgaaGreatDoorQM09
set_option maxHeartbeats 4000000
set_option maxRecDepth 100000
namespace Go.Proofs.YtnapepbdohidgaaGreatDoorQ
section
open Go
open Go.Conc (crowd Past EvL Deaf QuitsD woken awake crowd_pick runT_crowd_go rcase scase parked ph)
section
variable {P:Program} [Two P] {X:List Frame×List Frame} {ρ:Ren} {h1 g1 h:Goroutine} {V1 V W W':World} {cV c:Nat} {L:List Value} {cc:CommCase} {v z:Value} {sh:CommShape}
theorem Side.case_ (S:Side P X ρ h1 g1 V1 W cV c L)(hrc:RC ρ cc (rcase c z)):cc.send=none/\(cc.chan=.chan (some cV)\/cc.chan=.tuple #[]):=by
 refine ⟨?_,?_⟩
 ·rcases hrc.send with ⟨k,-⟩|⟨_,_,-,k,-⟩
  ·exact k
  ·cases k
 ·have:=hrc.chan;simp only [rcase] at this;generalize cc.chan=x at this;cases this with
  |chan k=>
   cases k with
   |some k=>exact .inl (by rw [ρ.inj _ _ _ k S.pair])
  |dead=>exact .inr rfl
theorem Side.take (S:Side P X ρ h1 g1 V1 W cV c (v::L))(hrc:RC ρ cc (rcase c z))(hsh:∃ok,sh=.recv ok)(hlc:LC P.alt h1 cc sh V1 h V)(hv:Flat v)(hos:W'.os=W.os)(hs:∀b,b≠c->W'.heap[b]?=W.heap[b]?){n n':Nat}{b b':List Value}{cl cl':Bool}{s q s' q':Nat}{tm:Bool}(r1:jv W c n b cl s q tm)(r2:jv W' c n' b' cl' s' q' tm):
  Side P X ρ h (g1.finishComm P #[rcase c z] sh 0 v true) V W' cV c L:=by
 obtain ⟨hsd,hch⟩:=S.case_ hrc;obtain ⟨n0,b0,s0,q0,tm0,e1,e2⟩:=S.row;have hhs:(cc.send.isSome=true/\sh=.send)\/(cc.send=none/\∃ok,sh=.recv ok):=.inr ⟨hsd,hsh⟩;have S2:=S.other hos (fun _ b _ hb=>hs b hb) r1 r2;cases hlc with
 |send k1 k2 k3 k4=>rw [hsd] at k2;cases k2
 |dead k1 k2 k3=>rw [hsd] at k2;cases k2
 | @shut r cap sent rcvd tm k1 k2 k3=>
  rw [k1] at hch;rcases hch with hch|hch
  ·cases hch;rw [e1] at k3;cases k3;simp at e2
  ·cases hch
 | @recv r cap sent rcvd buf cl tm k1 k2 k3 k4=>
  rw [k1] at hch;rcases hch with hch|hch
  ·cases hch;rw [e1] at k3;cases k3;have hb0:b0.getD 0 undef=v:=by
    rw [gD,<-Array.getElem?_toList,e2];rfl
   have hbx:(b0.extract 1 b0.size).toList=L:=by
    have hl:b0.toList.length=b0.size:=Array.length_toList;rw [Array.toList_extract,e2] at *;simp at hl ⊢;rw [<-hl];simp
   have hlt:=(S.sim.lt S.pair).1;refine ⟨?_,?_,S.gid,S.ext,S.calm,S.loose,S.ch,S.pair,⟨_,_,_,_,_,sS hlt,hbx⟩⟩
   ·rw [hb0];exact dg S.go hrc sh hhs (hv ρ).1 true
   ·obtain ⟨a',r2,-⟩:=r2;have hput:=S2.sim.put S.pair (o:=.chan n0 (b0.extract 1 b0.size) true s0 (q0+1) tm0) (o':=.chan n' a' cl' s' q' _) (.chan _ _ _ _ _ _ _ _ _ (.inl S.loose.1) (.inl S.loose.2)) (fun hold=>by
     obtain ⟨o,f1,f2⟩:=S.sim.fix _ hold;rw [e1] at f1;cases f1;exact f2) (fun _=>rfl) (fun _ _ _ k=>by rw [e1] at k;cases k)
    have htm:tm0=tm:=by
     obtain ⟨o,o',f1,f2,f3⟩:=S.sim.obj _ _ S.pair;obtain ⟨a,r1,-⟩:=r1;rw [e1] at f1;cases f1;rw [r1] at f2;cases f2;cases f3;rfl
    subst htm;have hlt':c<W'.heap.size:=(eS r2).1;have e3:W'.heap.setIfInBounds c (.chan n' a' cl' s' q' tm0)=W'.heap:=by
     apply Array.ext_getElem?;intro j;by_cases hj:c=j
     ·subst hj;rw [sS hlt',r2]
     ·rw [sN hj]
    rw [e3] at hput;exact hput
  ·cases hch
theorem Side.nothing (S:Side P X ρ h1 g1 V1 W cV c [])(hrc:RC ρ cc (rcase c z))(hsh:∃ok,sh=.recv ok)(hlc:LC P.alt h1 cc sh V1 h V):Side P X ρ h (g1.finishComm P #[rcase c z] sh 0 z false) V W cV c []:=by
 obtain ⟨hsd,hch⟩:=S.case_ hrc;obtain ⟨n0,b0,s0,q0,tm0,e1,e2⟩:=S.row;have hhs:(cc.send.isSome=true/\sh=.send)\/(cc.send=none/\∃ok,sh=.recv ok):=.inr ⟨hsd,hsh⟩;cases hlc with
 |send k1 k2 k3 k4=>rw [hsd] at k2;cases k2
 |dead k1 k2 k3=>rw [hsd] at k2;cases k2
 |recv k1 k2 k3 k4=>
  rw [k1] at hch;rcases hch with hch|hch
  ·cases hch;rw [e1] at k3;cases k3;have:b0=#[]:=Array.toList_inj.1 (by simpa using e2);rw [this] at k4;simp at k4
  ·cases hch
 |shut k1 k2 k3=>exact ⟨dg S.go hrc sh hhs hrc.zero false,S.sim,S.gid,S.ext,S.calm,S.loose,S.ch,S.pair,S.row⟩
end
section
variable {P:Program} [Two P] {X:List Frame×List Frame} {ρ:Ren} {h1 g1 h:Goroutine} {V1 V W W':World} {cs c:Nat} {L:List Value} {cc:CommCase} {v z:Value}
theorem Snd.case_ (S:Snd P X ρ h1 g1 V1 W cs c L)(hrc:RC ρ cc (scase c v z)):(∃v0,cc.send=some v0/\RV ρ v0 v)/\(cc.chan=.chan (some cs)\/cc.chan=.tuple #[]):=by
 refine ⟨?_,?_⟩
 ·rcases hrc.send with ⟨-,k⟩|⟨v0,v1,k,k2,k3⟩
  ·cases k
  ·cases k2;exact ⟨v0,k,k3⟩
 ·have:=hrc.chan;simp only [scase] at this;generalize cc.chan=x at this;cases this with
  |chan k=>
   cases k with
   |some k=>exact .inl (by rw [ρ.inj _ _ _ k S.pair])
  |dead=>exact .inr rfl
theorem Snd.push (S:Snd P X ρ h1 g1 V1 W cs c L)(hrc:RC ρ cc (scase c v z))(hlc:LC P.alt h1 cc .send V1 h V)(hos:W'.os=W.os)(hs:∀b,b≠c->W'.heap[b]?=W.heap[b]?){n n':Nat}{b b':List Value}{s q s' q':Nat}{tm:Bool}(r1:jv W c n b false s q tm)(r2:jv W' c n' b' false s' q' tm):
  ∃v0,RV ρ v0 v/\Snd P X ρ h (g1.finishComm P #[scase c v z] .send 0 undef false) V W' cs c (L++[v0]):=by
 obtain ⟨⟨v0,hsd,hrv⟩,hch⟩:=S.case_ hrc;obtain ⟨n0,b0,s0,q0,tm0,e1,e2⟩:=S.row;have hhs:(cc.send.isSome=true/\CommShape.send=.send)\/(cc.send=.none/\∃ok,CommShape.send=.recv ok):=.inl ⟨by rw [hsd];rfl,rfl⟩;have S2:=S.other hos (fun _ b _ hb=>hs b hb) r1 r2;cases hlc with
 |recv k1 k2 k3 k4=>rw [hsd] at k2;cases k2
 |shut k1 k2 k3=>rw [hsd] at k2;cases k2
 |dead k1 k2 k3=>
  rw [k1] at hch;rcases hch with hch|hch
  ·cases hch;rw [e1] at k3;cases k3
  ·cases hch
 | @send r cap sent rcvd buf tm1 v1 k1 k2 k3 k4=>
  rw [hsd] at k2;cases k2;rw [k1] at hch;rcases hch with hch|hch
  ·cases hch;rw [e1] at k3;cases k3;have hlt:=(S.sim.lt S.pair).1;refine ⟨v0,hrv,?_,?_,S.gid,S.ext,S.calm,S.unmk,S.loose,S.ch,S.pair,⟨_,_,_,_,_,sS hlt,by simp [e2]⟩,fun a n b s q tm ho=>?_⟩
   ·exact dg S.go hrc .send hhs cD false
   ·obtain ⟨a',r2,-⟩:=r2;have htm:tm0=tm:=by
     obtain ⟨o,o',f1,f2,f3⟩:=S.sim.obj _ _ S.pair;obtain ⟨a,r1,-⟩:=r1;rw [e1] at f1;cases f1;rw [r1] at f2;cases f2;cases f3;rfl
    subst htm;have hput:=S2.sim.put S.pair (o:=.chan n0 (b0.push v0) false (s0+1) q0 tm0) (o':=.chan n' a' false s' q' tm0) (.chan _ _ _ _ _ _ _ _ _ (.inl S.loose.1) (.inr rfl)) (fun hold=>by
     obtain ⟨o,f1,f2⟩:=S.sim.fix _ hold;rw [e1] at f1;cases f1;exact f2) (fun _=>rfl) (fun _ _ _ k=>by rw [e1] at k;cases k)
    have hlt':c<W'.heap.size:=(eS r2).1;have e3:W'.heap.setIfInBounds c (.chan n' a' false s' q' tm0)=W'.heap:=by
     apply Array.ext_getElem?;intro j;by_cases hj:c=j
     ·subst hj;rw [sS hlt',r2]
     ·rw [sN hj]
    rw [e3] at hput;exact hput
   ·by_cases ha:cs=a
    ·exact ha.symm
    ·simp only [sN ha] at ho;exact S.only a n b s q tm ho
  ·cases hch
end
structure PhD (P:Program) where
 T:Goroutine->World->Prop
 Nr:Goroutine->World->Prop
 Tr:Goroutine->World->Prop
 Ns:Goroutine->World->Prop
 Ts:Goroutine->World->Prop
 h0:Goroutine
 V0:World
 k:Nat
 c:Nat
 cV:Nat
 cr:Nat
 cs:Nat
 X:List Frame×List Frame
 Bs:List Frame
 L:List Value
 R0:Nat->Nat->Prop
 Fp:FuncId->Bool
 Fr:FuncId->Bool
 bo:Nat
 U:Outer
variable {P:Program} [Two P] (D:PhD P)
def dG (W:World)(c n:Nat)(b:Array Value)(s q:Nat)(tm:Bool):World:=W.setChan c n b true s q tm
structure xH (D:PhD P)(ρ:Ren)(V W:World):Prop where
 base:(∀a b,D.R0 a b->ρ a b)/\ρ.F=D.Fp
 all:∀a b o,ρ a b->V.heap[a]?=some o->o.isChan=true->ρ.ch a
 rest:∀a b,ρ.ch a->ρ a b->a≠D.cV->∃n s q tm n' s' q',V.heap[a]?=some (.chan n #[] true s q tm)/\W.heap[b]?=some (.chan n' #[] true s' q' tm)
structure tN (P:Program) [Two P](D:PhD P)(Post:Value->World->Prop):Prop where
 zero:bB P
 count:bH P
 mark:∀f,Mk D.Fp f=true->∀fn b,P.funcs[f]?=some fn->fn.body=some b->aA P D.Fr b=false
 k0:D.k≠0
 flat:∀v∈D.L,Flat v
 deep:2<=D.X.1.length
 leafT:∀h V,D.T h V->h.callers.length<=1
 nr:∀h V,D.Nr h V->NB [trap P.alt] h
 tr:∀h V,D.Tr h V->NB [trap P.alt] h/\(∀n b s q tm,V.heap[D.cr]?=some (.chan n b true s q tm)->b.toList=[])/\∀τ d,∃h1 cc s V1 es h' V',stepG P.alt true h (V.on τ d)=.comm h1 #[cc] true s V1 es/\LC P.alt h1 cc s V1 h' V'
 ns:∀h V,D.Ns h V->NB [trap P.alt] h
 bs:D.Bs≠[]
 grow:∀h V τ d h' V',D.Ns h V->LS P.alt h (V.on τ d) h' V'->∀n b cl s q tm,V.heap[D.cs]?=some (.chan n b cl s q tm)->∃n' b' cl' s' q' tm',V'.heap[D.cs]?=some (.chan n' b' cl' s' q' tm')/\((b.toList <+:b'.toList/\(cl=true->cl'=true))\/cl'=true)
 ts:∀h V,D.Ts h V->∀n b cl s q tm,V.heap[D.cs]?=some (.chan n b cl s q tm)->cl=false/\b.toList=D.L
 close:∀h V ρ g W,D.Ts h V->Snd P ([trap P.alt],D.Bs) ρ h g V W D.cs D.c D.L->∀n b s q tm,W.heap[D.c]?=some (.chan n b false s q tm)->∃g',mayWake P g=true/\g'.status=.running/\stepG P false g W=.go g' (dG W D.c n b s q tm) #[⟨.obj D.c,false,true⟩,⟨.obj D.c,true,true⟩]/\∃m,QuitsD P m 0 g'
 fin:∀ρ h g V W n s q tm gs sl t qs,Side P D.X ρ h g V W D.cV D.c []->xH D ρ V W->Kp D.U W/\Off D.U ρ->W.heap[D.c]?=some (.chan n #[] true s q tm)->LSs P.alt D.T D.h0 D.V0 h V->gs[0]?=some g->Lv P (fun _=>False) t gs qs->Past gq W.heap.size t->Fin P Post gs W sl t
section
variable {D} {Post:Value->World->Prop}
theorem tN.pre (O:tN P D Post){h:Goroutine}{V:World}(hD:Dem P.alt D.Ns D.Ts h V):∀n b cl s q tm,V.heap[D.cs]?=some (.chan n b cl s q tm)->cl=false/\b.toList <+:D.L:=by
 induction hD with
 |stop hT=>
  intro n b cl s q tm hr;obtain ⟨h1,h2⟩:=O.ts _ _ hT n b cl s q tm hr;exact ⟨h1,h2▸List.prefix_refl _⟩
 | @step g w hN hT hgo _ ih=>
  intro n b cl s q tm hr;obtain ⟨h',V',hl⟩:=hgo w.tape w.drawn;obtain ⟨n',b',cl',s',q',tm',h1,h2⟩:=O.grow g w _ _ h' V' hN hl n b cl s q tm hr;obtain ⟨k1,k2⟩:=ih _ _ h' V' hl n' b' cl' s' q' tm' h1;rcases h2 with ⟨h2,h3⟩|h2
  rotate_left
  ·rw [h2] at k1;cases k1
  refine ⟨?_,h2.trans k2⟩;cases cl with
  |false=>rfl
  |true=>rw [h3 rfl] at k1;cases k1
end
end
section
open Go
open Go.Conc (crowd Past EvL Deaf QuitsD woken awake crowd_pick runT_crowd_go rcase scase parked ph)
section
variable {P:Program} {gs:Array Goroutine} {w w₁:World} {sl:Option (Nat×Nat)} {i j:Nat} {g g₂ gj:Goroutine} {es:Array Event} {shape shj:CommShape} {blocking:Bool}
 {c cap s r:Nat} {buf:Array Value} {closed tm:Bool} {v z zj:Value}
theorem mo (hi:gs[i]?=some g)(h:stepG P (i==0) g w=.comm g₂ #[rcase c z] blocking shape w₁ es)(hc:w₁.heap[c]?=some (.chan cap buf closed s r tm))(hsome:0<buf.size)
  (hij:j≠i) (hj:gs[j]?=some (parked gj #[scase c v zj] shj)) (hp:partners (gs.setIfInBounds i ph) c true=[(j,0)]):
  runT P (crowd gs w sl) i=(.next (crowd ((gs.setIfInBounds j (gj.finishComm P #[scase c v zj] shj 0 undef false)).setIfInBounds i (g₂.finishComm P #[rcase c z] shape 0 (buf.getD 0 undef) true)) (w₁.setChan c cap ((buf.extract 1 buf.size).push v) closed (s+1) (r+1) tm) sl),
   MemOp.ofEvents i g.frame.fn g.frame.place es++#[{g:=i,fn:=g₂.frame.fn,pos:=g₂.frame.place,act:=.recv c r cap},{g:=i,fn:=g₂.frame.fn,pos:=g₂.frame.place,act:=.recvDone c r},
    {g:=j,fn:=gj.frame.fn,pos:=gj.frame.place,act:=.send c s},{g:=j,fn:=gj.frame.fn,pos:=gj.frame.place,act:=.sendDone c s}]):=by
 rw [Conc.runT_crowd_comm hi h];have hj':=Conc.stand_get (i:=i) hij hj;have hfp:=Conc.finishPartner_at P (gs.setIfInBounds i ph) hj' (cs:=#[scase c v zj]) (sh:=shj) rfl 0 undef;have hgd:(gs.setIfInBounds i ph).getD j default=parked gj #[scase c v zj] shj:=by rw [gD,hj'];rfl
 have hov:offeredValue (gs.setIfInBounds i ph) j 0=v:=by simp [offeredValue,hj',parked,scase]
 simp [communicate,ways,rcase,hc,hp,hsome,choose,Sem.run,Question.forced,bind,Sem.bind,pure,World.setChan,crowd,hfp,hgd,hov,Conc.set_stand2,scase,parked];rfl
end
def jc (P : Program) : List PanicEntry := [{ v := .iface P.rt.plainError (strVal "send on closed channel"), recovered := false }]
theorem mq {P:Program}{gs:Array Goroutine}{w w₁:World}{sl:Option (Nat×Nat)}{i:Nat}{g g₂:Goroutine}{es:Array Event}{shape:CommShape}{blocking:Bool}{c cap s r:Nat}{buf:Array Value}{tm:Bool}{v z:Value}(hi:gs[i]?=some g)(h:stepG P (i==0) g w=.comm g₂ #[scase c v z] blocking shape w₁ es)(hc:w₁.heap[c]?=some (.chan cap buf true s r tm)):
  runT P (crowd gs w sl) i=(.next (crowd (gs.setIfInBounds i {g₂ with frame:=g₂.frame.raise (jc P)}) w₁ sl),MemOp.ofEvents i g.frame.fn g.frame.place es):=by
 rw [Conc.runT_crowd_comm hi h];simp [communicate,ways,scase,hc,choose,Sem.run,Question.forced,bind,Sem.bind,pure,runtimePanic,goPanic,program,crowd,jc]
variable {P:Program} [Two P]
structure Moved (ρ ρ' ρr ρr':Ren)(W W1:World)(c:Nat)(es:Array Event):Prop where
 le:ρ.le ρ'
 ler:ρr.le ρr'
 new:∀a b,ρ' a b->ρ a b\/W.heap.size<=b
 newr:∀a b,ρr' a b->ρr a b\/W.heap.size<=b
 keep:Keep ρr W W1
 row:W1.heap[c]?=W.heap[c]?
 ev:∀e∈es,ie ρr' e
structure nc (D:PhD P)(ρ ρr:Ren)(W:World)(h hr g:Goroutine)(V Vr:World)(L:List Value):Prop where
 side:Side P D.X ρ h g V W D.cV D.c L
 sideR:Side P ([trap P.alt],D.X.2) ρr hr g Vr W D.cr D.c L
 only:∀ (a:Nat) o,Vr.heap[a]?=some o->o.isChan=true->a=D.cr
 chR:∀x,ρr.ch x->x=D.cr
 unmk:(∀f,¬Mk ρr.F f=true)/\ρr.F=D.Fr
 base:(∀a b,D.R0 a b->ρ a b)/\ρ.F=D.Fp
 all:∀a b o,ρ a b->V.heap[a]?=some o->o.isChan=true->ρ.ch a
 rest:∀a b,ρ.ch a->ρ a b->a≠D.cV->∃n s q tm n' s' q',V.heap[a]?=some (.chan n #[] true s q tm)/\W.heap[b]?=some (.chan n' #[] true s' q' tm)
structure Dr (D:PhD P)(ρ ρr:Ren)(W:World)(h1 hr1 g1:Goroutine)(V1 Vr1:World)(L:List Value)(z:Value)(s:CommShape)(h hr:Goroutine)(V Vr:World):Prop where
 at1:nc D ρ ρr W h1 hr1 g1 V1 Vr1 L
 sh:∃ok,s=.recv ok
 atc:AtC P g1 (rcase D.c z) s
 rc:∃cc,RC ρ cc (rcase D.c z)/\LC P.alt h1 cc s V1 h V
 rcr:∃cc,RC ρr cc (rcase D.c z)/\LC P.alt hr1 cc s Vr1 hr Vr
section
variable {D:PhD P} {Post:Value->World->Prop} {ρ ρr:Ren} {W:World} {h hr g:Goroutine} {V Vr:World} {L:List Value}
omit [Two P] in
theorem LC.only {g g':Goroutine}{cc:CommCase}{s:CommShape}{V V':World}(h:LC P g cc s V g' V'){c0:Nat}(ho:∀ (a:Nat) o,V.heap[a]?=some o->o.isChan=true->a=c0):∀ (a:Nat) o,V'.heap[a]?=some o->o.isChan=true->a=c0:=by
 intro a o hao hc;cases h with
 |shut=>exact ho a o hao hc
 |dead=>exact ho a o hao hc
 | @send r cap sent rcvd buf tm v h1 h2 h3 h4=>
  by_cases e:r=a
  ·subst e;exact ho _ _ h3 rfl
  ·exact ho a o (by simpa [e] using hao) hc
 | @recv r cap sent rcvd buf cl tm h1 h2 h3 h4=>
  by_cases e:r=a
  ·subst e;exact ho _ _ h3 rfl
  ·exact ho a o (by simpa [e] using hao) hc
theorem tO (O:tN P D Post)(R:nc D ρ ρr W h hr g V Vr L)(hnb:NB [trap P.alt] hr)(d:Nat){h' hr':Goroutine}{V' Vr':World}(hl:LS P.alt h (V.on W.tape d) h' V')(hlr:LS P.alt hr (Vr.on W.tape d) hr' Vr'):
    ∃g1 W1 es ρ' ρr',Moved ρ ρ' ρr ρr' W W1 D.c es /\
      ((stepG P true g (W.at d)=.go g1 W1 es/\nc D ρ' ρr' W1 h' hr' g1 V' Vr' L) \/
       (∃h1 hr1 V1 Vr1 z s,stepG P true g (W.at d)=.comm g1 #[rcase D.c z] true s W1 es/\Dr D ρ' ρr' W1 h1 hr1 g1 V1 Vr1 L z s h' hr' V' Vr')):=by
  have S:=R.side;have Sr:=R.sideR;have hbr:Base ([trap P.alt],D.X.2) hr.frame g.callers:=fun e=>hnb (Sr.go.callers.tail e)
  have hb:Base D.X h.frame g.callers:=fun e=>by
    rcases hbr e with k|k
    · have m1:=Sr.go.frame.mode
      have m2:=S.go.frame.mode;rw [k] at m1;cases hm:g.frame.mode<;>rw [hm] at m1<;>cases m1
      rw [hm] at m2
      left
      generalize h.frame.mode=x at m2;cases m2;rfl
    · right
      have m1:=Sr.go.frame.defers;have m2:=S.go.frame.defers;intro hn;rw [hn] at m2;generalize g.frame.defers=x at m1 m2;cases m2;generalize hr.frame.defers=y at m1 k;cases m1;exact k rfl
  obtain ⟨-,sr⟩:=ln O.zero O.count true Sr.go hbr Sr.sim Sr.gid Sr.ext R.unmk.1 d rfl hlr;obtain ⟨-,sv⟩:=mn O.zero O.count true S.go hb S.sim S.gid S.ext d rfl hl (fun f a' fr' cs' u' es' hM hst=>by
    have hst:stepG P true g (W.at d)=_:=hst;rw [hst] at sr;obtain ⟨-,fn,-,hfn,-,hbs,-⟩:=S.gid.apart f hM;obtain ⟨b,hb0⟩:=Option.isSome_iff_exists.1 hbs;have hno:=O.mark f (by rw [<-R.base.2];exact hM) fn b hfn hb0;generalize stepG P.alt true hr (Vr.on W.tape d)=z at sr;cases sr with
    | @go hx _ _ _ _ _ ρ2 R2 hg2 _=>
      have ht:=hg2.frame.todo;have e:(Frame.enter P f a' .normal).todo=[.code b]:=by simp [Frame.enter,hfn,hb0]
      simp only [e] at ht;generalize hx.frame.todo=td at ht;cases ht with
      |cons hi _=>
        cases hi with
        |code h=>
          rw [R2.le.F,R.unmk.2,hno] at h;cases h)
  have calm1:∀ {ρ':Ren},ρ.le ρ'->(ρ'.F ft=false/\ρ'.F j8=false)/\(ρ'.loose=true/\ρ'.wide=true)/\ρ'.ch D.cV:=fun l=>⟨by rw [l.F];exact S.calm,by rw [l.loose,l.wide];exact S.loose,by rw [l.ch];exact S.ch⟩
  have calmr:∀ {ρ':Ren},ρr.le ρ'->(ρ'.F ft=false/\ρ'.F j8=false)/\(ρ'.loose=true/\ρ'.wide=true)/\ρ'.ch D.cr:=fun l=>⟨by rw [l.F];exact Sr.calm,by rw [l.loose,l.wide];exact Sr.loose,by rw [l.ch];exact Sr.ch⟩
  have rowV:∀ {ρ':Ren} {u u':World},Reach ρ ρ' (V.on W.tape d) (W.at d) u u'->∃n b s q tm,u.heap[D.cV]?=some (.chan n b true s q tm)/\b.toList=L:=fun R=>by
    obtain ⟨n,b,s,q,tm,h1,h2⟩:=S.row;rcases R.chs.row D.cV D.c S.ch S.pair with ⟨k,-⟩|⟨k,-⟩
    · exact ⟨n,b,s,q,tm,k.trans h1,h2⟩
    · rw [S.calm.1] at k;cases k
  have allV:∀ {ρ':Ren} {u u':World},Reach ρ ρ' (V.on W.tape d) (W.at d) u u'->(∀a b o,ρ' a b->u.heap[a]?=some o->o.isChan=true->ρ'.ch a)/\∀a b,ρ'.ch a->ρ' a b->a≠D.cV->∃n s q tm n' s' q',u.heap[a]?=some (.chan n #[] true s q tm)/\u'.heap[b]?=some (.chan n' #[] true s' q' tm):=fun R1=>by
    refine ⟨fun a b o hab ho hc=>?_,fun a b hch hab hne=>?_⟩
    · rw [R1.le.ch]
      rcases R1.chs.only S.calm.2 a o ho hc with k|⟨k,-⟩
      · rcases R1.new a b hab with k2|⟨k2,-⟩
        · exact R.all a b o k2 k hc
        · have:a<V.heap.size:=(eS k).1
          exact absurd k2 (by show ¬V.heap.size<=a;omega)
      · rw [S.calm.1] at k;cases k
    · rw [R1.le.ch] at hch
      rcases R1.new a b hab with k2|⟨k2,-⟩
      · obtain ⟨n,s,q,tm,n',s',q',e1,e2⟩:=R.rest a b hch k2 hne
        rcases R1.chs.row a b hch k2 with ⟨k,k3⟩|⟨k,-⟩
        · exact ⟨n,s,q,tm,n',s',q',k.trans e1,k3.trans e2⟩
        · rw [S.calm.1] at k;cases k
      · obtain ⟨o,e1,-⟩:=S.sim.chan a hch
        have:a<V.heap.size:=(eS e1).1;exact absurd k2 (by show ¬V.heap.size<=a;omega)
  have rowR:∀ {ρ':Ren} {u u':World},Reach ρr ρ' (Vr.on W.tape d) (W.at d) u u'->(∃n b s q tm,u.heap[D.cr]?=some (.chan n b true s q tm)/\b.toList=L)/\u'.heap[D.c]?=W.heap[D.c]?/\∀ (a:Nat) o,u.heap[a]?=some o->o.isChan=true->a=D.cr:=fun R1=>by
    obtain ⟨n,b,s,q,tm,h1,h2⟩:=Sr.row;refine ⟨?_,?_,fun a o ho hc=>?_⟩
    · rcases R1.chs.row D.cr D.c Sr.ch Sr.pair with ⟨k,-⟩|⟨k,-⟩
      · exact ⟨n,b,s,q,tm,k.trans h1,h2⟩
      · rw [Sr.calm.1] at k;cases k
    · rcases R1.chs.row D.cr D.c Sr.ch Sr.pair with ⟨-,k⟩|⟨k,-⟩
      · exact k
      · rw [Sr.calm.1] at k;cases k
    · rcases R1.chs.only Sr.calm.2 a o ho hc with k|⟨k,-⟩
      · exact R.only a o k hc
      · rw [Sr.calm.1] at k;cases k
  cases hlr with
  | @go _ _ esr er hr2 hd2=>
    rw [er] at sr;generalize hy:stepG P true g (W.at d)=y at sr sv;cases sr with
    | @go _ g1 _ W1 _ es ρr' R1 hg1 he1=>
      cases hl with
      | @go _ _ esv ev hrv hdv=>
        rw [ev] at sv;cases sv with
        |go _ ρ' R2 hg2 he2=>
          obtain ⟨k1,k3,k4⟩:=calm1 R2.le;obtain ⟨m1,m3,m4⟩:=calmr R1.le;obtain ⟨r1,r2,r3⟩:=rowR R1;exact ⟨g1,W1,es,ρ',ρr',⟨R2.le,R1.le,fun a b h=>(R2.new a b h).imp id (·.2),fun a b h=>(R1.new a b h).imp id (·.2),⟨R1.keep.os,R1.keep.output,R1.keep.tape,R1.keep.size,R1.keep.block⟩,r2,he1⟩,.inl ⟨rfl,
            ⟨⟨hg2,R2.sim,S.gid.mono R2.le,by rw [R2.le.F];exact S.ext,k1,k3,k4,R2.le _ _ S.pair,rowV R2⟩,⟨hg1,R1.sim,Sr.gid.mono R1.le,by rw [R1.le.F];exact Sr.ext,m1,m3,m4,R1.le _ _ Sr.pair,r1⟩,r3,(by rw [R1.le.ch];exact R.chR),(by rw [R1.le.F];exact R.unmk),⟨fun a b k=>R2.le _ _ (R.base.1 a b k),R2.le.F.trans R.base.2⟩,(allV R2).1,(allV R2).2⟩⟩⟩
      |comm ev _=>
        rw [ev] at sv;cases sv
  | @comm hr1 ccr s Vr1 esr _ _ er hcr=>
    rw [er] at sr;generalize hy:stepG P true g (W.at d)=y at sr sv;cases sr with
    | @comm _ g1 _ c' hC _ hsh hrun _ W1 _ es ρr' R1 hg1 hcc1 he1 ha1=>
      cases hl with
      |go ev _ _=>rw [ev] at sv;cases sv
      | @comm h1 cc sv' V1 esv _ _ ev hcv=>
        rw [ev] at sv;cases sv with
        |comm hC2 _ hsh2 hrun2 _ ρ' R2 hg2 hcc2 he2 ha2=>
          obtain ⟨k1,k3,k4⟩:=calm1 R2.le;obtain ⟨m1,m3,m4⟩:=calmr R1.le;obtain ⟨r1,r2,r3⟩:=rowR R1;have hsn:ccr.send=none:=by
            cases hx:ccr.send with
            |none=>rfl
            |some v=>have:=hC.1 (by rw [hx];rfl);rw [Sr.calm.1] at this;cases this
          have hsn':c'.send=none:=by
            rcases hcc1.send with ⟨-,k⟩|⟨v,_,k,-⟩
            · exact k
            · rw [hsn] at k;cases k
          have hchan:ccr.chan=.chan (some D.cr):=by
            cases hcr with
            |send q1 q2 q3 q4=>rw [hsn] at q2;cases q2
            |dead q1 q2 q3=>rw [hsn] at q2;cases q2
            |recv q1 q2 q3 q4=>rw [q1,r3 _ _ q3 rfl]
            |shut q1 q2 q3=>rw [q1,r3 _ _ q3 rfl]
          have hc':c'=rcase D.c c'.zero:=by
            refine tM ?_ hsn';have:=hcc1.chan;rw [hchan] at this;generalize c'.chan=x at this;cases this with
            |chan k=>cases k with
              |some k=>rw [ρr'.fn _ _ _ k (R1.le _ _ Sr.pair)]
          have hshr:∃ok,s=.recv ok:=by
            rcases hsh with ⟨k,-⟩|⟨-,k⟩
            · rw [hsn] at k;cases k
            · exact k
          refine ⟨g1,W1,es,ρ',ρr',⟨R2.le,R1.le,fun a b h=>(R2.new a b h).imp id (·.2),fun a b h=>(R1.new a b h).imp id (·.2),⟨R1.keep.os,R1.keep.output,R1.keep.tape,R1.keep.size,R1.keep.block⟩,r2,he1⟩,.inr ⟨h1,hr1,V1,Vr1,c'.zero,s,by rw [<-hc'],
            ⟨⟨⟨hg2,R2.sim,S.gid.mono R2.le,by rw [R2.le.F];exact S.ext,k1,k3,k4,R2.le _ _ S.pair,rowV R2⟩,⟨hg1,R1.sim,Sr.gid.mono R1.le,by rw [R1.le.F];exact Sr.ext,m1,m3,m4,R1.le _ _ Sr.pair,r1⟩,r3,(by rw [R1.le.ch];exact R.chR),(by rw [R1.le.F];exact R.unmk),⟨fun a b k=>R2.le _ _ (R.base.1 a b k),R2.le.F.trans R.base.2⟩,(allV R2).1,(allV R2).2⟩,hshr,by rw [<-hc'];exact ha1.2.2,⟨cc,by rw [<-hc'];exact hcc2,hcv⟩,⟨ccr,by rw [<-hc'];exact hcc1,hcr⟩⟩⟩⟩
structure jd (ρs ρs':Ren)(W W1:World)(c:Nat)(es:Array Event):Prop where
 le:ρs.le ρs'
 new:∀a b,ρs' a b->ρs a b\/W.heap.size<=b
 keep:Keep ρs W W1
 row:W1.heap[c]?=W.heap[c]?
 ev:∀e∈es,ie ρs' e
theorem Ah (O:tN P D Post){ρs:Ren}{hs s:Goroutine}{Vs:World}(S:Snd P ([trap P.alt],D.Bs) ρs hs s Vs W D.cs D.c L)(hnb:NB [trap P.alt] hs)(d:Nat){hs':Goroutine}{Vs':World}(hl:LS P.alt hs (Vs.on W.tape d) hs' Vs')(hop:∀n b cl s q tm,Vs'.heap[D.cs]?=some (.chan n b cl s q tm)->cl=false):
    ∃s1 W1 es ρs',jd ρs ρs' W W1 D.c es /\
      ((stepG P false s (W.at d)=.go s1 W1 es/\Snd P ([trap P.alt],D.Bs) ρs' hs' s1 Vs' W1 D.cs D.c L) \/
       (∃h1 V1 cc v z,stepG P false s (W.at d)=.comm s1 #[scase D.c v z] true .send W1 es/\Snd P ([trap P.alt],D.Bs) ρs' h1 s1 V1 W1 D.cs D.c L/\RC ρs' cc (scase D.c v z)/\LC P.alt h1 cc .send V1 hs' Vs') \/
       (∃r v z n b s' q tm,stepG P false s (W.at d)=.comm s1 #[scase r v z] true .send W1 es/\W1.heap[r]?=some (.chan n b true s' q tm)/\Snd P ([trap P.alt],D.Bs) ρs' hs' {s1 with frame:=s1.frame.raise (jc P)} Vs' W1 D.cs D.c L)):=by
  have hb:Base ([trap P.alt],D.Bs) hs.frame s.callers:=fun e=>hnb (S.go.callers.tail e)
  have hne:hs.callers≠[]:=fun e=>by
    have:=S.go.callers.len1;rw [e] at this;simp at this
  obtain ⟨-,sr⟩:=ln O.zero O.count false S.go hb S.sim S.gid S.ext S.unmk d (vr _ _ hne _).symm hl;have calm1:∀ {ρ':Ren},ρs.le ρ'->(ρ'.F Dq=false/\ρ'.F j8=false)/\(∀f,¬Mk ρ'.F f=true)/\(ρ'.loose=true/\ρ'.wide=false)/\∀x,ρ'.ch x↔x=D.cs:=fun l=>⟨by rw [l.F];exact S.calm,by rw [l.F];exact S.unmk,by rw [l.loose,l.wide];exact S.loose,by rw [l.ch];exact S.ch⟩
  have rowS:∀ {ρ':Ren} {u u':World},Reach ρs ρ' (Vs.on W.tape d) (W.at d) u u'->(∀n b s q tm,u.heap[D.cs]?=some (.chan n b true s q tm)->False)->(∃n b s q tm,u.heap[D.cs]?=some (.chan n b false s q tm)/\b.toList=L)/\u'.heap[D.c]?=W.heap[D.c]?/\∀ (a n:Nat) b s q tm,u.heap[a]?=some (.chan n b false s q tm)->a=D.cs:=fun R1 hno=>by
    obtain ⟨n,b,s,q,tm,h1,h2⟩:=S.row;have key:=R1.chs.row D.cs D.c ((S.ch _).2 rfl) S.pair;refine ⟨?_,?_,fun a n b s q tm ho=>?_⟩
    · rcases key with ⟨k,-⟩|⟨-,_,_,_,_,_,k⟩
      · exact ⟨n,b,s,q,tm,k.trans h1,h2⟩
      · exact (hno _ _ _ _ _ k).elim
    · rcases key with ⟨-,k⟩|⟨-,_,_,_,_,_,k⟩
      · exact k
      · exact (hno _ _ _ _ _ k).elim
    · rcases R1.chs.only S.calm.2 a _ ho rfl with k|⟨-,_,_,_,_,_,k⟩
      · exact S.only a n b s q tm k
      · rw [ho] at k;cases k
  cases hl with
  | @go _ _ esr er hr2 hd2=>
    rw [er] at sr;generalize hy:stepG P false s (W.at d)=y at sr;cases sr with
    | @go _ g1 _ W1 _ es ρ' R1 hg1 he1=>
      obtain ⟨m1,m2,m3,m4⟩:=calm1 R1.le;obtain ⟨r1,r2,r3⟩:=rowS R1 (fun n b s q tm k=>by cases hop _ _ _ _ _ _ k);exact ⟨g1,W1,es,ρ',⟨R1.le,fun a b h=>(R1.new a b h).imp id (·.2),⟨R1.keep.os,R1.keep.output,R1.keep.tape,R1.keep.size,R1.keep.block⟩,r2,he1⟩,.inl ⟨rfl,⟨hg1,R1.sim,S.gid.mono R1.le,by rw [R1.le.F];exact S.ext,m1,m2,m3,m4,R1.le _ _ S.pair,r1,r3⟩⟩⟩
  | @comm h1 cc sh V1 esr _ _ er hcr=>
    rw [er] at sr;generalize hy:stepG P false s (W.at d)=y at sr;cases sr with
    | @comm _ g1 _ c' hC _ hsh hrun _ W1 _ es ρ' R1 hg1 hcc1 he1 ha1=>
      obtain ⟨m1,m2,m3,m4⟩:=calm1 R1.le;have hsn:cc.send≠none:=fun k=>by have:=hC.2 k;rw [S.calm.1] at this;cases this
      have hno:∀n b s q tm,V1.heap[D.cs]?=some (.chan n b true s q tm)->False:=fun n b s q tm k=>by
        cases hcr with
        |recv q1 q2 q3 q4=>exact hsn q2
        |shut q1 q2 q3=>exact hsn q2
        |dead q1 q2 q3=>cases hop _ _ _ _ _ _ k
        | @send r cap sent rcvd buf tm0 v0 q1 q2 q3 q4=>
          by_cases e:r=D.cs
          · subst e;rw [k] at q3;cases q3
          · cases hop n b true s q tm (by simpa [e] using k)
      obtain ⟨r1,r2,r3⟩:=rowS R1 hno;have hshs:sh=.send:=by
        rcases hsh with ⟨-,k⟩|⟨k,-⟩
        · exact k
        · exact absurd k hsn
      subst hshs;obtain ⟨v,hv⟩:∃v,c'.send=some v:=by
        rcases hcc1.send with ⟨k,-⟩|⟨_,v,-,k,-⟩
        · exact absurd k hsn
        · exact ⟨v,k⟩
      have mv:jd ρs ρ' W W1 D.c es:=⟨R1.le,fun a b h=>(R1.new a b h).imp id (·.2),⟨R1.keep.os,R1.keep.output,R1.keep.tape,R1.keep.size,R1.keep.block⟩,r2,he1⟩;have hex:(∃h' V',hs'=h'/\Vs'=V'/\cc.chan=.chan (some D.cs))\/(Vs'=V1/\hs'={h1 with frame:=h1.frame.raise (jc P)}/\∃r n b s q tm,cc.chan=.chan (some r)/\V1.heap[r]?=some (.chan n b true s q tm)):=by
        cases hcr with
        |recv q1 q2 q3 q4=>exact absurd q2 hsn
        |shut q1 q2 q3=>exact absurd q2 hsn
        |send q1 q2 q3 q4=>exact .inl ⟨_,_,rfl,rfl,by rw [q1,r3 _ _ _ _ _ _ q3]⟩
        |dead q1 q2 q3=>exact .inr ⟨rfl,rfl,_,_,_,_,_,_,q1,q3⟩
      rcases hex with ⟨_,_,-,-,hchan⟩|⟨rfl,rfl,r,n,b,s',q,tm,hchan,hrow⟩
      rotate_left
      · obtain ⟨r',cap',buf',cl',s'',q'',c1,c2,c3,-,c5,-⟩:=oG R1.sim hcc1 hchan hrow
        obtain rfl:=c5.resolve_left (by rw [m3.2];exact fun h=>by cases h);have hc':c'=scase r' v c'.zero:=by
          obtain ⟨a,b,z⟩:=c';simp only at c1 hv;subst c1;subst hv;rfl
        refine ⟨g1,W1,es,ρ',mv,.inr (.inr ⟨r',v,c'.zero,_,_,_,_,_,by rw [<-hc'],c3,⟨⟨hg1.frame.raise1 (.iface _ (.string _)),hg1.callers,hg1.kind.raise _ _,hg1.status,hg1.dying,hg1.offers⟩,R1.sim,S.gid.mono R1.le,by rw [R1.le.F];exact S.ext,m1,m2,m3,m4,R1.le _ _ S.pair,r1,r3⟩⟩)⟩
      have hc':c'=scase D.c v c'.zero:=by
        have hch:c'.chan=.chan (some D.c):=by
          have:=hcc1.chan;rw [hchan] at this;generalize c'.chan=x at this;cases this with
          |chan k=>cases k with
            |some k=>rw [ρ'.fn _ _ _ k (R1.le _ _ S.pair)]
        obtain ⟨a,b,z⟩:=c';simp only at hch hv;subst hch;subst hv;rfl
      exact ⟨g1,W1,es,ρ',mv,.inr (.inl ⟨h1,V1,cc,v,c'.zero,by rw [<-hc'],⟨hg1,R1.sim,S.gid.mono R1.le,by rw [R1.le.F];exact S.ext,m1,m2,m3,m4,R1.le _ _ S.pair,r1,r3⟩,by rw [<-hc'];exact hcc1,hcr⟩)⟩
end
end
section
open Go
open Go.Conc (crowd Past EvL Deaf QuitsD woken awake crowd_pick runT_crowd_go rcase scase parked ph)
open Go.ConcN (sumTo upd sumTo_upd upd_ne upd_same)
variable {P:Program} [Two P] {D:PhD P} {Post:Value->World->Prop}
theorem Moved.far {ρ ρ' ρr ρr' ρs:Ren}{W W1:World}{c:Nat}{es:Array Event}(m:Moved ρ ρ' ρr ρr' W W1 c es)(hF:Far ρr ρs)(hB:∀y b,ρs y b->b<W.heap.size):Far ρr' ρs:=fun b x y h1 h2=>by
 rcases m.newr x b h1 with k|k
 ·rw [m.ler.old,m.ler.ch];exact hF b x y k h2
 ·have:=hB y b h2;omega
theorem nc.at {ρ ρr:Ren}{W:World}{h hr g:Goroutine}{V Vr:World}{L:List Value}(R:nc D ρ ρr W h hr g V Vr L)(d:Nat):nc D ρ ρr (W.at d) h hr g V Vr L:=⟨R.side.stays rfl (fun _ _ _ _=>rfl) rfl,R.sideR.stays rfl (fun _ _ _ _=>rfl) rfl,R.only,R.chR,R.unmk,R.base,R.all,R.rest⟩
omit [Two P] in
theorem gI {gs:Array Goroutine}{t:Trace}{q:Nat->Nat}(hL:Lv P (fun _=>False) t gs q){x:Goroutine}(h0:gs[0]?=some x)(hr:x.status=.running):∀y∈gs,awake y:=fun y hy=>by
 obtain ⟨i,hi,rfl⟩:=Array.mem_iff_getElem.1 hy;rcases Nat.eq_zero_or_pos i with rfl|hpos
 ·have:gs[0]=x:=by simpa [eG hi] using h0
  rw [this];exact Conc.awake_of (.inl hr)
 ·exact Conc.awake_of ((hL.old i _ hpos (fun k=>k) (eG hi)).status.elim .inl fun x=>.inr (.inr x))
theorem firm0 {gs:Array Goroutine}{x:Goroutine}(h0:gs[0]?=some x)(hr:x.status=.running)(w:World):∀j o,(j=0\/False)->gs[j]?=some o->o.again w=o:=fun j o hj ho=>by
 rcases hj with rfl|hj
 ·rw [h0] at ho;cases ho;exact Conc.again_running _ (.inl hr)
 ·exact hj.elim
theorem nc.run {ρ ρr:Ren}{W:World}{h hr g:Goroutine}{V Vr:World}{L:List Value}(R:nc D ρ ρr W h hr g V Vr L):g.status=.running:=R.side.go.status.2
theorem ql (O:tN P D Post){ρ ρr:Ren}{W:World}{h hr g:Goroutine}{V Vr:World}{L:List Value}(R:nc D ρ ρr W h hr g V Vr L)(hd:Dem P.alt (fun g _=>NB [trap P.alt] g) D.T h V)(hp:LSs P.alt D.T D.h0 D.V0 h V)(d:Nat):
  ∃h' V',LS P.alt h (V.on W.tape d) h' V'/\Dem P.alt (fun g _=>NB [trap P.alt] g) D.T h' V'/\LSs P.alt D.T D.h0 D.V0 h' V':=by
 have hT:¬D.T h V:=fun k=>by
  have h1:=O.leafT _ _ k;have h2:=R.side.go.callers.len1;have h3:=O.deep;omega
 cases hd with
 |stop k=>exact absurd k hT
 |step _ _ hgo hn=>
  obtain ⟨h',V',hl⟩:=hgo W.tape d;exact ⟨h',V',hl,hn _ _ _ _ hl,hp.trans (.step hT _ _ hl (.refl _ _))⟩
theorem Dr.take (O:tN P D Post){ρ ρr:Ren}{W W':World}{h1 hr1 g1 h hr:Goroutine}{V1 Vr1 V Vr:World}{v z:Value}{L:List Value}{sh:CommShape}(C:Dr D ρ ρr W h1 hr1 g1 V1 Vr1 (v::L) z sh h hr V Vr)(hv:v∈D.L)(hos:W'.os=W.os)(hs:∀b,b≠D.c->W'.heap[b]?=W.heap[b]?){n n':Nat}{b b':List Value}{cl cl':Bool}{s q s' q':Nat}{tm:Bool}(r1:jv W D.c n b cl s q tm)(r2:jv W' D.c n' b' cl' s' q' tm):
  nc D ρ ρr W' h hr (g1.finishComm P #[rcase D.c z] sh 0 v true) V Vr L:=by
 obtain ⟨cc,c1,c2⟩:=C.rc;obtain ⟨cr,d1,d2⟩:=C.rcr;have hkeep:∀ (a:Nat) (o:Obj),V.heap[a]?=some o->o.isChan=true->∃o1:Obj,V1.heap[a]?=some o1/\o1.isChan=true:=fun a o ho hc=>by
  cases c2 with
  |shut=>exact ⟨o,ho,hc⟩
  |dead=>exact ⟨o,ho,hc⟩
  | @send r _ _ _ _ _ _ k1 k2 k3 k4=>
   by_cases e:r=a
   ·subst e;exact ⟨_,k3,rfl⟩
   ·exact ⟨o,by simpa [e] using ho,hc⟩
  | @recv r _ _ _ _ _ _ k1 k2 k3 k4=>
   by_cases e:r=a
   ·subst e;exact ⟨_,k3,rfl⟩
   ·exact ⟨o,by simpa [e] using ho,hc⟩
 have hsame:∀a:Nat,a≠D.cV->V.heap[a]?=V1.heap[a]?:=fun a ha=>by
  obtain ⟨-,hch⟩:=C.at1.side.case_ c1;have hr:∀r,cc.chan=.chan (some r)->r≠a:=fun r e=>by
   rw [e] at hch;rcases hch with k|k
   ·cases k;exact Ne.symm ha
   ·cases k
  cases c2 with
  |shut=>rfl
  |dead=>rfl
  |send k1 k2 k3 k4=>simp [hr _ k1]
  |recv k1 k2 k3 k4=>simp [hr _ k1]
 refine ⟨C.at1.side.take c1 C.sh c2 (O.flat v hv) hos hs r1 r2,C.at1.sideR.take d1 C.sh d2 (O.flat v hv) hos hs r1 r2,d2.only C.at1.only,C.at1.chR,C.at1.unmk,C.at1.base,fun a b o hab ho hc=>?_,fun a b hch hab hne=>?_⟩
 ·obtain ⟨o1,k1,k2⟩:=hkeep a o ho hc;exact C.at1.all a b o1 hab k1 k2
 ·obtain ⟨n,s,q,tm,n',s',q',e1,e2⟩:=C.at1.rest a b hch hab hne;refine ⟨n,s,q,tm,n',s',q',(hsame a hne).trans e1,?_⟩;rw [hs b (fun e=>hne (ρ.inj _ _ _ hab (e▸C.at1.side.pair)))];exact e2
theorem aG (W:World)(c n:Nat)(b:Array Value)(cl:Bool)(s q:Nat)(tm:Bool){j:Nat}(h:j≠c):(W.setChan c n b cl s q tm).heap[j]?=W.heap[j]?:=by
 unfold World.setChan;exact sN (Ne.symm h)
theorem dn (W:World)(c n:Nat)(b:Array Value)(cl:Bool)(s q:Nat)(tm:Bool)(h:c<W.heap.size):jv (W.setChan c n b cl s q tm) c n b.toList cl s q tm:=⟨b,by unfold World.setChan;exact sS h,rfl⟩
theorem bR (W:World)(c n:Nat)(b:Array Value)(cl:Bool)(s q:Nat)(tm:Bool):(W.setChan c n b cl s q tm).heap.size=W.heap.size:=by simp [World.setChan]
theorem gJ (g:Nat)(fn:FuncId)(pos:String):MemOp.ofEvents g fn pos #[]=#[]:=rfl
theorem tP {ρ ρr:Ren}{W:World}{h1 hr1 g1 h:Goroutine}{V1 Vr1 V:World}{z:Value}{sh:CommShape}{cc:CommCase}(R:nc D ρ ρr W h1 hr1 g1 V1 Vr1 [])(hrc:RC ρ cc (rcase D.c z))(_hsh:∃ok,sh=.recv ok)(hlc:LC P.alt h1 cc sh V1 h V):xH D ρ V W:=by
 have hV:V=V1:=by
  obtain ⟨hsd,hch⟩:=R.side.case_ hrc;obtain ⟨n0,b0,s0,q0,tm0,e1,e2⟩:=R.side.row;cases hlc with
  |send k1 k2 k3 k4=>rw [hsd] at k2;cases k2
  |dead=>rfl
  |shut=>rfl
  |recv k1 k2 k3 k4=>
   rw [k1] at hch;rcases hch with hch|hch
   ·cases hch;rw [e1] at k3;cases k3;have:b0=#[]:=Array.toList_inj.1 (by simpa using e2);rw [this] at k4;simp at k4
   ·cases hch
 rw [hV];exact ⟨R.base,R.all,R.rest⟩
structure vt (D:PhD P)(ρ ρr:Ren)(W:World):Prop where
 kp:Kp D.U W
 off:Off D.U ρ
 offR:Off D.U ρr
 chan:¬D.U.Ko D.c
omit [Two P] in
theorem vt.rcv {D:PhD P}{ρ ρr ρ' ρr':Ren}{W W1:World}{es:Array Event}(h:vt D ρ ρr W)(m:Moved ρ ρ' ρr ρr' W W1 D.c es):vt D ρ' ρr' W1:=⟨h.kp.keep h.offR m.keep,h.off.new h.kp m.le.sub m.new ⟨m.le.pin,m.le.bad⟩,h.offR.new h.kp m.ler.sub m.newr ⟨m.ler.pin,m.ler.bad⟩,h.chan⟩
omit [Two P] in
theorem Kp.setChan {U:Outer}{W:World}{c:Nat}(h:Kp U W)(hc:¬U.Ko c)(n:Nat)(b:Array Value)(cl:Bool)(s q:Nat)(tm:Bool):Kp U (W.setChan c n b cl s q tm):=⟨by rw [bR];exact h.1,h.2.1,fun x hx=>(aG (j:=x) _ _ _ _ _ _ _ _ (fun e=>hc (by rw [<-e];exact hx))).trans (h.2.2 x hx)⟩
omit [Two P] in
theorem vt.set {D:PhD P}{ρ ρr:Ren}{W:World}(h:vt D ρ ρr W)(n:Nat)(b:Array Value)(cl:Bool)(s q:Nat)(tm:Bool):vt D ρ ρr (W.setChan D.c n b cl s q tm):=⟨h.kp.setChan h.chan _ _ _ _ _ _,h.off,h.offR,h.chan⟩
theorem sk (O:tN P D Post){ρ ρr ρs:Ren}{h1 hr1 g1 h hr:Goroutine}{V1 Vr1 V Vr:World}{z:Value}{sh:CommShape}(hp:LSs P.alt D.T D.h0 D.V0 h V){n s q:Nat}{tm:Bool}{pc:Nat}:
  ∀ (M:Nat) (gs:Array Goroutine) (W:World) (sl:Option (Nat×Nat)) (t:Trace) (qs:Nat->Nat),sumTo gs.size qs<=M->Dr D ρ ρr W h1 hr1 g1 V1 Vr1 [] z sh h hr V Vr->jv W D.c n [] true s q tm->vt D ρ ρr W->gs[0]?=some {parked g1 #[rcase D.c z] sh with status:=.running}->Lv P (fun _=>False) t gs qs->PhC D.c pc ρs W.heap.size t->Fin P Post gs W sl t:=by
 intro M;induction M using Nat.strongRecOn with
 |_ M ih=>
  intro gs W sl t qs hM C r hU h0 hL hP;obtain ⟨i,x,d,sl',hi,hx,hst⟩:=crowd_pick (P:=P) (w:=W) (sl:=sl) (gI hL h0 rfl) ⟨0,_,h0,rfl⟩;rcases Nat.eq_zero_or_pos i with rfl|hpos
  ·rw [h0] at hi;cases hi;have hst0:stepG P (0==0) {parked g1 #[rcase D.c z] sh with status:=.running} (W.at d)=.comm g1 #[rcase D.c z] true sh (W.at d) #[]:=C.atc true (W.at d);obtain ⟨a,hrow,ha⟩:=r;have ha:a=#[]:=Array.toList_inj.1 (by simpa using ha);subst ha;have hrt:=Conc.crowd_recv_closed (sl:=sl') (i:=0) h0 hst0 hrow (hL.alone D.c true);rw [gJ,Array.empty_append] at hrt;have hlt:D.c<W.heap.size:=(eS hrow).1;obtain ⟨cc,c1,c2⟩:=C.rc;have S:=((C.at1.at d).side).nothing c1 C.sh c2;exact Fin.next (hst.trans hrt) (O.fin ρ h _ V (W.at d) n s q tm _ _ _ qs S (tP (C.at1.at d) c1 C.sh c2) ⟨hU.kp,hU.off⟩ hrow hp (by simp [(eS h0).1])
    (hL.put (fun op hop=>by simp at hop;subst hop;exact ⟨by simp,by simp⟩) (by simp) (fun j hj _=>sN (by omega)))
    (hP.done ⟨rfl,rfl⟩ hlt))
  ·obtain ⟨gs',q',ops,e1,e2,e3,e4,e5,e6,-⟩:=slip hL hP (fun t i fn pos es hi _ h hm=>h.mute hi hm) hi hx hpos (fun k=>k) (firm0 h0 rfl _) hst;exact Fin.next e1 (ih _ (by omega) gs' (W.at d) sl' (t++ops) q' (lR _) ⟨C.at1.at d,C.sh,C.atc,C.rc,C.rcr⟩ r ⟨hU.kp,hU.off,hU.offR,hU.chan⟩ ((e3 0 (.inl rfl)).trans h0) e4 e5)
def eE (P:Program) [Two P](D:PhD P)(Post:Value->World->Prop)(hr:Goroutine)(Vr:World):Prop:=
 ∀ (gs:Array Goroutine) (W:World) (sl:Option (Nat×Nat)) (t:Trace) (qs:Nat->Nat) (ρ ρr ρs:Ren) (h g:Goroutine) (V:World) (L:List Value) (n s q:Nat) (tm:Bool) (pc:Nat),nc D ρ ρr W h hr g V Vr L->Dem P.alt (fun g _=>NB [trap P.alt] g) D.T h V->LSs P.alt D.T D.h0 D.V0 h V->(∀v∈L,v∈D.L)->jv W D.c n L true s q tm->Far ρr ρs->vt D ρ ρr W->(∀y b,ρs y b->b<W.heap.size)->gs[0]?=some g->Lv P (fun _=>False) t gs qs->PhC D.c pc ρs W.heap.size t->Fin P Post gs W sl t
theorem nH (O:tN P D Post){hr:Goroutine}{Vr:World}(hnb:NB [trap P.alt] hr)(hls:∀τ d,∃hr' Vr',LS P.alt hr (Vr.on τ d) hr' Vr')
  (hn:∀τ d hr' Vr',LS P.alt hr (Vr.on τ d) hr' Vr'->eE P D Post hr' Vr'\/((∀n b s q tm,Vr.heap[D.cr]?=some (.chan n b true s q tm)->b.toList=[])/\∃h1 cc s V1 es,stepG P.alt true hr (Vr.on τ d)=.comm h1 cc true s V1 es)):eE P D Post hr Vr:=by
 intro gs W sl t qs ρ ρr ρs h g V L n s q tm pc R hd hp hLL r hF hU hB h0 hL hP;obtain ⟨M,hM⟩:∃M,sumTo gs.size qs<=M:=⟨_,lR _⟩;induction M using Nat.strongRecOn generalizing gs W sl t qs with
 |_ M ih=>
  obtain ⟨i,x,d,sl',hi,hx,hst⟩:=crowd_pick (P:=P) (w:=W) (sl:=sl) (gI hL h0 R.run) ⟨0,_,h0,R.run⟩;rcases Nat.eq_zero_or_pos i with rfl|hpos
  ·obtain rfl:x=g:=by rw [h0] at hi;exact (Option.some.inj hi).symm
   obtain ⟨h',V',hl,hd',hp'⟩:=ql O R hd hp d;obtain ⟨hr',Vr',hlr⟩:=hls W.tape d;have hnx:=hn _ _ _ _ hlr;obtain ⟨g1,W1,es,ρ',ρr',m,hcase⟩:=tO O R hnb d hl hlr;have hF':=m.far hF hB;have hsz:W.heap.size<=W1.heap.size:=m.keep.size;have r1:jv W1 D.c n L true s q tm:=by
    obtain ⟨a,k1,k2⟩:=r;exact ⟨a,m.row.trans k1,k2⟩
   rcases hcase with ⟨hg,R'⟩|⟨h1,hr1,V1,Vr1,z,sh,hg,C⟩
   ·have hC:eE P D Post hr' Vr':=by
     rcases hnx with k|⟨-,_,_,_,_,_,k⟩
     ·exact k
     ·exfalso;have hbr:Base ([trap P.alt],D.X.2) hr.frame x.callers:=fun e=>hnb (R.sideR.go.callers.tail e)
      obtain ⟨-,sr⟩:=ln O.zero O.count true R.sideR.go hbr R.sideR.sim R.sideR.gid R.sideR.ext R.unmk.1 d rfl hlr;rw [k,hg] at sr;cases sr
    obtain ⟨gs',ops,e1,e2,e3,e4,-,e6⟩:=oF hL hi (.inl rfl) hst (show stepG P (0==0) x (W.at d)=_ from hg);subst e2;exact Fin.next e1 (hC gs' W1 sl' _ qs ρ' ρr' ρs h' g1 V' L n s q tm pc R' hd' hp' hLL r1 hF' (hU.rcv m) (fun y b k=>lL (hB y b k) hsz) e4 e6 (hP.app hF' hsz (jb R'.sideR.sim m.ev 0 _ _)))
   ·obtain ⟨a,ha1,ha2⟩:=r1;have hlt:D.c<W1.heap.size:=(eS ha1).1;have hev:=jb C.at1.sideR.sim m.ev 0 x.frame.fn x.frame.place;cases L with
    |nil=>
     have ha:a=#[]:=Array.toList_inj.1 (by simpa using ha2);subst ha;have hrt:=Conc.crowd_recv_closed (sl:=sl') (i:=0) h0 (show stepG P (0==0) x (W.at d)=_ from hg) ha1 (hL.alone D.c true);obtain ⟨cc,c1,c2⟩:=C.rc;refine Fin.next (hst.trans hrt) (O.fin ρ' h' _ V' W1 n s q tm _ _ _ qs (C.at1.side.nothing c1 C.sh c2) (tP C.at1 c1 C.sh c2) ⟨(hU.rcv m).kp,(hU.rcv m).off⟩ ha1 hp' (by simp [(eS h0).1]) (hL.put (fun op hop=>?_) (by simp) (fun j hj _=>sN (by omega))) ?_)
     ·rcases Array.mem_append.1 hop with k|k
      ·exact (hev op k).2.2.1
      ·simp at k;subst k;exact ⟨by simp,by simp⟩
     ·rw [<-Array.append_assoc];exact (hP.app hF' hsz hev).done ⟨rfl,rfl⟩ hlt
    |cons v L=>
     have hC:eE P D Post hr' Vr':=by
      rcases hnx with k|⟨k,-⟩
      ·exact k
      ·exfalso;obtain ⟨n0,b0,s0,q0,tm0,k1,k2⟩:=R.sideR.row;rw [k _ _ _ _ _ k1] at k2;cases k2
     have hsome:0<a.size:=by rw [<-Array.length_toList,ha2];simp
     have hget:a.getD 0 undef=v:=by rw [gD,<-Array.getElem?_toList,ha2];rfl
     have hext:(a.extract 1 a.size).toList=L:=by
      have hl:a.toList.length=a.size:=Array.length_toList;rw [Array.toList_extract,ha2] at *;simp at hl ⊢;rw [<-hl];simp
     have hrt:=Conc.crowd_recv_buf (sl:=sl') (i:=0) h0 (show stepG P (0==0) x (W.at d)=_ from hg) ha1 hsome (hL.alone D.c true);rw [hget] at hrt;have r2:=dn W1 D.c n (a.extract 1 a.size) true s (q+1) tm hlt;rw [hext] at r2;have R2:=C.take O (hLL v (by simp)) (W':=W1.setChan D.c n (a.extract 1 a.size) true s (q+1) tm) rfl (fun b hb=>aG _ _ _ _ _ _ _ _ hb) ⟨a,ha1,ha2⟩ r2;have hu:∀op∈(#[{g:=0,fn:=g1.frame.fn,pos:=g1.frame.place,act:=.recv D.c q n},{g:=0,fn:=g1.frame.fn,pos:=g1.frame.place,act:=.recvDone D.c q}]:Trace),op.g=0/\cK W1.heap.size op.act:=fun op hop=>by
      simp at hop;rcases hop with rfl|rfl<;>exact ⟨rfl,hlt⟩
     refine Fin.next (hst.trans hrt) (hC _ _ sl' _ qs ρ' ρr' ρs h' _ V' L n s (q+1) tm pc R2 hd' hp' (fun v hv=>hLL v (by simp [hv])) r2 hF' ((hU.rcv m).set _ _ _ _ _ _) (fun y b k=>by rw [bR];exact lL (hB y b k) hsz) (by simp [(eS h0).1]) (hL.put (fun op hop=>?_) (by simp) (fun j hj _=>sN (by omega))) ?_)
     ·rcases Array.mem_append.1 hop with k|k
      ·exact (hev op k).2.2.1
      ·exact (hu op k).2.still
     ·rw [<-Array.append_assoc,bR];exact (hP.app hF' hsz hev).app hF' (lR _) (fun op hop=>⟨(hu op hop).1,sj (hu op hop).2⟩)
  ·obtain ⟨gs',q',ops,e1,e2,e3,e4,e5,e6,-⟩:=slip hL hP (fun t i fn pos es hi _ h hm=>h.mute hi hm) hi hx hpos (fun k=>k) (firm0 h0 R.run _) hst;exact Fin.next e1 (ih _ (by omega) gs' (W.at d) sl' (t++ops) q' (R.at d) r ⟨hU.kp,hU.off,hU.offR,hU.chan⟩ hB ((e3 0 (.inl rfl)).trans h0) e4 e5 (lR _))
theorem qm (O:tN P D Post){hr:Goroutine}{Vr:World}(hD:Dem P.alt D.Nr D.Tr hr Vr):eE P D Post hr Vr:=by
 induction hD with
 | @stop g w hT=>
  obtain ⟨h1,h2,h3⟩:=O.tr g w hT;refine nH O h1 (fun τ d=>?_) (fun τ d hr' Vr' _=>.inr ⟨h2,?_⟩)
  ·obtain ⟨_,_,_,_,_,h',V',e,l⟩:=h3 τ d;exact ⟨h',V',.comm e l⟩
  ·obtain ⟨_,_,_,_,_,h',V',e,l⟩:=h3 τ d;exact ⟨_,_,_,_,_,e⟩
 | @step g w hN hT hgo _ ih=>exact nH O (O.nr g w hN) hgo (fun τ d hr' Vr' hl=>.inl (ih τ d hr' Vr' hl))
def Alone (P:Program)(bo:Nat)(g:Goroutine):Nat->Goroutine->World->Prop:=
 Go.Conc.Goes P true (fun w v=>v.heap[bo]?=w.heap[bo]?) (fun w w' es=>w'=w/\∀e∈es,∃a:Addr,e=⟨.cell a,false,false⟩/\a.block=bo) (fun g' _=>g'=g)
section
variable {bo k:Nat} {g y:Goroutine} {W W1:World}
omit [Two P] in
theorem Alone.rely (h:Alone P bo g k y W)(hb:W1.heap[bo]?=W.heap[bo]?):Alone P bo g k y W1:=
 Go.Conc.Goes.rely (fun _ _ _ h k=>k.trans h) h hb
omit [Two P] in
theorem Alone.next (h:Alone P bo g k y W):y=g\/(y.status=.running/\∃k',k=k'+1/\∀d,∃y' es,stepG P true y (W.at d)=.go y' (W.at d) es/\(∀e∈es,∃a:Addr,e=⟨.cell a,false,false⟩/\a.block=bo)/\Alone P bo g k' y' (W.at d)):=by
 cases k with
 |zero=>exact .inl (h W rfl)
 |succ k=>
  rcases h with h|⟨hst,h⟩
  ·exact .inl (h W rfl)
  ·refine .inr ⟨hst,k,rfl,fun d=>?_⟩;obtain ⟨y',w',es,h1,⟨rfl,h2⟩,h3⟩:=Go.Conc.goes_elim (h (W.at d) rfl);exact ⟨y',es,h1,h2,h3⟩
omit [Two P] in
theorem Alone.status (h:Alone P bo g k y W)(hg:g.status=.running):y.status=.running:=by
 rcases h.next with rfl|⟨h,-⟩
 ·exact hg
 ·exact h
theorem tQ {ρr:Ren}(hbo:∃x,ρr x bo/\¬ρr.ch x){es:Array Event}(h:∀e∈es,∃a:Addr,e=⟨.cell a,false,false⟩/\a.block=bo):∀e∈es,ie ρr e:=fun e he=>by
 obtain ⟨a,rfl,rfl⟩:=h e he;obtain ⟨x,h1,h2⟩:=hbo;exact ⟨x,h1,(fun h=>by cases h),h2⟩
end
theorem vu {hr:Goroutine}{Vr:World}(hC:eE P D Post hr Vr){ρ ρr ρs:Ren}{h g:Goroutine}{V:World}{L:List Value}{n s q:Nat}{tm:Bool}{pc:Nat}(hd:Dem P.alt (fun g _=>NB [trap P.alt] g) D.T h V)(hp:LSs P.alt D.T D.h0 D.V0 h V)(hLL:∀v∈L,v∈D.L)(hF:Far ρr ρs)(hbo:∃x,ρr x D.bo/\¬ρr.ch x):
  ∀ (k:Nat) (gs:Array Goroutine) (W:World) (sl:Option (Nat×Nat)) (t:Trace) (qs:Nat->Nat) (y:Goroutine),nc D ρ ρr W h hr g V Vr L->Alone P D.bo g k y W->jv W D.c n L true s q tm->vt D ρ ρr W->(∀y b,ρs y b->b<W.heap.size)->gs[0]?=some y->Lv P (fun _=>False) t gs qs->PhC D.c pc ρs W.heap.size t->Fin P Post gs W sl t:=by
 intro k;induction k with
 |zero=>
  intro gs W sl t qs y R hy r hU hB h0 hL hP;rcases hy.next with rfl|⟨-,k',e,-⟩
  ·exact hC gs W sl t qs ρ ρr ρs h y V L n s q tm pc R hd hp hLL r hF hU hB h0 hL hP
  ·cases e
 |succ k ihk=>
  intro gs W sl t qs y R hy r hU hB h0 hL hP;obtain ⟨M,hM⟩:∃M,sumTo gs.size qs<=M:=⟨_,lR _⟩;induction M using Nat.strongRecOn generalizing gs W sl t qs with
  |_ M ih=>
   rcases hy.next with rfl|⟨hst2,k',e,hnx⟩
   ·exact hC gs W sl t qs ρ ρr ρs h y V L n s q tm pc R hd hp hLL r hF hU hB h0 hL hP
   ·cases e;obtain ⟨i,x,d,sl',hi,hx,hst⟩:=crowd_pick (P:=P) (w:=W) (sl:=sl) (gI hL h0 hst2) ⟨0,_,h0,hst2⟩;rcases Nat.eq_zero_or_pos i with rfl|hpos
    ·obtain rfl:x=y:=by rw [h0] at hi;exact (Option.some.inj hi).symm
     obtain ⟨y',es,hg,hev,hy'⟩:=hnx d;obtain ⟨gs',ops,e1,e2,e3,e4,-,e6⟩:=oF hL hi (.inl rfl) hst (show stepG P (0==0) x (W.at d)=_ from hg);subst e2;exact Fin.next e1 (ihk gs' (W.at d) sl' _ qs y' (R.at d) hy' r ⟨hU.kp,hU.off,hU.offR,hU.chan⟩ hB e4 e6 (hP.app hF (lR _) (jb (R.at d).sideR.sim (tQ hbo hev) 0 _ _)))
    ·obtain ⟨gs',q',ops,e1,e2,e3,e4,e5,e6,-⟩:=slip hL hP (fun t i fn pos es hi _ h hm=>h.mute hi hm) hi hx hpos (fun k=>k) (firm0 h0 hst2 _) hst;exact Fin.next e1 (ih _ (by omega) gs' (W.at d) sl' (t++ops) q' (R.at d) (hy.rely rfl) r ⟨hU.kp,hU.off,hU.offR,hU.chan⟩ hB ((e3 0 (.inl rfl)).trans h0) e4 e5 (lR _))
end
