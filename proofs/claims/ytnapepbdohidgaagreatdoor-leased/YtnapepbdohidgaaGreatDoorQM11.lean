/- Part of a proof. -/
import Derived.Test.YtnapepbdohidgaaGreatDoorQM10
namespace Go.Proofs.YtnapepbdohidgaaGreatDoorQ
open Go
open Go.Conc (crowd Past EvL Deaf QuitsD woken awake crowd_pick runT_crowd_go rcase scase parked ph)
section
variable {P : Program} [Two P] {X : List Frame×List Frame} {ρ : Ren} {h1 g1 h : Goroutine} {V1 V W W' : World} {cV c : Nat} {L : List Value} {cc : CommCase} {v z : Value} {sh : CommShape}
theorem Side.case_ (S : Side P X ρ h1 g1 V1 W cV c L) (hrc : RC ρ cc (rcase c z)) : cc.send=none∧(cc.chan=.chan (some cV)∨cc.chan=.tuple #[]):=by
  refine ⟨?_,?_⟩
  · rcases hrc.send with ⟨k,-⟩ | ⟨_,_,-,k,-⟩
    · exact k
    · cases k
  · have:=hrc.chan
    simp only [rcase] at this
    generalize cc.chan=x at this
    cases this with
    | chan k=>
      cases k with
      | some k=>exact .inl (by rw [ρ.inj _ _ _ k S.pair])
    | dead=>exact .inr rfl
theorem Side.take (S : Side P X ρ h1 g1 V1 W cV c (v :: L)) (hrc : RC ρ cc (rcase c z)) (hsh : ∃ ok,sh=.recv ok) (hlc : LC P.alt h1 cc sh V1 h V) (hv : Flat v) (hos : W'.os=W.os) (hs : ∀ b,b≠c→W'.heap[b]?=W.heap[b]?) {n n' : Nat} {b b' : List Value} {cl cl' : Bool} {s q s' q' : Nat} {tm : Bool} (r1 : RowW W c n b cl s q tm) (r2 : RowW W' c n' b' cl' s' q' tm) :
    Side P X ρ h (g1.finishComm P #[rcase c z] sh 0 v true) V W' cV c L:=by
  obtain ⟨hsd,hch⟩:=S.case_ hrc
  obtain ⟨n0,b0,s0,q0,tm0,e1,e2⟩:=S.row
  have hhs : (cc.send.isSome=true∧sh=.send)∨(cc.send=none∧∃ ok,sh=.recv ok):=.inr ⟨hsd,hsh⟩
  have S2:=S.other hos (fun _ b _ hb=>hs b hb) r1 r2
  cases hlc with
  | send k1 k2 k3 k4=>rw [hsd] at k2; cases k2
  | dead k1 k2 k3=>rw [hsd] at k2; cases k2
  | @shut r cap sent rcvd tm k1 k2 k3=>
    rw [k1] at hch
    rcases hch with hch | hch
    · cases hch
      rw [e1] at k3; cases k3; simp at e2
    · cases hch
  | @recv r cap sent rcvd buf cl tm k1 k2 k3 k4=>
    rw [k1] at hch
    rcases hch with hch | hch
    · cases hch
      rw [e1] at k3
      cases k3
      have hb0 : b0.getD 0 undef=v:=by
        rw [Array.getD_eq_getD_getElem?,←Array.getElem?_toList,e2]; rfl
      have hbx : (b0.extract 1 b0.size).toList=L:=by
        have hl : b0.toList.length=b0.size:=Array.length_toList
        rw [Array.toList_extract,e2] at *
        simp at hl ⊢
        rw [←hl]; simp
      have hlt:=(S.sim.lt S.pair).1
      refine ⟨?_,?_,S.gid,S.ext,S.calm,S.loose,S.ch,S.pair,⟨_,_,_,_,_,Array.getElem?_setIfInBounds_self_of_lt hlt,hbx⟩⟩
      · rw [hb0]
        exact finishComm_rel S.go hrc sh hhs (hv ρ).1 true
      · obtain ⟨a',r2,-⟩:=r2
        have hput:=S2.sim.put S.pair (o:=.chan n0 (b0.extract 1 b0.size) true s0 (q0+1) tm0) (o':=.chan n' a' cl' s' q' _) (.chan _ _ _ _ _ _ _ _ _ (.inl S.loose.1) (.inl S.loose.2)) (fun hold=>by
          obtain ⟨o,f1,f2⟩:=S.sim.fix _ hold
          rw [e1] at f1; cases f1; exact f2) (fun _=>rfl)
        have htm : tm0=tm:=by
          obtain ⟨o,o',f1,f2,f3⟩:=S.sim.obj _ _ S.pair
          obtain ⟨a,r1,-⟩:=r1
          rw [e1] at f1; cases f1
          rw [r1] at f2; cases f2
          cases f3; rfl
        subst htm
        have hlt' : c < W'.heap.size:=(Array.getElem?_eq_some_iff.1 r2).1
        have e3 : W'.heap.setIfInBounds c (.chan n' a' cl' s' q' tm0)=W'.heap:=by
          apply Array.ext_getElem?
          intro j
          by_cases hj : c=j
          · subst hj; rw [Array.getElem?_setIfInBounds_self_of_lt hlt',r2]
          · rw [Array.getElem?_setIfInBounds_ne hj]
        rw [e3] at hput
        exact hput
    · cases hch
theorem Side.nothing (S : Side P X ρ h1 g1 V1 W cV c []) (hrc : RC ρ cc (rcase c z)) (hsh : ∃ ok,sh=.recv ok) (hlc : LC P.alt h1 cc sh V1 h V) : Side P X ρ h (g1.finishComm P #[rcase c z] sh 0 z false) V W cV c []:=by
  obtain ⟨hsd,hch⟩:=S.case_ hrc
  obtain ⟨n0,b0,s0,q0,tm0,e1,e2⟩:=S.row
  have hhs : (cc.send.isSome=true∧sh=.send)∨(cc.send=none∧∃ ok,sh=.recv ok):=.inr ⟨hsd,hsh⟩
  cases hlc with
  | send k1 k2 k3 k4=>rw [hsd] at k2; cases k2
  | dead k1 k2 k3=>rw [hsd] at k2; cases k2
  | recv k1 k2 k3 k4=>
    rw [k1] at hch
    rcases hch with hch | hch
    · cases hch
      rw [e1] at k3; cases k3
      have : b0=#[]:=Array.toList_inj.1 (by simpa using e2)
      rw [this] at k4
      simp at k4
    · cases hch
  | shut k1 k2 k3=>exact ⟨finishComm_rel S.go hrc sh hhs hrc.zero false,S.sim,S.gid,S.ext,S.calm,S.loose,S.ch,S.pair,S.row⟩
end
section
variable {P : Program} [Two P] {X : List Frame×List Frame} {ρ : Ren} {h1 g1 h : Goroutine} {V1 V W W' : World} {cs c : Nat} {L : List Value} {cc : CommCase} {v z : Value}
theorem Snd.case_ (S : Snd P X ρ h1 g1 V1 W cs c L) (hrc : RC ρ cc (scase c v z)) : (∃ v0,cc.send=some v0∧RV ρ v0 v)∧(cc.chan=.chan (some cs)∨cc.chan=.tuple #[]):=by
  refine ⟨?_,?_⟩
  · rcases hrc.send with ⟨-,k⟩ | ⟨v0,v1,k,k2,k3⟩
    · cases k
    · cases k2; exact ⟨v0,k,k3⟩
  · have:=hrc.chan
    simp only [scase] at this
    generalize cc.chan=x at this
    cases this with
    | chan k=>
      cases k with
      | some k=>exact .inl (by rw [ρ.inj _ _ _ k S.pair])
    | dead=>exact .inr rfl
theorem Snd.push (S : Snd P X ρ h1 g1 V1 W cs c L) (hrc : RC ρ cc (scase c v z)) (hlc : LC P.alt h1 cc .send V1 h V) (hos : W'.os=W.os) (hs : ∀ b,b≠c→W'.heap[b]?=W.heap[b]?) {n n' : Nat} {b b' : List Value} {s q s' q' : Nat} {tm : Bool} (r1 : RowW W c n b false s q tm) (r2 : RowW W' c n' b' false s' q' tm) :
    ∃ v0,RV ρ v0 v∧Snd P X ρ h (g1.finishComm P #[scase c v z] .send 0 undef false) V W' cs c (L++[v0]):=by
  obtain ⟨⟨v0,hsd,hrv⟩,hch⟩:=S.case_ hrc
  obtain ⟨n0,b0,s0,q0,tm0,e1,e2⟩:=S.row
  have hhs : (cc.send.isSome=true∧CommShape.send=.send)∨(cc.send=.none∧∃ ok,CommShape.send=.recv ok):=.inl ⟨by rw [hsd]; rfl,rfl⟩
  have S2:=S.other hos (fun _ b _ hb=>hs b hb) r1 r2
  cases hlc with
  | recv k1 k2 k3 k4=>rw [hsd] at k2; cases k2
  | shut k1 k2 k3=>rw [hsd] at k2; cases k2
  | dead k1 k2 k3=>
    rw [k1] at hch
    rcases hch with hch | hch
    · cases hch; rw [e1] at k3; cases k3
    · cases hch
  | @send r cap sent rcvd buf tm1 v1 k1 k2 k3 k4=>
    rw [hsd] at k2
    cases k2
    rw [k1] at hch
    rcases hch with hch | hch
    · cases hch
      rw [e1] at k3
      cases k3
      have hlt:=(S.sim.lt S.pair).1
      refine ⟨v0,hrv,?_,?_,S.gid,S.ext,S.calm,S.unmk,S.loose,S.ch,S.pair,⟨_,_,_,_,_,Array.getElem?_setIfInBounds_self_of_lt hlt,by simp [e2]⟩,fun a n b s q tm ho=>?_⟩
      · exact finishComm_rel S.go hrc .send hhs rv_undef false
      · obtain ⟨a',r2,-⟩:=r2
        have htm : tm0=tm:=by
          obtain ⟨o,o',f1,f2,f3⟩:=S.sim.obj _ _ S.pair
          obtain ⟨a,r1,-⟩:=r1
          rw [e1] at f1; cases f1
          rw [r1] at f2; cases f2
          cases f3; rfl
        subst htm
        have hput:=S2.sim.put S.pair (o:=.chan n0 (b0.push v0) false (s0+1) q0 tm0) (o':=.chan n' a' false s' q' tm0) (.chan _ _ _ _ _ _ _ _ _ (.inl S.loose.1) (.inr rfl)) (fun hold=>by
          obtain ⟨o,f1,f2⟩:=S.sim.fix _ hold
          rw [e1] at f1; cases f1; exact f2) (fun _=>rfl)
        have hlt' : c < W'.heap.size:=(Array.getElem?_eq_some_iff.1 r2).1
        have e3 : W'.heap.setIfInBounds c (.chan n' a' false s' q' tm0)=W'.heap:=by
          apply Array.ext_getElem?
          intro j
          by_cases hj : c=j
          · subst hj; rw [Array.getElem?_setIfInBounds_self_of_lt hlt',r2]
          · rw [Array.getElem?_setIfInBounds_ne hj]
        rw [e3] at hput
        exact hput
      · by_cases ha : cs=a
        · exact ha.symm
        · simp only [Array.getElem?_setIfInBounds_ne ha] at ho
          exact S.only a n b s q tm ho
    · cases hch
end
structure PhD (P : Program) where
  T : Goroutine→World→Prop
  Nr : Goroutine→World→Prop
  Tr : Goroutine→World→Prop
  Ns : Goroutine→World→Prop
  Ts : Goroutine→World→Prop
  h0 : Goroutine
  V0 : World
  k : Nat
  c : Nat
  cV : Nat
  cr : Nat
  cs : Nat
  X : List Frame×List Frame
  Bs : List Frame
  L : List Value
  R0 : Nat→Nat→Prop
  Fp : FuncId→Bool
  Fr : FuncId→Bool
  bo : Nat
  U : Outer
variable {P : Program} [Two P] (D : PhD P)
def shutC (W : World) (c n : Nat) (b : Array Value) (s q : Nat) (tm : Bool) : World:=W.setChan c n b true s q tm
structure Others (D : PhD P) (ρ : Ren) (V W : World) : Prop where
  base : (∀ a b,D.R0 a b→ρ a b)∧ρ.F=D.Fp
  all : ∀ a b o,ρ a b→V.heap[a]?=some o→o.isChan=true→ρ.ch a
  rest : ∀ a b,ρ.ch a→ρ a b→a≠D.cV→∃ n s q tm n' s' q',V.heap[a]?=some (.chan n #[] true s q tm)∧W.heap[b]?=some (.chan n' #[] true s' q' tm)
structure PhOk (P : Program) [Two P] (D : PhD P) (Post : Value→World→Prop) : Prop where
  zero : ZeroOk P
  count : NoCount P
  mark : ∀ f,Mk D.Fp f=true→∀ fn b,P.funcs[f]?=some fn→fn.body=some b→okCode P D.Fr b=false
  k0 : D.k≠0
  flat : ∀ v∈D.L,Flat v
  deep : 2≤D.X.1.length
  leafT : ∀ h V,D.T h V→h.callers.length≤1
  nr : ∀ h V,D.Nr h V→NB [trap P.alt] h
  tr : ∀ h V,D.Tr h V→NB [trap P.alt] h∧(∀ n b s q tm,V.heap[D.cr]?=some (.chan n b true s q tm)→b.toList=[])∧∀ τ d,∃ h1 cc s V1 es h' V',stepG P.alt true h (V.on τ d)=.comm h1 #[cc] true s V1 es∧LC P.alt h1 cc s V1 h' V'
  ns : ∀ h V,D.Ns h V→NB [trap P.alt] h
  bs : D.Bs≠[]
  grow : ∀ h V τ d h' V',D.Ns h V→LS P.alt h (V.on τ d) h' V'→∀ n b cl s q tm,V.heap[D.cs]?=some (.chan n b cl s q tm)→∃ n' b' cl' s' q' tm',V'.heap[D.cs]?=some (.chan n' b' cl' s' q' tm')∧((b.toList <+: b'.toList∧(cl=true→cl'=true))∨cl'=true)
  ts : ∀ h V,D.Ts h V→∀ n b cl s q tm,V.heap[D.cs]?=some (.chan n b cl s q tm)→cl=false∧b.toList=D.L
  close : ∀ h V ρ g W,D.Ts h V→Snd P ([trap P.alt],D.Bs) ρ h g V W D.cs D.c D.L→∀ n b s q tm,W.heap[D.c]?=some (.chan n b false s q tm)→∃ g',mayWake P g=true∧g'.status=.running∧stepG P false g W=.go g' (shutC W D.c n b s q tm) #[⟨.obj D.c,false,true⟩,⟨.obj D.c,true,true⟩]∧∃ m,QuitsD P m 0 g'
  fin : ∀ ρ h g V W n s q tm gs sl t qs,Side P D.X ρ h g V W D.cV D.c []→Others D ρ V W→Kp D.U W∧Off D.U ρ→W.heap[D.c]?=some (.chan n #[] true s q tm)→LSs P.alt D.T D.h0 D.V0 h V→gs[0]?=some g→Lv P (fun _=>False) t gs qs→Past noShun W.heap.size t→Fin P Post gs W sl t
section
variable {D} {Post : Value→World→Prop}
theorem PhOk.pre (O : PhOk P D Post) {h : Goroutine} {V : World} (hD : Dem P.alt D.Ns D.Ts h V) : ∀ n b cl s q tm,V.heap[D.cs]?=some (.chan n b cl s q tm)→cl=false∧b.toList <+: D.L:=by
  induction hD with
  | stop hT=>
    intro n b cl s q tm hr
    obtain ⟨h1,h2⟩:=O.ts _ _ hT n b cl s q tm hr
    exact ⟨h1,h2 ▸ List.prefix_refl _⟩
  | @step g w hN hT hgo _ ih=>
    intro n b cl s q tm hr
    obtain ⟨h',V',hl⟩:=hgo w.tape w.drawn
    obtain ⟨n',b',cl',s',q',tm',h1,h2⟩:=O.grow g w _ _ h' V' hN hl n b cl s q tm hr
    obtain ⟨k1,k2⟩:=ih _ _ h' V' hl n' b' cl' s' q' tm' h1
    rcases h2 with ⟨h2,h3⟩ | h2
    rotate_left
    · rw [h2] at k1; cases k1
    refine ⟨?_,h2.trans k2⟩
    cases cl with
    | false=>rfl
    | true=>rw [h3 rfl] at k1; cases k1
end
end Go.Proofs.YtnapepbdohidgaaGreatDoorQ
namespace Go.Proofs.YtnapepbdohidgaaGreatDoorQ
open Go
open Go.Conc (crowd Past EvL Deaf QuitsD woken awake crowd_pick runT_crowd_go rcase scase parked ph)
section
variable {P : Program} {gs : Array Goroutine} {w w₁ : World} {sl : Option (Nat×Nat)} {i j : Nat} {g g₂ gj : Goroutine} {es : Array Event} {shape shj : CommShape} {blocking : Bool}
  {c cap s r : Nat} {buf : Array Value} {closed tm : Bool} {v z zj : Value}
theorem crowd_recv_full (hi : gs[i]?=some g) (h : stepG P (i == 0) g w=.comm g₂ #[rcase c z] blocking shape w₁ es) (hc : w₁.heap[c]?=some (.chan cap buf closed s r tm)) (hsome : 0 < buf.size)
    (hij : j≠i) (hj : gs[j]?=some (parked gj #[scase c v zj] shj)) (hp : partners (gs.setIfInBounds i ph) c true=[(j,0)]) :
    runT P (crowd gs w sl) i=(.next (crowd ((gs.setIfInBounds j (gj.finishComm P #[scase c v zj] shj 0 undef false)).setIfInBounds i (g₂.finishComm P #[rcase c z] shape 0 (buf.getD 0 undef) true)) (w₁.setChan c cap ((buf.extract 1 buf.size).push v) closed (s+1) (r+1) tm) sl),
      MemOp.ofEvents i g.frame.fn g.frame.place es++#[{ g:=i,fn:=g₂.frame.fn,pos:=g₂.frame.place,act:=.recv c r cap },{ g:=i,fn:=g₂.frame.fn,pos:=g₂.frame.place,act:=.recvDone c r },
        { g:=j,fn:=gj.frame.fn,pos:=gj.frame.place,act:=.send c s },{ g:=j,fn:=gj.frame.fn,pos:=gj.frame.place,act:=.sendDone c s }]):=by
  rw [Conc.runT_crowd_comm hi h]
  have hj':=Conc.stand_get (i:=i) hij hj
  have hfp:=Conc.finishPartner_at P (gs.setIfInBounds i ph) hj' (cs:=#[scase c v zj]) (sh:=shj) rfl 0 undef
  have hgd : (gs.setIfInBounds i ph).getD j default=parked gj #[scase c v zj] shj:=by rw [Array.getD_eq_getD_getElem?,hj']; rfl
  have hov : offeredValue (gs.setIfInBounds i ph) j 0=v:=by simp [offeredValue,hj',parked,scase]
  simp [communicate,ways,rcase,hc,hp,hsome,choose,Sem.run,Question.forced,bind,Sem.bind,pure,World.setChan,crowd,hfp,hgd,hov,Conc.set_stand2,scase,parked]
  rfl
end
def deadEntry (P : Program) : List PanicEntry := [{ v := .iface P.rt.plainError (strVal "send on closed channel"), recovered := false }]
theorem crowd_send_dead {P : Program} {gs : Array Goroutine} {w w₁ : World} {sl : Option (Nat×Nat)} {i : Nat} {g g₂ : Goroutine} {es : Array Event} {shape : CommShape} {blocking : Bool} {c cap s r : Nat} {buf : Array Value} {tm : Bool} {v z : Value} (hi : gs[i]?=some g) (h : stepG P (i == 0) g w=.comm g₂ #[scase c v z] blocking shape w₁ es) (hc : w₁.heap[c]?=some (.chan cap buf true s r tm)) :
    runT P (crowd gs w sl) i=(.next (crowd (gs.setIfInBounds i { g₂ with frame:=g₂.frame.raise (deadEntry P) }) w₁ sl),MemOp.ofEvents i g.frame.fn g.frame.place es):=by
  rw [Conc.runT_crowd_comm hi h]
  simp [communicate,ways,scase,hc,choose,Sem.run,Question.forced,bind,Sem.bind,pure,runtimePanic,goPanic,program,crowd,deadEntry]
variable {P : Program} [Two P]
structure Moved (ρ ρ' ρr ρr' : Ren) (W W1 : World) (c : Nat) (es : Array Event) : Prop where
  le : ρ.le ρ'
  ler : ρr.le ρr'
  new : ∀ a b,ρ' a b→ρ a b∨W.heap.size≤b
  newr : ∀ a b,ρr' a b→ρr a b∨W.heap.size≤b
  keep : Keep ρr W W1
  row : W1.heap[c]?=W.heap[c]?
  ev : ∀ e∈es,EvOk ρr' e
structure RcvR (D : PhD P) (ρ ρr : Ren) (W : World) (h hr g : Goroutine) (V Vr : World) (L : List Value) : Prop where
  side : Side P D.X ρ h g V W D.cV D.c L
  sideR : Side P ([trap P.alt],D.X.2) ρr hr g Vr W D.cr D.c L
  only : ∀ (a : Nat) o,Vr.heap[a]?=some o→o.isChan=true→a=D.cr
  chR : ∀ x,ρr.ch x→x=D.cr
  unmk : (∀ f,¬Mk ρr.F f=true)∧ρr.F=D.Fr
  base : (∀ a b,D.R0 a b→ρ a b)∧ρ.F=D.Fp
  all : ∀ a b o,ρ a b→V.heap[a]?=some o→o.isChan=true→ρ.ch a
  rest : ∀ a b,ρ.ch a→ρ a b→a≠D.cV→∃ n s q tm n' s' q',V.heap[a]?=some (.chan n #[] true s q tm)∧W.heap[b]?=some (.chan n' #[] true s' q' tm)
structure RcvC (D : PhD P) (ρ ρr : Ren) (W : World) (h1 hr1 g1 : Goroutine) (V1 Vr1 : World) (L : List Value) (z : Value) (s : CommShape) (h hr : Goroutine) (V Vr : World) : Prop where
  at1 : RcvR D ρ ρr W h1 hr1 g1 V1 Vr1 L
  sh : ∃ ok,s=.recv ok
  atc : AtC P g1 (rcase D.c z) s
  rc : ∃ cc,RC ρ cc (rcase D.c z)∧LC P.alt h1 cc s V1 h V
  rcr : ∃ cc,RC ρr cc (rcase D.c z)∧LC P.alt hr1 cc s Vr1 hr Vr
section
variable {D : PhD P} {Post : Value→World→Prop} {ρ ρr : Ren} {W : World} {h hr g : Goroutine} {V Vr : World} {L : List Value}
omit [Two P] in
theorem LC.only {g g' : Goroutine} {cc : CommCase} {s : CommShape} {V V' : World} (h : LC P g cc s V g' V') {c0 : Nat} (ho : ∀ (a : Nat) o,V.heap[a]?=some o→o.isChan=true→a=c0) : ∀ (a : Nat) o,V'.heap[a]?=some o→o.isChan=true→a=c0:=by
  intro a o hao hc
  cases h with
  | shut=>exact ho a o hao hc
  | dead=>exact ho a o hao hc
  | @send r cap sent rcvd buf tm v h1 h2 h3 h4=>
    by_cases e : r=a
    · subst e; exact ho _ _ h3 rfl
    · exact ho a o (by simpa [e] using hao) hc
  | @recv r cap sent rcvd buf cl tm h1 h2 h3 h4=>
    by_cases e : r=a
    · subst e; exact ho _ _ h3 rfl
    · exact ho a o (by simpa [e] using hao) hc
theorem rcv_step (O : PhOk P D Post) (R : RcvR D ρ ρr W h hr g V Vr L) (hnb : NB [trap P.alt] hr) (d : Nat) {h' hr' : Goroutine} {V' Vr' : World} (hl : LS P.alt h (V.on W.tape d) h' V') (hlr : LS P.alt hr (Vr.on W.tape d) hr' Vr') :
    ∃ g1 W1 es ρ' ρr',Moved ρ ρ' ρr ρr' W W1 D.c es ∧
      ((stepG P true g (W.at d)=.go g1 W1 es∧RcvR D ρ' ρr' W1 h' hr' g1 V' Vr' L) ∨
       (∃ h1 hr1 V1 Vr1 z s,stepG P true g (W.at d)=.comm g1 #[rcase D.c z] true s W1 es∧RcvC D ρ' ρr' W1 h1 hr1 g1 V1 Vr1 L z s h' hr' V' Vr')):=by
  have S:=R.side
  have Sr:=R.sideR
  have hbr : Base ([trap P.alt],D.X.2) hr.frame g.callers:=fun e=>hnb (Sr.go.callers.tail e)
  have hb : Base D.X h.frame g.callers:=fun e=>by
    rcases hbr e with k | k
    · have m1:=Sr.go.frame.mode
      have m2:=S.go.frame.mode
      rw [k] at m1
      cases hm : g.frame.mode <;> rw [hm] at m1 <;> cases m1
      rw [hm] at m2
      left
      generalize h.frame.mode=x at m2
      cases m2; rfl
    · right
      have m1:=Sr.go.frame.defers
      have m2:=S.go.frame.defers
      intro hn
      rw [hn] at m2
      generalize g.frame.defers=x at m1 m2
      cases m2
      generalize hr.frame.defers=y at m1 k
      cases m1
      exact k rfl
  obtain ⟨-,sr⟩:=step_rel O.zero O.count true Sr.go hbr Sr.sim Sr.gid Sr.ext R.unmk.1 d rfl hlr
  obtain ⟨-,sv⟩:=step_rel_un O.zero O.count true S.go hb S.sim S.gid S.ext d rfl hl (fun f a' fr' cs' u' es' hM hst=>by
    have hst : stepG P true g (W.at d)=_:=hst
    rw [hst] at sr
    obtain ⟨-,fn,-,hfn,-,hbs,-⟩:=S.gid.apart f hM
    obtain ⟨b,hb0⟩:=Option.isSome_iff_exists.1 hbs
    have hno:=O.mark f (by rw [←R.base.2]; exact hM) fn b hfn hb0
    generalize stepG P.alt true hr (Vr.on W.tape d)=z at sr
    cases sr with
    | @go hx _ _ _ _ _ ρ2 R2 hg2 _=>
      have ht:=hg2.frame.todo
      have e : (Frame.enter P f a' .normal).todo=[.code b]:=by simp [Frame.enter,hfn,hb0]
      simp only [e] at ht
      generalize hx.frame.todo=td at ht
      cases ht with
      | cons hi _=>
        cases hi with
        | code h=>
          rw [R2.le.F,R.unmk.2,hno] at h
          cases h)
  have calm1 : ∀ {ρ' : Ren},ρ.le ρ'→(ρ'.F bigS=false∧ρ'.F bigM=false)∧(ρ'.loose=true∧ρ'.wide=true)∧ρ'.ch D.cV:=fun l=>⟨by rw [l.F]; exact S.calm,by rw [l.loose,l.wide]; exact S.loose,by rw [l.ch]; exact S.ch⟩
  have calmr : ∀ {ρ' : Ren},ρr.le ρ'→(ρ'.F bigS=false∧ρ'.F bigM=false)∧(ρ'.loose=true∧ρ'.wide=true)∧ρ'.ch D.cr:=fun l=>⟨by rw [l.F]; exact Sr.calm,by rw [l.loose,l.wide]; exact Sr.loose,by rw [l.ch]; exact Sr.ch⟩
  have rowV : ∀ {ρ' : Ren} {u u' : World},Reach ρ ρ' (V.on W.tape d) (W.at d) u u'→∃ n b s q tm,u.heap[D.cV]?=some (.chan n b true s q tm)∧b.toList=L:=fun R=>by
    obtain ⟨n,b,s,q,tm,h1,h2⟩:=S.row
    rcases R.chs.row D.cV D.c S.ch S.pair with ⟨k,-⟩ | ⟨k,-⟩
    · exact ⟨n,b,s,q,tm,k.trans h1,h2⟩
    · rw [S.calm.1] at k; cases k
  have allV : ∀ {ρ' : Ren} {u u' : World},Reach ρ ρ' (V.on W.tape d) (W.at d) u u'→(∀ a b o,ρ' a b→u.heap[a]?=some o→o.isChan=true→ρ'.ch a)∧∀ a b,ρ'.ch a→ρ' a b→a≠D.cV→∃ n s q tm n' s' q',u.heap[a]?=some (.chan n #[] true s q tm)∧u'.heap[b]?=some (.chan n' #[] true s' q' tm):=fun R1=>by
    refine ⟨fun a b o hab ho hc=>?_,fun a b hch hab hne=>?_⟩
    · rw [R1.le.ch]
      rcases R1.chs.only S.calm.2 a o ho hc with k | ⟨k,-⟩
      · rcases R1.new a b hab with k2 | ⟨k2,-⟩
        · exact R.all a b o k2 k hc
        · have : a < V.heap.size:=(Array.getElem?_eq_some_iff.1 k).1
          exact absurd k2 (by show ¬V.heap.size≤a; omega)
      · rw [S.calm.1] at k; cases k
    · rw [R1.le.ch] at hch
      rcases R1.new a b hab with k2 | ⟨k2,-⟩
      · obtain ⟨n,s,q,tm,n',s',q',e1,e2⟩:=R.rest a b hch k2 hne
        rcases R1.chs.row a b hch k2 with ⟨k,k3⟩ | ⟨k,-⟩
        · exact ⟨n,s,q,tm,n',s',q',k.trans e1,k3.trans e2⟩
        · rw [S.calm.1] at k; cases k
      · obtain ⟨o,e1,-⟩:=S.sim.chan a hch
        have : a < V.heap.size:=(Array.getElem?_eq_some_iff.1 e1).1
        exact absurd k2 (by show ¬V.heap.size≤a; omega)
  have rowR : ∀ {ρ' : Ren} {u u' : World},Reach ρr ρ' (Vr.on W.tape d) (W.at d) u u'→(∃ n b s q tm,u.heap[D.cr]?=some (.chan n b true s q tm)∧b.toList=L)∧u'.heap[D.c]?=W.heap[D.c]?∧∀ (a : Nat) o,u.heap[a]?=some o→o.isChan=true→a=D.cr:=fun R1=>by
    obtain ⟨n,b,s,q,tm,h1,h2⟩:=Sr.row
    refine ⟨?_,?_,fun a o ho hc=>?_⟩
    · rcases R1.chs.row D.cr D.c Sr.ch Sr.pair with ⟨k,-⟩ | ⟨k,-⟩
      · exact ⟨n,b,s,q,tm,k.trans h1,h2⟩
      · rw [Sr.calm.1] at k; cases k
    · rcases R1.chs.row D.cr D.c Sr.ch Sr.pair with ⟨-,k⟩ | ⟨k,-⟩
      · exact k
      · rw [Sr.calm.1] at k; cases k
    · rcases R1.chs.only Sr.calm.2 a o ho hc with k | ⟨k,-⟩
      · exact R.only a o k hc
      · rw [Sr.calm.1] at k; cases k
  cases hlr with
  | @go _ _ esr er hr2 hd2=>
    rw [er] at sr
    generalize hy : stepG P true g (W.at d)=y at sr sv
    cases sr with
    | @go _ g1 _ W1 _ es ρr' R1 hg1 he1=>
      cases hl with
      | @go _ _ esv ev hrv hdv=>
        rw [ev] at sv
        cases sv with
        | go _ ρ' R2 hg2 he2=>
          obtain ⟨k1,k3,k4⟩:=calm1 R2.le
          obtain ⟨m1,m3,m4⟩:=calmr R1.le
          obtain ⟨r1,r2,r3⟩:=rowR R1
          exact ⟨g1,W1,es,ρ',ρr',⟨R2.le,R1.le,fun a b h=>(R2.new a b h).imp id (·.2),fun a b h=>(R1.new a b h).imp id (·.2),⟨R1.keep.os,R1.keep.output,R1.keep.tape,R1.keep.size,R1.keep.block⟩,r2,he1⟩,.inl ⟨rfl,
            ⟨⟨hg2,R2.sim,S.gid.mono R2.le,by rw [R2.le.F]; exact S.ext,k1,k3,k4,R2.le _ _ S.pair,rowV R2⟩,⟨hg1,R1.sim,Sr.gid.mono R1.le,by rw [R1.le.F]; exact Sr.ext,m1,m3,m4,R1.le _ _ Sr.pair,r1⟩,r3,(by rw [R1.le.ch]; exact R.chR),(by rw [R1.le.F]; exact R.unmk),⟨fun a b k=>R2.le _ _ (R.base.1 a b k),R2.le.F.trans R.base.2⟩,(allV R2).1,(allV R2).2⟩⟩⟩
      | comm ev _=>
        rw [ev] at sv
        cases sv
  | @comm hr1 ccr s Vr1 esr _ _ er hcr=>
    rw [er] at sr
    generalize hy : stepG P true g (W.at d)=y at sr sv
    cases sr with
    | @comm _ g1 _ c' hC _ hsh hrun _ W1 _ es ρr' R1 hg1 hcc1 he1 ha1=>
      cases hl with
      | go ev _ _=>rw [ev] at sv; cases sv
      | @comm h1 cc sv' V1 esv _ _ ev hcv=>
        rw [ev] at sv
        cases sv with
        | comm hC2 _ hsh2 hrun2 _ ρ' R2 hg2 hcc2 he2 ha2=>
          obtain ⟨k1,k3,k4⟩:=calm1 R2.le
          obtain ⟨m1,m3,m4⟩:=calmr R1.le
          obtain ⟨r1,r2,r3⟩:=rowR R1
          have hsn : ccr.send=none:=by
            cases hx : ccr.send with
            | none=>rfl
            | some v=>have:=hC.1 (by rw [hx]; rfl); rw [Sr.calm.1] at this; cases this
          have hsn' : c'.send=none:=by
            rcases hcc1.send with ⟨-,k⟩ | ⟨v,_,k,-⟩
            · exact k
            · rw [hsn] at k; cases k
          have hchan : ccr.chan=.chan (some D.cr):=by
            cases hcr with
            | send q1 q2 q3 q4=>rw [hsn] at q2; cases q2
            | dead q1 q2 q3=>rw [hsn] at q2; cases q2
            | recv q1 q2 q3 q4=>rw [q1,r3 _ _ q3 rfl]
            | shut q1 q2 q3=>rw [q1,r3 _ _ q3 rfl]
          have hc' : c'=rcase D.c c'.zero:=by
            refine rcase_of ?_ hsn'
            have:=hcc1.chan
            rw [hchan] at this
            generalize c'.chan=x at this
            cases this with
            | chan k=>cases k with
              | some k=>rw [ρr'.fn _ _ _ k (R1.le _ _ Sr.pair)]
          have hshr : ∃ ok,s=.recv ok:=by
            rcases hsh with ⟨k,-⟩ | ⟨-,k⟩
            · rw [hsn] at k; cases k
            · exact k
          refine ⟨g1,W1,es,ρ',ρr',⟨R2.le,R1.le,fun a b h=>(R2.new a b h).imp id (·.2),fun a b h=>(R1.new a b h).imp id (·.2),⟨R1.keep.os,R1.keep.output,R1.keep.tape,R1.keep.size,R1.keep.block⟩,r2,he1⟩,.inr ⟨h1,hr1,V1,Vr1,c'.zero,s,by rw [←hc'],
            ⟨⟨⟨hg2,R2.sim,S.gid.mono R2.le,by rw [R2.le.F]; exact S.ext,k1,k3,k4,R2.le _ _ S.pair,rowV R2⟩,⟨hg1,R1.sim,Sr.gid.mono R1.le,by rw [R1.le.F]; exact Sr.ext,m1,m3,m4,R1.le _ _ Sr.pair,r1⟩,r3,(by rw [R1.le.ch]; exact R.chR),(by rw [R1.le.F]; exact R.unmk),⟨fun a b k=>R2.le _ _ (R.base.1 a b k),R2.le.F.trans R.base.2⟩,(allV R2).1,(allV R2).2⟩,hshr,by rw [←hc']; exact ha1.2.2,⟨cc,by rw [←hc']; exact hcc2,hcv⟩,⟨ccr,by rw [←hc']; exact hcc1,hcr⟩⟩⟩⟩
structure MovedS (ρs ρs' : Ren) (W W1 : World) (c : Nat) (es : Array Event) : Prop where
  le : ρs.le ρs'
  new : ∀ a b,ρs' a b→ρs a b∨W.heap.size≤b
  keep : Keep ρs W W1
  row : W1.heap[c]?=W.heap[c]?
  ev : ∀ e∈es,EvOk ρs' e
theorem snd_step (O : PhOk P D Post) {ρs : Ren} {hs s : Goroutine} {Vs : World} (S : Snd P ([trap P.alt],D.Bs) ρs hs s Vs W D.cs D.c L) (hnb : NB [trap P.alt] hs) (d : Nat) {hs' : Goroutine} {Vs' : World} (hl : LS P.alt hs (Vs.on W.tape d) hs' Vs') (hop : ∀ n b cl s q tm,Vs'.heap[D.cs]?=some (.chan n b cl s q tm)→cl=false) :
    ∃ s1 W1 es ρs',MovedS ρs ρs' W W1 D.c es ∧
      ((stepG P false s (W.at d)=.go s1 W1 es∧Snd P ([trap P.alt],D.Bs) ρs' hs' s1 Vs' W1 D.cs D.c L) ∨
       (∃ h1 V1 cc v z,stepG P false s (W.at d)=.comm s1 #[scase D.c v z] true .send W1 es∧Snd P ([trap P.alt],D.Bs) ρs' h1 s1 V1 W1 D.cs D.c L∧RC ρs' cc (scase D.c v z)∧LC P.alt h1 cc .send V1 hs' Vs') ∨
       (∃ r v z n b s' q tm,stepG P false s (W.at d)=.comm s1 #[scase r v z] true .send W1 es∧W1.heap[r]?=some (.chan n b true s' q tm)∧Snd P ([trap P.alt],D.Bs) ρs' hs' { s1 with frame:=s1.frame.raise (deadEntry P) } Vs' W1 D.cs D.c L)):=by
  have hb : Base ([trap P.alt],D.Bs) hs.frame s.callers:=fun e=>hnb (S.go.callers.tail e)
  have hne : hs.callers≠[]:=fun e=>by
    have:=S.go.callers.len1
    rw [e] at this
    simp at this
  obtain ⟨-,sr⟩:=step_rel O.zero O.count false S.go hb S.sim S.gid S.ext S.unmk d (stepG_main _ _ hne _).symm hl
  have calm1 : ∀ {ρ' : Ren},ρs.le ρ'→(ρ'.F bigC=false∧ρ'.F bigM=false)∧(∀ f,¬Mk ρ'.F f=true)∧(ρ'.loose=true∧ρ'.wide=false)∧∀ x,ρ'.ch x↔x=D.cs:=fun l=>⟨by rw [l.F]; exact S.calm,by rw [l.F]; exact S.unmk,by rw [l.loose,l.wide]; exact S.loose,by rw [l.ch]; exact S.ch⟩
  have rowS : ∀ {ρ' : Ren} {u u' : World},Reach ρs ρ' (Vs.on W.tape d) (W.at d) u u'→(∀ n b s q tm,u.heap[D.cs]?=some (.chan n b true s q tm)→False)→(∃ n b s q tm,u.heap[D.cs]?=some (.chan n b false s q tm)∧b.toList=L)∧u'.heap[D.c]?=W.heap[D.c]?∧∀ (a n : Nat) b s q tm,u.heap[a]?=some (.chan n b false s q tm)→a=D.cs:=fun R1 hno=>by
    obtain ⟨n,b,s,q,tm,h1,h2⟩:=S.row
    have key:=R1.chs.row D.cs D.c ((S.ch _).2 rfl) S.pair
    refine ⟨?_,?_,fun a n b s q tm ho=>?_⟩
    · rcases key with ⟨k,-⟩ | ⟨-,_,_,_,_,_,k⟩
      · exact ⟨n,b,s,q,tm,k.trans h1,h2⟩
      · exact (hno _ _ _ _ _ k).elim
    · rcases key with ⟨-,k⟩ | ⟨-,_,_,_,_,_,k⟩
      · exact k
      · exact (hno _ _ _ _ _ k).elim
    · rcases R1.chs.only S.calm.2 a _ ho rfl with k | ⟨-,_,_,_,_,_,k⟩
      · exact S.only a n b s q tm k
      · rw [ho] at k; cases k
  cases hl with
  | @go _ _ esr er hr2 hd2=>
    rw [er] at sr
    generalize hy : stepG P false s (W.at d)=y at sr
    cases sr with
    | @go _ g1 _ W1 _ es ρ' R1 hg1 he1=>
      obtain ⟨m1,m2,m3,m4⟩:=calm1 R1.le
      obtain ⟨r1,r2,r3⟩:=rowS R1 (fun n b s q tm k=>by cases hop _ _ _ _ _ _ k)
      exact ⟨g1,W1,es,ρ',⟨R1.le,fun a b h=>(R1.new a b h).imp id (·.2),⟨R1.keep.os,R1.keep.output,R1.keep.tape,R1.keep.size,R1.keep.block⟩,r2,he1⟩,.inl ⟨rfl,⟨hg1,R1.sim,S.gid.mono R1.le,by rw [R1.le.F]; exact S.ext,m1,m2,m3,m4,R1.le _ _ S.pair,r1,r3⟩⟩⟩
  | @comm h1 cc sh V1 esr _ _ er hcr=>
    rw [er] at sr
    generalize hy : stepG P false s (W.at d)=y at sr
    cases sr with
    | @comm _ g1 _ c' hC _ hsh hrun _ W1 _ es ρ' R1 hg1 hcc1 he1 ha1=>
      obtain ⟨m1,m2,m3,m4⟩:=calm1 R1.le
      have hsn : cc.send≠none:=fun k=>by have:=hC.2 k; rw [S.calm.1] at this; cases this
      have hno : ∀ n b s q tm,V1.heap[D.cs]?=some (.chan n b true s q tm)→False:=fun n b s q tm k=>by
        cases hcr with
        | recv q1 q2 q3 q4=>exact hsn q2
        | shut q1 q2 q3=>exact hsn q2
        | dead q1 q2 q3=>cases hop _ _ _ _ _ _ k
        | @send r cap sent rcvd buf tm0 v0 q1 q2 q3 q4=>
          by_cases e : r=D.cs
          · subst e; rw [k] at q3; cases q3
          · cases hop n b true s q tm (by simpa [e] using k)
      obtain ⟨r1,r2,r3⟩:=rowS R1 hno
      have hshs : sh=.send:=by
        rcases hsh with ⟨-,k⟩ | ⟨k,-⟩
        · exact k
        · exact absurd k hsn
      subst hshs
      obtain ⟨v,hv⟩ : ∃ v,c'.send=some v:=by
        rcases hcc1.send with ⟨k,-⟩ | ⟨_,v,-,k,-⟩
        · exact absurd k hsn
        · exact ⟨v,k⟩
      have mv : MovedS ρs ρ' W W1 D.c es:=⟨R1.le,fun a b h=>(R1.new a b h).imp id (·.2),⟨R1.keep.os,R1.keep.output,R1.keep.tape,R1.keep.size,R1.keep.block⟩,r2,he1⟩
      have hex : (∃ h' V',hs'=h'∧Vs'=V'∧cc.chan=.chan (some D.cs))∨(Vs'=V1∧hs'={ h1 with frame:=h1.frame.raise (deadEntry P) }∧∃ r n b s q tm,cc.chan=.chan (some r)∧V1.heap[r]?=some (.chan n b true s q tm)):=by
        cases hcr with
        | recv q1 q2 q3 q4=>exact absurd q2 hsn
        | shut q1 q2 q3=>exact absurd q2 hsn
        | send q1 q2 q3 q4=>exact .inl ⟨_,_,rfl,rfl,by rw [q1,r3 _ _ _ _ _ _ q3]⟩
        | dead q1 q2 q3=>exact .inr ⟨rfl,rfl,_,_,_,_,_,_,q1,q3⟩
      rcases hex with ⟨_,_,-,-,hchan⟩ | ⟨rfl,rfl,r,n,b,s',q,tm,hchan,hrow⟩
      rotate_left
      · obtain ⟨r',cap',buf',cl',s'',q'',c1,c2,c3,-,c5,-⟩:=chan_rel R1.sim hcc1 hchan hrow
        obtain rfl:=c5.resolve_left (by rw [m3.2]; exact fun h=>by cases h)
        have hc' : c'=scase r' v c'.zero:=by
          obtain ⟨a,b,z⟩:=c'
          simp only at c1 hv
          subst c1; subst hv; rfl
        refine ⟨g1,W1,es,ρ',mv,.inr (.inr ⟨r',v,c'.zero,_,_,_,_,_,by rw [←hc'],c3,⟨⟨hg1.frame.raise1 (.iface _ (.string _)),hg1.callers,hg1.kind.raise _ _,hg1.status,hg1.dying,hg1.offers⟩,R1.sim,S.gid.mono R1.le,by rw [R1.le.F]; exact S.ext,m1,m2,m3,m4,R1.le _ _ S.pair,r1,r3⟩⟩)⟩
      have hc' : c'=scase D.c v c'.zero:=by
        have hch : c'.chan=.chan (some D.c):=by
          have:=hcc1.chan
          rw [hchan] at this
          generalize c'.chan=x at this
          cases this with
          | chan k=>cases k with
            | some k=>rw [ρ'.fn _ _ _ k (R1.le _ _ S.pair)]
        obtain ⟨a,b,z⟩:=c'
        simp only at hch hv
        subst hch; subst hv; rfl
      exact ⟨g1,W1,es,ρ',mv,.inr (.inl ⟨h1,V1,cc,v,c'.zero,by rw [←hc'],⟨hg1,R1.sim,S.gid.mono R1.le,by rw [R1.le.F]; exact S.ext,m1,m2,m3,m4,R1.le _ _ S.pair,r1,r3⟩,by rw [←hc']; exact hcc1,hcr⟩)⟩
end
end Go.Proofs.YtnapepbdohidgaaGreatDoorQ
