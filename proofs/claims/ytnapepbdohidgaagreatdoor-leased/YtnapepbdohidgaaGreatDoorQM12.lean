/- Part of a proof. -/
import Derived.Test.YtnapepbdohidgaaGreatDoorQM11
namespace Go.Proofs.YtnapepbdohidgaaGreatDoorQ
open Go
open Go.Conc (crowd Past EvL Deaf QuitsD woken awake crowd_pick runT_crowd_go rcase scase parked ph)
open Go.ConcN (sumTo upd sumTo_upd upd_ne upd_same)
variable {P : Program} [Two P] {D : PhD P} {Post : Value→World→Prop}
theorem Moved.far {ρ ρ' ρr ρr' ρs : Ren} {W W1 : World} {c : Nat} {es : Array Event} (m : Moved ρ ρ' ρr ρr' W W1 c es) (hF : Far ρr ρs) (hB : ∀ y b,ρs y b→b < W.heap.size) : Far ρr' ρs:=fun b x y h1 h2=>by
  rcases m.newr x b h1 with k | k
  · rw [m.ler.old,m.ler.ch]; exact hF b x y k h2
  · have:=hB y b h2; omega
theorem RcvR.at {ρ ρr : Ren} {W : World} {h hr g : Goroutine} {V Vr : World} {L : List Value} (R : RcvR D ρ ρr W h hr g V Vr L) (d : Nat) : RcvR D ρ ρr (W.at d) h hr g V Vr L:=⟨R.side.stays rfl (fun _ _ _ _=>rfl) rfl,R.sideR.stays rfl (fun _ _ _ _=>rfl) rfl,R.only,R.chR,R.unmk,R.base,R.all,R.rest⟩
omit [Two P] in
theorem awake_all {gs : Array Goroutine} {t : Trace} {q : Nat→Nat} (hL : Lv P (fun _=>False) t gs q) {x : Goroutine} (h0 : gs[0]?=some x) (hr : x.status=.running) : ∀ y∈gs,awake y:=fun y hy=>by
  obtain ⟨i,hi,rfl⟩:=Array.mem_iff_getElem.1 hy
  rcases Nat.eq_zero_or_pos i with rfl | hpos
  · have : gs[0]=x:=by simpa [Array.getElem?_eq_getElem hi] using h0
    rw [this]; exact Conc.awake_of (.inl hr)
  · exact Conc.awake_of ((hL.old i _ hpos (fun k=>k) (Array.getElem?_eq_getElem hi)).status.elim .inl fun x=>.inr (.inr x))
theorem firm0 {gs : Array Goroutine} {x : Goroutine} (h0 : gs[0]?=some x) (hr : x.status=.running) (w : World) : ∀ j o,(j=0∨False)→gs[j]?=some o→o.again w=o:=fun j o hj ho=>by
  rcases hj with rfl | hj
  · rw [h0] at ho; cases ho; exact Conc.again_running _ (.inl hr)
  · exact hj.elim
theorem RcvR.run {ρ ρr : Ren} {W : World} {h hr g : Goroutine} {V Vr : World} {L : List Value} (R : RcvR D ρ ρr W h hr g V Vr L) : g.status=.running:=R.side.go.status.2
theorem real_step (O : PhOk P D Post) {ρ ρr : Ren} {W : World} {h hr g : Goroutine} {V Vr : World} {L : List Value} (R : RcvR D ρ ρr W h hr g V Vr L) (hd : Dem P.alt (fun g _=>NB [trap P.alt] g) D.T h V) (hp : LSs P.alt D.T D.h0 D.V0 h V) (d : Nat) :
    ∃ h' V',LS P.alt h (V.on W.tape d) h' V'∧Dem P.alt (fun g _=>NB [trap P.alt] g) D.T h' V'∧LSs P.alt D.T D.h0 D.V0 h' V':=by
  have hT : ¬D.T h V:=fun k=>by
    have h1:=O.leafT _ _ k
    have h2:=R.side.go.callers.len1
    have h3:=O.deep
    omega
  cases hd with
  | stop k=>exact absurd k hT
  | step _ _ hgo hn=>
    obtain ⟨h',V',hl⟩:=hgo W.tape d
    exact ⟨h',V',hl,hn _ _ _ _ hl,hp.trans (.step hT _ _ hl (.refl _ _))⟩
theorem RcvC.take (O : PhOk P D Post) {ρ ρr : Ren} {W W' : World} {h1 hr1 g1 h hr : Goroutine} {V1 Vr1 V Vr : World} {v z : Value} {L : List Value} {sh : CommShape} (C : RcvC D ρ ρr W h1 hr1 g1 V1 Vr1 (v :: L) z sh h hr V Vr) (hv : v∈D.L) (hos : W'.os=W.os) (hs : ∀ b,b≠D.c→W'.heap[b]?=W.heap[b]?) {n n' : Nat} {b b' : List Value} {cl cl' : Bool} {s q s' q' : Nat} {tm : Bool} (r1 : RowW W D.c n b cl s q tm) (r2 : RowW W' D.c n' b' cl' s' q' tm) :
    RcvR D ρ ρr W' h hr (g1.finishComm P #[rcase D.c z] sh 0 v true) V Vr L:=by
  obtain ⟨cc,c1,c2⟩:=C.rc
  obtain ⟨cr,d1,d2⟩:=C.rcr
  have hkeep : ∀ (a : Nat) (o : Obj),V.heap[a]?=some o→o.isChan=true→∃ o1 : Obj,V1.heap[a]?=some o1∧o1.isChan=true:=fun a o ho hc=>by
    cases c2 with
    | shut=>exact ⟨o,ho,hc⟩
    | dead=>exact ⟨o,ho,hc⟩
    | @send r _ _ _ _ _ _ k1 k2 k3 k4=>
      by_cases e : r=a
      · subst e; exact ⟨_,k3,rfl⟩
      · exact ⟨o,by simpa [e] using ho,hc⟩
    | @recv r _ _ _ _ _ _ k1 k2 k3 k4=>
      by_cases e : r=a
      · subst e; exact ⟨_,k3,rfl⟩
      · exact ⟨o,by simpa [e] using ho,hc⟩
  have hsame : ∀ a : Nat,a≠D.cV→V.heap[a]?=V1.heap[a]?:=fun a ha=>by
    obtain ⟨-,hch⟩:=C.at1.side.case_ c1
    have hr : ∀ r,cc.chan=.chan (some r)→r≠a:=fun r e=>by
      rw [e] at hch
      rcases hch with k | k
      · cases k; exact Ne.symm ha
      · cases k
    cases c2 with
    | shut=>rfl
    | dead=>rfl
    | send k1 k2 k3 k4=>simp [hr _ k1]
    | recv k1 k2 k3 k4=>simp [hr _ k1]
  refine ⟨C.at1.side.take c1 C.sh c2 (O.flat v hv) hos hs r1 r2,C.at1.sideR.take d1 C.sh d2 (O.flat v hv) hos hs r1 r2,d2.only C.at1.only,C.at1.chR,C.at1.unmk,C.at1.base,fun a b o hab ho hc=>?_,fun a b hch hab hne=>?_⟩
  · obtain ⟨o1,k1,k2⟩:=hkeep a o ho hc
    exact C.at1.all a b o1 hab k1 k2
  · obtain ⟨n,s,q,tm,n',s',q',e1,e2⟩:=C.at1.rest a b hch hab hne
    refine ⟨n,s,q,tm,n',s',q',(hsame a hne).trans e1,?_⟩
    rw [hs b (fun e=>hne (ρ.inj _ _ _ hab (e ▸ C.at1.side.pair)))]
    exact e2
theorem setChan_other (W : World) (c n : Nat) (b : Array Value) (cl : Bool) (s q : Nat) (tm : Bool) {j : Nat} (h : j≠c) : (W.setChan c n b cl s q tm).heap[j]?=W.heap[j]?:=by
  unfold World.setChan
  exact Array.getElem?_setIfInBounds_ne (Ne.symm h)
theorem setChan_row (W : World) (c n : Nat) (b : Array Value) (cl : Bool) (s q : Nat) (tm : Bool) (h : c < W.heap.size) : RowW (W.setChan c n b cl s q tm) c n b.toList cl s q tm:=⟨b,by unfold World.setChan; exact Array.getElem?_setIfInBounds_self_of_lt h,rfl⟩
theorem setChan_size (W : World) (c n : Nat) (b : Array Value) (cl : Bool) (s q : Nat) (tm : Bool) : (W.setChan c n b cl s q tm).heap.size=W.heap.size:=by simp [World.setChan]
theorem ofEvents_nil (g : Nat) (fn : FuncId) (pos : String) : MemOp.ofEvents g fn pos #[]=#[]:=rfl
theorem fin_rest {ρ ρr : Ren} {W : World} {h1 hr1 g1 h : Goroutine} {V1 Vr1 V : World} {z : Value} {sh : CommShape} {cc : CommCase} (R : RcvR D ρ ρr W h1 hr1 g1 V1 Vr1 []) (hrc : RC ρ cc (rcase D.c z)) (_hsh : ∃ ok,sh=.recv ok) (hlc : LC P.alt h1 cc sh V1 h V) : Others D ρ V W:=by
  have hV : V=V1:=by
    obtain ⟨hsd,hch⟩:=R.side.case_ hrc
    obtain ⟨n0,b0,s0,q0,tm0,e1,e2⟩:=R.side.row
    cases hlc with
    | send k1 k2 k3 k4=>rw [hsd] at k2; cases k2
    | dead=>rfl
    | shut=>rfl
    | recv k1 k2 k3 k4=>
      rw [k1] at hch
      rcases hch with hch | hch
      · cases hch
        rw [e1] at k3; cases k3
        have : b0=#[]:=Array.toList_inj.1 (by simpa using e2)
        rw [this] at k4
        simp at k4
      · cases hch
  rw [hV]
  exact ⟨R.base,R.all,R.rest⟩
structure OutC (D : PhD P) (ρ ρr : Ren) (W : World) : Prop where
  kp : Kp D.U W
  off : Off D.U ρ
  offR : Off D.U ρr
  chan : ¬D.U.Ko D.c
omit [Two P] in
theorem OutC.rcv {D : PhD P} {ρ ρr ρ' ρr' : Ren} {W W1 : World} {es : Array Event} (h : OutC D ρ ρr W) (m : Moved ρ ρ' ρr ρr' W W1 D.c es) : OutC D ρ' ρr' W1:=⟨h.kp.keep h.offR m.keep,h.off.new h.kp m.le.sub m.new,h.offR.new h.kp m.ler.sub m.newr,h.chan⟩
omit [Two P] in
theorem Kp.setChan {U : Outer} {W : World} {c : Nat} (h : Kp U W) (hc : ¬U.Ko c) (n : Nat) (b : Array Value) (cl : Bool) (s q : Nat) (tm : Bool) : Kp U (W.setChan c n b cl s q tm):=⟨by rw [setChan_size]; exact h.1,h.2.1,fun x hx=>(setChan_other (j:=x) _ _ _ _ _ _ _ _ (fun e=>hc (by rw [←e]; exact hx))).trans (h.2.2 x hx)⟩
omit [Two P] in
theorem OutC.set {D : PhD P} {ρ ρr : Ren} {W : World} (h : OutC D ρ ρr W) (n : Nat) (b : Array Value) (cl : Bool) (s q : Nat) (tm : Bool) : OutC D ρ ρr (W.setChan D.c n b cl s q tm):=⟨h.kp.setChan h.chan _ _ _ _ _ _,h.off,h.offR,h.chan⟩
theorem closed_last (O : PhOk P D Post) {ρ ρr ρs : Ren} {h1 hr1 g1 h hr : Goroutine} {V1 Vr1 V Vr : World} {z : Value} {sh : CommShape} (hp : LSs P.alt D.T D.h0 D.V0 h V) {n s q : Nat} {tm : Bool} {pc : Nat} :
    ∀ (M : Nat) (gs : Array Goroutine) (W : World) (sl : Option (Nat×Nat)) (t : Trace) (qs : Nat→Nat),sumTo gs.size qs≤M→RcvC D ρ ρr W h1 hr1 g1 V1 Vr1 [] z sh h hr V Vr→RowW W D.c n [] true s q tm→OutC D ρ ρr W→gs[0]?=some { parked g1 #[rcase D.c z] sh with status:=.running }→Lv P (fun _=>False) t gs qs→PhC D.c pc ρs W.heap.size t→Fin P Post gs W sl t:=by
  intro M
  induction M using Nat.strongRecOn with
  | _ M ih=>
    intro gs W sl t qs hM C r hU h0 hL hP
    obtain ⟨i,x,d,sl',hi,hx,hst⟩:=crowd_pick (P:=P) (w:=W) (sl:=sl) (awake_all hL h0 rfl) ⟨0,_,h0,rfl⟩
    rcases Nat.eq_zero_or_pos i with rfl | hpos
    · rw [h0] at hi
      cases hi
      have hst0 : stepG P (0 == 0) { parked g1 #[rcase D.c z] sh with status:=.running } (W.at d)=.comm g1 #[rcase D.c z] true sh (W.at d) #[]:=C.atc true (W.at d)
      obtain ⟨a,hrow,ha⟩:=r
      have ha : a=#[]:=Array.toList_inj.1 (by simpa using ha)
      subst ha
      have hrt:=Conc.crowd_recv_closed (sl:=sl') (i:=0) h0 hst0 hrow (hL.alone D.c true)
      rw [ofEvents_nil,Array.empty_append] at hrt
      have hlt : D.c < W.heap.size:=(Array.getElem?_eq_some_iff.1 hrow).1
      obtain ⟨cc,c1,c2⟩:=C.rc
      have S:=((C.at1.at d).side).nothing c1 C.sh c2
      exact Fin.next (hst.trans hrt) (O.fin ρ h _ V (W.at d) n s q tm _ _ _ qs S (fin_rest (C.at1.at d) c1 C.sh c2) ⟨hU.kp,hU.off⟩ hrow hp (by simp [(Array.getElem?_eq_some_iff.1 h0).1])
        (hL.put (fun op hop=>by simp at hop; subst hop; exact ⟨by simp,by simp⟩) (by simp) (fun j hj _=>Array.getElem?_setIfInBounds_ne (by omega)))
        (hP.done ⟨rfl,rfl⟩ hlt))
    · obtain ⟨gs',q',ops,e1,e2,e3,e4,e5,e6,-⟩:=slip hL hP (fun t i fn pos es hi _ h hm=>h.mute hi hm) hi hx hpos (fun k=>k) (firm0 h0 rfl _) hst
      exact Fin.next e1 (ih _ (by omega) gs' (W.at d) sl' (t++ops) q' (Nat.le_refl _) ⟨C.at1.at d,C.sh,C.atc,C.rc,C.rcr⟩ r ⟨hU.kp,hU.off,hU.offR,hU.chan⟩ ((e3 0 (.inl rfl)).trans h0) e4 e5)
def ClosedRun (P : Program) [Two P] (D : PhD P) (Post : Value→World→Prop) (hr : Goroutine) (Vr : World) : Prop:=
  ∀ (gs : Array Goroutine) (W : World) (sl : Option (Nat×Nat)) (t : Trace) (qs : Nat→Nat) (ρ ρr ρs : Ren) (h g : Goroutine) (V : World) (L : List Value) (n s q : Nat) (tm : Bool) (pc : Nat),RcvR D ρ ρr W h hr g V Vr L→Dem P.alt (fun g _=>NB [trap P.alt] g) D.T h V→LSs P.alt D.T D.h0 D.V0 h V→(∀ v∈L,v∈D.L)→RowW W D.c n L true s q tm→Far ρr ρs→OutC D ρ ρr W→(∀ y b,ρs y b→b < W.heap.size)→gs[0]?=some g→Lv P (fun _=>False) t gs qs→PhC D.c pc ρs W.heap.size t→Fin P Post gs W sl t
theorem closed_one (O : PhOk P D Post) {hr : Goroutine} {Vr : World} (hnb : NB [trap P.alt] hr) (hls : ∀ τ d,∃ hr' Vr',LS P.alt hr (Vr.on τ d) hr' Vr')
    (hn : ∀ τ d hr' Vr',LS P.alt hr (Vr.on τ d) hr' Vr'→ClosedRun P D Post hr' Vr'∨((∀ n b s q tm,Vr.heap[D.cr]?=some (.chan n b true s q tm)→b.toList=[])∧∃ h1 cc s V1 es,stepG P.alt true hr (Vr.on τ d)=.comm h1 cc true s V1 es)) : ClosedRun P D Post hr Vr:=by
  intro gs W sl t qs ρ ρr ρs h g V L n s q tm pc R hd hp hLL r hF hU hB h0 hL hP
  obtain ⟨M,hM⟩ : ∃ M,sumTo gs.size qs≤M:=⟨_,Nat.le_refl _⟩
  induction M using Nat.strongRecOn generalizing gs W sl t qs with
  | _ M ih=>
    obtain ⟨i,x,d,sl',hi,hx,hst⟩:=crowd_pick (P:=P) (w:=W) (sl:=sl) (awake_all hL h0 R.run) ⟨0,_,h0,R.run⟩
    rcases Nat.eq_zero_or_pos i with rfl | hpos
    · obtain rfl : x=g:=by rw [h0] at hi; exact (Option.some.inj hi).symm
      obtain ⟨h',V',hl,hd',hp'⟩:=real_step O R hd hp d
      obtain ⟨hr',Vr',hlr⟩:=hls W.tape d
      have hnx:=hn _ _ _ _ hlr
      obtain ⟨g1,W1,es,ρ',ρr',m,hcase⟩:=rcv_step O R hnb d hl hlr
      have hF':=m.far hF hB
      have hsz : W.heap.size≤W1.heap.size:=m.keep.size
      have r1 : RowW W1 D.c n L true s q tm:=by
        obtain ⟨a,k1,k2⟩:=r
        exact ⟨a,m.row.trans k1,k2⟩
      rcases hcase with ⟨hg,R'⟩ | ⟨h1,hr1,V1,Vr1,z,sh,hg,C⟩
      · have hC : ClosedRun P D Post hr' Vr':=by
          rcases hnx with k | ⟨-,_,_,_,_,_,k⟩
          · exact k
          · exfalso
            have hbr : Base ([trap P.alt],D.X.2) hr.frame x.callers:=fun e=>hnb (R.sideR.go.callers.tail e)
            obtain ⟨-,sr⟩:=step_rel O.zero O.count true R.sideR.go hbr R.sideR.sim R.sideR.gid R.sideR.ext R.unmk.1 d rfl hlr
            rw [k,hg] at sr
            cases sr
        obtain ⟨gs',ops,e1,e2,e3,e4,-,e6⟩:=ownGo hL hi (.inl rfl) hst (show stepG P (0 == 0) x (W.at d)=_ from hg)
        subst e2
        exact Fin.next e1 (hC gs' W1 sl' _ qs ρ' ρr' ρs h' g1 V' L n s q tm pc R' hd' hp' hLL r1 hF' (hU.rcv m) (fun y b k=>Nat.lt_of_lt_of_le (hB y b k) hsz) e4 e6 (hP.app hF' hsz (ops_ok R'.sideR.sim m.ev 0 _ _)))
      · obtain ⟨a,ha1,ha2⟩:=r1
        have hlt : D.c < W1.heap.size:=(Array.getElem?_eq_some_iff.1 ha1).1
        have hev:=ops_ok C.at1.sideR.sim m.ev 0 x.frame.fn x.frame.place
        cases L with
        | nil=>
          have ha : a=#[]:=Array.toList_inj.1 (by simpa using ha2)
          subst ha
          have hrt:=Conc.crowd_recv_closed (sl:=sl') (i:=0) h0 (show stepG P (0 == 0) x (W.at d)=_ from hg) ha1 (hL.alone D.c true)
          obtain ⟨cc,c1,c2⟩:=C.rc
          refine Fin.next (hst.trans hrt) (O.fin ρ' h' _ V' W1 n s q tm _ _ _ qs (C.at1.side.nothing c1 C.sh c2) (fin_rest C.at1 c1 C.sh c2) ⟨(hU.rcv m).kp,(hU.rcv m).off⟩ ha1 hp' (by simp [(Array.getElem?_eq_some_iff.1 h0).1]) (hL.put (fun op hop=>?_) (by simp) (fun j hj _=>Array.getElem?_setIfInBounds_ne (by omega))) ?_)
          · rcases Array.mem_append.1 hop with k | k
            · exact (hev op k).2.2.1
            · simp at k; subst k; exact ⟨by simp,by simp⟩
          · rw [←Array.append_assoc]
            exact (hP.app hF' hsz hev).done ⟨rfl,rfl⟩ hlt
        | cons v L=>
          have hC : ClosedRun P D Post hr' Vr':=by
            rcases hnx with k | ⟨k,-⟩
            · exact k
            · exfalso
              obtain ⟨n0,b0,s0,q0,tm0,k1,k2⟩:=R.sideR.row
              rw [k _ _ _ _ _ k1] at k2
              cases k2
          have hsome : 0 < a.size:=by rw [←Array.length_toList,ha2]; simp
          have hget : a.getD 0 undef=v:=by rw [Array.getD_eq_getD_getElem?,←Array.getElem?_toList,ha2]; rfl
          have hext : (a.extract 1 a.size).toList=L:=by
            have hl : a.toList.length=a.size:=Array.length_toList
            rw [Array.toList_extract,ha2] at *
            simp at hl ⊢
            rw [←hl]; simp
          have hrt:=Conc.crowd_recv_buf (sl:=sl') (i:=0) h0 (show stepG P (0 == 0) x (W.at d)=_ from hg) ha1 hsome (hL.alone D.c true)
          rw [hget] at hrt
          have r2:=setChan_row W1 D.c n (a.extract 1 a.size) true s (q+1) tm hlt
          rw [hext] at r2
          have R2:=C.take O (hLL v (by simp)) (W':=W1.setChan D.c n (a.extract 1 a.size) true s (q+1) tm) rfl (fun b hb=>setChan_other _ _ _ _ _ _ _ _ hb) ⟨a,ha1,ha2⟩ r2
          have hu : ∀ op∈(#[{ g:=0,fn:=g1.frame.fn,pos:=g1.frame.place,act:=.recv D.c q n },{ g:=0,fn:=g1.frame.fn,pos:=g1.frame.place,act:=.recvDone D.c q }] : Trace),op.g=0∧chanAct W1.heap.size op.act:=fun op hop=>by
            simp at hop
            rcases hop with rfl | rfl <;> exact ⟨rfl,hlt⟩
          refine Fin.next (hst.trans hrt) (hC _ _ sl' _ qs ρ' ρr' ρs h' _ V' L n s (q+1) tm pc R2 hd' hp' (fun v hv=>hLL v (by simp [hv])) r2 hF' ((hU.rcv m).set _ _ _ _ _ _) (fun y b k=>by rw [setChan_size]; exact Nat.lt_of_lt_of_le (hB y b k) hsz) (by simp [(Array.getElem?_eq_some_iff.1 h0).1]) (hL.put (fun op hop=>?_) (by simp) (fun j hj _=>Array.getElem?_setIfInBounds_ne (by omega))) ?_)
          · rcases Array.mem_append.1 hop with k | k
            · exact (hev op k).2.2.1
            · exact (hu op k).2.still
          · rw [←Array.append_assoc,setChan_size]
            exact (hP.app hF' hsz hev).app hF' (Nat.le_refl _) (fun op hop=>⟨(hu op hop).1,chan_ok (hu op hop).2⟩)
    · obtain ⟨gs',q',ops,e1,e2,e3,e4,e5,e6,-⟩:=slip hL hP (fun t i fn pos es hi _ h hm=>h.mute hi hm) hi hx hpos (fun k=>k) (firm0 h0 R.run _) hst
      exact Fin.next e1 (ih _ (by omega) gs' (W.at d) sl' (t++ops) q' (R.at d) r ⟨hU.kp,hU.off,hU.offR,hU.chan⟩ hB ((e3 0 (.inl rfl)).trans h0) e4 e5 (Nat.le_refl _))
theorem closed_ok (O : PhOk P D Post) {hr : Goroutine} {Vr : World} (hD : Dem P.alt D.Nr D.Tr hr Vr) : ClosedRun P D Post hr Vr:=by
  induction hD with
  | @stop g w hT=>
    obtain ⟨h1,h2,h3⟩:=O.tr g w hT
    refine closed_one O h1 (fun τ d=>?_) (fun τ d hr' Vr' _=>.inr ⟨h2,?_⟩)
    · obtain ⟨_,_,_,_,_,h',V',e,l⟩:=h3 τ d
      exact ⟨h',V',.comm e l⟩
    · obtain ⟨_,_,_,_,_,h',V',e,l⟩:=h3 τ d
      exact ⟨_,_,_,_,_,e⟩
  | @step g w hN hT hgo _ ih=>exact closed_one O (O.nr g w hN) hgo (fun τ d hr' Vr' hl=>.inl (ih τ d hr' Vr' hl))
def Alone (P : Program) (bo : Nat) (g : Goroutine) : Nat→Goroutine→World→Prop:=
  Go.Conc.Goes P true (fun w v=>v.heap[bo]?=w.heap[bo]?) (fun w w' es=>w'=w∧∀ e∈es,∃ a : Addr,e=⟨.cell a,false,false⟩∧a.block=bo) (fun g' _=>g'=g)
section
variable {bo k : Nat} {g y : Goroutine} {W W1 : World}
omit [Two P] in
theorem Alone.rely (h : Alone P bo g k y W) (hb : W1.heap[bo]?=W.heap[bo]?) : Alone P bo g k y W1:=
  Go.Conc.Goes.rely (fun _ _ _ h k=>k.trans h) h hb
omit [Two P] in
theorem Alone.next (h : Alone P bo g k y W) : y=g∨(y.status=.running∧∃ k',k=k'+1∧∀ d,∃ y' es,stepG P true y (W.at d)=.go y' (W.at d) es∧(∀ e∈es,∃ a : Addr,e=⟨.cell a,false,false⟩∧a.block=bo)∧Alone P bo g k' y' (W.at d)):=by
  cases k with
  | zero=>exact .inl (h W rfl)
  | succ k=>
    rcases h with h | ⟨hst,h⟩
    · exact .inl (h W rfl)
    · refine .inr ⟨hst,k,rfl,fun d=>?_⟩
      obtain ⟨y',w',es,h1,⟨rfl,h2⟩,h3⟩:=Go.Conc.goes_elim (h (W.at d) rfl)
      exact ⟨y',es,h1,h2,h3⟩
omit [Two P] in
theorem Alone.status (h : Alone P bo g k y W) (hg : g.status=.running) : y.status=.running:=by
  rcases h.next with rfl | ⟨h,-⟩
  · exact hg
  · exact h
theorem alone_ev {ρr : Ren} (hbo : ∃ x,ρr x bo∧¬ρr.ch x) {es : Array Event} (h : ∀ e∈es,∃ a : Addr,e=⟨.cell a,false,false⟩∧a.block=bo) : ∀ e∈es,EvOk ρr e:=fun e he=>by
  obtain ⟨a,rfl,rfl⟩:=h e he
  obtain ⟨x,h1,h2⟩:=hbo
  exact ⟨x,h1,(fun h=>by cases h),h2⟩
end
theorem closed_pre {hr : Goroutine} {Vr : World} (hC : ClosedRun P D Post hr Vr) {ρ ρr ρs : Ren} {h g : Goroutine} {V : World} {L : List Value} {n s q : Nat} {tm : Bool} {pc : Nat} (hd : Dem P.alt (fun g _=>NB [trap P.alt] g) D.T h V) (hp : LSs P.alt D.T D.h0 D.V0 h V) (hLL : ∀ v∈L,v∈D.L) (hF : Far ρr ρs) (hbo : ∃ x,ρr x D.bo∧¬ρr.ch x) :
    ∀ (k : Nat) (gs : Array Goroutine) (W : World) (sl : Option (Nat×Nat)) (t : Trace) (qs : Nat→Nat) (y : Goroutine),RcvR D ρ ρr W h hr g V Vr L→Alone P D.bo g k y W→RowW W D.c n L true s q tm→OutC D ρ ρr W→(∀ y b,ρs y b→b < W.heap.size)→gs[0]?=some y→Lv P (fun _=>False) t gs qs→PhC D.c pc ρs W.heap.size t→Fin P Post gs W sl t:=by
  intro k
  induction k with
  | zero=>
    intro gs W sl t qs y R hy r hU hB h0 hL hP
    rcases hy.next with rfl | ⟨-,k',e,-⟩
    · exact hC gs W sl t qs ρ ρr ρs h y V L n s q tm pc R hd hp hLL r hF hU hB h0 hL hP
    · cases e
  | succ k ihk=>
    intro gs W sl t qs y R hy r hU hB h0 hL hP
    obtain ⟨M,hM⟩ : ∃ M,sumTo gs.size qs≤M:=⟨_,Nat.le_refl _⟩
    induction M using Nat.strongRecOn generalizing gs W sl t qs with
    | _ M ih=>
      rcases hy.next with rfl | ⟨hst2,k',e,hnx⟩
      · exact hC gs W sl t qs ρ ρr ρs h y V L n s q tm pc R hd hp hLL r hF hU hB h0 hL hP
      · cases e
        obtain ⟨i,x,d,sl',hi,hx,hst⟩:=crowd_pick (P:=P) (w:=W) (sl:=sl) (awake_all hL h0 hst2) ⟨0,_,h0,hst2⟩
        rcases Nat.eq_zero_or_pos i with rfl | hpos
        · obtain rfl : x=y:=by rw [h0] at hi; exact (Option.some.inj hi).symm
          obtain ⟨y',es,hg,hev,hy'⟩:=hnx d
          obtain ⟨gs',ops,e1,e2,e3,e4,-,e6⟩:=ownGo hL hi (.inl rfl) hst (show stepG P (0 == 0) x (W.at d)=_ from hg)
          subst e2
          exact Fin.next e1 (ihk gs' (W.at d) sl' _ qs y' (R.at d) hy' r ⟨hU.kp,hU.off,hU.offR,hU.chan⟩ hB e4 e6 (hP.app hF (Nat.le_refl _) (ops_ok (R.at d).sideR.sim (alone_ev hbo hev) 0 _ _)))
        · obtain ⟨gs',q',ops,e1,e2,e3,e4,e5,e6,-⟩:=slip hL hP (fun t i fn pos es hi _ h hm=>h.mute hi hm) hi hx hpos (fun k=>k) (firm0 h0 hst2 _) hst
          exact Fin.next e1 (ih _ (by omega) gs' (W.at d) sl' (t++ops) q' (R.at d) (hy.rely rfl) r ⟨hU.kp,hU.off,hU.offR,hU.chan⟩ hB ((e3 0 (.inl rfl)).trans h0) e4 e5 (Nat.le_refl _))
end Go.Proofs.YtnapepbdohidgaaGreatDoorQ
namespace Go.Proofs.YtnapepbdohidgaaGreatDoorQ
open Go
open Go.Conc (crowd Past EvL Deaf QuitsD woken awake crowd_pick runT_crowd_go rcase scase parked ph)
open Go.ConcN (sumTo upd sumTo_upd upd_ne upd_same)
variable {P : Program} [Two P] {D : PhD P} {Post : Value→World→Prop}
def Half (ρ ρs : Ren) : Prop:=∀ b x y,ρ x b→ρs y b→ρs.old y∨ρs.ch y
inductive RPart (D : PhD P) (ρ ρr : Ren) (W : World) (buf : List Value) (hr : Goroutine) (Vr : World) : Goroutine→List Value→Nat→Prop
  | run {h g : Goroutine} {V : World} {L : List Value} (R : RcvR D ρ ρr W h hr g V Vr L) (hd : Dem P.alt (fun g _=>NB [trap P.alt] g) D.T h V) (hp : LSs P.alt D.T D.h0 D.V0 h V) : RPart D ρ ρr W buf hr Vr g L 1
  | park {h1 hr1 g1 h : Goroutine} {V1 Vr1 V : World} {v z : Value} {L : List Value} {sh : CommShape} (C : RcvC D ρ ρr W h1 hr1 g1 V1 Vr1 (v :: L) z sh h hr V Vr) (hb : buf=[]) (hd : Dem P.alt (fun g _=>NB [trap P.alt] g) D.T h V) (hp : LSs P.alt D.T D.h0 D.V0 h V) : RPart D ρ ρr W buf hr Vr (parked g1 #[rcase D.c z] sh) (v :: L) 0
  | last {h1 hr1 g1 h hr' : Goroutine} {V1 Vr1 V Vr' : World} {z : Value} {sh : CommShape} (C : RcvC D ρ ρr W h1 hr1 g1 V1 Vr1 [] z sh h hr' V Vr') (hb : buf=[]) (hp : LSs P.alt D.T D.h0 D.V0 h V) : RPart D ρ ρr W buf hr Vr (parked g1 #[rcase D.c z] sh) [] 0
  | pre {h g y : Goroutine} {V : World} {L : List Value} (k : Nat) (R : RcvR D ρ ρr W h hr g V Vr L) (hd : Dem P.alt (fun g _=>NB [trap P.alt] g) D.T h V) (hp : LSs P.alt D.T D.h0 D.V0 h V) (hbo : (∃ x,ρr x D.bo∧¬ρr.ch x)∧D.bo≠D.c) (hy : Alone P D.bo g k y W) : RPart D ρ ρr W buf hr Vr y L (k+2)
inductive SPart (D : PhD P) (ρs : Ren) (W : World) (n : Nat) (buf : List Value) (hs : Goroutine) (Vs : World) : Goroutine→List Value→Nat→Prop
  | run {s : Goroutine} {L : List Value} (S : Snd P ([trap P.alt],D.Bs) ρs hs s Vs W D.cs D.c L) : SPart D ρs W n buf hs Vs s L 1
  | new {y s : Goroutine} {L : List Value} (S : Snd P ([trap P.alt],D.Bs) ρs hs s Vs W D.cs D.c L) (hy : ∀ v,stepG P false y v=.go s v #[]) (hst : y.status=.running) : SPart D ρs W n buf hs Vs y L 2
  | park {h1 s1 : Goroutine} {V1 : World} {L : List Value} {cc : CommCase} {v z : Value} (S : Snd P ([trap P.alt],D.Bs) ρs h1 s1 V1 W D.cs D.c L) (rc : RC ρs cc (scase D.c v z)) (lc : LC P.alt h1 cc .send V1 hs Vs) (hf : n≤buf.length) : SPart D ρs W n buf hs Vs (parked s1 #[scase D.c v z] .send) L 0
section
variable {ρ ρr ρs ρ' ρr' ρs' : Ren} {W W1 : World} {n : Nat} {buf : List Value} {hr hs x : Goroutine} {Vr Vs : World} {L : List Value} {f : Nat} {es : Array Event}
theorem RcvR.stays {h g : Goroutine} {V : World} (R : RcvR D ρ ρr W h hr g V Vr L) (hos : W1.os=W.os) (h1 : ∀ x b,ρ x b→b≠D.c→W1.heap[b]?=W.heap[b]?) (h2 : ∀ x b,ρr x b→b≠D.c→W1.heap[b]?=W.heap[b]?) (hc : W1.heap[D.c]?=W.heap[D.c]?) : RcvR D ρ ρr W1 h hr g V Vr L:=
  ⟨R.side.stays hos h1 hc,R.sideR.stays hos h2 hc,R.only,R.chR,R.unmk,R.base,R.all,fun a b hch hab hne=>by
    obtain ⟨n,s,q,tm,n',s',q',e1,e2⟩:=R.rest a b hch hab hne
    exact ⟨n,s,q,tm,n',s',q',e1,by rw [h1 a b hab (fun e=>hne (ρ.inj _ _ _ hab (e ▸ R.side.pair)))]; exact e2⟩⟩
theorem RPart.stays (R : RPart D ρ ρr W buf hr Vr x L f) (hos : W1.os=W.os) (h1 : ∀ x b,ρ x b→b≠D.c→W1.heap[b]?=W.heap[b]?) (h2 : ∀ x b,ρr x b→b≠D.c→W1.heap[b]?=W.heap[b]?) (hc : W1.heap[D.c]?=W.heap[D.c]?) : RPart D ρ ρr W1 buf hr Vr x L f:=by
  cases R with
  | run R hd hp=>exact .run (R.stays hos h1 h2 hc) hd hp
  | park C hb hd hp=>exact .park ⟨C.at1.stays hos h1 h2 hc,C.sh,C.atc,C.rc,C.rcr⟩ hb hd hp
  | last C hb hp=>exact .last ⟨C.at1.stays hos h1 h2 hc,C.sh,C.atc,C.rc,C.rcr⟩ hb hp
  | pre k R hd hp hbo hy=>
    obtain ⟨⟨x0,k1,k2⟩,k3⟩:=hbo
    exact .pre k (R.stays hos h1 h2 hc) hd hp ⟨⟨x0,k1,k2⟩,k3⟩ (hy.rely (h2 _ _ k1 k3))
theorem SPart.stays (S : SPart D ρs W n buf hs Vs x L f) (hos : W1.os=W.os) (h1 : ∀ x b,ρs x b→b≠D.c→W1.heap[b]?=W.heap[b]?) (hc : W1.heap[D.c]?=W.heap[D.c]?) : SPart D ρs W1 n buf hs Vs x L f:=by
  cases S with
  | run S=>exact .run (S.stays hos h1 hc)
  | new S hy hst=>exact .new (S.stays hos h1 hc) hy hst
  | park S rc lc hf=>exact .park (S.stays hos h1 hc) rc lc hf
theorem SPart.lt (S : SPart D ρs W n buf hs Vs x L f) : ∀ y b,ρs y b→b < W.heap.size:=fun y b k=>by
  cases S with
  | run S=>exact (S.sim.lt k).2
  | new S _ _=>exact (S.sim.lt k).2
  | park S _ _ _=>exact (S.sim.lt k).2
theorem SPart.ch (S : SPart D ρs W n buf hs Vs x L f) : (∀ y,ρs.ch y↔y=D.cs)∧ρs D.cs D.c:=by
  cases S with
  | run S=>exact ⟨S.ch,S.pair⟩
  | new S _ _=>exact ⟨S.ch,S.pair⟩
  | park S _ _ _=>exact ⟨S.ch,S.pair⟩
theorem RPart.ch (R : RPart D ρ ρr W buf hr Vr x L f) : ((∀ y,ρr.ch y→y=D.cr)∧ρr D.cr D.c)∧(∀ y b,ρ y b→b < W.heap.size)∧∀ y b,ρr y b→b < W.heap.size:=by
  cases R with
  | run R _ _=>exact ⟨⟨R.chR,R.sideR.pair⟩,fun y b k=>(R.side.sim.lt k).2,fun y b k=>(R.sideR.sim.lt k).2⟩
  | park C _ _ _=>exact ⟨⟨C.at1.chR,C.at1.sideR.pair⟩,fun y b k=>(C.at1.side.sim.lt k).2,fun y b k=>(C.at1.sideR.sim.lt k).2⟩
  | last C _ _=>exact ⟨⟨C.at1.chR,C.at1.sideR.pair⟩,fun y b k=>(C.at1.side.sim.lt k).2,fun y b k=>(C.at1.sideR.sim.lt k).2⟩
  | pre _ R _ _ _ _=>exact ⟨⟨R.chR,R.sideR.pair⟩,fun y b k=>(R.side.sim.lt k).2,fun y b k=>(R.sideR.sim.lt k).2⟩
theorem SPart.pre (O : PhOk P D Post) (hD : Dem P.alt D.Ns D.Ts hs Vs) (S : SPart D ρs W n buf hs Vs x L f) {b : List Value} {s q : Nat} {tm : Bool} (r : RowW W D.c n b false s q tm) : L <+: D.L:=by
  have key : ∀ {s : Goroutine} {W : World} {L : List Value},Snd P ([trap P.alt],D.Bs) ρs hs s Vs W D.cs D.c L→L <+: D.L:=fun S=>by
    obtain ⟨n,b,s,q,tm,h1,h2⟩:=S.row
    exact h2 ▸ (O.pre hD _ _ _ _ _ _ h1).2
  cases S with
  | run S=>exact key S
  | new S _ _=>exact key S
  | park S rc lc hf=>
    obtain ⟨v0,-,S2⟩:=S.push rc lc rfl (fun _ _=>rfl) r r
    exact (List.prefix_append _ _).trans (key S2)
omit [Two P] in
theorem Moved.left (m : Moved ρ ρ' ρr ρr' W W1 D.c es) (hF : Far ρr ρs) (hS : ∀ y b,ρs y b→b < W.heap.size) (hch : ∀ y,ρr.ch y→ρr y D.c) : ∀ x b,ρs x b→b≠D.c→W1.heap[b]?=W.heap[b]?:=fun x b hb hne=>
  m.keep.block b (hS x b hb) (fun a ha=>by
    rcases hF b a x ha hb with ⟨k,-⟩ | ⟨k,-⟩
    · exact k
    · exact absurd (ρr.fn _ _ _ ha (hch a k)) hne)
omit [Two P] in
theorem Moved.half (m : Moved ρ ρ' ρr ρr' W W1 D.c es) (hH : Half ρ ρs) (hS : ∀ y b,ρs y b→b < W.heap.size) : Half ρ' ρs:=fun b x y h1 h2=>by
  rcases m.new x b h1 with k | k
  · exact hH b x y k h2
  · have:=hS y b h2; omega
omit [Two P] in
theorem MovedS.far (m : MovedS ρs ρs' W W1 D.c es) (hF : Far ρr ρs) (hR : ∀ y b,ρr y b→b < W.heap.size) : Far ρr ρs':=fun b x y h1 h2=>by
  rcases m.new y b h2 with k | k
  · rw [m.le.old,m.le.ch]; exact hF b x y h1 k
  · have:=hR x b h1; omega
omit [Two P] in
theorem MovedS.half (m : MovedS ρs ρs' W W1 D.c es) (hH : Half ρ ρs) (hR : ∀ y b,ρ y b→b < W.heap.size) : Half ρ ρs':=fun b x y h1 h2=>by
  rcases m.new y b h2 with k | k
  · rw [m.le.old,m.le.ch]; exact hH b x y h1 k
  · have:=hR x b h1; omega
omit [Two P] in
theorem MovedS.left (m : MovedS ρs ρs' W W1 D.c es) {σ : Ren} (hH : Half σ ρs) (hR : ∀ y b,σ y b→b < W.heap.size) (hch : ∀ y,ρs.ch y→ρs y D.c) : ∀ x b,σ x b→b≠D.c→W1.heap[b]?=W.heap[b]?:=fun x b hb hne=>
  m.keep.block b (hR x b hb) (fun a ha=>by
    rcases hH b x a hb ha with k | k
    · exact k
    · exact absurd (ρs.fn _ _ _ ha (hch a k)) hne)
theorem Far.half (h : Far ρr ρs) : Half ρr ρs:=fun b x y h1 h2=>(h b x y h1 h2).imp (·.2) (·.2)
theorem RPart.again (R : RPart D ρ ρr W buf hr Vr x L f) {w : World} {n' : Nat} {b : List Value} {s q : Nat} {tm : Bool} (r : RowW w D.c n' b false s q tm) : x.again w=x:=by
  obtain ⟨a,r,-⟩:=r
  cases R with
  | run R _ _=>exact Conc.again_running _ (.inl R.run)
  | park C _ _ _=>exact Conc.again_recv_open r
  | last C _ _=>exact Conc.again_recv_open r
  | pre _ R _ _ _ hy=>exact Conc.again_running _ (.inl (hy.status R.run))
theorem SPart.again (S : SPart D ρs W n buf hs Vs x L f) {w : World} {n' : Nat} {b : List Value} {s q : Nat} {tm : Bool} (r : RowW w D.c n' b false s q tm) : x.again w=x:=by
  obtain ⟨a,r,-⟩:=r
  cases S with
  | run S=>exact Conc.again_running _ (.inl S.go.status.2)
  | new S _ hst=>exact Conc.again_running _ (.inl hst)
  | park S _ _ _=>exact Conc.again_send_open r
theorem RPart.status (R : RPart D ρ ρr W buf hr Vr x L f) : x.status=.running∨x.status=.blocked:=by
  cases R with
  | run R _ _=>exact .inl R.run
  | park C _ _ _=>exact .inr rfl
  | last C _ _=>exact .inr rfl
  | pre _ R _ _ _ hy=>exact .inl (hy.status R.run)
theorem SPart.status (S : SPart D ρs W n buf hs Vs x L f) : x.status=.running∨x.status=.blocked:=by
  cases S with
  | run S=>exact .inl S.go.status.2
  | new S _ hst=>exact .inl hst
  | park S _ _ _=>exact .inr rfl
end
end Go.Proofs.YtnapepbdohidgaaGreatDoorQ
