/- Part of a proof. -/
import Derived.Test.YtnapepbdohidgaaGreatDoorQM14
import Derived.Test.YtnapepbdohidgaaGreatDoorQM01
import Derived.Conc.BesideWords
import Derived.Conc.LoneCalls
namespace Go.Proofs.YtnapepbdohidgaaGreatDoorQ
open Go
section
variable {P : Program} {N T : Goroutine→World→Prop} {g g' : Goroutine} {w w' : World}
theorem LC.status {c : CommCase} {s : CommShape} (h : LC P g c s w g' w') : g'.status=.running:=by
  cases h with
  | dead _ _ _ hg=>exact hg
  | _=>rfl
theorem LS.status (h : LS P g w g' w') : g'.status=.running:=by
  cases h with
  | go _ hr _=>exact hr
  | comm _ hc=>exact hc.status
theorem LS.next (hr : g.status=.running) (h : LS P g w g' w') {m : Machine} (hs : step P (solo g w)=.next m) : m=solo g' w'∨∃ b,b.status=.blocked∧m.gs=#[b]∧∃ u,m=solo b u:=by
  cases h with
  | go h _ _=>
    rw [solo_go hr h] at hs
    exact .inl (by cases hs; rfl)
  | @comm g1 c s w1 es _ _ h hc=>
    rw [solo_comm hr h] at hs
    by_cases hg1 : g1.status=.running
    · rcases comm_next hg1 hs with ⟨b,q,hb,rfl⟩ | rfl
      · obtain ⟨rfl,rfl⟩:=(LS.comm h hb).fn (LS.comm h hc)
        exact .inl rfl
      · exact .inr ⟨_,rfl,rfl,_,rfl⟩
    · have hs' : (communicate P { timers:=#[],alone:=none,slice:=none } #[away] 0 g1 #[c] true s w1).1=.next m:=hs
      obtain ⟨ch,sd,z⟩:=c
      cases hc with
      | dead _ _ _ hg=>exact absurd hg hg1
      | send h1 h2 h3 h4=>
        simp only at h1 h2
        subst h1; subst h2
        simp [communicate,ways,h3,partners_away,h4,choose,Sem.run,Question.forced,bind,Sem.bind,pure] at hs'
        exact .inl hs'.symm
      | recv h1 h2 h3 h4=>
        simp only at h1 h2
        subst h1; subst h2
        simp [communicate,ways,h3,partners_away,h4,choose,Sem.run,Question.forced,bind,Sem.bind,pure] at hs'
        refine .inl ?_
        rw [←hs']
        simp [solo,h4]
      | shut h1 h2 h3=>
        simp only at h1 h2
        subst h1; subst h2
        simp [communicate,ways,h3,partners_away,choose,Sem.run,Question.forced,bind,Sem.bind,pure] at hs'
        exact .inl hs'.symm
theorem dem_run (hT : ∀ g w,T g w→∀ n g2 w2,runN P n (solo g w)=.next (solo g2 w2)→g2.callers.length≤1) : ∀ (n : Nat) (g : Goroutine) (w : World),Dem P N T g w→g.status=.running→∀ g2 w2,runN P n (solo g w)=.next (solo g2 w2)→g2.status=.running→1 < g2.callers.length→LSs P T g w g2 w2∧Dem P N T g2 w2:=by
  intro n
  induction n with
  | zero=>
    intro g w hD _ g2 w2 h _ _
    simp only [runN,Stepped.next.injEq] at h
    have e1 : #[g]=#[g2]:=congrArg Machine.gs h
    have e2 : w=w2:=congrArg Machine.world h
    simp at e1
    subst e1; subst e2
    exact ⟨.refl _ _,hD⟩
  | succ n ih=>
    intro g w hD hr g2 w2 h hr2 hl
    cases hD with
    | stop k=>
      have:=hT g w k _ _ _ h
      omega
    | step hN hnT hgo hn=>
      obtain ⟨g',w',hls⟩:=hgo w.tape w.drawn
      have hls' : LS P g w g' w':=hls
      simp only [runN] at h
      cases hs : step P (solo g w) with
      | ended o u=>rw [hs] at h; cases h
      | next m=>
        rw [hs] at h
        rcases hls'.next hr hs with rfl | ⟨b,hb,-,u,rfl⟩
        · obtain ⟨k1,k2⟩:=ih g' w' (hn _ _ _ _ hls) hls.status g2 w2 h hr2 hl
          exact ⟨.step hnT w.tape w.drawn hls k1,k2⟩
        · cases n with
          | zero=>
            simp only [runN,Stepped.next.injEq] at h
            have e1 : #[b]=#[g2]:=congrArg Machine.gs h
            simp at e1
            subst e1
            rw [hb] at hr2; cases hr2
          | succ n=>
            obtain ⟨o,z,e⟩:=solo_blocked (P:=P) (w:=u) (g:=b) hb
            simp only [runN,e] at h
            cases h
theorem Dem.on (hN : ∀ g w τ d,N g w→N g (w.on τ d)) (hT : ∀ g w τ d,T g (w.on τ d)↔T g w) (h : Dem P N T g w) (τ : Nat→Question→Nat) (d : Nat) : Dem P N T g (w.on τ d):=by
  cases h with
  | stop k=>exact .stop ((hT _ _ _ _).2 k)
  | step h1 h2 h3 h4=>exact .step (hN _ _ _ _ h1) (fun k=>h2 ((hT _ _ _ _).1 k)) h3 h4
theorem LSs.on {τ : Nat→Question→Nat} {d : Nat} (hT : ∀ g w τ d,T g (w.on τ d)↔T g w) {g2 : Goroutine} {w2 : World} (h : LSs P T g (w.on τ d) g2 w2) : (g2=g∧w2=w.on τ d)∨LSs P T g w g2 w2:=by
  cases h with
  | refl=>exact .inl ⟨rfl,rfl⟩
  | step hnT τ' d' h hs=>exact .inr (.step (fun k=>hnT ((hT _ _ _ _).2 k)) τ' d' h hs)
theorem ends_short {f : FuncId} {R : (Nat→Question→Nat)→Nat→Ending→World→Prop} (h : Ends P f R g w) : ∀ n g2 w2,runN P n (solo g w)=.next (solo g2 w2)→g2.callers.length≤1:=by
  obtain ⟨τ,d,τ',d',e,fr,-,rfl,-,hlv,hne⟩:=h
  intro n g2 w2 hrun
  have same : ∀ {a b : Goroutine} {u v : World},solo a u=solo b v→a=b:=fun h=>by
    have e1:=congrArg Machine.gs h
    simpa [solo] using e1
  cases n with
  | zero=>
    simp only [runN,Stepped.next.injEq] at hrun
    rw [←same hrun]
    exact Nat.le_refl _
  | succ n=>
    have hst : (∃ o u es,stepG P true { frame:=fr,callers:=[trap P],status:=.running,dying:=none } w=.ended o u es)∨∃ f1 u es,stepG P true { frame:=fr,callers:=[trap P],status:=.running,dying:=none } w=.go { frame:=f1,callers:=[],status:=.running,dying:=none } u es∧(f1=trap P∨∃ c,f1=(trap P).raise c):=by
      cases e with
      | outgrown=>exact absurd rfl hne
      | panicked c=>
        obtain ⟨hm,hd,fn,hf⟩:=hlv
        have hc : fr.catches P=false:=by unfold Frame.catches; rw [hf]
        refine .inr ⟨(trap P).raise c,w,#[],?_,.inr ⟨c,rfl⟩⟩
        simp only [stepG,hm,unwind,hd,hc]
        rfl
      | returned v=>
        obtain ⟨hm,hd,hk,fn,hf,-⟩:=hlv
        have e0 : stepG P true { frame:=fr,callers:=[trap P],status:=.running,dying:=none } w=unwind P true fr [trap P] none w:=by simp only [stepG,hm]
        rw [e0]
        unfold unwind
        simp only [hd,hm,hf]
        cases hr : (results fn fr.tmps).runT P w #[] with
        | mk r es=>
          cases r with
          | ok v u=>
            obtain ⟨f1,e1,h1⟩:=left_return (P:=P) fr (by rw [hk]; rfl) v u
            simp only [e1]
            exact .inr ⟨f1,_,_,rfl,h1⟩
          | halt x u=>cases x <;> exact .inl ⟨_,_,_,rfl⟩
    simp only [runN] at hrun
    rcases hst with ⟨o,u,es,he⟩ | ⟨f1,u,es,he,hf1⟩
    · rw [solo_ended (g:={ frame:=fr,callers:=[trap P],status:=.running,dying:=none }) rfl he] at hrun
      cases hrun
    · rw [solo_go (g:={ frame:=fr,callers:=[trap P],status:=.running,dying:=none }) rfl he] at hrun
      cases n with
      | zero=>
        simp only [runN,Stepped.next.injEq] at hrun
        rw [←same hrun]
        exact Nat.zero_le _
      | succ n=>
        obtain ⟨o,z,es2,e2⟩:=trap_step (P:=P) hf1 u
        simp only [runN,solo_ended (g:={ frame:=f1,callers:=[],status:=.running,dying:=none }) rfl e2] at hrun
        cases hrun
end
def Marks (ρ : Ren) (l : List Deferred) : Prop:=∀ d∈l,∃ r b,d.target=.collected r∧ρ r b
theorem RDs.marks {ρ : Ren} (hS : (ρ.F bigS || ρ.F bigM)=false) {l l' : List Deferred} (h : RDs ρ l l') : Marks ρ l:=by
  induction h with
  | nil=>exact fun d hd=>by cases hd
  | @cons d d' l l' h _ hk ih=>
    intro x hx
    rcases List.mem_cons.1 hx with rfl | hx
    · rcases hk with ⟨r,hr⟩ | hk
      · have:=h.target
        rw [hr] at this
        generalize d'.target=y at this
        cases this with
        | collected k=>exact ⟨r,_,hr,k⟩
      · rw [hS] at hk; cases hk
    · exact ih x hx
inductive Fl (P : Program) (ρ : Ren) : List Frame→Prop
  | base : Fl P ρ [trap P]
  | cons {f : Frame} {l : List Frame} (hc : f.catches P=false) (hm : Marks ρ f.defers) (hl : Fl P ρ l) : Fl P ρ (f :: l)
theorem RFs.fl {P Q : Program} {ρ : Ren} (hS : (ρ.F bigS || ρ.F bigM)=false) {l l' : List Frame} (h : RFs P ρ ([trap Q],[]) l l') : Fl Q ρ l:=by
  generalize hX : (([trap Q],[]) : List Frame×List Frame)=X at h
  induction h with
  | base=>rw [←hX]; exact .base
  | cons h _ _ ih=>exact .cons (catches_no h Q).1 (h.defers.marks hS) ih
def Ce (V w : World) : Prop:=w.heap.size=V.heap.size∧∀ a,w.cell? a=V.cell? a
theorem unwound {P : Program} {f : FuncId} {R : (Nat→Question→Nat)→Nat→Ending→World→Prop} {ρ : Ren} {en : PanicEntry} {V : World} {g : Goroutine} {w : World} (hD : Dem P (fun g _=>NB [trap P] g) (Ends P f R) g w) :
    ∀ l,g.frame.mode=.panicking (en :: l)→g.dying=none→g.frame.catches P=false→Marks ρ g.frame.defers→Fl P ρ g.callers→(∀ r b,ρ r b→∀ l,w.heap[r]?=some (.deferred (some l))→Marks ρ l)→Ce V w→∃ τ d l u,R τ d (.panicked (en :: l)) u∧Ce V u:=by
  induction hD with
  | @stop g w hT=>
    intro l hm hdy _ _ _ _ hce
    obtain ⟨τ,d,τ',d',e,fr,hR,rfl,-,hlv,hne⟩:=hT
    simp only at hm
    cases e with
    | outgrown=>exact absurd rfl hne
    | returned v=>
      obtain ⟨h,-⟩:=hlv
      rw [hm] at h; cases h
    | panicked c=>
      obtain ⟨h,-⟩:=hlv
      rw [hm] at h
      cases h
      exact ⟨τ,d,l,_,hR,hce⟩
  | @step g w hN hT hgo hn ih=>
    intro l hm hdy hcat hmk hfl hrow hce
    obtain ⟨g',w',hls⟩:=hgo w.tape w.drawn
    have hls' : LS P g w g' w':=hls
    have hun : stepG P true g w=unwind P true g.frame g.callers none w:=by
      obtain ⟨fr,cs,st,dy,off⟩:=g
      simp only at hm hdy
      subst hdy
      simp only [stepG,hm]
    cases hdf : g.frame.defers with
    | cons x ds=>
      obtain ⟨r,b,hx,hrb⟩:=hmk x (by rw [hdf]; exact List.mem_cons_self ..)
      obtain ⟨tg,ar⟩:=x
      simp only at hx
      subst hx
      have hrun : ∀ l0,w.heap[r]?=some (.deferred (some l0))→(Instr.takeDeferred r).runT P w #[]=(.ok l0 { w with heap:=w.heap.setIfInBounds r (.deferred none) },#[⟨.obj r,false,false⟩,⟨.obj r,true,false⟩]):=fun l0 h0=>by
        unfold Instr.takeDeferred
        show Sem.runT P (Sem.getObj r _) w #[]=_
        simp only [Sem.runT,h0]
        show Sem.runT P (Sem.setObj r (.deferred none) _) w _=_
        simp only [Sem.runT,h0]
        rfl
      have hbad : (∀ l0,w.heap[r]?≠some (.deferred (some l0)))→∃ h u es,(Instr.takeDeferred r).runT P w #[]=(.halt h u,es):=fun hno=>by
        unfold Instr.takeDeferred
        show ∃ h u es,Sem.runT P (Sem.getObj r _) w #[]=(.halt h u,es)
        cases h0 : w.heap[r]? with
        | none=>simp only [Sem.runT,h0]; exact ⟨_,_,_,rfl⟩
        | some o=>
          cases o with
          | deferred q=>
            cases q with
            | none=>simp only [Sem.runT,h0]; exact ⟨_,_,_,rfl⟩
            | some l0=>exact absurd h0 (hno l0)
          | _=>simp only [Sem.runT,h0]; exact ⟨_,_,_,rfl⟩
      unfold unwind at hun
      simp only [hdf] at hun
      by_cases hex : ∃ l0,w.heap[r]?=some (.deferred (some l0))
      · obtain ⟨l0,h0⟩:=hex
        rw [hrun l0 h0] at hun
        have hun2 : ∃ es,stepG P true g w=.go { frame:={ g.frame with defers:=l0++ds },callers:=g.callers,status:=.running,dying:=none } { w with heap:=w.heap.setIfInBounds r (.deferred none) } es:=⟨_,hun⟩
        obtain ⟨es,hun2⟩:=hun2
        cases hls' with
        | comm h _=>rw [hun2] at h; cases h
        | go h _ _=>
          rw [hun2] at h
          cases h
          refine ih _ _ _ _ hls l hm rfl hcat (fun d hd=>?_) hfl (fun r1 b1 hr1 l1 h1=>?_) ⟨?_,fun a=>?_⟩
          · rcases List.mem_append.1 hd with k | k
            · exact hrow r b hrb l0 h0 d k
            · exact hmk d (by rw [hdf]; exact List.mem_cons_of_mem _ k)
          · by_cases e : r=r1
            · subst e
              simp only at h1
              rw [Array.getElem?_setIfInBounds_self_of_lt (Array.getElem?_eq_some_iff.1 h0).1] at h1
              cases h1
            · simp only [Array.getElem?_setIfInBounds_ne e] at h1
              exact hrow r1 b1 hr1 l1 h1
          · simp only [Array.size_setIfInBounds]
            exact hce.1
          · rw [←hce.2 a]
            unfold World.cell?
            by_cases e : r=a.block
            · simp only [←e,Array.getElem?_setIfInBounds_self_of_lt (Array.getElem?_eq_some_iff.1 h0).1,h0]
            · simp only [Array.getElem?_setIfInBounds_ne e]
      · obtain ⟨h,u,es,hb⟩:=hbad (fun l0 k=>hex ⟨l0,k⟩)
        rw [hb] at hun
        exfalso
        have : ∃ o u es,stepG P true g w=.ended o u es:=⟨_,_,_,hun⟩
        obtain ⟨o,u,es,hun⟩:=this
        cases hls' with
        | comm h _=>rw [hun] at h; cases h
        | go h _ _=>rw [hun] at h; cases h
    | nil=>
      unfold unwind at hun
      simp only [hdf,hm,hcat] at hun
      generalize hcs : g.callers=cs at hfl hun
      cases hfl with
      | base=>
        exfalso
        rcases hN hcs with k | k
        · rw [hm] at k; cases k
        · exact k hdf
      | @cons c rest hc1 hm1 hl1=>
        have hun2 : stepG P true g w=.go { frame:=c.raise (en :: l),callers:=rest,status:=.running,dying:=none } w #[]:=hun
        cases hls' with
        | comm h _=>rw [hun2] at h; cases h
        | go h _ _=>
          rw [hun2] at h
          cases h
          have hr : ∃ l2,(c.raise (en :: l)).mode=.panicking (en :: l2):=by
            unfold Frame.raise
            cases c.mode with
            | panicking ch=>exact ⟨l++ch,rfl⟩
            | _=>exact ⟨l,rfl⟩
          obtain ⟨l2,hr⟩:=hr
          have hk : (c.raise (en :: l)).defers=c.defers∧(c.raise (en :: l)).catches P=c.catches P:=by
            unfold Frame.raise Frame.catches
            cases c.mode <;> exact ⟨rfl,rfl⟩
          exact ih _ _ _ _ hls l2 hr rfl (by rw [hk.2]; exact hc1) (by rw [hk.1]; exact hm1) hl1 hrow hce
end Go.Proofs.YtnapepbdohidgaaGreatDoorQ
namespace Go.Proofs.YtnapepbdohidgaaGreatDoorQ
open Go
open Go.Conc (crowd Past EvL Deaf QuitsD woken awake crowd_pick runT_crowd_go Goes AtRel goes_elim)
open Go.ConcN (sumTo upd sumTo_upd upd_ne upd_same)
variable {P : Program} {Post : Value→World→Prop}
def DB (B : Nat) : World→World→Array Event→Prop:=fun _ _ es=>∀ e∈es,EvL noShun B e
def FinAt (P : Program) (Post : Value→World→Prop) (B : Nat) (g : Goroutine) (W : World) : Prop:=
  ∀ (gs : Array Goroutine) (sl : Option (Nat×Nat)) (t : Trace) (q : Nat→Nat),gs[0]?=some g→Lv P (fun _=>False) t gs q→Past noShun B t→Fin P Post gs W sl t
theorem goes_fin {B : Nat} : ∀ {n : Nat} {g : Goroutine} {W : World},Goes P true AtRel (DB B) (FinAt P Post B) n g W→FinAt P Post B g W:=by
  intro n
  induction n with
  | zero=>intro g W h; exact h W ⟨W.drawn,rfl⟩
  | succ n ih=>
    intro g W h gs sl t q h0 hL hP
    rcases h with h | ⟨hr,h⟩
    · exact h W ⟨W.drawn,rfl⟩ gs sl t q h0 hL hP
    · obtain ⟨M,hM⟩ : ∃ M,sumTo gs.size q≤M:=⟨_,Nat.le_refl _⟩
      obtain ⟨d0,hd0⟩ : ∃ d0,W=W.at d0:=⟨W.drawn,rfl⟩
      rw [hd0]
      clear hd0
      induction M using Nat.strongRecOn generalizing gs sl t q d0 with
      | _ M ihM=>
        obtain ⟨i,x,d',sl',hi,hx,hst⟩:=crowd_pick (P:=P) (w:=W.at d0) (sl:=sl) (awake_all hL h0 hr) ⟨0,g,h0,hr⟩
        rw [at_at] at hst
        rcases Nat.eq_zero_or_pos i with rfl | hpos
        · obtain rfl : x=g:=by rw [h0] at hi; exact (Option.some.inj hi).symm
          obtain ⟨g',W',es,hgo,hev,hnx⟩:=goes_elim (h (W.at d') ⟨d',rfl⟩)
          obtain ⟨gs',ops,e1,e2,e3,e4,-,e6⟩:=ownGo (w:=W.at d0) hL hi (.inl rfl) (d:=d') (by rw [at_at]; exact hst) (show stepG P (0 == 0) x ((W.at d0).at d')=_ from hgo)
          subst e2
          exact Fin.next e1 (ih hnx gs' sl' _ q e4 e6 (hP.own hev))
        · obtain ⟨gs',q',ops,e1,e2,e3,e4,e5,e6,-⟩:=slip (w:=W.at d0) (d:=d') hL hP (past_mute B) hi hx hpos (fun k=>k) (firm0 h0 hr _) (by rw [at_at]; exact hst)
          rw [at_at] at e1
          exact Fin.next e1 (ihM _ (by omega) gs' sl' (t++ops) q' ((e3 0 (.inl rfl)).trans h0) e4 e5 (Nat.le_refl _) d')
end Go.Proofs.YtnapepbdohidgaaGreatDoorQ
namespace Go.Proofs.YtnapepbdohidgaaGreatDoorQ
open Go
open Go.Conc Go.ConcX Go.ConcX.Gen
def cFst : Code→Code
  | .seq a _=>a
  | c=>c
def cSnd : Code→Code
  | .seq _ b=>b
  | c=>c
def cOps : Code→Array Oper
  | .region _ ops _=>ops
  | _=>#[]
def bodyOf (fn : Func) : Code:=fn.body.getD .skip
noncomputable def goOps : Array Oper:=cOps (cFst (cSnd (cSnd (bodyOf Tryz.f97))))
noncomputable def itRest : Code:=cSnd (cSnd (cSnd (bodyOf Tryz.f97)))
def qV (vs : Bool) (p d af : ByteArray) : Value:=.agg #[.bool vs,.string p,.string d,.string af]
def sV (root : Option Addr) : Value:=.agg #[.pointer root]
def ptr (n : Nat) : Value:=.pointer (some ⟨n,0,none⟩)
def caught (n : Nat) : Value:=.func (.func 119) #[] #[ptr (n+3),ptr n,ptr (n+1)]
def itTmps (n : Nat) (root : Option Addr) (vs : Bool) (p d af : ByteArray) (x : Value) : Array Value:=#[qV vs p d af,sV root,ptr n,ptr (n+1),.chan none,ptr (n+3),.chan (some (n+2)),x,undef]
def itW (W : World) (root : Option Addr) (vs : Bool) (p d af : ByteArray) (room : Nat) : World:=
  (((W.alloc (.cells #[.bool vs,.string p,.string d,.string af] 93)).alloc (.cells #[.pointer root] 56)).alloc (.chan room #[] false 0 0 false)).alloc (.cells #[.chan (some (W.heap.size+2))] 193)
theorem info41 : ∃ i,Tryz.prog.info? 41=some i∧i.bytes=32:=⟨Tryz.t41,by unfold Tables.info?; rw [if_pos (by rw [Tryz.types_size]; decide)]; exact Tryz.type41,rfl⟩
set_option maxRecDepth 100000 in
theorem items_go (c : Frame) (cs : List Frame) (root : Option Addr) (vs : Bool) (p d af : ByteArray) (W : World) (B : Nat) (hB : W.heap.size+4=B) {Stop : Goroutine→World→Prop}
    (hstop : ∀ dd,Stop (G ((base 97).at ⟨itTmps W.heap.size root vs p d af (caught W.heap.size),[]⟩ [.inRegion goOps [1],.code itRest]) (c :: cs)) ((itW W root vs p d af 20).at dd)) :
    Goes Tryz.prog true AtRel (DB B) Stop 20 (G (Frame.enter Tryz.prog 97 #[qV vs p d af,sV root] .normal) (c :: cs)) W:=by
  obtain ⟨i41,hi41,hb41⟩:=info41
  unfold qV sV
  rw [enter_at _ Tryz.func97 rfl]
  walk_nrmf Tryz.f97
  refine Goes.step rfl (fun w₁ h₁=>?_)
  obtain ⟨dd,hdd⟩:=h₁
  subst hdd
  try simp only [alloc_at,setCell_at,at_at]
  rw [stepG_seq]
  simp only [goes_go]
  refine ⟨fun e he=>by simp at he,?_⟩
  refine Goes.step rfl (fun w₁ h₁=>?_)
  obtain ⟨dd,hdd⟩:=h₁
  subst hdd
  try simp only [at_at]
  rw [stepG_region]
  simp only [goes_go,List.size_toArray,List.length_cons,List.length_nil,Nat.reduceAdd,Nat.zero_add,List.range,List.range.loop]
  refine ⟨fun e he=>by simp at he,?_⟩
  refine Goes.step rfl (fun w₁ h₁=>?_)
  obtain ⟨dd,hdd⟩:=h₁
  subst hdd
  try simp only [at_at]
  refine goes_oper_k rfl rfl (by decide) (fun K hK=>?_)
  go_simp
  refine hK _ _ ⟨fun e he=>?_,?_⟩
  · have hm:=mem_listed he
    simp [go_sem, *] at hm
    try (subst hm; exact evL_cell _ _ (fun h=>h) (by simp <;> omega))
  clear hK K
  refine Goes.step rfl (fun w₁ h₁=>?_)
  obtain ⟨dd,hdd⟩:=h₁
  subst hdd
  try simp only [alloc_at,at_at]
  refine goes_oper_k rfl rfl (by decide) (fun K hK=>?_)
  go_simp
  refine hK _ _ ⟨fun e he=>?_,?_⟩
  · have hm:=mem_listed he
    simp [go_sem, *] at hm
    try (subst hm; exact evL_cell _ _ (fun h=>h) (by simp <;> omega))
  clear hK K
  refine Goes.step rfl (fun w₁ h₁=>?_)
  obtain ⟨dd,hdd⟩:=h₁
  subst hdd
  try simp only [alloc_at,at_at]
  refine goes_oper_k rfl rfl (by decide) (fun K hK=>?_)
  go_simp
  refine hK _ _ ⟨fun e he=>?_,?_⟩
  · have hm:=mem_listed he
    simp [go_sem, *] at hm
    try (subst hm; exact evL_cell _ _ (fun h=>h) (by simp <;> omega))
  clear hK K
  refine Goes.step rfl (fun w₁ h₁=>?_)
  obtain ⟨dd,hdd⟩:=h₁
  subst hdd
  try simp only [at_at]
  rw [stepG_region_end]
  simp only [goes_go]
  refine ⟨fun e he=>by simp at he,?_⟩
  refine Goes.step rfl (fun w₁ h₁=>?_)
  obtain ⟨dd,hdd⟩:=h₁
  subst hdd
  try simp only [at_at]
  rw [stepG_seq]
  simp only [goes_go]
  refine ⟨fun e he=>by simp at he,?_⟩
  refine Goes.step rfl (fun w₁ h₁=>?_)
  obtain ⟨dd,hdd⟩:=h₁
  subst hdd
  try simp only [at_at]
  rw [stepG_region]
  simp only [goes_go,List.size_toArray,List.length_cons,List.length_nil,Nat.reduceAdd,Nat.zero_add,List.range,List.range.loop]
  refine ⟨fun e he=>by simp at he,?_⟩
  refine Goes.step rfl (fun w₁ h₁=>?_)
  obtain ⟨dd,hdd⟩:=h₁
  subst hdd
  try simp only [at_at]
  refine goes_oper_k rfl rfl (by decide) (fun K hK=>?_)
  have hmk:=fun w=>run_makeChan (P:=Tryz.prog) (w:=w) Tryz.underlying193 hi41 .i64 20 (by omega) (by rw [hb41]; omega)
  have hmke:=fun w es=>events_makeChan (P:=Tryz.prog) (w:=w) Tryz.underlying193 hi41 .i64 20 (by omega) (by rw [hb41]; omega) es
  simp only [Int.cast_ofNat_Int] at hmk hmke
  go_simp
  refine hK _ _ ⟨fun e he=>?_,?_⟩
  · have hm:=mem_listed he
    simp [go_sem, *] at hm
    try (subst hm; exact evL_cell _ _ (fun h=>h) (by simp <;> omega))
  clear hK K
  refine Goes.step rfl (fun w₁ h₁=>?_)
  obtain ⟨dd,hdd⟩:=h₁
  subst hdd
  try simp only [alloc_at,at_at]
  refine goes_oper_k rfl rfl (by decide) (fun K hK=>?_)
  go_simp
  refine hK _ _ ⟨fun e he=>?_,?_⟩
  · have hm:=mem_listed he
    simp [go_sem, *] at hm
    try (subst hm; exact evL_cell _ _ (fun h=>h) (by simp <;> omega))
  clear hK K
  refine Goes.step rfl (fun w₁ h₁=>?_)
  obtain ⟨dd,hdd⟩:=h₁
  subst hdd
  try simp only [alloc_at,at_at]
  refine goes_oper_k rfl rfl (by decide) (fun K hK=>?_)
  go_simp
  refine hK _ _ ⟨fun e he=>?_,?_⟩
  · have hm:=mem_listed he
    simp [go_sem,storedEv, *] at hm
    try (subst hm; exact evL_cell _ _ (fun h=>h) (by simp <;> omega))
  clear hK K
  refine Goes.step rfl (fun w₁ h₁=>?_)
  obtain ⟨dd,hdd⟩:=h₁
  subst hdd
  try simp only [setCell_at,at_at]
  rw [stepG_region_end]
  simp only [goes_go]
  refine ⟨fun e he=>by simp at he,?_⟩
  refine Goes.step rfl (fun w₁ h₁=>?_)
  obtain ⟨dd,hdd⟩:=h₁
  subst hdd
  try simp only [at_at]
  rw [stepG_seq]
  simp only [goes_go]
  refine ⟨fun e he=>by simp at he,?_⟩
  refine Goes.step rfl (fun w₁ h₁=>?_)
  obtain ⟨dd,hdd⟩:=h₁
  subst hdd
  try simp only [at_at]
  rw [stepG_region]
  simp only [goes_go,List.size_toArray,List.length_cons,List.length_nil,Nat.reduceAdd,Nat.zero_add,List.range,List.range.loop]
  refine ⟨fun e he=>by simp at he,?_⟩
  refine Goes.step rfl (fun w₁ h₁=>?_)
  obtain ⟨dd,hdd⟩:=h₁
  subst hdd
  try simp only [at_at]
  refine goes_oper_k rfl rfl (by decide) (fun K hK=>?_)
  go_simp
  refine hK _ _ ⟨fun e he=>?_,?_⟩
  · have hm:=mem_listed he
    simp [go_sem, *] at hm
    try (subst hm; exact evL_cell _ _ (fun h=>h) (by simp <;> omega))
  clear hK K
  refine Goes.stop (fun w₁ h₁=>?_)
  obtain ⟨dd,hdd⟩:=h₁
  subst hdd
  exact hstop dd
end Go.Proofs.YtnapepbdohidgaaGreatDoorQ
namespace Go.Proofs.YtnapepbdohidgaaGreatDoorQ
open Go
open Go.Conc Go.ConcX Go.ConcX.Gen Go.RowKit
structure Lst where
  num : Int
  root : Option Addr
  vs : Bool
  p : ByteArray
  d : ByteArray
  af : ByteArray
  size : Int
  left : Int
def lCells (l : Lst) : Array Value:=#[.int .i64 l.num,.pointer l.root,.bool l.vs,.string l.p,.string l.d,.string l.af,.int .i64 l.size,.int .i64 l.left]
def lV (l : Lst) : Value:=.agg (lCells l)
def pgW (W : World) (l : Lst) : World:=
  ((W.alloc (.cells (lCells l) 125)).alloc (.cells #[.slice none 0 0,.string ⟨#[]⟩] 88)).alloc (.cells #[.slice none 0 0,.string ⟨#[]⟩] 88)
noncomputable def pgCall : Code:=cSnd (cSnd (cSnd (cSnd (bodyOf Tryz.f69))))
noncomputable def pgOps : Array Oper:=cOps (cFst (cFst pgCall))
noncomputable def pgRest : List Item:=[.code (cSnd (cFst pgCall)),.code (cSnd pgCall)]
def pgTmps (n : Nat) (l : Lst) (pn : Int) : Array Value:=
  #[lV l,.int .i64 pn,ptr n,undef,ptr (n+1),ptr (n+2),.int .i64 (IntKind.i64.wrap (pn * l.size)),.int .i64 0,undef,.int .i64 pn,.pointer (some ⟨n,6,none⟩),.int .i64 l.size,.int .i64 (IntKind.i64.wrap (pn * l.size)),.pointer (some ⟨n,2,none⟩),qV l.vs l.p l.d l.af,.pointer (some ⟨n,1,none⟩),sV l.root,undef,undef,undef,undef,undef,undef,undef,undef,undef,undef,undef,undef,undef,undef,undef,undef,undef,undef,undef,undef,undef,undef,undef,undef,undef,undef,undef,undef,undef,undef,undef,undef]
theorem info41q : ∃ i,Tryq.prog.info? 41=some i∧i.bytes=32:=by
  rw [Tryq.tables]
  exact info41
set_option maxRecDepth 100000 in
theorem page_pre (l : Lst) (pn : Int) (cs : List Frame) (w : World) : Steps Tryq.prog (lone ((base 69).at ⟨#[lV l,.int .i64 pn]++Array.replicate 47 undef,[]⟩ [.code Tryq.b69]) cs w) (lone ((base 69).at ⟨pgTmps w.heap.size l pn,[]⟩ (.inRegion pgOps [4] :: pgRest)) cs (pgW w l)):=by
  have h : LoneTo Tryq.prog (fun g' w'=>g'=G ((base 69).at ⟨pgTmps w.heap.size l pn,[]⟩ (.inRegion pgOps [4] :: pgRest)) cs∧w'=pgW w l) (G ((base 69).at ⟨#[lV l,.int .i64 pn]++Array.replicate 47 undef,[]⟩ [.code Tryq.b69]) cs) w:=by
    obtain ⟨num,root,vs,p,d,af,size,left⟩:=l
    refine LoneTo.goes (n:=40) ?_
    unfold lV lCells
    dsimp only [Tryq.b69,Tryz.f69,Option.getD]
    walk_nrm
    refine Goes.step rfl (fun w₁ h₁=>?_)
    subst h₁
    rw [stepG_seq]
    simp only [goes_go]
    refine ⟨trivial,?_⟩
    refine Goes.step rfl (fun w₁ h₁=>?_)
    subst h₁
    rw [stepG_region]
    simp only [goes_go,List.size_toArray,List.length_cons,List.length_nil,Nat.reduceAdd,Nat.zero_add,List.range,List.range.loop]
    refine ⟨trivial,?_⟩
    refine Goes.step rfl (fun w₁ h₁=>?_)
    subst h₁
    refine goes_oper_k rfl rfl (by decide) (fun K hK=>?_)
    go_simp
    refine hK _ _ ⟨trivial,?_⟩
    clear hK K
    refine Goes.step rfl (fun w₁ h₁=>?_)
    subst h₁
    refine goes_oper_k rfl rfl (by decide) (fun K hK=>?_)
    go_simp
    refine hK _ _ ⟨trivial,?_⟩
    clear hK K
    refine Goes.step rfl (fun w₁ h₁=>?_)
    subst h₁
    rw [stepG_region_end]
    simp only [goes_go]
    refine ⟨trivial,?_⟩
    refine Goes.step rfl (fun w₁ h₁=>?_)
    subst h₁
    rw [stepG_seq]
    simp only [goes_go]
    refine ⟨trivial,?_⟩
    refine Goes.step rfl (fun w₁ h₁=>?_)
    subst h₁
    rw [stepG_region]
    simp only [goes_go,List.size_toArray,List.length_cons,List.length_nil,Nat.zero_add,List.range,List.range.loop]
    refine ⟨trivial,?_⟩
    refine Goes.step rfl (fun w₁ h₁=>?_)
    subst h₁
    refine goes_oper_k rfl rfl (by decide) (fun K hK=>?_)
    go_simp
    refine hK _ _ ⟨trivial,?_⟩
    clear hK K
    refine Goes.step rfl (fun w₁ h₁=>?_)
    subst h₁
    rw [stepG_region_end]
    simp only [goes_go]
    refine ⟨trivial,?_⟩
    refine Goes.step rfl (fun w₁ h₁=>?_)
    subst h₁
    rw [stepG_seq]
    simp only [goes_go]
    refine ⟨trivial,?_⟩
    refine Goes.step rfl (fun w₁ h₁=>?_)
    subst h₁
    rw [stepG_region]
    simp only [goes_go,List.size_toArray,List.length_cons,List.length_nil,Nat.reduceAdd,Nat.zero_add,List.range,List.range.loop]
    refine ⟨trivial,?_⟩
    refine Goes.step rfl (fun w₁ h₁=>?_)
    subst h₁
    refine goes_oper_k rfl rfl (by decide) (fun K hK=>?_)
    go_simp
    refine hK _ _ ⟨trivial,?_⟩
    clear hK K
    refine Goes.step rfl (fun w₁ h₁=>?_)
    subst h₁
    refine goes_oper_k rfl rfl (by decide) (fun K hK=>?_)
    go_simp
    refine hK _ _ ⟨trivial,?_⟩
    clear hK K
    refine Goes.step rfl (fun w₁ h₁=>?_)
    subst h₁
    refine goes_oper_k rfl rfl (by decide) (fun K hK=>?_)
    go_simp
    refine hK _ _ ⟨trivial,?_⟩
    clear hK K
    refine Goes.step rfl (fun w₁ h₁=>?_)
    subst h₁
    refine goes_oper_k rfl rfl (by decide) (fun K hK=>?_)
    go_simp
    refine hK _ _ ⟨trivial,?_⟩
    clear hK K
    refine Goes.step rfl (fun w₁ h₁=>?_)
    subst h₁
    refine goes_oper_k rfl rfl (by decide) (fun K hK=>?_)
    go_simp
    refine hK _ _ ⟨trivial,?_⟩
    clear hK K
    refine Goes.step rfl (fun w₁ h₁=>?_)
    subst h₁
    rw [stepG_region_end]
    simp only [goes_go]
    refine ⟨trivial,?_⟩
    refine Goes.step rfl (fun w₁ h₁=>?_)
    subst h₁
    rw [stepG_seq]
    simp only [goes_go]
    refine ⟨trivial,?_⟩
    refine Goes.step rfl (fun w₁ h₁=>?_)
    subst h₁
    rw [stepG_region]
    simp only [goes_go,List.size_toArray,List.length_cons,List.length_nil,Nat.zero_add,List.range,List.range.loop]
    refine ⟨trivial,?_⟩
    refine Goes.step rfl (fun w₁ h₁=>?_)
    subst h₁
    refine goes_oper_k rfl rfl (by decide) (fun K hK=>?_)
    go_simp
    refine hK _ _ ⟨trivial,?_⟩
    clear hK K
    refine Goes.step rfl (fun w₁ h₁=>?_)
    subst h₁
    rw [stepG_region_end]
    simp only [goes_go]
    refine ⟨trivial,?_⟩
    refine Goes.step rfl (fun w₁ h₁=>?_)
    subst h₁
    rw [stepG_seq]
    simp only [goes_go]
    refine ⟨trivial,?_⟩
    refine Goes.step rfl (fun w₁ h₁=>?_)
    subst h₁
    rw [stepG_seq]
    simp only [goes_go]
    refine ⟨trivial,?_⟩
    refine Goes.step rfl (fun w₁ h₁=>?_)
    subst h₁
    rw [stepG_region]
    simp only [goes_go,List.size_toArray,List.length_cons,List.length_nil,Nat.reduceAdd,Nat.zero_add,List.range,List.range.loop]
    refine ⟨trivial,?_⟩
    refine Goes.step rfl (fun w₁ h₁=>?_)
    subst h₁
    refine goes_oper_k rfl rfl (by decide) (fun K hK=>?_)
    go_simp
    refine hK _ _ ⟨trivial,?_⟩
    clear hK K
    refine Goes.step rfl (fun w₁ h₁=>?_)
    subst h₁
    refine goes_oper_k rfl rfl (by decide) (fun K hK=>?_)
    go_simp
    refine hK _ _ ⟨trivial,?_⟩
    clear hK K
    refine Goes.step rfl (fun w₁ h₁=>?_)
    subst h₁
    refine goes_oper_k rfl rfl (by decide) (fun K hK=>?_)
    go_simp
    refine hK _ _ ⟨trivial,?_⟩
    clear hK K
    refine Goes.step rfl (fun w₁ h₁=>?_)
    subst h₁
    refine goes_oper_k rfl rfl (by decide) (fun K hK=>?_)
    go_simp
    refine hK _ _ ⟨trivial,?_⟩
    clear hK K
    refine Goes.stop (fun w₁ h₁=>?_)
    subst h₁
    exact LoneTo.done ⟨rfl,rfl⟩
  obtain ⟨g',w',hs,rfl,rfl⟩:=h
  exact hs
theorem op_step {P : Program} {ops : Array Oper} {a : Act} {w w' : World} {i : Nat} {rest : List Nat} {o : Oper} {v : Value} {b : Frame} {k : List Item} {cs : List Frame} (ho : ops[i]?=some o) (hw : Region.wanted o (yielded ops a.tmps)=true) (hr : (execOp a.eval o).run P w=.ok (.value v) w') :
    step P (lone (b.at a (.inRegion ops (i :: rest) :: k)) cs w)=.next (lone (b.at (a.put o.dst v) (.inRegion ops rest :: k)) cs w'):=by
  have hg:=stepG_op (P:=P) (b:=b) (k:=k) (cs:=cs) (w:=w) (rest:=rest) ho hw
  have hfin : (b.at a (.inRegion ops (i :: rest) :: k)).finish v=b.at (a.put o.dst v) (.inRegion ops rest :: k):=by rw [Frame.finish_at,ho]; rfl
  exact step_lone_go (by rw [hg,←hfin]; simp [stepG.apply,hr])
theorem op_enter {P : Program} {ops : Array Oper} {a : Act} {w w' : World} {i : Nat} {rest : List Nat} {o : Oper} {f : FuncId} {args : Array Value} {b : Frame} {k : List Item} {cs : List Frame} (ho : ops[i]?=some o) (hw : Region.wanted o (yielded ops a.tmps)=true) (hr : (execOp a.eval o).run P w=.ok (.enter f args) w') :
    step P (lone (b.at a (.inRegion ops (i :: rest) :: k)) cs w)=.next (lone (Frame.enter P f args .normal) (b.at a (.inRegion ops (i :: rest) :: k) :: cs) w'):=by
  have hg:=stepG_op (P:=P) (b:=b) (k:=k) (cs:=cs) (w:=w) (rest:=rest) ho hw
  exact step_lone_go (by rw [hg]; simp [stepG.apply,hr,Frame.at])
noncomputable def itFrame (n : Nat) (root : Option Addr) (vs : Bool) (p d af : ByteArray) (x : Value) (r : List Nat) : Frame:=(base 97).at ⟨itTmps n root vs p d af x,[]⟩ [.inRegion Tryq.itemsOps2 r,.code itRest]
set_option maxRecDepth 100000 in
theorem items_pre (root : Option Addr) (vs : Bool) (p d af : ByteArray) (cs : List Frame) (w : World) : Steps Tryq.prog (lone (Frame.enter Tryq.prog 97 #[qV vs p d af,sV root] .normal) cs w) (lone (Frame.enter Tryq.prog 119 #[ptr (w.heap.size+3),ptr w.heap.size,ptr (w.heap.size+1)] .normal) (itFrame w.heap.size root vs p d af (caught w.heap.size) [1,2] :: cs) (itW w root vs p d af 1000)):=by
  have h : LoneTo Tryq.prog (fun g' w'=>g'=G (itFrame w.heap.size root vs p d af (caught w.heap.size) [1,2]) cs∧w'=itW w root vs p d af 1000) (G (Frame.enter Tryq.prog 97 #[qV vs p d af,sV root] .normal) cs) w:=by
    obtain ⟨i41,hi41,hb41⟩:=info41q
    refine LoneTo.goes (n:=40) ?_
    unfold qV sV
    rw [enter_at _ Tryq.func97 rfl]
    dsimp only [Tryq.b97,Tryq.itemsOps0,Tryq.itemsOps1,Tryq.itemsOps2,Tryq.itemsOps3]
    walk_nrmf Tryz.f97
    refine Goes.step rfl (fun w₁ h₁=>?_)
    subst h₁
    rw [stepG_seq]
    simp only [goes_go]
    refine ⟨trivial,?_⟩
    refine Goes.step rfl (fun w₁ h₁=>?_)
    subst h₁
    rw [stepG_region]
    simp only [goes_go,List.size_toArray,List.length_cons,List.length_nil,Nat.reduceAdd,Nat.zero_add,List.range,List.range.loop]
    refine ⟨trivial,?_⟩
    refine Goes.step rfl (fun w₁ h₁=>?_)
    subst h₁
    refine goes_oper_k rfl rfl (by decide) (fun K hK=>?_)
    go_simp
    refine hK _ _ ⟨trivial,?_⟩
    clear hK K
    refine Goes.step rfl (fun w₁ h₁=>?_)
    subst h₁
    refine goes_oper_k rfl rfl (by decide) (fun K hK=>?_)
    go_simp
    refine hK _ _ ⟨trivial,?_⟩
    clear hK K
    refine Goes.step rfl (fun w₁ h₁=>?_)
    subst h₁
    refine goes_oper_k rfl rfl (by decide) (fun K hK=>?_)
    go_simp
    refine hK _ _ ⟨trivial,?_⟩
    clear hK K
    refine Goes.step rfl (fun w₁ h₁=>?_)
    subst h₁
    rw [stepG_region_end]
    simp only [goes_go]
    refine ⟨trivial,?_⟩
    refine Goes.step rfl (fun w₁ h₁=>?_)
    subst h₁
    rw [stepG_seq]
    simp only [goes_go]
    refine ⟨trivial,?_⟩
    refine Goes.step rfl (fun w₁ h₁=>?_)
    subst h₁
    rw [stepG_region]
    simp only [goes_go,List.size_toArray,List.length_cons,List.length_nil,Nat.reduceAdd,Nat.zero_add,List.range,List.range.loop]
    refine ⟨trivial,?_⟩
    refine Goes.step rfl (fun w₁ h₁=>?_)
    subst h₁
    refine goes_oper_k rfl rfl (by decide) (fun K hK=>?_)
    have hmk:=fun w=>run_makeChan (P:=Tryq.prog) (w:=w) Tryq.underlying193 hi41 .i64 1000 (by omega) (by rw [hb41]; omega)
    simp only [Int.cast_ofNat_Int] at hmk
    go_simp
    refine hK _ _ ⟨trivial,?_⟩
    clear hK K
    refine Goes.step rfl (fun w₁ h₁=>?_)
    subst h₁
    refine goes_oper_k rfl rfl (by decide) (fun K hK=>?_)
    go_simp
    refine hK _ _ ⟨trivial,?_⟩
    clear hK K
    refine Goes.step rfl (fun w₁ h₁=>?_)
    subst h₁
    refine goes_oper_k rfl rfl (by decide) (fun K hK=>?_)
    go_simp
    refine hK _ _ ⟨trivial,?_⟩
    clear hK K
    refine Goes.step rfl (fun w₁ h₁=>?_)
    subst h₁
    rw [stepG_region_end]
    simp only [goes_go]
    refine ⟨trivial,?_⟩
    refine Goes.step rfl (fun w₁ h₁=>?_)
    subst h₁
    rw [stepG_seq]
    simp only [goes_go]
    refine ⟨trivial,?_⟩
    refine Goes.step rfl (fun w₁ h₁=>?_)
    subst h₁
    rw [stepG_region]
    simp only [goes_go,List.size_toArray,List.length_cons,List.length_nil,Nat.reduceAdd,Nat.zero_add,List.range,List.range.loop]
    refine ⟨trivial,?_⟩
    refine Goes.step rfl (fun w₁ h₁=>?_)
    subst h₁
    refine goes_oper_k rfl rfl (by decide) (fun K hK=>?_)
    go_simp
    refine hK _ _ ⟨trivial,?_⟩
    clear hK K
    refine Goes.stop (fun w₁ h₁=>?_)
    subst h₁
    exact LoneTo.done ⟨rfl,rfl⟩
  obtain ⟨g',w',hs,rfl,rfl⟩:=h
  refine Steps.trans hs (.one (op_enter (o := { dst := none, op := .call { callee := .value (.tmp 7), args := #[], argTypes := #[] }, type := 0, pos := "", after := #[], guard := none }) rfl rfl ?_))
  simp [go_sem,Act.eval,itTmps,caught]
def stopEntry (x y : Value) : PanicEntry:={ v:=.iface 3 (.func (.func 69) #[x,y] #[]),recovered:=false }
def pgArgs (x y : Value) : Array Value:=#[x,y,undef,undef,undef,undef,undef,undef,undef,undef,undef,undef,undef,undef,undef,undef,undef,undef,undef,undef,undef,undef,undef,undef,undef,undef,undef,undef,undef,undef,undef,undef,undef,undef,undef,undef,undef,undef,undef,undef,undef,undef,undef,undef,undef,undef,undef,undef,undef]
theorem pgArgs_eq (x y : Value) : #[x,y]++Array.replicate 47 undef=pgArgs x y:=Array.toList_inj.1 (by simp [pgArgs,List.replicate])
theorem page_enter (x y : Value) : Frame.enter Tryq.prog 69 #[x,y] .normal=(base 69).at ⟨pgArgs x y,[]⟩ [.code (.seq Tryq.magic Tryq.b69)]:=by
  rw [enter_at _ Tryq.func69 rfl,←pgArgs_eq]
  rfl
theorem sched1 : Region.schedule (Tryq.prog.follows .mixedOrders) Tryq.drawOps 1=[1,0]:=by
  have h : ∀ b,Region.schedule b Tryq.drawOps 1=[1,0]:=fun b=>by cases b <;> simp [Region.schedule,Region.linearise,Region.linearise.go,Region.departs,Tryq.drawOps,List.range,List.range.loop]
  exact h _
theorem sched0 : Region.schedule (Tryq.prog.follows .mixedOrders) Tryq.drawOps 0=[0,1]:=by
  have h : ∀ b,Region.schedule b Tryq.drawOps 0=[0,1]:=fun b=>by cases b <;> simp [Region.schedule,Region.linearise,Region.linearise.go,Region.departs,Tryq.drawOps,List.range,List.range.loop]
  exact h _
def magicRest : Code:=.seq (.cond (.tmp 9) (.region 101 Tryq.stopOps false) .skip) (.region 102 Tryq.backOps false)
theorem draw_steps (x y : Value) (cs : List Frame) (w : World) (t : Nat) (r : List Nat) (hr : Region.schedule (Tryq.prog.follows .mixedOrders) Tryq.drawOps t=r) (ht : w.tape w.drawn (.order 69 100)=t) :
    Steps Tryq.prog (lone (Frame.enter Tryq.prog 69 #[x,y] .normal) cs w) (lone ((base 69).at ⟨pgArgs x y,[]⟩ [.inRegion Tryq.drawOps r,.code magicRest,.code Tryq.b69]) cs { w with drawn:=w.drawn+1 }):=by
  rw [page_enter]
  refine .head step_seq (.head (step_seq (x:=.region 100 Tryq.drawOps true) (y:=magicRest)) (.one ?_))
  have:=step_region_draw (P:=Tryq.prog) (b:=base 69) (a:=⟨pgArgs x y,[]⟩) (k:=[.code magicRest,.code Tryq.b69]) (cs:=cs) (w:=w) (ops:=Tryq.drawOps) (id:=100)
  rw [show (base 69).fn=69 from rfl,ht,hr] at this
  exact this
set_option maxRecDepth 100000 in
theorem magic_no (x y : Value) (cs : List Frame) (w : World) (hr : Region.schedule (Tryq.prog.follows .mixedOrders) Tryq.drawOps (w.tape w.drawn (.order 69 100))=[1,0]) :
    Steps Tryq.prog (lone (Frame.enter Tryq.prog 69 #[x,y] .normal) cs w) (lone ((base 69).at ⟨pgArgs x y,[]⟩ [.code Tryq.b69]) cs { w with drawn:=w.drawn+1 }):=by
  refine Steps.trans (draw_steps x y cs w _ _ hr rfl) ?_
  generalize ({ w with drawn:=w.drawn+1 } : World)=u
  have h : LoneTo Tryq.prog (fun g' w'=>g'=G ((base 69).at ⟨pgArgs x y,[]⟩ [.code Tryq.b69]) cs∧w'=u) (G ((base 69).at ⟨pgArgs x y,[]⟩ [.inRegion Tryq.drawOps [1,0],.code magicRest,.code Tryq.b69]) cs) u:=by
    refine LoneTo.goes (n:=20) ?_
    generalize Tryq.b69=bb
    unfold pgArgs Tryq.drawOps magicRest
    refine Goes.step rfl (fun w₁ h₁=>?_)
    subst h₁
    refine goes_oper_k rfl rfl (by decide) (fun K hK=>?_)
    go_simp
    refine hK _ _ ⟨trivial,?_⟩
    clear hK K
    refine Goes.step rfl (fun w₁ h₁=>?_)
    subst h₁
    refine goes_oper_k rfl rfl (by decide) (fun K hK=>?_)
    go_simp
    refine hK _ _ ⟨trivial,?_⟩
    clear hK K
    refine Goes.step rfl (fun w₁ h₁=>?_)
    subst h₁
    rw [stepG_region_end]
    simp only [goes_go]
    refine ⟨trivial,?_⟩
    refine Goes.step rfl (fun w₁ h₁=>?_)
    subst h₁
    rw [stepG_seq]
    simp only [goes_go]
    refine ⟨trivial,?_⟩
    refine Goes.step rfl (fun w₁ h₁=>?_)
    subst h₁
    rw [stepG_cond (t:=false) rfl]
    simp only [goes_go,Bool.false_eq_true,↓reduceIte]
    refine ⟨trivial,?_⟩
    refine Goes.step rfl (fun w₁ h₁=>?_)
    subst h₁
    rw [stepG_skip]
    simp only [goes_go]
    refine ⟨trivial,?_⟩
    unfold Tryq.backOps
    refine Goes.step rfl (fun w₁ h₁=>?_)
    subst h₁
    rw [stepG_region]
    simp only [goes_go,List.size_toArray,List.length_cons,List.length_nil,Nat.zero_add,List.range,List.range.loop]
    refine ⟨trivial,?_⟩
    refine Goes.step rfl (fun w₁ h₁=>?_)
    subst h₁
    refine goes_oper_k rfl rfl (by decide) (fun K hK=>?_)
    go_simp
    refine hK _ _ ⟨trivial,?_⟩
    clear hK K
    refine Goes.step rfl (fun w₁ h₁=>?_)
    subst h₁
    rw [stepG_region_end]
    simp only [goes_go]
    refine ⟨trivial,?_⟩
    refine Goes.stop (fun w₁ h₁=>?_)
    subst h₁
    exact LoneTo.done ⟨rfl,rfl⟩
  obtain ⟨g',w',hs,rfl,rfl⟩:=h
  exact hs
set_option maxRecDepth 100000 in
theorem magic_yes (x y : Value) (cs : List Frame) (w : World) (hr : Region.schedule (Tryq.prog.follows .mixedOrders) Tryq.drawOps (w.tape w.drawn (.order 69 100))=[0,1]) :
    ∃ fr,Steps Tryq.prog (lone (Frame.enter Tryq.prog 69 #[x,y] .normal) cs w) (lone fr cs { w with drawn:=w.drawn+1 })∧fr.mode=.panicking [stopEntry x y]∧fr.defers=[]∧fr.fn=69:=by
  have h0:=draw_steps x y cs w _ _ hr rfl
  clear hr
  generalize ({ w with drawn:=w.drawn+1 } : World)=u at h0 ⊢
  have h : LoneTo Tryq.prog (fun g' w'=>(∃ a k,g'=G ((base 69).at a (.inRegion Tryq.stopOps [2] :: k)) cs∧a.eval (.tmp 11)=.iface 3 (.func (.func 69) #[x,y] #[])∧a.defers=[])∧w'=u) (G ((base 69).at ⟨pgArgs x y,[]⟩ [.inRegion Tryq.drawOps [0,1],.code magicRest,.code Tryq.b69]) cs) u:=by
    refine LoneTo.goes (n:=20) ?_
    generalize Tryq.b69=bb
    unfold pgArgs Tryq.drawOps magicRest
    refine Goes.step rfl (fun w₁ h₁=>?_)
    subst h₁
    refine goes_oper_k rfl rfl (by decide) (fun K hK=>?_)
    go_simp
    refine hK _ _ ⟨trivial,?_⟩
    clear hK K
    refine Goes.step rfl (fun w₁ h₁=>?_)
    subst h₁
    refine goes_oper_k rfl rfl (by decide) (fun K hK=>?_)
    go_simp
    refine hK _ _ ⟨trivial,?_⟩
    clear hK K
    refine Goes.step rfl (fun w₁ h₁=>?_)
    subst h₁
    rw [stepG_region_end]
    simp only [goes_go]
    refine ⟨trivial,?_⟩
    refine Goes.step rfl (fun w₁ h₁=>?_)
    subst h₁
    rw [stepG_seq]
    simp only [goes_go]
    refine ⟨trivial,?_⟩
    refine Goes.step rfl (fun w₁ h₁=>?_)
    subst h₁
    rw [stepG_cond (t:=true) rfl]
    simp only [goes_go,↓reduceIte]
    refine ⟨trivial,?_⟩
    unfold Tryq.stopOps
    refine Goes.step rfl (fun w₁ h₁=>?_)
    subst h₁
    rw [stepG_region]
    simp only [goes_go,List.size_toArray,List.length_cons,List.length_nil,Nat.reduceAdd,Nat.zero_add,List.range,List.range.loop]
    refine ⟨trivial,?_⟩
    refine Goes.step rfl (fun w₁ h₁=>?_)
    subst h₁
    refine goes_oper_k rfl rfl (by decide) (fun K hK=>?_)
    go_simp
    refine hK _ _ ⟨trivial,?_⟩
    clear hK K
    refine Goes.step rfl (fun w₁ h₁=>?_)
    subst h₁
    refine goes_oper_k rfl rfl (by decide) (fun K hK=>?_)
    go_simp
    refine hK _ _ ⟨trivial,?_⟩
    clear hK K
    refine Goes.stop (fun w₁ h₁=>?_)
    subst h₁
    exact LoneTo.done ⟨⟨_,_,rfl,rfl,rfl⟩,rfl⟩
  obtain ⟨g',w',hs,⟨⟨tm,df⟩,k,rfl,ha,hd⟩,rfl⟩:=h
  refine ⟨{ (base 69).at ⟨tm,df⟩ (.inRegion Tryq.stopOps [2] :: k) with mode:=.panicking [stopEntry x y] },Steps.trans h0 (Steps.trans hs (.one (step_lone_go ?_))),rfl,hd,rfl⟩
  have ho : Tryq.stopOps[2]? = some { dst := none, op := .panic (.tmp 11), type := 0, pos := "", after := #[], guard := none } := rfl
  rw [stepG_op ho rfl]
  have e : execOp (Act.eval ⟨tm, df⟩) { dst := none, op := .panic (.tmp 11), type := 0, pos := "", after := #[], guard := none } = (do let v ← Instr.panic (Act.eval ⟨tm, df⟩ (.tmp 11)); pure (.value v)) := rfl
  rw [e,ha]
  rfl
end Go.Proofs.YtnapepbdohidgaaGreatDoorQ
