/- Part of a proof. -/
import Derived.Test.YtnapepbdohidgaaGreatDoorQM08
import Derived.Calls
import Derived.Lone
import Derived.Conc.Beside
import Derived.Conc.CrowdComm
import Derived.Conc.CrowdTrace
namespace Go.Proofs.YtnapepbdohidgaaGreatDoorQ
open Go
def solo (g : Goroutine) (w : World) : Machine:={ world:=w,gs:=#[g],rest:={ timers:=#[],alone:=none,slice:=none } }
def away : Goroutine:={ (default : Goroutine) with status:=.finished }
section
variable {P : Program} {g g' k : Goroutine} {w w' : World} {es : Array Event}
theorem move_solo (h : g.status=.running) : move P (solo g w)=.goroutine (solo g w) 0:=by
  simp [move,ask,askOn,solo,runnable_eq,due,ahead,Goroutine.canRun,h,List.range_succ,choose,pure,Sem.run,Question.forced]
theorem step_solo (h : g.status=.running) : step P (solo g w)=(runT P (solo g w) 0).1:=by
  rw [step,stepT,move_solo h]
theorem solo_go (h : g.status=.running) (hs : stepG P true g w=.go g' w' es) : step P (solo g w)=.next (solo g' w'):=by
  rw [step_solo h]
  simp [runT,solo,Array.swapAt!,hs]
theorem solo_ended {o : Outcome} (h : g.status=.running) (hs : stepG P true g w=.ended o w' es) : step P (solo g w)=.ended o w':=by
  rw [step_solo h]
  simp [runT,solo,Array.swapAt!,hs]
theorem solo_spawn (h : g.status=.running) (hs : stepG P true g w=.spawn g' k w' es) : ∃ m,step P (solo g w)=.next m∧m.gs.size=2:=by
  rw [step_solo h]
  refine ⟨_,by simp [runT,solo,Array.swapAt!,hs]; rfl,?_⟩
  simp
theorem solo_comm {c : CommCase} {b : Bool} {s : CommShape} (h : g.status=.running) (hs : stepG P true g w=.comm g' #[c] b s w' es) : step P (solo g w)=(communicate P { timers:=#[],alone:=none,slice:=none } #[away] 0 g' #[c] b s w').1:=by
  rw [step_solo h]
  simp [runT,solo,Array.swapAt!,hs,away]
inductive LC (P : Program) (g : Goroutine) (c : CommCase) (s : CommShape) (w : World) : Goroutine→World→Prop
  | send {r cap sent rcvd : Nat} {buf : Array Value} {tm : Bool} {v : Value} (hc : c.chan=.chan (some r)) (hv : c.send=some v) (ho : w.heap[r]?=some (.chan cap buf false sent rcvd tm)) (hr : buf.size < cap) :
      LC P g c s w (g.finishComm P #[c] s 0 undef false) { w with heap:=w.heap.setIfInBounds r (.chan cap (buf.push v) false (sent+1) rcvd tm) }
  | recv {r cap sent rcvd : Nat} {buf : Array Value} {cl tm : Bool} (hc : c.chan=.chan (some r)) (hv : c.send=none) (ho : w.heap[r]?=some (.chan cap buf cl sent rcvd tm)) (hr : 0 < buf.size) :
      LC P g c s w (g.finishComm P #[c] s 0 (buf.getD 0 undef) true) { w with heap:=w.heap.setIfInBounds r (.chan cap (buf.extract 1 buf.size) cl sent (rcvd+1) tm) }
  | shut {r cap sent rcvd : Nat} {tm : Bool} (hc : c.chan=.chan (some r)) (hv : c.send=none) (ho : w.heap[r]?=some (.chan cap #[] true sent rcvd tm)) :
      LC P g c s w (g.finishComm P #[c] s 0 c.zero false) w
  | dead {r cap sent rcvd : Nat} {buf : Array Value} {tm : Bool} {v : Value} (hc : c.chan=.chan (some r)) (hv : c.send=some v) (ho : w.heap[r]?=some (.chan cap buf true sent rcvd tm)) (hg : g.status=.running) :
      LC P g c s w { g with frame := g.frame.raise [{ v := .iface P.rt.plainError (strVal "send on closed channel"), recovered := false }] } w
theorem partners_away (r : Nat) (b : Bool) : partners #[away] r b=[]:=by simp [partners,away]
theorem comm_next {c : CommCase} {s : CommShape} {m : Machine} (hg : g.status=.running) (h : (communicate P { timers:=#[],alone:=none,slice:=none } #[away] 0 g #[c] true s w).1=.next m) :
    (∃ g' w',LC P g c s w g' w'∧m=solo g' w')∨(m=solo { g with status:=.blocked,offers:=some (#[c],s) } w):=by
  obtain ⟨ch,sd,z⟩:=c
  have hw : waitingAt { timers:=#[],alone:=none,slice:=none } #[⟨ch,sd,z⟩] w=some w:=by
    unfold waitingAt timerAhead
    cases ch with
    | chan o=>cases o <;> simp
    | _=>simp
  have hx : waitingAt { timers:=#[],alone:=none,slice:=none } #[(⟨ch,sd,z⟩ : CommCase)] w=some w:=hw
  cases ch with
  | chan o=>
    cases o with
    | none=>
      right
      simp [communicate,ways,hx] at h
      exact h.symm
    | some r=>
      cases ho : w.heap[r]? with
      | none=>simp [communicate,ho] at h
      | some o=>
        cases o with
        | chan cap buf cl sent rcvd tm=>
          cases sd with
          | some v=>
            cases cl with
            | true=>
              left
              simp [communicate,ways,ho,choose,Sem.run,Question.forced,bind,Sem.bind,pure,runtimePanic,goPanic,program] at h
              exact ⟨_,_,.dead rfl rfl ho hg,h.symm⟩
            | false=>
              by_cases hr : buf.size < cap
              · left
                simp [communicate,ways,ho,partners_away,hr,choose,Sem.run,Question.forced,bind,Sem.bind,pure] at h
                exact ⟨_,_,.send rfl rfl ho hr,h.symm⟩
              · right
                simp [communicate,ways,ho,partners_away,hr,hx] at h
                exact h.symm
          | none=>
            by_cases hr : 0 < buf.size
            · left
              simp [communicate,ways,ho,partners_away,hr,choose,Sem.run,Question.forced,bind,Sem.bind,pure] at h
              refine ⟨_,_,.recv rfl rfl ho hr,?_⟩
              rw [←h]
              simp [solo,hr]
            · have hb : buf=#[]:=Array.eq_empty_of_size_eq_zero (by omega)
              subst hb
              cases cl with
              | true=>
                left
                simp [communicate,ways,ho,partners_away,choose,Sem.run,Question.forced,bind,Sem.bind,pure] at h
                exact ⟨_,_,.shut rfl rfl ho,h.symm⟩
              | false=>
                right
                simp [communicate,ways,ho,partners_away,hx] at h
                exact h.symm
        | _=>simp [communicate,ho] at h
  | _=>simp [communicate] at h
theorem solo_blocked (h : g.status=.blocked) : ∃ o u,step P (solo g w)=.ended o u:=by
  have hm : ∃ o u,move P (solo g w)=.machine (.ended o u):=by
    simp [move,ask,askOn,solo,runnable_eq,due,ahead,Goroutine.canRun,h,List.range_succ,pure]
    split
    · exact ⟨_,_,rfl⟩
    · exact ⟨_,_,rfl⟩
  obtain ⟨o,u,hm⟩:=hm
  exact ⟨o,u,by rw [step,stepT,hm]⟩
end
theorem doomed_step {P : Program} {m : Bool} {g : Goroutine} (h : Doomed g) (w : World) : (∃ o u es,stepG P m g w=.ended o u es)∨∃ g' u es,stepG P m g w=.go g' u es∧Doomed g'∧(g'.status=.running∨g'.status=.blocked):=by
  obtain ⟨fr,cs,st,dy,of⟩:=g
  obtain ⟨d,f,h1,h2,h3⟩:=h
  simp only at h1
  subst h1
  have e : stepG P m ⟨fr,cs,st,some d,of⟩ w=die P fr d w:=by
    obtain ⟨a,b,c,e,f,i,j⟩:=d
    simp only at h2
    subst h2
    simp only [stepG]
  rw [e]
  unfold die
  simp only [h3]
  unfold writeOn
  dsimp only
  split
  · exact .inl ⟨_,_,_,rfl⟩
  · split
    · exact .inr ⟨_,_,_,rfl,⟨_,_,rfl,h2,rfl⟩,.inl rfl⟩
    · exact .inr ⟨_,_,_,rfl,⟨_,_,rfl,h2,rfl⟩,.inr rfl⟩
    · exact .inl ⟨_,_,_,rfl⟩
    · exact .inl ⟨_,_,_,rfl⟩
theorem doomed_run {P : Program} : ∀ (n : Nat) (g g' : Goroutine) (w w' : World),Doomed g→(g.status=.running∨g.status=.blocked)→runN P n (solo g w)=.next (solo g' w')→Doomed g':=by
  intro n
  induction n with
  | zero=>
    intro g g' w w' hd _ h
    simp only [runN,Stepped.next.injEq] at h
    have : #[g]=#[g']:=congrArg Machine.gs h
    simp at this
    exact this ▸ hd
  | succ n ih=>
    intro g g' w w' hd hs h
    simp only [runN] at h
    rcases hs with hs | hs
    · rcases doomed_step (P:=P) (m:=true) hd w with ⟨o,u,es,e⟩ | ⟨g1,u,es,e,hd1,hs1⟩
      · rw [solo_ended hs e] at h; simp at h
      · rw [solo_go hs e] at h
        exact ih g1 g' u w' hd1 hs1 h
    · obtain ⟨o,u,e⟩:=solo_blocked (P:=P) (w:=w) hs
      rw [e] at h; simp at h
theorem runN_size {P : Program} : ∀ (n : Nat) (m m' : Machine),runN P n m=.next m'→m.gs.size≤m'.gs.size:=by
  intro n
  induction n with
  | zero=>intro m m' h; simp only [runN,Stepped.next.injEq] at h; rw [h]; exact Nat.le_refl _
  | succ n ih=>
    intro m m' h
    simp only [runN] at h
    cases hs : step P m with
    | next m1=>
      rw [hs] at h
      exact Nat.le_trans (stepT_size P m m1 true hs) (ih m1 m' h)
    | ended o w=>rw [hs] at h; simp at h
inductive LS (P : Program) (g : Goroutine) (w : World) : Goroutine→World→Prop
  | go {g' : Goroutine} {w' : World} {es : Array Event} (h : stepG P true g w=.go g' w' es) (hr : g'.status=.running) (hd : g'.dying=none) : LS P g w g' w'
  | comm {g1 : Goroutine} {c : CommCase} {s : CommShape} {w1 : World} {es : Array Event} {g' : Goroutine} {w' : World} (h : stepG P true g w=.comm g1 #[c] true s w1 es) (hc : LC P g1 c s w1 g' w') : LS P g w g' w'
theorem LS.fn {P : Program} {g : Goroutine} {w : World} {a b : Goroutine} {u v : World} (h : LS P g w a u) (k : LS P g w b v) : a=b∧u=v:=by
  cases h with
  | go h hr hd=>
    cases k with
    | go k kr kd=>rw [h] at k; cases k; exact ⟨rfl,rfl⟩
    | comm k kc=>rw [h] at k; cases k
  | comm h hc=>
    cases k with
    | go k kr kd=>rw [h] at k; cases k
    | comm k kc=>
      rw [h] at k
      cases k
      cases hc with
      | send h1 h2 h3 h4=>
        cases kc with
        | send k1 k2 k3 k4=>rw [h1] at k1; cases k1; rw [h3] at k3; cases k3; rw [h2] at k2; cases k2; exact ⟨rfl,rfl⟩
        | recv k1 k2 k3 k4=>rw [h2] at k2; cases k2
        | shut k1 k2 k3=>rw [h2] at k2; cases k2
        | dead k1 k2 k3=>rw [h1] at k1; cases k1; rw [h3] at k3; cases k3
      | recv h1 h2 h3 h4=>
        cases kc with
        | send k1 k2 k3 k4=>rw [h2] at k2; cases k2
        | recv k1 k2 k3 k4=>rw [h1] at k1; cases k1; rw [h3] at k3; cases k3; exact ⟨rfl,rfl⟩
        | shut k1 k2 k3=>rw [h1] at k1; cases k1; rw [h3] at k3; cases k3; simp at h4
        | dead k1 k2 k3=>rw [h2] at k2; cases k2
      | shut h1 h2 h3=>
        cases kc with
        | send k1 k2 k3 k4=>rw [h2] at k2; cases k2
        | recv k1 k2 k3 k4=>rw [h1] at k1; cases k1; rw [h3] at k3; cases k3; simp at k4
        | shut k1 k2 k3=>exact ⟨rfl,rfl⟩
        | dead k1 k2 k3=>rw [h2] at k2; cases k2
      | dead h1 h2 h3=>
        cases kc with
        | send k1 k2 k3 k4=>rw [h1] at k1; cases k1; rw [h3] at k3; cases k3
        | recv k1 k2 k3 k4=>rw [h2] at k2; cases k2
        | shut k1 k2 k3=>rw [h2] at k2; cases k2
        | dead k1 k2 k3=>exact ⟨rfl,rfl⟩
inductive Dem (P : Program) (N T : Goroutine→World→Prop) : Goroutine→World→Prop
  | stop {g : Goroutine} {w : World} (h : T g w) : Dem P N T g w
  | step {g : Goroutine} {w : World} (hN : N g w) (hT : ¬T g w) (h : ∀ τ d,∃ g' w',LS P g (w.on τ d) g' w') (hn : ∀ τ d g' w',LS P g (w.on τ d) g' w'→Dem P N T g' w') : Dem P N T g w
theorem Dem.imp {P : Program} {N N' T : Goroutine→World→Prop} (hi : ∀ g w,N g w→N' g w) {g : Goroutine} {w : World} (h : Dem P N T g w) : Dem P N' T g w:=by
  induction h with
  | stop h=>exact .stop h
  | step hN hT h _ ih=>exact .step (hi _ _ hN) hT h ih
inductive Pth (P : Program) (N T : Goroutine→World→Prop) : Goroutine→World→Prop
  | stop {g : Goroutine} {w : World} (h : T g w) : Pth P N T g w
  | step {g g' : Goroutine} {w w' : World} (hN : N g w) (hT : ¬T g w) (h : LS P g w g' w') (hp : Pth P N T g' w') : Pth P N T g w
def All (P : Program) (N T : Goroutine→World→Prop) (g : Goroutine) (w : World) : Prop:=∀ τ d,Pth P N T g (w.on τ d)
structure Way (P : Program) (N T : Goroutine→World→Prop) : Prop where
  mir : ∀ g w,N g w→GMir w (fun u=>stepG P true g u)
  on : ∀ g w τ d,N g w→N g (w.on τ d)
  tape : ∀ g w τ d,T g (w.on τ d)↔T g w
theorem on_on (w : World) (τ τ' : Nat→Question→Nat) (d d' : Nat) : (w.on τ d).on τ' d'=w.on τ' d':=rfl
theorem LC.on {P : Program} {g g' : Goroutine} {c : CommCase} {s : CommShape} {w w' : World} (h : LC P g c s w g' w') (τ : Nat→Question→Nat) (d : Nat) : LC P g c s (w.on τ d) g' (w'.on τ d):=by
  cases h with
  | send h1 h2 h3 h4=>exact .send h1 h2 h3 h4
  | recv h1 h2 h3 h4=>exact .recv h1 h2 h3 h4
  | shut h1 h2 h3=>exact .shut h1 h2 h3
  | dead h1 h2 h3 h4=>exact .dead h1 h2 h3 h4
theorem LC.tape {P : Program} {g g' : Goroutine} {c : CommCase} {s : CommShape} {w w' : World} (h : LC P g c s w g' w') : w'.tape=w.tape∧w'.drawn=w.drawn:=by
  cases h <;> exact ⟨rfl,rfl⟩
theorem LS.two {P : Program} {g g' : Goroutine} {w w' : World} (hm : GMir w (fun u=>stepG P true g u)) (h : LS P g w g' w') : w'.tape=w.tape∧w.drawn≤w'.drawn∧∀ τ d,Like w w' τ d→LS P g (w.on τ d) g' (w'.on τ (d+(w'.drawn - w.drawn))):=by
  cases h with
  | go h hr hd=>
    obtain ⟨h1,h2,h3⟩:=hm (.go g') w' _ hd h
    exact ⟨h1,h2,fun τ d hl=>.go (h3 τ d hl) hr hd⟩
  | @comm g1 c s w1 es _ _ h hc=>
    obtain ⟨h1,h2,h3⟩:=hm (.comm g1 #[c] true s) w1 _ trivial h
    obtain ⟨k1,k2⟩:=hc.tape
    refine ⟨k1.trans h1,by omega,fun τ d hl=>?_⟩
    rw [k2]
    exact .comm (h3 τ d (fun i hi=>hl i (by omega))) (hc.on _ _)
theorem Way.many {P : Program} {N T : Goroutine→World→Prop} (W : Way P N T) {g : Goroutine} {w : World} (h : Pth P N T g w) : ∀ τ d,(∀ i,τ (d+i)=w.tape (w.drawn+i))→Pth P N T g (w.on τ d):=by
  induction h with
  | stop h=>intro τ d _; exact .stop ((W.tape _ _ _ _).2 h)
  | @step g g' w w' hN hT h _ ih=>
    intro τ d hl
    obtain ⟨h1,h2,h3⟩:=h.two (W.mir _ _ hN)
    refine .step (W.on _ _ _ _ hN) (fun k=>hT ((W.tape _ _ _ _).1 k)) (h3 τ d (fun i _=>hl i)) (ih τ _ (fun i=>?_))
    have:=hl (w'.drawn - w.drawn+i)
    rw [show d+(w'.drawn - w.drawn)+i=d+(w'.drawn - w.drawn+i) by omega,this,h1,show w.drawn+(w'.drawn - w.drawn+i)=w'.drawn+i by omega]
def join (τ τ' : Nat→Question→Nat) (m d' : Nat) : Nat→Question→Nat:=fun i=>if i < m then τ i else τ' (d'+(i - m))
theorem Way.all_step {P : Program} {N T : Goroutine→World→Prop} (W : Way P N T) {g g' : Goroutine} {w w' : World} {τ : Nat→Question→Nat} {d : Nat} (hA : All P N T g w) (hT : ¬T g w) (h : LS P g (w.on τ d) g' w') : All P N T g' w':=by
  intro τ' d'
  have hp0:=hA τ d
  have hN0 : N g (w.on τ d):=by
    cases hp0 with
    | stop k=>exact absurd ((W.tape _ _ _ _).1 k) hT
    | step hN _ _ _=>exact hN
  obtain ⟨h1,h2,h3⟩:=h.two (W.mir _ _ hN0)
  have hl : Like (w.on τ d) w' (join τ τ' w'.drawn d') d:=fun i hi=>by
    have : d+i < w'.drawn:=hi
    show (if d+i < w'.drawn then _ else _)=_
    rw [if_pos this]; rfl
  have h4:=h3 _ d hl
  rw [on_on] at h4
  have hd2 : d≤w'.drawn:=h2
  have hp:=hA (join τ τ' w'.drawn d') d
  cases hp with
  | stop k=>exact absurd ((W.tape _ _ _ _).1 k) hT
  | step _ _ hls hp=>
    obtain ⟨rfl,rfl⟩:=hls.fn h4
    have:=W.many hp τ' d' (fun i=>by
      show τ' (d'+i)=(if d+(w'.drawn - d)+i < w'.drawn then _ else τ' (d'+(d+(w'.drawn - d)+i - w'.drawn)))
      rw [if_neg (by omega)]
      congr 1
      omega)
    rw [on_on] at this
    exact this
structure Bad (P : Program) (N T : Goroutine→World→Prop) (x : Goroutine×World) : Prop where
  all : All P N T x.1 x.2
  not : ¬Dem P N T x.1 x.2
theorem Way.bad_next {P : Program} {N T : Goroutine→World→Prop} (W : Way P N T) (x : { x : Goroutine×World // Bad P N T x }) :
    ∃ (τ : Nat→Question→Nat) (d : Nat) (y : { x : Goroutine×World // Bad P N T x }),N x.1.1 (x.1.2.on τ d)∧LS P x.1.1 (x.1.2.on τ d) y.1.1 y.1.2:=by
  obtain ⟨⟨g,w⟩,hA,hN⟩:=x
  simp only at hA hN
  have hT : ¬T g w:=fun h=>hN (.stop h)
  have hgo : ∀ τ d,N g (w.on τ d)∧∃ g' w',LS P g (w.on τ d) g' w':=fun τ d=>by
    have:=hA τ d
    cases this with
    | stop k=>exact absurd ((W.tape _ _ _ _).1 k) hT
    | step hN _ h _=>exact ⟨hN,_,_,h⟩
  have hex : ∃ τ d g' w',LS P g (w.on τ d) g' w'∧¬Dem P N T g' w':=by
    refine Classical.byContradiction fun hc=>hN (.step (hgo w.tape w.drawn).1 hT (fun τ d=>(hgo τ d).2) fun τ d g' w' h=>Classical.byContradiction fun hnd=>hc ⟨τ,d,g',w',h,hnd⟩)
  obtain ⟨τ,d,g',w',h,hnd⟩:=hex
  exact ⟨τ,d,⟨(g',w'),⟨W.all_step hA hT h,hnd⟩⟩,(hgo τ d).1,h⟩
theorem Way.dem {P : Program} {N T : Goroutine→World→Prop} (W : Way P N T) {g : Goroutine} {w : World} (hA : All P N T g w) : Dem P N T g w:=by
  classical
  refine Classical.byContradiction fun hN=>?_
  have hb:=W.bad_next
  obtain ⟨ta,da,nx,hstep⟩ : ∃ (ta : { x : Goroutine×World // Bad P N T x }→Nat→Question→Nat) (da : { x : Goroutine×World // Bad P N T x }→Nat) (nx : { x : Goroutine×World // Bad P N T x }→{ x : Goroutine×World // Bad P N T x }),∀ x,N x.1.1 (x.1.2.on (ta x) (da x))∧LS P x.1.1 (x.1.2.on (ta x) (da x)) (nx x).1.1 (nx x).1.2:=
    ⟨fun x=>(hb x).choose,fun x=>(hb x).choose_spec.choose,fun x=>(hb x).choose_spec.choose_spec.choose,fun x=>(hb x).choose_spec.choose_spec.choose_spec⟩
  let sq : Nat→{ x : Goroutine×World // Bad P N T x }:=fun k=>Nat.rec ⟨(g,w),⟨hA,hN⟩⟩ (fun _ x=>nx x) k
  have sq0 : sq 0=⟨(g,w),⟨hA,hN⟩⟩:=rfl
  have sqs : ∀ k,sq (k+1)=nx (sq k):=fun k=>rfl
  let m : Nat→Nat:=fun k=>(sq (k+1)).1.2.drawn - da (sq k)
  let S : Nat→Nat:=fun k=>Nat.rec 0 (fun j n=>n+m j) k
  have Ss : ∀ k,S (k+1)=S k+m k:=fun k=>rfl
  have mono : ∀ j k,j≤k→S j≤S k:=fun j k h=>by
    induction h with
    | refl=>exact Nat.le_refl _
    | step _ ih=>rw [Ss]; omega
  let τ : Nat→Question→Nat:=fun i=>if h : ∃ k,S k≤i∧i < S (k+1) then ta (sq h.choose) (da (sq h.choose)+(i - S h.choose)) else fun _=>0
  have hτ : ∀ k i,i < m k→τ (S k+i)=ta (sq k) (da (sq k)+i):=fun k i hi=>by
    have hex : ∃ k',S k'≤S k+i∧S k+i < S (k'+1):=⟨k,by omega,by rw [Ss]; omega⟩
    have hk : hex.choose=k:=by
      obtain ⟨c1,c2⟩:=hex.choose_spec
      rcases Nat.lt_trichotomy hex.choose k with h | h | h
      · have:=mono (hex.choose+1) k h; omega
      · exact h
      · have:=mono (k+1) hex.choose h; rw [Ss] at this; omega
    show (if h : ∃ k',S k'≤S k+i∧S k+i < S (k'+1) then ta (sq h.choose) (da (sq h.choose)+(S k+i - S h.choose)) else fun _=>0)=_
    rw [dif_pos hex,hk]
    congr 1
    omega
  have one : ∀ k,LS P (sq k).1.1 ((sq k).1.2.on τ (S k)) (sq (k+1)).1.1 ((sq (k+1)).1.2.on τ (S (k+1))):=fun k=>by
    obtain ⟨hn,h⟩:=hstep (sq k)
    rw [←sqs] at h
    obtain ⟨-,-,h3⟩:=h.two (W.mir _ _ hn)
    have:=h3 τ (S k) (fun i hi=>by
      have hi' : da (sq k)+i < (sq (k+1)).1.2.drawn:=hi
      have : i < m k:=by show i < (sq (k+1)).1.2.drawn - da (sq k); omega
      exact hτ k i this)
    rw [on_on] at this
    exact this
  -- along the path on this tape T comes nowhere
  have none_ : ∀ (g' : Goroutine) (w' : World),Pth P N T g' w'→∀ k,g'=(sq k).1.1→w'=(sq k).1.2.on τ (S k)→False:=by
    intro g' w' hp
    induction hp with
    | stop h=>intro k e1 e2; subst e1; subst e2; exact (sq k).2.not (.stop ((W.tape _ _ _ _).1 h))
    | step _ _ h _ ih=>
      intro k e1 e2
      subst e1; subst e2
      obtain ⟨e3,e4⟩:=h.fn (one k)
      exact ih (k+1) e3 e4
  exact none_ g (w.on τ 0) (hA τ 0) 0 rfl rfl
def trap (P : Program) : Frame := { fn := P.funcs.size, tmps := #[], todo := [.code (.refuse "")], defers := [{ target := .nil, args := #[] }], mode := .run, kind := .normal }
def Self (P : Program) [Two P] (X : List Frame×List Frame) (A : Nat→Prop) (G : FuncId→Bool) (g : Goroutine) (w : World) : Prop:=
  g.status=.running∧∃ ρ g' w',RGo P ρ X g g'∧SimW ρ w w'∧GId P ρ∧ExtOk P ρ.F∧ρ.loose=false∧ρ.wide=false∧(ρ.ch=A∧(∀ c,A c→∃ b,ρ c b)∧ρ.F=G)∧(∀ c,¬ρ.old c)∧(∀ f,¬Mk ρ.F f=true)
def NB (X : List Frame) (g : Goroutine) : Prop:=g.callers=X→g.frame.mode=.run∨g.frame.defers≠[]
section
variable {P : Program} [Two P] {X : List Frame×List Frame} {A : Nat→Prop} {G : FuncId→Bool} {g g' : Goroutine} {w w' : World}
omit [Two P] in
theorem RFs.tail {ρ : Ren} {l l' : List Frame} (h : RFs P ρ X l l') (e : l'=X.2) : l=X.1:=by
  cases h with
  | base=>rfl
  | cons _ _ hl=>exact absurd e hl.ne
omit [Two P] in
theorem SimW.onL {ρ : Ren} {w w' : World} (S : SimW ρ w w') (τ : Nat→Question→Nat) (d : Nat) : SimW ρ (w.on τ d) w':=⟨S.obj,S.fix,S.chan,S.os⟩
omit [Two P] in
theorem SimW.onR {ρ : Ren} {w w' : World} (S : SimW ρ w w') (τ : Nat→Question→Nat) (d : Nat) : SimW ρ w (w'.on τ d):=⟨S.obj,S.fix,S.chan,S.os⟩
theorem Self.on (h : Self P X A G g w) (τ : Nat→Question→Nat) (d : Nat) : Self P X A G g (w.on τ d):=by
  obtain ⟨hr,ρ,g',w',h1,h2,h3⟩:=h
  exact ⟨hr,ρ,g',w',h1,h2.onL _ _,h3⟩
omit [Two P] in
theorem finishComm_rel {ρ : Ren} {g g' : Goroutine} (h : RGo P ρ X g g') {c c' : CommCase} (_hc : RC ρ c c') (s : CommShape) (hs : (c.send.isSome=true∧s=.send)∨(c.send=none∧∃ ok,s=.recv ok)) {v v' : Value} (hv : RV ρ v v') (ok : Bool) : RGo P ρ X (g.finishComm P #[c] s 0 v ok) (g'.finishComm P #[c'] s 0 v' ok):=by
  have hcr : RV ρ (commResult #[c] s 0 v ok) (commResult #[c'] s 0 v' ok):=by
    rcases hs with ⟨_,rfl⟩ | ⟨_,o,rfl⟩
    · exact rv_undef
    · cases o with
      | false=>exact hv
      | true=>
        have:=(RVs.nil.push hv).push (RV.bool ok)
        exact .tuple this.size this.at_
  exact ⟨h.frame.finish hcr,h.callers,h.kind.finish _ _,⟨rfl,rfl⟩,h.dying,rfl,rfl⟩
theorem Self.step (hZ : ZeroOk P) (hN : NoCount P) (h : Self P X A G g w) (hb : NB X.1 g) (hl : LS P g w g' w') : Self P X A G g' w':=by
  obtain ⟨hr,ρ,k,u,hG,S,hI,hE,ho,hwi,⟨hch,hcb,hFG⟩,hold,hmk⟩:=h
  have hin : Base X g.frame k.callers:=fun e=>hb (hG.callers.tail e)
  have sf:=stepG_sf hZ hE hN hI true hG hin (S.onR w.tape w.drawn) (fun i=>rfl)
  rcases sf.rel with ⟨h1,-⟩ | ⟨-,h2⟩ | ⟨f,_,_,_,_,_,_,_,_,_,_,_,A⟩
  rotate_left 2
  · exact absurd A.mark (hmk f)
  · cases hl with
    | go h hr hd=>
      rw [h] at h1
      obtain ⟨⟨d,f,e,-⟩,-⟩:=h1
      rw [hd] at e; cases e
    | comm h _=>rw [h] at h1; exact h1.elim
  · cases hl with
    | go h hr hd=>
      rw [h] at h2
      generalize stepG P true k (u.on w.tape w.drawn)=y at h2
      cases h2 with
      | go es ρ' R hg he=>exact ⟨hr,ρ',_,_,hg,R.sim,hI.mono R.le,by rw [R.le.F]; exact hE,R.le.loose.trans ho,R.le.wide.trans hwi,⟨R.le.ch.trans hch,(fun c k=>(hcb c k).imp fun b=>R.le _ _),R.le.F.trans hFG⟩,by rw [R.le.old]; exact hold,by rw [R.le.F]; exact hmk⟩
    | @comm g1 c s w1 es _ _ h hc=>
      rw [h] at h2
      generalize stepG P true k (u.on w.tape w.drawn)=y at h2
      cases h2 with
      | @comm _ k1 _ c' _ _ hs hrun _ u1 _ es' ρ' R hg hcc he _=>
        have hlo : ρ'.loose=false:=R.le.loose.trans ho
        have hwi' : ρ'.wide=false:=R.le.wide.trans hwi
        have hch' : ρ'.ch=A∧(∀ c,A c→∃ b,ρ' c b)∧ρ'.F=G:=⟨R.le.ch.trans hch,(fun c k=>(hcb c k).imp fun b=>R.le _ _),R.le.F.trans hFG⟩
        have hold' : ∀ c,¬ρ'.old c:=by rw [R.le.old]; exact hold
        have fin : ∀ (v v' : Value) (ok : Bool) (z z' : World),RV ρ' v v'→SimW ρ' z z'→Self P X A G (g1.finishComm P #[c] s 0 v ok) z:=fun v v' ok z z' hv hz=>
          ⟨rfl,ρ',_,z',finishComm_rel hg hcc s hs hv ok,hz,hI.mono R.le,by rw [R.le.F]; exact hE,hlo,hwi',hch',hold',by rw [R.le.F]; exact hmk⟩
        have S':=R.sim
        have rel : ∀ r cap buf cl sent rcvd tm,c.chan=.chan (some r)→w1.heap[r]?=some (.chan cap buf cl sent rcvd tm)→∃ r' cap' buf' sent' rcvd',ρ' r r'∧RVs ρ' buf buf'∧∀ (b b' : Array Value) (s2 q2 : Nat),RVs ρ' b b'→SimW ρ' { w1 with heap:=w1.heap.setIfInBounds r (.chan cap b cl s2 q2 tm) } { u1 with heap:=u1.heap.setIfInBounds r' (.chan cap' b' cl sent' rcvd' tm) }:=fun r cap buf cl sent rcvd tm e eo=>by
          have:=hcc.chan
          rw [e] at this
          generalize c'.chan=q at this
          cases this with
          | chan h=>
            cases h with
            | @some _ r' h=>
              obtain ⟨o,o',k1,k2,k3⟩:=S'.obj _ _ h
              rw [eo] at k1
              cases k1
              cases k3 with
              | @chan _ cap' _ b' cl' _ _ _ s' q' _ hb hcl=>
                have hbb : RVs ρ' buf b':=by
                  rcases hb with hb | hb
                  · rw [hlo] at hb; cases hb
                  · exact hb
                obtain rfl:=hcl.resolve_left (by rw [hwi']; exact fun h=>by cases h)
                exact ⟨r',cap',b',s',q',h,hbb,fun b b2 s2 q2 hb2=>S'.put h (.chan _ _ _ _ _ _ _ _ _ (.inr hb2) (.inr rfl)) (hold' r) (fun _=>rfl)⟩
        cases hc with
        | @send r cap sent rcvd buf tm v h1 h2 h3 h4=>
          obtain ⟨r',cap',buf',s',q',k1,k2,k3⟩:=rel r _ _ _ _ _ _ h1 h3
          rcases hcc.send with ⟨e,-⟩ | ⟨v1,v2,e1,e2,hv⟩
          · rw [h2] at e; cases e
          · rw [h2] at e1; cases e1
            exact fin _ _ false _ _ rv_undef (k3 _ _ _ _ (k2.push hv))
        | @recv r cap sent rcvd buf cl tm h1 h2 h3 h4=>
          obtain ⟨r',cap',buf',s',q',k1,k2,k3⟩:=rel r _ _ _ _ _ _ h1 h3
          exact fin _ _ true _ _ (k2.getD 0) (k3 _ _ _ _ (k2.extract 1 buf.size))
        | shut h1 h2 h3=>exact fin _ _ false _ _ hcc.zero S'
        | dead h1 h2 h3=>
          exact ⟨hrun.1, ρ', { k1 with frame := k1.frame.raise [{ v := .iface P.rt.plainError (strVal "send on closed channel"), recovered := false }] }, u1, ⟨hg.frame.raise1 (.iface _ (.string _)), hg.callers, hg.kind.raise _ _, hg.status, hg.dying, hg.offers⟩, S', hI.mono R.le, by rw [R.le.F]; exact hE, hlo, hwi', hch', hold', by rw [R.le.F]; exact hmk⟩
def OnWay (P : Program) [Two P] (X : List Frame×List Frame) (A : Nat→Prop) (G : FuncId→Bool) (g : Goroutine) (w : World) : Prop:=Self P X A G g w∧NB X.1 g
theorem OnWay.mir (hZ : ZeroOk P) (hN : NoCount P) (h : OnWay P X A G g w) : GMir w (fun u=>stepG P true g u):=by
  obtain ⟨⟨hr,ρ,k,u,hG,S,hI,hE,ho,hwi,⟨hch,hcb,hFG⟩,hold,hmk⟩,hb⟩:=h
  have hin : Base X g.frame k.callers:=fun e=>hb (hG.callers.tail e)
  exact (stepG_sf hZ hE hN hI true hG hin (S.onR w.tape w.drawn) (fun i=>rfl)).mir
omit [Two P] in
theorem trap_step {f : Frame} (hf : f=trap P∨∃ c,f=(trap P).raise c) (w : World) : ∃ o u es,stepG P true { frame:=f,callers:=[],status:=.running,dying:=none } w=.ended o u es:=by
  rcases hf with rfl | ⟨c,rfl⟩
  · exact ⟨_,_,_,rfl⟩
  · exact ⟨_,_,_,rfl⟩
omit [Two P] in
theorem left_return (fr : Frame) (hk : (fr.kind == .early)=false) (v : Value) (w : World) : ∃ f1,doReturn P true fr [trap P] none v w=.go { frame:=f1,callers:=[],status:=.running,dying:=none } w∧(f1=trap P∨∃ c,f1=(trap P).raise c):=by
  unfold doReturn
  cases h : fr.kind with
  | early=>rw [h] at hk; simp at hk
  | normal=>exact ⟨_,rfl,.inl rfl⟩
  | wrapped=>exact ⟨_,rfl,.inl rfl⟩
  | deferred=>exact ⟨_,rfl,.inl rfl⟩
  | report=>exact ⟨_,rfl,.inl rfl⟩
omit [Two P] in
theorem left_step {ρ : Ren} (hG : RGo P ρ X g g') (hc : g.callers=[trap P]) (hm : g.frame.mode≠.run) (hd : g.frame.defers=[]) (w : World) :
    (∃ o u es,stepG P true g w=.ended o u es)∨∃ f1 u es,stepG P true g w=.go { frame:=f1,callers:=[],status:=.running,dying:=none } u es∧(f1=trap P∨∃ c,f1=(trap P).raise c):=by
  obtain ⟨fr,cs,st,dy,of⟩:=g
  obtain ⟨hf,-,-,-,⟨hdy,-⟩,-⟩:=hG
  simp only at hf hdy hc hm hd
  subst hc; subst hdy
  have e : stepG P true ⟨fr,[trap P],st,none,of⟩ w=unwind P true fr [trap P] none w:=by
    cases hx : fr.mode with
    | run=>exact absurd hx hm
    | returning=>simp only [stepG,hx]
    | panicking c=>simp only [stepG,hx]
  rw [e]
  unfold unwind
  simp only [hd]
  cases hx : fr.mode with
  | run=>exact absurd hx hm
  | panicking c=>
    simp only [(catches_no hf P).1,Bool.false_eq_true,if_false]
    exact .inr ⟨_,_,_,rfl,.inr ⟨c,rfl⟩⟩
  | returning=>
    simp only
    cases hfn : P.funcs[fr.fn]? with
    | none=>
      obtain ⟨f1,e1,h1⟩:=left_return (P:=P) fr hf.early.1 (fr.tmps.getD 0 undef) w
      exact .inr ⟨f1,_,_,e1,h1⟩
    | some fn=>
      simp only
      cases hr : (results fn fr.tmps).runT P w #[] with
      | mk r es=>
        cases r with
        | ok v u=>
          obtain ⟨f1,e1,h1⟩:=left_return (P:=P) fr hf.early.1 v u
          simp only [e1]
          exact .inr ⟨f1,_,_,rfl,h1⟩
        | halt x u=>cases x <;> exact .inl ⟨_,_,_,rfl⟩
theorem path_of_run (hZ : ZeroOk P) (hN : NoCount P) {T : Goroutine→World→Prop} (hT : ∀ g w,T g w→g.callers≠[]∧g.dying=none∧g.status=.running) :
    ∀ (n : Nat) (g : Goroutine) (w : World) (g' : Goroutine) (w' : World),Self P ([trap P],[]) A G g w→runN P n (solo g w)=.next (solo g' w')→T g' w'→Pth P (OnWay P ([trap P],[]) A G) T g w:=by
  intro n
  induction n with
  | zero=>
    intro g w g' w' _ h hT'
    simp only [runN,Stepped.next.injEq] at h
    have e1 : #[g]=#[g']:=congrArg Machine.gs h
    have e2 : w=w':=congrArg Machine.world h
    simp at e1
    subst e1; subst e2
    exact .stop hT'
  | succ n ih=>
    intro g w g' w' hS h hT'
    by_cases hTg : T g w
    · exact .stop hTg
    have hr:=hS.1
    simp only [runN] at h
    by_cases hb : NB [trap P] g
    · have hS0:=hS
      obtain ⟨-,ρ,k,u,hG,S,hI,hE,-,-,-,-,hmk⟩:=hS
      have hin : Base ([trap P],[]) g.frame k.callers:=fun e=>hb (hG.callers.tail e)
      have sf:=stepG_sf hZ hE hN hI true hG hin (S.onR w.tape w.drawn) (fun i=>rfl)
      rcases sf.rel with ⟨h1,-⟩ | ⟨-,h2⟩ | ⟨f,_,_,_,_,_,_,_,_,_,_,_,A⟩
      rotate_left 2
      · exact absurd A.mark (hmk f)
      · -- it ends,or it dies
        cases hx : stepG P true g w with
        | ended o v es=>rw [solo_ended hr hx] at h; simp at h
        | go a v es=>
          have h1 : Lost (stepG P true g w):=h1
          rw [hx] at h1
          rw [solo_go hr hx] at h
          obtain ⟨d,f,e,-⟩:=doomed_run n a g' v w' h1.1 (.inl h1.2) h
          rw [(hT _ _ hT').2.1] at e
          cases e
        | _=>have h1 : Lost (stepG P true g w):=h1; rw [hx] at h1; exact h1.elim
      · generalize hx : stepG P true g w=x at h2
        generalize stepG P true k (u.on w.tape w.drawn)=y at h2
        cases h2 with
        | @go a a' v v' es es' ρ' R hg he=>
          rw [solo_go hr hx] at h
          have hl : LS P g w a v:=.go hx hg.status.1 hg.dying.1
          exact .step ⟨hS0,hb⟩ hTg hl (ih a v g' w' (hS0.step hZ hN hb hl) h hT')
        | @comm a a' c c' _ s hs hrun v v' es es' ρ' R hg hcc he _=>
          rw [solo_comm hr hx] at h
          cases hy : (communicate P { timers:=#[],alone:=none,slice:=none } #[away] 0 a #[c] true s v).1 with
          | ended o q=>rw [hy] at h; simp at h
          | next m=>
            rw [hy] at h
            rcases comm_next hrun.1 hy with ⟨b,q,hc,rfl⟩ | rfl
            · have hl : LS P g w b q:=.comm hx hc
              exact .step ⟨hS0,hb⟩ hTg hl (ih b q g' w' (hS0.step hZ hN hb hl) h hT')
            · cases n with
              | zero=>
                simp only [runN,Stepped.next.injEq] at h
                have e1 : #[({ a with status:=.blocked,offers:=some (#[c],s) } : Goroutine)]=#[g']:=congrArg Machine.gs h
                simp at e1
                have:=(hT _ _ hT').2.2
                rw [←e1] at this
                cases this
              | succ n=>
                obtain ⟨o,z,e⟩:=solo_blocked (P:=P) (w:=v) (g:={ a with status:=.blocked,offers:=some (#[c],s) }) rfl
                simp only [runN,e] at h
                simp at h
        | @spawn _ a a' b b' v v' es es' ρ' R hg hk he=>
          obtain ⟨m,e,hm⟩:=solo_spawn hr hx
          rw [e] at h
          have:=runN_size n m _ h
          rw [hm] at this
          simp [solo] at this
    · -- it is left: into the trap
      have hc : g.callers=[trap P]:=Classical.byContradiction fun k=>hb (fun e=>absurd e k)
      have hm : g.frame.mode≠.run:=fun k=>hb (fun _=>.inl k)
      have hd : g.frame.defers=[]:=Classical.byContradiction fun k=>hb (fun _=>.inr k)
      obtain ⟨-,ρ,k,u,hG,-⟩:=hS
      rcases left_step hG hc hm hd w with ⟨o,v,es,e⟩ | ⟨f1,v,es,e,hf⟩
      · rw [solo_ended hr e] at h; simp at h
      · rw [solo_go hr e] at h
        cases n with
        | zero=>
          simp only [runN,Stepped.next.injEq] at h
          have e1 : #[({ frame:=f1,callers:=[],status:=.running,dying:=none } : Goroutine)]=#[g']:=congrArg Machine.gs h
          simp at e1
          have:=(hT _ _ hT').1
          rw [←e1] at this
          exact (this rfl).elim
        | succ n=>
          obtain ⟨o,z,es2,e2⟩:=trap_step (P:=P) hf v
          simp only [runN,solo_ended (g:={ frame:=f1,callers:=[],status:=.running,dying:=none }) rfl e2] at h
          simp at h
def Ends (P : Program) (f : FuncId) (R : (Nat→Question→Nat)→Nat→Ending→World→Prop) (g : Goroutine) (w : World) : Prop:=
  ∃ τ d τ' d' e fr,R τ d e (w.on τ' d')∧g={ frame:=fr,callers:=[trap P],status:=.running,dying:=none }∧fr.fn=f∧fr.leaving P (w.on τ' d') e∧e≠.outgrown
omit [Two P] in
theorem Ends.on {f : FuncId} {R : (Nat→Question→Nat)→Nat→Ending→World→Prop} (τ : Nat→Question→Nat) (d : Nat) : Ends P f R g (w.on τ d)↔Ends P f R g w:=Iff.rfl
theorem dem_of_calls (hZ : ZeroOk P) (hN : NoCount P) {f : FuncId} {args : Array Value} {R : (Nat→Question→Nat)→Nat→Ending→World→Prop} (hC : ∀ τ d,Calls P f args (w.on τ d) (R τ d)) (hout : ∀ τ d u,¬R τ d .outgrown u)
    (hS : Self P ([trap P],[]) A G { frame:=Frame.enter P f args .normal,callers:=[trap P],status:=.running,dying:=none } w) :
    Dem P (OnWay P ([trap P],[]) A G) (Ends P f R) { frame:=Frame.enter P f args .normal,callers:=[trap P],status:=.running,dying:=none } w:=by
  refine Way.dem (N:=OnWay P ([trap P],[]) A G) ⟨fun g w h=>h.mir hZ hN,fun g w τ d h=>⟨h.1.on τ d,h.2⟩,fun g w τ d=>Ends.on τ d⟩ (fun τ d=>?_)
  obtain ⟨e,w',fr,hR,hcome,hfn,hleave⟩:=hC τ d [trap P]
  have hne : e≠.outgrown:=fun k=>by subst k; exact hout τ d w' hR
  have hst : Steps P (lone (Frame.enter P f args .normal) [trap P] (w.on τ d)) (lone fr [trap P] w'):=by
    cases e with
    | returned v=>exact hcome
    | panicked c=>exact hcome
    | outgrown=>exact absurd rfl hne
  obtain ⟨n,hn⟩:=hst
  refine path_of_run hZ hN (T:=Ends P f R) ?_ n _ _ _ w' (hS.on τ d) hn ⟨τ,d,w'.tape,w'.drawn,e,fr,hR,rfl,hfn,hleave,hne⟩
  rintro g w ⟨_,_,_,_,_,fr,_,rfl,_⟩
  exact ⟨by simp,rfl,rfl⟩
end
end Go.Proofs.YtnapepbdohidgaaGreatDoorQ
namespace Go.Proofs.YtnapepbdohidgaaGreatDoorQ
open Go
open Go.Conc (crowd Past EvL Deaf QuitsD woken awake crowd_pick runT_crowd_go rcase scase parked ph)
open Go.ConcN (sumTo upd sumTo_upd upd_ne upd_same)
def Fin (P : Program) (Post : Value→World→Prop) (gs : Array Goroutine) (w : World) (sl : Option (Nat×Nat)) (t : Trace) : Prop:=
  ∃ N last o w' t',runNT P (N+1) (crowd gs w sl) t=(.ended o w',t')∧runN P N (crowd gs w sl)=.next last∧step P last=.ended o w'∧Conc.Good P Post last o w' t'
theorem Fin.next {P : Program} {Post : Value→World→Prop} {gs gs' : Array Goroutine} {w w' : World} {sl sl' : Option (Nat×Nat)} {t : Trace} {ops : Array MemOp} (hs : stepT P (crowd gs w sl)=(.next (crowd gs' w' sl'),ops)) (h : Fin P Post gs' w' sl' (t++ops)) : Fin P Post gs w sl t:=by
  obtain ⟨N,last,o,w2,t2,h1,h2,h3,h4⟩:=h
  exact ⟨N+1,last,o,w2,t2,by rw [runNT]; simp only [hs]; exact h1,by rw [runN]; simp only [step,hs]; exact h2,h3,h4⟩
theorem Fin.last {P : Program} {Post : Value→World→Prop} {gs : Array Goroutine} {w w' : World} {sl : Option (Nat×Nat)} {t : Trace} {ops : Array MemOp} {o : Outcome} (hs : stepT P (crowd gs w sl)=(.ended o w',ops)) (h : Conc.Good P Post (crowd gs w sl) o w' (t++ops)) : Fin P Post gs w sl t:=
  ⟨0,crowd gs w sl,o,w',t++ops,by simp [runNT,hs],rfl,by simp [step,hs],h⟩
structure Lv (P : Program) (K : Nat→Prop) (t : Trace) (gs : Array Goroutine) (q : Nat→Nat) : Prop where
  old : ∀ i g,0 < i→¬K i→gs[i]?=some g→QuitsD P (q i) (Deaf t i) g
  above : ∀ j,gs.size≤j→Deaf t j=0
theorem again_quits {P : Program} {n d : Nat} {g : Goroutine} (h : QuitsD P n d g) (w : World) : g.again w=g:=Conc.again_running _ h.status
section
variable {P : Program} {K : Nat→Prop} {Shun : Loc→Prop} {gs : Array Goroutine} {w : World} {sl : Option (Nat×Nat)} {t : Trace} {q : Nat→Nat}
theorem woken_of {P : Program} {g g' o : Goroutine} {w : World} (h : o.again w=o) : woken P g g' w o=o:=by
  unfold Conc.woken
  split
  · exact h
  · rfl
theorem slip (hL : Lv P K t gs q) {Pa : Trace→Prop} (hP : Pa t) (hmute : ∀ (t : Trace) (i : Nat) (fn : FuncId) (pos : String) (es : Array Event),i≠0→¬K i→Pa t→(∀ e∈es,e.mute=true)→Pa (t++MemOp.ofEvents i fn pos es)) {i : Nat} {g : Goroutine} {d : Nat} {sl' : Option (Nat×Nat)} (hi : gs[i]?=some g) (hg : g.status=.running) (hpos : 0 < i) (hK : ¬K i)
    (hfirm : ∀ j o,(j=0∨K j)→gs[j]?=some o→o.again (w.at d)=o) (hst : stepT P (crowd gs w sl)=runT P (crowd gs (w.at d) sl') i) :
    ∃ gs' q' ops,stepT P (crowd gs w sl)=(.next (crowd gs' (w.at d) sl'),ops)∧gs'.size=gs.size∧(∀ j,(j=0∨K j)→gs'[j]?=gs[j]?)∧Lv P K (t++ops) gs' q'∧Pa (t++ops)∧sumTo gs'.size q' < sumTo gs.size q∧(∀ op∈ops,op.g=i):=by
  have hq:=hL.old i g hpos hK hi
  have hi0 : (i == 0)=false:=by simp; omega
  have hlt : i < gs.size:=(Array.getElem?_eq_some_iff.1 hi).1
  cases hqi : q i with
  | zero=>rw [hqi] at hq; rw [hq.1] at hg; cases hg
  | succ k=>
    rw [hqi] at hq
    rcases hq with ⟨hf,_⟩ | ⟨_,g',es,hm,hstp,hq'⟩
    · rw [hf] at hg; cases hg
    have hrunT:=runT_crowd_go (P:=P) (sl:=sl') (i:=i) hi (by rw [hi0]; exact hstp (w.at d))
    have hsz : ((gs.map (woken P g g' (w.at d))).setIfInBounds i g').size=gs.size:=by simp
    have hsum : sumTo gs.size (upd q i k)+(k+1)=sumTo gs.size q+k:=by
      have:=sumTo_upd q k id hlt
      simpa [hqi] using this
    refine ⟨_,upd q i k,_,hst.trans hrunT,hsz,fun j hj=>?_,⟨fun j x hj hKj hx=>?_,fun j hj=>?_⟩,hmute t i _ _ es (by omega) hK hP hm,by rw [hsz]; omega,fun op hop=>by obtain ⟨e,_,rfl⟩:=Conc.mem_ofEvents hop; rfl⟩
    · have hne : i ≠ j := fun e => by subst e; rcases hj with h | h; · omega
                                      · exact hK h
      rw [Array.getElem?_setIfInBounds_ne hne,Array.getElem?_map]
      cases ho : gs[j]? with
      | none=>rfl
      | some o=>simp only [Option.map_some]; rw [woken_of (hfirm j o hj ho)]
    · by_cases hji : i=j
      · subst hji
        rw [Array.getElem?_setIfInBounds_self_of_lt (by simpa using hlt)] at hx
        obtain rfl:=Option.some.inj hx
        rw [upd_same,Conc.Deaf_own]
        exact hq'
      · rw [Array.getElem?_setIfInBounds_ne hji,Array.getElem?_map] at hx
        obtain ⟨y,hy,rfl⟩:=Option.map_eq_some_iff.1 hx
        have hqj:=hL.old j y hj hKj hy
        rw [woken_of (again_quits hqj _),upd_ne q k (Ne.symm hji),Conc.Deaf_other t hji _ (fun op hop=>by obtain ⟨e,_,rfl⟩:=Conc.mem_ofEvents hop; rfl)]
        exact hqj
    · rw [Conc.Deaf_other t (g':=i) (by simp at hj; omega) _ (fun op hop=>by obtain ⟨e,_,rfl⟩:=Conc.mem_ofEvents hop; rfl)]
      exact hL.above j (by simpa using hj)
theorem ownGo (hL : Lv P K t gs q) {i : Nat} {a a' : Goroutine} {w' : World} {es : Array Event} {d : Nat} {sl' : Option (Nat×Nat)} (hi : gs[i]?=some a) (hK : i=0∨K i) (hst : stepT P (crowd gs w sl)=runT P (crowd gs (w.at d) sl') i) (hgo : stepG P (i == 0) a (w.at d)=.go a' w' es) :
    ∃ gs' ops,stepT P (crowd gs w sl)=(.next (crowd gs' w' sl'),ops)∧ops=MemOp.ofEvents i a.frame.fn a.frame.place es∧gs'.size=gs.size∧gs'[i]?=some a'∧(∀ j o,j≠i→gs[j]?=some o→gs'[j]?=some (woken P a a' w' o))∧Lv P K (t++ops) gs' q:=by
  have hrunT:=runT_crowd_go (P:=P) (sl:=sl') (i:=i) hi hgo
  have hlt : i < gs.size:=(Array.getElem?_eq_some_iff.1 hi).1
  refine ⟨_,_,hst.trans hrunT,rfl,by simp,by simp [hlt],fun j o hj ho=>?_,⟨fun j x hj hKj hx=>?_,fun j hj=>?_⟩⟩
  · rw [Array.getElem?_setIfInBounds_ne (Ne.symm hj),Array.getElem?_map,ho]; rfl
  · have hne : i ≠ j := fun e => by subst e; rcases hK with h | h; · omega
                                    · exact hKj h
    rw [Array.getElem?_setIfInBounds_ne hne,Array.getElem?_map] at hx
    obtain ⟨y,hy,rfl⟩:=Option.map_eq_some_iff.1 hx
    have hq:=hL.old j y hj hKj hy
    rw [woken_of (again_quits hq _),Conc.Deaf_other t hne _ (fun op hop=>by obtain ⟨e,_,rfl⟩:=Conc.mem_ofEvents hop; rfl)]
    exact hq
  · rw [Conc.Deaf_other t (g':=i) (by simp at hj; omega) _ (fun op hop=>by obtain ⟨e,_,rfl⟩:=Conc.mem_ofEvents hop; rfl)]
    exact hL.above j (by simpa using hj)
def chanAct (B : Nat) : MemAct→Prop
  | .send c _ | .sendDone c _ | .recv c _ _ | .recvDone c _ | .close c | .recvClosed c=>c < B
  | _=>False
theorem chanAct.low {B : Nat} {a : MemAct} (h : chanAct B a) : a.low B:=by cases a <;> first | exact h | exact h.elim
theorem chanAct.none {B : Nat} {a : MemAct} (h : chanAct B a) : a.touch?=none:=by cases a <;> first | rfl | exact h.elim
theorem chanAct.still {B : Nat} {a : MemAct} (h : chanAct B a) : a≠.mark .disable∧a≠.mark .enable:=by cases a <;> first | exact h.elim | exact ⟨by simp,by simp⟩
theorem Deaf_plain (t : Trace) (g : Nat) (u : Trace) (hu : ∀ op∈u,op.act≠.mark .disable∧op.act≠.mark .enable) : Deaf (t++u) g=Deaf t g:=by
  obtain ⟨l⟩:=u
  rw [Conc.Deaf_append]
  induction l generalizing t with
  | nil=>rfl
  | cons x l ih=>
    have hx:=hu x (by simp)
    have e : Conc.deafStep g (Deaf t g) x=Deaf t g:=by
      obtain ⟨xg,xf,xp,xa⟩:=x
      cases xa with
      | mark m=>cases m <;> first | rfl | exact absurd rfl hx.1 | exact absurd rfl hx.2
      | _=>rfl
    rw [List.foldl_cons,e]
    exact ih t (fun op hop=>hu op (by simp at hop ⊢; exact .inr hop))
theorem Lv.put (hL : Lv P K t gs q) {gs' : Array Goroutine} {u : Trace} (hu : ∀ op∈u,op.act≠.mark .disable∧op.act≠.mark .enable) (hsz : gs'.size=gs.size) (hs : ∀ j,0 < j→¬K j→gs'[j]?=gs[j]?) : Lv P K (t++u) gs' q:=
  ⟨fun i g hi hK hg=>by rw [Deaf_plain t i u hu]; exact hL.old i g hi hK (by rw [←hs i hi hK]; exact hg),fun j hj=>by rw [Deaf_plain t j u hu]; exact hL.above j (by omega)⟩
theorem past_chan {B : Nat} (h : Past Shun B t) {u : Trace} (hu : ∀ op∈u,op.g=0∧chanAct B op.act) : Past Shun B (t++u):=
  h.app0 (fun op hop=>(hu op hop).1) (fun op hop b hb=>by rw [(hu op hop).2.none] at hb; cases hb) (Deaf_plain t 0 u (fun op hop=>(hu op hop).2.still)) (fun op hop=>(hu op hop).2.low)
theorem Lv.alone (hL : Lv P (fun _=>False) t gs q) (r : Nat) (b : Bool) : partners (gs.setIfInBounds 0 ph) r b=[]:=by
  refine Conc.partners_nil (fun j x hx=>?_)
  rcases Conc.getElem?_stand gs 0 j x hx with ⟨-,rfl⟩ | ⟨hne,hx⟩
  · exact Conc.offersAt_ph r b
  · refine Conc.offersAt_of_not_blocked (fun e=>?_) r b
    rcases (hL.old j x (by omega) (fun k=>k) hx).status with h | h <;> rw [h] at e <;> cases e
end
end Go.Proofs.YtnapepbdohidgaaGreatDoorQ
