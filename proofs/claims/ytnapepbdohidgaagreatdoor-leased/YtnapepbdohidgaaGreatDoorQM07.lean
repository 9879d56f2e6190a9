/- Part of a proof. -/
import Derived.Test.YtnapepbdohidgaaGreatDoorQM06
namespace Go.Proofs.YtnapepbdohidgaaGreatDoorQ
open Go
theorem seen_nil (p : Program) (f : FuncId) : seen p f #[]=#[]:=rfl
theorem after_nil (x : GStep) : GStep.after #[] x=x:=by cases x <;> simp [GStep.after]
theorem apply_ok {p : Program} {fr : Frame} {callers : List Frame} {dying : Option Dying} {s : Sem Next} {w u : World} {a : Next} {es : Array Event} (h : s.runT p w #[]=(.ok a u,es)) :
    stepG.apply p true fr callers dying s w=GStep.after (seen p fr.fn (if fr.kind == .early then #[] else es)) (stepG.apply p true fr callers dying (.pure a) u):=by
  unfold stepG.apply
  simp only [if_true,h,Sem.runT]
  have e : seen p fr.fn (if fr.kind == .early then #[] else #[])=#[]:=by split <;> exact seen_nil _ _
  rw [e,after_nil]
def haltEs (a : Halt) (es : Array Event) : Array Event:=
  match a with
  | .blocked=>#[]
  | .waiting=>#[]
  | .unsupported (.initOrder _)=>#[]
  | _=>es
theorem apply_halt {p : Program} {fr : Frame} {callers : List Frame} {dying : Option Dying} {s : Sem Next} {w u : World} {a : Halt} {es : Array Event} (h : s.runT p w #[]=(.halt a u,es)) :
    stepG.apply p true fr callers dying s w=GStep.after (seen p fr.fn (if fr.kind == .early then #[] else haltEs a es)) (stepG.apply p true fr callers dying (.halt a) u):=by
  have e : seen p fr.fn (if fr.kind == .early then #[] else #[])=#[]:=by split <;> exact seen_nil _ _
  unfold stepG.apply
  simp only [if_true,h,Sem.runT]
  cases a with
  | unsupported x=>cases x <;> simp only [haltEs,e,after_nil]
  | _=>simp only [haltEs,e,after_nil]
theorem mem_seen {p : Program} {f : FuncId} {es : Array Event} {e : Event} (h : e∈seen p f es) : e∈es:=by
  unfold seen at h
  simp only [←Array.foldl_toList] at h
  have gen : ∀ (l : List Event) (q : Bool) (kept : Array Event),e∈(l.foldl (fun (x : Bool×Array Event) e=>match e.loc with
      | .mark (.extern f)=>((p.funcs[f]?).any (·.norace),x.2)
      | _=>(x.1,if x.1 && !e.sync then x.2 else x.2.push e)) (q,kept)).2→e∈kept∨e∈l:=by
    intro l
    induction l with
    | nil=>intro q kept h; exact .inl h
    | cons y l ih=>
      intro q kept h
      simp only [List.foldl_cons] at h
      split at h
      · rcases ih _ _ h with h | h
        · exact .inl h
        · exact .inr (List.mem_cons_of_mem _ h)
      · rcases ih _ _ h with h | h
        · split at h
          · exact .inl h
          · rcases Array.mem_push.1 h with h | h
            · exact .inl h
            · exact .inr (h ▸ List.mem_cons_self ..)
        · exact .inr (List.mem_cons_of_mem _ h)
  rcases gen _ _ _ h with h | h
  · simp at h
  · simpa using h
structure Reach (ρ ρ' : Ren) (w w' u u' : World) : Prop where
  le : ρ.le ρ'
  chs : Chs ρ w w' u u'
  sim : SimW ρ' u u'
  keep : Keep ρ w' u'
  new : ∀ a b,ρ' a b→ρ a b∨(w.heap.size≤a∧w'.heap.size≤b)
  drawn : u'.drawn+w.drawn=w'.drawn+u.drawn
  tape : u.tape=w.tape
  low : w.drawn≤u.drawn
  grow : w.heap.size≤u.heap.size
theorem Reach.trans {ρ ρ' ρ'' : Ren} {w w' u u' v v' : World} (h : Reach ρ ρ' w w' u u') (k : Reach ρ' ρ'' u u' v v') : Reach ρ ρ'' w w' v v':=by
  refine ⟨Ren.le_trans h.le k.le,h.chs.trans h.le k.chs,k.sim,h.keep.trans k.keep h.le.old (fun a b hab=>(h.new a b hab).imp id (·.2)),fun a b hab=>?_,by have:=h.drawn; have:=k.drawn; omega,k.tape.trans h.tape,Nat.le_trans h.low k.low,Nat.le_trans h.grow k.grow⟩
  rcases k.new a b hab with x | ⟨x,y⟩
  · exact h.new a b x
  · have:=h.keep.size
    have:=h.grow
    exact .inr ⟨by omega,by omega⟩
structure RGo (P : Program) (ρ : Ren) (X : List Frame×List Frame) (g g' : Goroutine) : Prop where
  frame : RFr P ρ g.frame g'.frame
  callers : RFs P ρ X g.callers g'.callers
  kind : Kd X g.frame g'.frame g'.callers
  status : g.status=.running∧g'.status=.running
  dying : g.dying=none∧g'.dying=none
  offers : g.offers=none∧g'.offers=none
def Doomed (g : Goroutine) : Prop:=∃ d f,g.dying=some d∧d.calling=false∧d.fatal=some f
def Lost : GStep→Prop
  | .ended _ _ _=>True
  | .go g _ _=>Doomed g∧g.status=.running
  | _=>False
theorem Lost.noShp {x : GStep} (h : Lost x) : noShp x:=fun y w' es ho e=>by
  subst e
  cases y with
  | go g=>obtain ⟨⟨d,f,h1,-⟩,-⟩:=h; rw [show g.dying=none from ho] at h1; cases h1
  | _=>exact h
theorem Lost.after {x : GStep} (h : Lost x) (E : Array Event) : Lost (GStep.after E x):=by cases x <;> exact h
def AtC (P : Program) (g : Goroutine) (c : CommCase) (s : CommShape) : Prop:=∀ m v,stepG P m g v=.comm g #[c] true s v #[]
inductive StepRel (P : Program) [Two P] (ρ : Ren) (X : List Frame×List Frame) (w w' : World) : GStep→GStep→Prop
  | go {g g' : Goroutine} {u u' : World} (es : Array Event) {es' : Array Event} (ρ' : Ren) (R : Reach ρ ρ' w w' u u') (h : RGo P ρ' X g g') (he : ∀ e∈es',EvOk ρ' e) : StepRel P ρ X w w' (.go g u es) (.go g' u' es')
  | comm {g g' : Goroutine} {c c' : CommCase} (hC : (c.send.isSome=true→ρ.F bigS=true)∧(c.send=none→ρ.F bigC=true)) (s : CommShape) (hs : (c.send.isSome=true∧s=.send)∨(c.send=none∧∃ ok,s=.recv ok)) (hrun : g.status=.running∧g'.status=.running) {u u' : World} (es : Array Event) {es' : Array Event} (ρ' : Ren) (R : Reach ρ ρ' w w' u u') (h : RGo P ρ' X g g') (hc : RC ρ' c c') (he : ∀ e∈es',EvOk ρ' e) (ha : AtC P g c s∧AtC P.alt g c s∧AtC P g' c' s) : StepRel P ρ X w w' (.comm g #[c] true s u es) (.comm g' #[c'] true s u' es')
  | spawn (hC : ρ.F bigM=true) {g g' k k' : Goroutine} {u u' : World} (es : Array Event) {es' : Array Event} (ρ' : Ren) (R : Reach ρ ρ' w w' u u') (h : RGo P ρ' X g g') (hk : RGo P ρ' ([],[]) k k') (he : ∀ e∈es',EvOk ρ' e) : StepRel P ρ X w w' (.spawn g k u es) (.spawn g' k' u' es')
theorem StepRel.after {P : Program} [Two P] {ρ : Ren} {X : List Frame×List Frame} {w w' : World} {x x' : GStep} (h : StepRel P ρ X w w' x x') (E : Array Event) {E' : Array Event} (hE : ∀ ρ',ρ.le ρ'→∀ e∈E',EvOk ρ' e) : StepRel P ρ X w w' (GStep.after E x) (GStep.after E' x'):=by
  have ap : ∀ (ρ' : Ren),ρ.le ρ'→∀ (es' : Array Event),(∀ e∈es',EvOk ρ' e)→∀ e∈E'++es',EvOk ρ' e:=fun ρ' l es' h e he=>by
    rcases Array.mem_append.1 he with h1 | h1
    · exact hE ρ' l e h1
    · exact h e h1
  cases h with
  | go es ρ' R h he=>exact .go _ ρ' R h (ap ρ' R.le _ he)
  | comm hC s hs hrun es ρ' R h hc he ha=>exact .comm hC s hs hrun _ ρ' R h hc (ap ρ' R.le _ he) ha
  | spawn hC es ρ' R h hk he=>exact .spawn hC _ ρ' R h hk (ap ρ' R.le _ he)
structure Apart (P : Program) [Two P] (ρ : Ren) (X : List Frame×List Frame) (w w' : World) (f : FuncId) (ρ' : Ren) (a a' : Array Value) (fr fr' : Frame) (cs cs' : List Frame) (u u' : World) (es es' : Array Event) (x xa x' : GStep) : Prop where
  mark : Mk ρ.F f=true
  reach : Reach ρ ρ' w w' u u'
  args : RVs ρ' a a'∧a.size=2
  frame : RFr P ρ' fr fr'
  callers : RFs P ρ' X cs cs'
  kind : Kd X fr fr' cs'
  ev : ∀ e∈es',EvOk ρ' e
  here : x=.go { frame:=Frame.enter P f a .normal,callers:=fr :: cs,status:=.running,dying:=none } u es
  other : xa=.go { frame:=Frame.enter P.alt f a .normal,callers:=fr :: cs,status:=.running,dying:=none } u es
  there : x'=.go { frame:=Frame.enter P f a' .normal,callers:=fr' :: cs',status:=.running,dying:=none } u' es'
def SR (P : Program) [Two P] (ρ : Ren) (X : List Frame×List Frame) (w w' : World) (x xa x' : GStep) : Prop:=(Lost x∧Lost xa)∨(xa=x∧StepRel P ρ X w w' x x')∨∃ f ρ' a a' fr fr' cs cs' u u' es es',Apart P ρ X w w' f ρ' a a' fr fr' cs cs' u u' es es' x xa x'
structure SF (P : Program) [Two P] (ρ : Ren) (X : List Frame×List Frame) (w w' : World) (f fa : World→GStep) (x' : GStep) : Prop where
  mir : GMir w f
  rel : SR P ρ X w w' (f w) (fa w) x'
theorem Reach.refl {ρ : Ren} {w w' : World} (S : SimW ρ w w') : Reach ρ ρ w w' w w':=⟨Ren.le_refl _,Chs.refl _ _ _,S,Keep.refl _ _,fun _a _b h=>.inl h,rfl,rfl,Nat.le_refl _,Nat.le_refl _⟩
def Same (w w' : World) : Prop:=∀ i,w'.tape (w'.drawn+i)=w.tape (w.drawn+i)
theorem Same.draws {w w' : World} (h : Same w w') (u : World) : Draws w w' u:=fun i _=>h i
theorem StepRel.trans {P : Program} [Two P] {ρ ρ' : Ren} {X : List Frame×List Frame} {w w' u u' : World} (R : Reach ρ ρ' w w' u u') {x x' : GStep} (h : StepRel P ρ' X u u' x x') : StepRel P ρ X w w' x x':=by
  cases h with
  | go es ρ2 R2 h he=>exact .go es ρ2 (R.trans R2) h he
  | comm hC s hs hrun es ρ2 R2 h hc he ha=>exact .comm (by rw [←R.le.F]; exact hC) s hs hrun es ρ2 (R.trans R2) h hc he ha
  | spawn hC es ρ2 R2 h hk he=>exact .spawn (by rw [←R.le.F]; exact hC) es ρ2 (R.trans R2) h hk he
theorem SR.trans {P : Program} [Two P] {ρ ρ' : Ren} {X : List Frame×List Frame} {w w' u u' : World} (R : Reach ρ ρ' w w' u u') {x xa x' : GStep} (h : SR P ρ' X u u' x xa x') : SR P ρ X w w' x xa x':=by
  rcases h with h | ⟨h1,h2⟩ | ⟨f,ρ2,a,a',fr,fr',cs,cs',v,v',es,es',A⟩
  · exact .inl h
  · exact .inr (.inl ⟨h1,h2.trans R⟩)
  · exact .inr (.inr ⟨f,ρ2,a,a',fr,fr',cs,cs',v,v',es,es',⟨by rw [←R.le.F]; exact A.mark,R.trans A.reach,A.args,A.frame,A.callers,A.kind,A.ev,A.here,A.other,A.there⟩⟩)
theorem SR.after {P : Program} [Two P] {ρ : Ren} {X : List Frame×List Frame} {w w' : World} {x xa x' : GStep} (h : SR P ρ X w w' x xa x') (E : Array Event) {E' : Array Event} (hE : ∀ ρ',ρ.le ρ'→∀ e∈E',EvOk ρ' e) : SR P ρ X w w' (GStep.after E x) (GStep.after E xa) (GStep.after E' x'):=by
  rcases h with ⟨h1,h2⟩ | ⟨h1,h2⟩ | ⟨f,ρ2,a,a',fr,fr',cs,cs',v,v',es,es',A⟩
  · exact .inl ⟨h1.after _,h2.after _⟩
  · exact .inr (.inl ⟨by rw [h1],h2.after _ hE⟩)
  · refine .inr (.inr ⟨f,ρ2,a,a',fr,fr',cs,cs',v,v',E++es,E'++es',⟨A.mark,A.reach,A.args,A.frame,A.callers,A.kind,fun e he=>?_,by rw [A.here]; rfl,by rw [A.other]; rfl,by rw [A.there]; rfl⟩⟩)
    rcases Array.mem_append.1 he with h | h
    · exact hE ρ2 A.reach.le e h
    · exact A.ev e h
theorem Reach.same {ρ ρ' : Ren} {w w' u u' : World} (R : Reach ρ ρ' w w' u u') (h : Same w w') : Same u u':=fun i=>by
  have h1:=h (u.drawn - w.drawn+i)
  have h2:=R.drawn
  have h3:=R.low
  rw [R.keep.tape,R.tape,show u'.drawn+i=w'.drawn+(u.drawn - w.drawn+i) by omega,h1,show w.drawn+(u.drawn - w.drawn+i)=u.drawn+i by omega]
section
variable {P : Program} [Two P] {ρ : Ren} {X : List Frame×List Frame} {w w' : World}
theorem sf_go {g g' : Goroutine} (h : RGo P ρ X g g') (S : SimW ρ w w') : SF P ρ X w w' (fun u=>.go g u) (fun u=>.go g u) (.go g' w'):=
  ⟨gmir_go _ _ _,.inr (.inl ⟨rfl,.go _ ρ (Reach.refl S) h (fun e he=>by simp at he)⟩)⟩
theorem sf_end {f fa : World→GStep} {x' : GStep} (h : Lost (f w)) (ha : Lost (fa w)) : SF P ρ X w w' f fa x':=⟨gmir_no _ _ h.noShp,.inl ⟨h,ha⟩⟩
theorem sf_congr {f fa g ga : World→GStep} {x' y' : GStep} (h : SF P ρ X w w' g ga y') (e : ∀ u,f u=g u) (ea : ∀ u,fa u=ga u) (ex : x'=y') : SF P ρ X w w' f fa x':=by
  have e1 : f=g:=funext e
  have e2 : fa=ga:=funext ea
  subst e1; subst e2; subst ex
  exact h
theorem sf_sem {α β : Type} {Q : Ren→α→β→Prop} {s : Sem α} {s' : Sem β} (hs : RS P Q ρ s s') (S : SimW ρ w w') (hd : Same w w') {F Fa : Result α→Array Event→GStep} {F' : Result β→Array Event→GStep}
    (hlost : ∀ h u es,noPanic h=true→Lost (F (.halt h u) es)∧Lost (Fa (.halt h u) es))
    (hok : ∀ ρ' u u' a b es es',Reach ρ ρ' w w' u u'→Q ρ' a b→(∀ e∈es',EvOk ρ' e)→GMir u (fun u=>F (.ok a u) es)∧SR P ρ X w w' (F (.ok a u) es) (Fa (.ok a u) es) (F' (.ok b u') es'))
    (hpan : ∀ ρ' u u' v v' es es',Reach ρ ρ' w w' u u'→RV ρ' v v'→(∀ e∈es',EvOk ρ' e)→GMir u (fun u=>F (.halt (.panic v) u) es)∧SR P ρ X w w' (F (.halt (.panic v) u) es) (Fa (.halt (.panic v) u) es) (F' (.halt (.panic v') u') es')) :
    SF P ρ X w w' (fun u=>F (s.runT P u #[]).1 (s.runT P u #[]).2) (fun u=>Fa (s.runT P.alt u #[]).1 (s.runT P.alt u #[]).2) (F' (s'.runT P w' #[]).1 (s'.runT P w' #[]).2):=by
  obtain ⟨hm,hout⟩:=run_rel hs w w' #[] #[] S (hd.draws _)
  rcases hout with ⟨⟨h,u,hr,hn⟩,⟨ha,ua,hra,hna⟩⟩ | ⟨halt,ρ',l,S',hR,K,N,D,E,G,C⟩
  · refine sf_end ?_ ?_
    · simp only [hr]; exact (hlost h u _ hn).1
    · simp only [hra]; exact (hlost ha ua _ hna).2
  · obtain ⟨E0,hE1,hE2⟩:=E
    have hev : ∀ e∈(s'.runT P w' #[]).2,EvOk ρ' e:=fun e he=>by rw [hE1] at he; exact hE2 e (by simpa using he)
    cases hr : s.runT P w #[] with
    | mk r es=>
      cases hr' : s'.runT P w' #[] with
      | mk r' es'=>
        rw [hr] at hR S' D halt G C
        rw [hr'] at hR S' D K hev C
        simp only at hR S' D K hev G C
        have key : GMir w (fun u=>F (s.runT P u #[]).1 (s.runT P u #[]).2)∧SR P ρ X w w' (F r es) (Fa r es) (F' r' es'):=by
          cases hR with
          | @ok a b u u' h=>
            have R : Reach ρ ρ' w w' u u':=⟨l,C,S',K,N,D,by have:=hm.1; rw [hr] at this; exact this,by have:=hm.2.1; rw [hr] at this; exact this,G⟩
            obtain ⟨k1,k2⟩:=hok ρ' u u' a b es es' R h hev
            refine ⟨?_,k2⟩
            intro x v es2 hx e
            replace e : F (s.runT P w #[]).1 (s.runT P w #[]).2=x.mk v es2:=e
            obtain ⟨h1,h2,h3⟩:=hm
            rw [hr] at e h1 h2 h3
            simp only [Result.w,Result.on] at e h1 h2 h3
            obtain ⟨q1,q2,q3⟩:=k1 _ _ _ hx e
            refine ⟨q1.trans h1,by omega,fun τ d hl=>?_⟩
            have hm2:=h3 τ d (like_left hl q2)
            simp only [hm2]
            have:=q3 τ (d+(u.drawn - w.drawn)) (like_right hl h1 h2)
            simp only at this
            rw [this]
            congr 2
            omega
          | @halt a b u u' h=>
            have R : Reach ρ ρ' w w' u u':=⟨l,C,S',K,N,D,by have:=hm.1; rw [hr] at this; exact this,by have:=hm.2.1; rw [hr] at this; exact this,G⟩
            cases h with
            | panic hv=>
              obtain ⟨k1,k2⟩:=hpan ρ' u u' _ _ es es' R hv hev
              refine ⟨?_,k2⟩
              intro x v es2 hx e
              replace e : F (s.runT P w #[]).1 (s.runT P w #[]).2=x.mk v es2:=e
              obtain ⟨h1,h2,h3⟩:=hm
              rw [hr] at e h1 h2 h3
              simp only [Result.w,Result.on] at e h1 h2 h3
              obtain ⟨q1,q2,q3⟩:=k1 _ _ _ hx e
              refine ⟨q1.trans h1,by omega,fun τ d hl=>?_⟩
              have hm2:=h3 τ d (like_left hl q2)
              simp only [hm2]
              have:=q3 τ (d+(u.drawn - w.drawn)) (like_right hl h1 h2)
              simp only at this
              rw [this]
              congr 2
              omega
        refine ⟨key.1,?_⟩
        simp only [hr,halt]
        exact key.2
theorem sf_sem2 {α β : Type} {Q : Ren→α→β→Prop} {s : Sem α} {s' : Sem β} (hs : RS P Q ρ s s') (S : SimW ρ w w') (hd : Same w w') {f fa : World→GStep} {x' : GStep}
    (hlost : ∀ h u es,noPanic h=true→(s.runT P w #[]=(.halt h u,es)→Lost (f w))∧(s.runT P.alt w #[]=(.halt h u,es)→Lost (fa w)))
    (hok : ∀ ρ' u u' a b es es',Reach ρ ρ' w w' u u'→Q ρ' a b→(∀ e∈es',EvOk ρ' e)→s'.runT P w' #[]=(.ok b u',es') →
      ∃ x E,(∀ z v,s.runT P z #[]=(.ok a v,es)→f z=Shp.mk x v E)∧(∀ z v,s.runT P.alt z #[]=(.ok a v,es)→fa z=Shp.mk x v E)∧StepRel P ρ X w w' (Shp.mk x u E) x')
    (hpan : ∀ ρ' u u' v v' es es',Reach ρ ρ' w w' u u'→RV ρ' v v'→(∀ e∈es',EvOk ρ' e)→s'.runT P w' #[]=(.halt (.panic v') u',es') →
      ∃ x E,(∀ z q,s.runT P z #[]=(.halt (.panic v) q,es)→f z=Shp.mk x q E)∧(∀ z q,s.runT P.alt z #[]=(.halt (.panic v) q,es)→fa z=Shp.mk x q E)∧StepRel P ρ X w w' (Shp.mk x u E) x') :
    SF P ρ X w w' f fa x':=by
  obtain ⟨hm,hout⟩:=run_rel hs w w' #[] #[] S (hd.draws _)
  rcases hout with ⟨⟨h,u,hr,hn⟩,⟨ha,ua,hra,hna⟩⟩ | ⟨halt,ρ',l,S',hR,K,N,D,E,G,C⟩
  · refine sf_end ((hlost h u (s.runT P w #[]).2 hn).1 ?_) ((hlost ha ua (s.runT P.alt w #[]).2 hna).2 ?_)
    · rw [←hr]
    · rw [←hra]
  · obtain ⟨E0,hE1,hE2⟩:=E
    have hev : ∀ e∈(s'.runT P w' #[]).2,EvOk ρ' e:=fun e he=>by rw [hE1] at he; exact hE2 e (by simpa using he)
    cases hr : s.runT P w #[] with
    | mk r es=>
      cases hr' : s'.runT P w' #[] with
      | mk r' es'=>
        rw [hr] at hR S' D halt G C
        rw [hr'] at hR S' D K hev C
        simp only at hR S' D K hev G C
        have fin : ∀ (x : Shp) (E : Array Event) (u : World),r.w=u→f w=x.mk u E→(∀ τ d,Like w u τ d→f (w.on τ d)=x.mk (u.on τ (d+(u.drawn - w.drawn))) E)→GMir w f:=by
          intro x E u hu h1 h2 y v es2 hy e
          rw [h1] at e
          obtain ⟨rfl,rfl,rfl⟩:=Shp.mk_inj e
          have k1:=hm.1
          have k2:=hm.2.1
          rw [hr] at k1 k2
          simp only [hu] at k1 k2
          exact ⟨k1,k2,h2⟩
        have m3:=hm.2.2
        rw [hr] at m3
        cases hR with
        | @ok a b u u' h=>
          have R : Reach ρ ρ' w w' u u':=⟨l,C,S',K,N,D,by have:=hm.1; rw [hr] at this; exact this,by have:=hm.2.1; rw [hr] at this; exact this,G⟩
          obtain ⟨x,E,q1,q2,q3⟩:=hok ρ' u u' a b es es' R h hev hr'
          refine ⟨fin x E u rfl (q1 w u hr) (fun τ d hl=>q1 _ _ (m3 τ d hl)),.inr (.inl ⟨?_,?_⟩)⟩
          · rw [q1 w u hr,q2 w u halt]
          · rw [q1 w u hr]; exact q3
        | @halt a b u u' h=>
          have R : Reach ρ ρ' w w' u u':=⟨l,C,S',K,N,D,by have:=hm.1; rw [hr] at this; exact this,by have:=hm.2.1; rw [hr] at this; exact this,G⟩
          cases h with
          | panic hv=>
            obtain ⟨x,E,q1,q2,q3⟩:=hpan ρ' u u' _ _ es es' R hv hev hr'
            refine ⟨fin x E u rfl (q1 w u hr) (fun τ d hl=>q1 _ _ (m3 τ d hl)),.inr (.inl ⟨?_,?_⟩)⟩
            · rw [q1 w u hr,q2 w u halt]
            · rw [q1 w u hr]; exact q3
end
theorem finish_kind (f : Frame) (v : Value) : (f.finish v).kind=f.kind:=by
  unfold Frame.finish
  split <;> rfl
theorem raise_kind (f : Frame) (c : List PanicEntry) : (f.raise c).kind=f.kind:=by
  unfold Frame.raise
  split <;> rfl
theorem finish_round (f : Frame) (v : Value) : (f.finish v).roundOf=f.roundOf:=by
  unfold Frame.finish
  split <;> rfl
theorem raise_round (f : Frame) (c : List PanicEntry) : (f.raise c).roundOf=f.roundOf:=by
  unfold Frame.raise
  split <;> rfl
theorem Kd.finish {X : List Frame×List Frame} {f f' : Frame} {l : List Frame} (h : Kd X f f' l) (v v' : Value) : Kd X (f.finish v) (f'.finish v') l:=⟨fun k=>by rw [finish_kind,finish_kind]; exact h.1 k,fun k=>by rw [finish_round]; exact h.2 k⟩
theorem Kd.raise {X : List Frame×List Frame} {f f' : Frame} {l : List Frame} (h : Kd X f f' l) (c c' : List PanicEntry) : Kd X (f.raise c) (f'.raise c') l:=⟨fun k=>by rw [raise_kind,raise_kind]; exact h.1 k,fun k=>by rw [raise_round]; exact h.2 k⟩
theorem Kd.push {P : Program} {ρ : Ren} {X : List Frame×List Frame} {f f' g : Frame} {l l' : List Frame} (hl : RFs P ρ X l l') (h : f.kind=f'.kind) : Kd X f f' (g :: l'):=⟨fun _=>h,fun k=>absurd k hl.ne⟩
section
variable {P : Program} {ρ : Ren} {X : List Frame×List Frame} {w w' : World}
theorem RPn.append {l l' k k' : List PanicEntry} (h : RPn ρ l l') (hk : RPn ρ k k') : RPn ρ (l++k) (l'++k'):=by
  induction h with
  | nil=>exact hk
  | cons r g h _ ih=>exact .cons r g h ih
theorem RFr.raise {f f' : Frame} (h : RFr P ρ f f') {c c' : List PanicEntry} (hv : RPn ρ c c') : RFr P ρ (f.raise c) (f'.raise c'):=by
  unfold Frame.raise
  have hm:=h.mode
  cases h1 : f.mode <;> cases h2 : f'.mode <;> rw [h1,h2] at hm <;> cases hm
  · exact ⟨h.fn,h.tmps,h.todo,h.defers,.panicking hv,h.early,h.round⟩
  · exact ⟨h.fn,h.tmps,h.todo,h.defers,.panicking hv,h.early,h.round⟩
  · rename_i hl
    exact ⟨h.fn,h.tmps,h.todo,h.defers,.panicking (hv.append hl),h.early,h.round⟩
theorem RFr.raise1 {f f' : Frame} (h : RFr P ρ f f') {v v' : Value} (hv : RV ρ v v') : RFr P ρ (f.raise [{ v,recovered:=false }]) (f'.raise [{ v:=v',recovered:=false }]):=h.raise (.cons _ _ hv .nil)
theorem RIs.no_call {l l' : List Item} (h : RIs P ρ l l') : (∀ d b r s k,l≠.call d b r s :: k)∧(∀ d b r s k,l'≠.call d b r s :: k):=by
  cases h with
  | nil=>exact ⟨fun _ _ _ _ _ e=>by simp at e,fun _ _ _ _ _ e=>by simp at e⟩
  | cons h _=>cases h <;> exact ⟨fun _ _ _ _ _ e=>by simp at e,fun _ _ _ _ _ e=>by simp at e⟩
theorem any_norace [Two P] (hI : GId P ρ) (f : FuncId) : (P.alt.funcs[f]?).any (·.norace)=(P.funcs[f]?).any (·.norace):=by
  have h:=hI.same f
  generalize P.alt.funcs[f]?=a at h
  generalize P.funcs[f]?=b at h
  cases a <;> cases b <;> simp [strip] at h ⊢
  exact h.2.2.2.2.2.2.2.2.2.1
theorem seen_alt [Two P] (hI : GId P ρ) (f : FuncId) (es : Array Event) : seen P.alt f es=seen P f es:=by
  unfold seen
  simp only [any_norace hI]
theorem noResult_eq {f f' : Frame} (h : RFr P ρ f f') : Frame.noResult P f=Frame.noResult P f':=by
  have ht:=h.todo
  unfold Frame.noResult Frame.oper?
  generalize f.todo=td at ht
  generalize f'.todo=td' at ht
  cases ht with
  | nil=>rfl
  | cons hi hk=>
    cases hi with
    | inRegion l h=>cases l <;> rfl
    | _=>rfl
def applyF (p : Program) (fr : Frame) (cs : List Frame) : Result Next→Array Event→GStep
  | .ok a u,es=>GStep.after (seen p fr.fn es) (stepG.apply p true fr cs none (.pure a) u)
  | .halt a u,es=>GStep.after (seen p fr.fn (haltEs a es)) (stepG.apply p true fr cs none (.halt a) u)
theorem apply_eq (p : Program) (fr : Frame) (hk : (fr.kind == .early)=false) (cs : List Frame) (s : Sem Next) (u : World) : stepG.apply p true fr cs none s u=applyF p fr cs (s.runT p u #[]).1 (s.runT p u #[]).2:=by
  cases hr : s.runT p u #[] with
  | mk r es=>
    cases r with
    | ok a v=>rw [apply_ok hr]; simp only [hk,applyF]; rfl
    | halt a v=>rw [apply_halt hr]; simp only [hk,applyF]; rfl
theorem apply_enter (p : Program) (fr : Frame) (cs : List Frame) (f : FuncId) (a : Array Value) (u : World) (h : ∀ d b r s k,fr.todo≠.call d b r s :: k) : stepG.apply p true fr cs none (.pure (.enter f a)) u=.go { frame:=Frame.enter p f a .normal,callers:=fr :: cs,status:=.running,dying:=none } u:=by
  have sn : ∀ (p : Program) (f : FuncId) (k : CallKind),seen p f (if k == .early then #[] else #[])=#[]:=fun p f k=>by split <;> exact seen_nil _ _
  simp only [stepG.apply,Sem.runT,if_true,sn,after_nil]
  split
  · rename_i d r s k e; exact absurd e (h d true r s k)
  · rfl
variable [Two P]
theorem apply_pure_sf (hI : GId P ρ) {ρ' : Ren} {u u' : World} (R : Reach ρ ρ' w w' u u') {fr fr' : Frame} (hf : RFr P ρ' fr fr') {cs cs' : List Frame} (hc : RFs P ρ' X cs cs') (hkd : Kd X fr fr' cs') {a b : Next} (h : RX ρ' a b) (E : Array Event) {E' : Array Event} (hE : ∀ e∈E',EvOk ρ' e) :
    GMir u (fun u=>GStep.after E (stepG.apply P true fr cs none (.pure a) u))∧SR P ρ X w w' (GStep.after E (stepG.apply P true fr cs none (.pure a) u)) (GStep.after E (stepG.apply P.alt true fr cs none (.pure a) u)) (GStep.after E' (stepG.apply P true fr' cs' none (.pure b) u')):=by
  have hI':=hI.mono R.le
  have ev : ∀ e∈E'++#[],EvOk ρ' e:=by simpa using hE
  have sn : ∀ (p : Program) (f : FuncId) (k : CallKind),seen p f (if k == .early then #[] else #[])=#[]:=fun p f k=>by split <;> exact seen_nil _ _
  cases h with
  | value hv=>
    simp only [stepG.apply,Sem.runT,if_true,sn,after_nil]
    exact ⟨gmir_after _ (gmir_go _ _ _),.inr (.inl ⟨rfl,.go _ ρ' R ⟨hf.finish hv,hc,hkd.finish _ _,⟨rfl,rfl⟩,⟨rfl,rfl⟩,rfl,rfl⟩ ev⟩)⟩
  | skip=>
    simp only [stepG.apply,Sem.runT,if_true,sn,after_nil]
    exact ⟨gmir_after _ (gmir_go _ _ _),.inr (.inl ⟨rfl,.go _ ρ' R ⟨hf.finish rv_undef,hc,hkd.finish _ _,⟨rfl,rfl⟩,⟨rfl,rfl⟩,rfl,rfl⟩ ev⟩)⟩
  | enter f hF ha=>
    simp only [apply_enter _ _ _ _ _ _ hf.todo.no_call.1,apply_enter _ _ _ _ _ _ hf.todo.no_call.2]
    refine ⟨gmir_after _ (gmir_go _ _ _),.inr (.inl ⟨?_,.go _ ρ' R ⟨RFr.enter hI' f hF _ rfl (by simp) ha,.cons hf hkd hc,Kd.push hc rfl,⟨rfl,rfl⟩,⟨rfl,rfl⟩,rfl,rfl⟩ ev⟩)⟩
    rw [enter_alt hI' f hF]
  | round hl f ht a b ha hb=>
    simp only [stepG.apply,Sem.runT,if_true,sn,after_nil]
    refine ⟨gmir_after _ (gmir_go _ _ _),.inr (.inl ⟨rfl,.go _ ρ' R ⟨⟨rfl,ht,?_,.nil,.run,⟨rfl,rfl,by simp [Frame.round]⟩,.some hl⟩,.cons hf hkd hc,Kd.push hc rfl,⟨rfl,rfl⟩,⟨rfl,rfl⟩,rfl,rfl⟩ ev⟩)⟩
    rw [hI'.prog] at ha hb
    exact .cons (.code ha) (.cons .beginRound (.cons (.code hb) .nil))
  | @defer hS d d' hd=>
    simp only [stepG.apply,Sem.runT,if_true,sn,after_nil]
    have hf2 : RFr P ρ' { fr with defers:=d :: fr.defers } { fr' with defers:=d' :: fr'.defers }:=⟨hf.fn,hf.tmps,hf.todo,.cons hd hf.defers (.inr hS),hf.mode,hf.early,hf.round⟩
    exact ⟨gmir_after _ (gmir_go _ _ _),.inr (.inl ⟨rfl,.go _ ρ' R ⟨hf2.finish rv_undef,hc,(show Kd X { fr with defers:=d :: fr.defers } { fr' with defers:=d' :: fr'.defers } cs' from hkd).finish _ _,⟨rfl,rfl⟩,⟨rfl,rfl⟩,rfl,rfl⟩ ev⟩)⟩
  | @spawn hC d d' hd=>
    simp only [stepG.apply,Sem.runT,if_true,sn,after_nil]
    have hs:=hd.args.size
    have ht:=hd.target
    obtain ⟨t,a⟩:=d
    obtain ⟨t',a'⟩:=d'
    simp only at hs ht
    have e1 : a.isEmpty=a'.isEmpty:=by simp only [Array.isEmpty,hs]
    have e2 : Frame.noResult P fr=Frame.noResult P fr':=noResult_eq hf
    have e3 : Frame.noResult P.alt fr=Frame.noResult P fr:=rfl
    have hk : RFr P ρ' { (default : Frame) with fn:=P.funcs.size,defers:=[⟨t,a⟩],mode:=.panicking [goexitEntry] } { (default : Frame) with fn:=P.funcs.size,defers:=[⟨t',a'⟩],mode:=.panicking [goexitEntry] }:=
      { fn:=rfl,tmps:=RVs.nil,todo:=.nil,defers:=RDs.cons hd RDs.nil (.inr (by rw [hC,Bool.or_true])),mode:=RM.panicking (RPn.cons _ _ rv_undef RPn.nil),early:=⟨rfl,rfl,by simp [default,instInhabitedFrame.default,instInhabitedCallKind.default]⟩,round:=.none }
    have fin : SR P ρ X w w' (GStep.after E (.spawn { frame:=fr.finish undef,callers:=cs,status:=.running,dying:=none } { frame:={ (default : Frame) with fn:=P.funcs.size,defers:=[⟨t,a⟩],mode:=.panicking [goexitEntry] },callers:=[],status:=.running,dying:=none } u)) (GStep.after E (.spawn { frame:=fr.finish undef,callers:=cs,status:=.running,dying:=none } { frame:={ (default : Frame) with fn:=P.alt.funcs.size,defers:=[⟨t,a⟩],mode:=.panicking [goexitEntry] },callers:=[],status:=.running,dying:=none } u)) (GStep.after E' (.spawn { frame:=fr'.finish undef,callers:=cs',status:=.running,dying:=none } { frame:={ (default : Frame) with fn:=P.funcs.size,defers:=[⟨t',a'⟩],mode:=.panicking [goexitEntry] },callers:=[],status:=.running,dying:=none } u')):=
      .inr (.inl ⟨by rw [hI'.size],.spawn (by rw [←R.le.F]; exact hC) _ ρ' R ⟨hf.finish rv_undef,hc,hkd.finish _ _,⟨rfl,rfl⟩,⟨rfl,rfl⟩,rfl,rfl⟩ ⟨hk,.base,⟨fun _=>rfl,fun _=>rfl⟩,⟨rfl,rfl⟩,⟨rfl,rfl⟩,rfl,rfl⟩ ev⟩)
    have lost : ∀ (fr : Frame) (u : World), Lost (endThrow fr "go of nil func value" u) := fun fr u => by unfold endThrow dieOf; exact ⟨⟨_, _, rfl, rfl, rfl⟩, rfl⟩
    cases ht with
    | nil=>
      dsimp only
      rw [←e1,←e2,e3]
      have ef : P.alt.follows .goNilFatal=P.follows .goNilFatal:=rfl
      rw [ef]
      by_cases hx : (P.follows .goNilFatal && true && a.isEmpty && Frame.noResult P fr)=true
      · simp only [hx,if_true]
        exact ⟨gmir_no _ _ ((lost _ _).after _).noShp,.inl ⟨(lost _ _).after _,(lost _ _).after _⟩⟩
      · simp only [hx]
        exact ⟨gmir_after _ (gmir_mk _ (.spawn _ _) _),fin⟩
    | _=>
      simp only [Bool.and_false,Bool.false_and,Bool.false_eq_true,if_false]
      exact ⟨gmir_after _ (gmir_mk _ (.spawn _ _) _),fin⟩
theorem apply_pure_sf1 (hI : GId P ρ) {ρ' : Ren} {u u' : World} (R : Reach ρ ρ' w w' u u') {fr fr' : Frame} (hf : RFr P ρ' fr fr') {cs cs' : List Frame} (hc : RFs P ρ' X cs cs') (hkd : Kd X fr fr' cs') {a b : Next} (h : RX1 ρ' a b) (E : Array Event) {E' : Array Event} (hE : ∀ e∈E',EvOk ρ' e) :
    GMir u (fun u=>GStep.after E (stepG.apply P true fr cs none (.pure a) u))∧SR P ρ X w w' (GStep.after E (stepG.apply P true fr cs none (.pure a) u)) (GStep.after E (stepG.apply P.alt true fr cs none (.pure a) u)) (GStep.after E' (stepG.apply P true fr' cs' none (.pure b) u')):=by
  cases h with
  | of h=>exact apply_pure_sf hI R hf hc hkd h E hE
  | @mk f hM a a' ha hs2=>
    simp only [apply_enter _ _ _ _ _ _ hf.todo.no_call.1,apply_enter _ _ _ _ _ _ hf.todo.no_call.2]
    refine ⟨gmir_after _ (gmir_go _ _ _),.inr (.inr ⟨f,ρ',a,a',fr,fr',cs,cs',u,u',E++#[],E'++#[],⟨by rw [←R.le.F]; exact hM,R,⟨ha,hs2⟩,hf,hc,hkd,by simpa using hE,rfl,rfl,rfl⟩⟩)⟩
theorem apply_sf (hI : GId P ρ) {fr fr' : Frame} (hf : RFr P ρ fr fr') {cs cs' : List Frame} (hc : RFs P ρ X cs cs') (hkd : Kd X fr fr' cs') {s s' : Sem Next} (hs : RS P RX1 ρ s s') (S : SimW ρ w w') (hd : Same w w') :
    SF P ρ X w w' (fun u=>stepG.apply P true fr cs none s u) (fun u=>stepG.apply P.alt true fr cs none s u) (stepG.apply P true fr' cs' none s' w'):=by
  have hk' : (fr'.kind == .early)=false:=hf.early.2.1
  refine sf_congr (sf_sem hs S hd (F:=applyF P fr cs) (Fa:=applyF P.alt fr cs) (F':=applyF P fr' cs') ?_ ?_ ?_) (fun u=>apply_eq P fr hf.early.1 cs s u) (fun u=>apply_eq P.alt fr hf.early.1 cs s u) (apply_eq P fr' hk' cs' s' w')
  · intro h u es hn
    have key : ∀ p : Program,Lost (applyF p fr cs (.halt h u) es):=fun p=>by
      refine Lost.after ?_ _
      unfold stepG.apply
      simp only [Sem.runT,if_true]
      refine Lost.after ?_ _
      cases h with
      | stuck s=>exact trivial
      | unsupported x=>cases x <;> first | exact trivial | simp [noPanic] at hn
      | throw m=>show Lost (endThrow fr m u); unfold endThrow dieOf; exact ⟨⟨_,_,rfl,rfl,rfl⟩,rfl⟩
      | _=>simp [noPanic] at hn
    exact ⟨key P,key P.alt⟩
  · intro ρ' u u' a b es es' R hq he
    obtain ⟨k1,k2⟩:=apply_pure_sf1 hI R (hf.mono R.le) (hc.mono R.le) hkd hq (seen P fr.fn es) (E':=seen P fr'.fn es') (fun e h=>he e (mem_seen h))
    refine ⟨k1,?_⟩
    show SR P ρ X w w' _ (GStep.after (seen P.alt fr.fn es) (stepG.apply P.alt true fr cs none (.pure a) u)) _
    rw [seen_alt hI]
    exact k2
  · intro ρ' u u' v v' es es' R hv he
    have e1 : ∀ (p : Program) (f : Frame) (c : List Frame) (x : Value) (z : World),stepG.apply p true f c none (.halt (.panic x)) z=.go { frame:=f.raise [{ v:=x,recovered:=false }],callers:=c,status:=.running,dying:=none } z:=fun p f c x z=>by
      have sn : ∀ (p : Program) (f : FuncId) (k : CallKind),seen p f (if k == .early then #[] else #[])=#[]:=fun p f k=>by split <;> exact seen_nil _ _
      simp only [stepG.apply,Sem.runT,if_true,sn,after_nil]
    simp only [applyF,e1,haltEs,seen_alt hI]
    exact ⟨gmir_after _ (gmir_go _ _ _),.inr (.inl ⟨rfl,.go _ ρ' R ⟨(hf.mono R.le).raise1 hv,hc.mono R.le,hkd.raise _ _,⟨rfl,rfl⟩,⟨rfl,rfl⟩,rfl,rfl⟩ (fun e h=>he e (mem_seen (by simpa using h)))⟩)⟩
theorem to_sf (S : SimW ρ w w') {fr fr' : Frame} (hf : RFr P ρ fr fr') {cs cs' : List Frame} (hc : RFs P ρ X cs cs') (hkd : Kd X fr fr' cs') {k k' : List Item} (hk : RIs P ρ k k') :
    SF P ρ X w w' (fun u=>.go { frame:={ fr with todo:=k },callers:=cs,status:=.running,dying:=none } u) (fun u=>.go { frame:={ fr with todo:=k },callers:=cs,status:=.running,dying:=none } u) (.go { frame:={ fr' with todo:=k' },callers:=cs',status:=.running,dying:=none } w'):=
  sf_go ⟨⟨hf.fn,hf.tmps,hk,hf.defers,hf.mode,hf.early,hf.round⟩,hc,hkd,⟨rfl,rfl⟩,⟨rfl,rfl⟩,rfl,rfl⟩ S
omit [Two P] in
theorem exitTo_rel (id : Nat) {k k' : List Item} (h : RIs P ρ k k') : (exitTo id k=none∧exitTo id k'=none)∨∃ t t',exitTo id k=some t∧exitTo id k'=some t'∧RIs P ρ t t':=by
  induction h with
  | nil=>exact .inl ⟨rfl,rfl⟩
  | cons hi hk ih=>
    cases hi with
    | inBlock id'=>
      unfold exitTo
      split
      · exact .inr ⟨_,_,rfl,rfl,hk⟩
      · exact ih
    | _=>exact ih
omit [Two P] in
theorem findLabel_ok (F : FuncId→Bool) (l : Nat) : ∀ (c c' : Code),okCode P F c=true→findLabel c l=some c'→okCode P F c'=true:=by
  intro c
  induction c with
  | seq a b iha ihb=>
    intro c' h e
    simp only [okCode,Bool.and_eq_true] at h
    unfold findLabel at e
    split at e
    · rename_i rest hr
      cases e
      simp only [okCode,Bool.and_eq_true]
      exact ⟨iha rest h.1 hr,h.2⟩
    · exact ihb c' h.2 e
  | label l'=>
    intro c' h e
    unfold findLabel at e
    split at e
    · cases e; rfl
    · cases e
  | _=>intro c' h e; simp [findLabel] at e
omit [Two P] in
theorem gotoIn_rel (l : Nat) {k k' : List Item} (h : RIs P ρ k k') : (gotoIn l k=none∧gotoIn l k'=none)∨∃ t t',gotoIn l k=some t∧gotoIn l k'=some t'∧RIs P ρ t t':=by
  induction h with
  | nil=>exact .inl ⟨rfl,rfl⟩
  | cons hi hk ih=>
    cases hi with
    | @inScope body hb=>
      unfold gotoIn
      cases hr : findLabel body l with
      | none=>exact ih
      | some rest=>exact .inr ⟨_,_,rfl,rfl,.cons (.code (findLabel_ok _ l body rest hb hr)) (.cons (.inScope hb) hk)⟩
    | _=>exact ih
end
end Go.Proofs.YtnapepbdohidgaaGreatDoorQ
