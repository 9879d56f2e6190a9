/- Part of a proof. -/
import Derived.Test.YtnapepbdohidgaaGreatDoorQM07
namespace Go.Proofs.YtnapepbdohidgaaGreatDoorQ
open Go
section
variable {P : Program} {ρ : Ren} {X : List Frame×List Frame} {w w' : World}
theorem yielded_eq {c c' : Array Value} (h : RVs ρ c c') (ops : Array Oper) : yielded ops c=yielded ops c':=by
  funext j
  unfold yielded
  cases (ops[j]?).bind (·.dst) with
  | none=>rfl
  | some d=>
    simp only [Option.bind_some]
    rcases h.get d with ⟨h1,h2⟩ | ⟨v,v',h1,h2,hv⟩
    · rw [h1,h2]
    · rw [h1,h2]
      cases hv with
      | dead v' h=>cases v' <;> first | rfl | simp [deadV] at h
      | _=>rfl
theorem RPn.drop {l l' : List PanicEntry} (h : RPn ρ l l') : RPn ρ (l.dropWhile (!·.goexit)) (l'.dropWhile (!·.goexit)):=by
  induction h with
  | nil=>exact .nil
  | cons r g h hl ih=>
    cases g with
    | true=>exact .cons r true h hl
    | false=>exact ih
theorem RDs.append {a a' b b' : List Deferred} (h : RDs ρ a a') (k : RDs ρ b b') : RDs ρ (a++b) (a'++b'):=by
  induction h with
  | nil=>exact k
  | cons h _ hS ih=>exact .cons h ih hS
variable [Two P]
def Base (X : List Frame×List Frame) (fr : Frame) (cs' : List Frame) : Prop:=cs'=X.2→fr.mode=.run∨fr.defers≠[]
theorem doReturn_sr (m : Bool) {ρ' : Ren} {u u' : World} (R : Reach ρ ρ' w w' u u') {fr fr' : Frame} (hf : RFr P ρ' fr fr') {cs cs' : List Frame} (hc : RFs P ρ' X cs cs') (hkd : Kd X fr fr' cs') (hin : cs'≠X.2) {v v' : Value} (hv : RV ρ' v v') (E : Array Event) {E' : Array Event} (hE : ∀ e∈E',EvOk ρ' e) :
    GMir u (fun u=>GStep.after E (doReturn P m fr cs none v u))∧SR P ρ X w w' (GStep.after E (doReturn P m fr cs none v u)) (GStep.after E (doReturn P.alt m fr cs none v u)) (GStep.after E' (doReturn P m fr' cs' none v' u')):=by
  have ev : ∀ e∈E'++#[],EvOk ρ' e:=by simpa using hE
  have hke:=hf.early.1
  unfold doReturn
  rw [←hkd.1 (.inl hin)]
  cases hc with
  | @cons c c' l l' hk hk2 hl=>
    cases hkind : fr.kind with
    | normal=>exact ⟨gmir_after _ (gmir_go _ _ _),.inr (.inl ⟨rfl,.go _ ρ' R ⟨hk.finish hv,hl,hk2.finish _ _,⟨rfl,rfl⟩,⟨rfl,rfl⟩,rfl,rfl⟩ ev⟩)⟩
    | wrapped=>exact ⟨gmir_after _ (gmir_go _ _ _),.inr (.inl ⟨rfl,.go _ ρ' R ⟨hk.finish hv,hl,hk2.finish _ _,⟨rfl,rfl⟩,⟨rfl,rfl⟩,rfl,rfl⟩ ev⟩)⟩
    | early=>rw [hkind] at hke; simp at hke
    | _=>
      dsimp only
      have hm:=hk.mode
      cases h1 : Frame.mode _ <;> cases h2 : Frame.mode _ <;> rw [h1,h2] at hm <;> cases hm
      · exact ⟨gmir_after _ (gmir_go _ _ _),.inr (.inl ⟨rfl,.go _ ρ' R ⟨hk,hl,hk2,⟨rfl,rfl⟩,⟨rfl,rfl⟩,rfl,rfl⟩ ev⟩)⟩
      · exact ⟨gmir_after _ (gmir_go _ _ _),.inr (.inl ⟨rfl,.go _ ρ' R ⟨hk,hl,hk2,⟨rfl,rfl⟩,⟨rfl,rfl⟩,rfl,rfl⟩ ev⟩)⟩
      · rename_i hp
        cases hp with
        | nil=>exact ⟨gmir_after _ (gmir_go _ _ _),.inr (.inl ⟨rfl,.go _ ρ' R ⟨hk,hl,hk2,⟨rfl,rfl⟩,⟨rfl,rfl⟩,rfl,rfl⟩ ev⟩)⟩
        | cons r g hv2 hl2=>
          cases r with
          | false=>exact ⟨gmir_after _ (gmir_go _ _ _),.inr (.inl ⟨rfl,.go _ ρ' R ⟨hk,hl,hk2,⟨rfl,rfl⟩,⟨rfl,rfl⟩,rfl,rfl⟩ ev⟩)⟩
          | true=>
            dsimp only
            have hd:=hl2.drop
            generalize List.dropWhile _ _=A at hd ⊢
            generalize List.dropWhile _ _=B at hd ⊢
            cases hd with
            | nil=>exact ⟨gmir_after _ (gmir_go _ _ _),.inr (.inl ⟨rfl,.go _ ρ' R ⟨⟨hk.fn,hk.tmps,hk.todo,hk.defers,.returning,hk.early,hk.round⟩,hl,hk2,⟨rfl,rfl⟩,⟨rfl,rfl⟩,rfl,rfl⟩ ev⟩)⟩
            | cons r g h hl3=>exact ⟨gmir_after _ (gmir_go _ _ _),.inr (.inl ⟨rfl,.go _ ρ' R ⟨⟨hk.fn,hk.tmps,hk.todo,hk.defers,.panicking (.cons r g h hl3),hk.early,hk.round⟩,hl,hk2,⟨rfl,rfl⟩,⟨rfl,rfl⟩,rfl,rfl⟩ ev⟩)⟩
  | base=>exact absurd rfl hin
theorem leave_sf (hI : GId P ρ) (m : Bool) {fr fr' : Frame} (hf : RFr P ρ fr fr') {cs cs' : List Frame} (hc : RFs P ρ X cs cs') (hkd : Kd X fr fr' cs') (hin : cs'≠X.2) (S : SimW ρ w w') (hd : Same w w') {l l' : Nat} (hl : ρ l l') (j : Option Code) (hj : ∀ c,j=some c→okCode ρ.prog ρ.F c=true) :
    SF P ρ X w w' (fun u=>GStep.after (seen P fr.fn ((Instr.endRound l j).runT P u #[]).2) (match ((Instr.endRound l j).runT P u #[]).1 with
        | .ok v w=>doReturn P m fr cs none v w
        | .halt _ w => .ended (.stuck "range over a function: no such loop" (fr.pos P)) w))
      (fun u=>GStep.after (seen P.alt fr.fn ((Instr.endRound l j).runT P.alt u #[]).2) (match ((Instr.endRound l j).runT P.alt u #[]).1 with
        | .ok v w=>doReturn P.alt m fr cs none v w
        | .halt _ w => .ended (.stuck "range over a function: no such loop" (fr.pos P.alt)) w))
      (GStep.after (seen P fr'.fn ((Instr.endRound l' j).runT P w' #[]).2) (match ((Instr.endRound l' j).runT P w' #[]).1 with
        | .ok v w=>doReturn P m fr' cs' none v w
        | .halt _ w => .ended (.stuck "range over a function: no such loop" (fr'.pos P)) w)) := by
  refine sf_sem (rs_endRound hl j hj) S hd (F := fun r es => GStep.after (seen P fr.fn es) (match r with
        | .ok v w=>doReturn P m fr cs none v w
        | .halt _ w => .ended (.stuck "range over a function: no such loop" (fr.pos P)) w)) (Fa := fun r es => GStep.after (seen P.alt fr.fn es) (match r with
        | .ok v w=>doReturn P.alt m fr cs none v w
        | .halt _ w => .ended (.stuck "range over a function: no such loop" (fr.pos P.alt)) w)) (F' := fun r es => GStep.after (seen P fr'.fn es) (match r with
        | .ok v w=>doReturn P m fr' cs' none v w
        | .halt _ w => .ended (.stuck "range over a function: no such loop" (fr'.pos P)) w)) ?_ ?_ ?_
  · intro h u es hn
    exact ⟨trivial,trivial⟩
  · intro ρ' u u' a b es es' R hq he
    have:=doReturn_sr m R (hf.mono R.le) (hc.mono R.le) hkd hin hq (seen P fr.fn es) (E':=seen P fr'.fn es') (fun e h=>he e (mem_seen h))
    dsimp only
    rw [seen_alt hI]
    exact this
  · intro ρ' u u' v v' es es' R hv he
    exact ⟨gmir_no _ _ (Lost.noShp (Lost.after (x:=.ended _ _) trivial _)),.inl ⟨trivial,trivial⟩⟩
theorem apply_comm (p : Program) (f : Frame) (l : List Frame) (cs : Array CommCase) (b : Bool) (s : CommShape) (u : World) : stepG.apply p true f l none (.pure (.comm cs b s)) u=.comm { frame:=f,callers:=l,status:=.running,dying:=none } cs b s u #[]:=by
  have sn : ∀ (p : Program) (f : FuncId) (k : CallKind),seen p f (if k == .early then #[] else #[])=#[]:=fun p f k=>by split <;> exact seen_nil _ _
  simp only [stepG.apply,Sem.runT,if_true,sn,after_nil]
theorem oper_sf (hZ : ZeroOk P) (hE : ExtOk P ρ.F) (hN : NoCount P) (hI : GId P ρ) {fr fr' : Frame} (hf : RFr P ρ fr fr') {cs cs' : List Frame} (hc : RFs P ρ X cs cs') (hkd : Kd X fr fr' cs') (S : SimW ρ w w') (hd : Same w w')
    (hmo : ∀ (p : Program) m v,stepG p m { frame:=fr,callers:=cs,status:=.running,dying:=none } v=stepG.oper p true fr cs none v) (hmo' : ∀ (p : Program) m v,stepG p m { frame:=fr',callers:=cs',status:=.running,dying:=none } v=stepG.oper p true fr' cs' none v) :
    SF P ρ X w w' (fun u=>stepG.oper P true fr cs none u) (fun u=>stepG.oper P.alt true fr cs none u) (stepG.oper P true fr' cs' none w'):=by
  unfold stepG.oper
  have ht:=hf.todo
  have ho : fr.oper?=fr'.oper?∧∀ o,fr.oper?=some o→okOp P ρ.F o.op=true:=by
    unfold Frame.oper?
    generalize fr.todo=td at ht
    generalize fr'.todo=td' at ht
    cases ht with
    | nil=>exact ⟨rfl,fun o h=>by simp at h⟩
    | cons hi hk=>
      cases hi with
      | @inRegion ops l hall=>
        cases l with
        | nil=>exact ⟨rfl,fun o h=>by simp at h⟩
        | cons i l=>exact ⟨rfl,fun o h=>by
            obtain ⟨hlt,rfl⟩:=Array.getElem?_eq_some_iff.1 h
            exact Array.all_eq_true.1 hall i hlt⟩
      | _=>exact ⟨rfl,fun o h=>by simp at h⟩
  obtain ⟨ho1,ho2⟩:=ho
  rw [←ho1]
  cases hx : fr.oper? with
  | none=>exact sf_end trivial trivial
  | some o=>
    have hok:=ho2 o hx
    by_cases hcm : isComm o.op=true
    · have hgo : RGo P ρ X { frame:=fr,callers:=cs,status:=.running,dying:=none } { frame:=fr',callers:=cs',status:=.running,dying:=none }:=⟨hf,hc,hkd,⟨rfl,rfl⟩,⟨rfl,rfl⟩,rfl,rfl⟩
      have hx' : fr'.oper?=some o:=by rw [←ho1]; exact hx
      have hxo:=hx'
      cases hop : o.op with
      | send c x=>
        rw [hop] at hok
        simp only [okOp,Bool.and_eq_true] at hok
        have e1 : ∀ (p : Program) (f : Frame) (l : List Frame) (u : World),f.oper?=some o→stepG.oper p true f l none u=.comm { frame:=f,callers:=l,status:=.running,dying:=none } #[{ chan:=f.eval c,send:=some (f.eval x),zero:=.tuple #[] }] true .send u #[]:=fun p f l u h=>by
          have e2 : execOp f.eval o=.pure (.comm #[{ chan:=f.eval c,send:=some (f.eval x),zero:=.tuple #[] }] true .send):=by unfold execOp; rw [hop]; rfl
          unfold stepG.oper
          rw [h]
          simp only [hop,e2]
          cases f.roundOf <;> exact apply_comm p f l _ _ _ u
        have he:=hf.env hI
        refine sf_congr (g:=fun u=>.comm { frame:=fr,callers:=cs,status:=.running,dying:=none } _ true .send u #[]) (ga:=fun u=>.comm { frame:=fr,callers:=cs,status:=.running,dying:=none } _ true .send u #[]) ⟨gmir_mk _ (.comm _ _ _ _) _,.inr (.inl ⟨rfl,.comm ⟨fun _=>hok.1.1,fun h=>by cases h⟩ .send (.inl ⟨rfl,rfl⟩) ⟨rfl,rfl⟩ _ ρ (Reach.refl S) hgo ⟨he c hok.1.2,.inr ⟨_,_,rfl,rfl,he x hok.2⟩,rv_undef⟩ (fun e h=>absurd h (Array.not_mem_empty e)) ⟨fun m v=>(hmo P m v).trans (e1 P fr cs v hx),fun m v=>(hmo P.alt m v).trans (e1 P.alt fr cs v hx),fun m v=>(hmo' P m v).trans (e1 P fr' cs' v hx')⟩⟩)⟩ (fun u=>?_) (fun u=>?_) ?_
        · have:=e1 P fr cs u hx; unfold stepG.oper at this; rw [hx] at this; exact this
        · have:=e1 P.alt fr cs u hx; unfold stepG.oper at this; rw [hx] at this; exact this
        · have:=e1 P fr' cs' w' hx'; unfold stepG.oper at this; rw [hx'] at this; exact this
      | recv t c ok=>
        rw [hop] at hok
        have hok0:=hok
        simp only [okOp,Bool.and_eq_true] at hok
        have he:=hf.env hI
        by_cases hz : ∃ dir elem i z,P.underlying t=some (.chan dir elem)∧P.info? elem=some i∧i.zero=some z
        · obtain ⟨dir,elem,i,z,hu,hi,hzz⟩:=hz
          have e2 : ∀ (p : Program) (f : Frame) (u : World),p.underlying t=P.underlying t→p.info? elem=P.info? elem→(execOp f.eval o).runT p u #[]=(.ok (.comm #[{ chan:=f.eval c,send:=none,zero:=z }] true (.recv ok)) u,#[]):=fun p f u h1 h2=>by
            unfold execOp
            rw [hop]
            have a1 : ∀ {α : Type} (k : TypeDesc→Sem α) (es : Array Event),(Sem.bind (underlying t) k).runT p u es=(k (.chan dir elem)).runT p u es:=fun k es=>by
              have : p.underlying t=some (.chan dir elem):=h1.trans hu
              show Sem.runT p (Sem.bind (match p.underlying t with | some d => Pure.pure d | none => stuck "no such type") k) u es = _
              rw [this]; rfl
            have a2 : ∀ {α : Type} (k : Value→Sem α) (es : Array Event),(Sem.bind (zeroValue elem) k).runT p u es=(k z).runT p u es:=fun k es=>by
              have : p.info? elem=some i:=h2.trans hi
              show Sem.runT p (Sem.bind (Sem.bind (match p.info? elem with | some i => Pure.pure i | none => stuck "no such type") (fun i => match i.zero with | some v => Pure.pure v | none => unsupported (.resourceLimit "a value of more than 2^22 cells"))) k) u es = _
              rw [this]
              show Sem.runT p (Sem.bind (match i.zero with | some v => Pure.pure v | none => unsupported (.resourceLimit "a value of more than 2^22 cells")) k) u es = _
              rw [hzz]; rfl
            refine (a1 _ _).trans ?_
            exact (a2 _ _).trans rfl
          have e1 : ∀ (p : Program) (f : Frame) (l : List Frame) (u : World),p.underlying t=P.underlying t→p.info? elem=P.info? elem→(f.kind == .early)=false→f.oper?=some o→stepG.oper p true f l none u=.comm { frame:=f,callers:=l,status:=.running,dying:=none } #[{ chan:=f.eval c,send:=none,zero:=z }] true (.recv ok) u #[]:=fun p f l u h1 h2 hk h=>by
            unfold stepG.oper
            rw [h]
            simp only [hop]
            have e3 : stepG.apply p true f l none (execOp f.eval o) u=.comm { frame:=f,callers:=l,status:=.running,dying:=none } #[{ chan:=f.eval c,send:=none,zero:=z }] true (.recv ok) u #[]:=by
              rw [apply_eq p f hk l (execOp f.eval o) u,e2 p f u h1 h2]
              simp only [applyF,seen_nil,after_nil]
              exact apply_comm p f l _ _ _ u
            cases f.roundOf <;> exact e3
          have hzv : RV ρ z z:=hZ elem i z hi hzz ρ
          refine sf_congr (g:=fun u=>.comm { frame:=fr,callers:=cs,status:=.running,dying:=none } _ true (.recv ok) u #[]) (ga:=fun u=>.comm { frame:=fr,callers:=cs,status:=.running,dying:=none } _ true (.recv ok) u #[]) ⟨gmir_mk _ (.comm _ _ _ _) _,.inr (.inl ⟨rfl,.comm ⟨(fun h=>by cases h),fun _=>hok.1⟩ (.recv ok) (.inr ⟨rfl,_,rfl⟩) ⟨rfl,rfl⟩ _ ρ (Reach.refl S) hgo ⟨he c hok.2,.inl ⟨rfl,rfl⟩,hzv⟩ (fun e h=>absurd h (Array.not_mem_empty e)) ⟨fun m v=>(hmo P m v).trans (e1 P fr cs v rfl rfl hf.early.1 hx),fun m v=>(hmo P.alt m v).trans (e1 P.alt fr cs v rfl rfl hf.early.1 hx),fun m v=>(hmo' P m v).trans (e1 P fr' cs' v rfl rfl hf.early.2.1 hx')⟩⟩)⟩ (fun u=>?_) (fun u=>?_) ?_
          · have:=e1 P fr cs u rfl rfl hf.early.1 hx; unfold stepG.oper at this; rw [hx] at this; exact this
          · have:=e1 P.alt fr cs u rfl rfl hf.early.1 hx; unfold stepG.oper at this; rw [hx] at this; exact this
          · have:=e1 P fr' cs' w' rfl rfl hf.early.2.1 hx'; unfold stepG.oper at this; rw [hx'] at this; exact this
        · have hrs : RS P RX1 ρ (execOp fr.eval o) (execOp fr'.eval o):=by
            unfold execOp
            rw [hop]
            refine rs_bind (rs_underlying' t) (fun ρ1 l1 d d' hd=>?_)
            obtain ⟨rfl,hd⟩:=hd
            cases d with
            | chan dir elem=>
              refine rs_bind (Q:=QN) ?_ (fun _ _ _ _ h=>h.elim)
              unfold zeroValue
              refine rs_bind (rs_typeInfo elem) (fun ρ2 l2 a b h=>?_)
              obtain ⟨rfl,hi⟩:=h
              cases hz' : a.zero with
              | none=>exact rs_unsupported _
              | some z=>exact absurd ⟨dir,elem,a,z,hd,hi,hz'⟩ hz
            | _=>exact rs_stuck _
          have hgen:=apply_sf hI hf hc hkd hrs S hd
          simp only [hop]
          cases fr.roundOf <;> cases fr'.roundOf <;> exact hgen
      | _=>rw [hop] at hcm; cases hcm
    have hgen:=apply_sf hI hf hc hkd (rs_execOp hZ hE hN hI (hf.env hI) (fun _=>rfl) (fun _=>rfl) (nil_const fr) o hok (by simpa using hcm)) S hd
    have hr:=hf.round
    dsimp only
    generalize hq : fr.roundOf=r at hr
    generalize hq' : fr'.roundOf=r' at hr
    cases hr with
    | none=>exact hgen
    | @some l l' hl=>
      cases hop : o.op with
      | defer c=>
        dsimp only
        rw [hop] at hok
        simp only [okOp] at hok
        rw [Bool.and_eq_true] at hok
        refine apply_sf hI hf hc hkd (rs_bind (rs_resolve hI (hf.env hI) c hok.2 o.type) (fun ρ1 l1 d d' hd=>rs_bind (rs_deferInRound (l1 _ _ hl) (by rw [l1.F]; exact hok.1) hd) (fun ρ2 l2 _ _ _=>rs_pure (.of .skip)))) S hd
      | _=>exact hgen
theorem exec_sf (hZ : ZeroOk P) (hE : ExtOk P ρ.F) (hN : NoCount P) (hI : GId P ρ) (m : Bool) {fr fr' : Frame} (hf : RFr P ρ fr fr') {cs cs' : List Frame} (hc : RFs P ρ X cs cs') (hkd : Kd X fr fr' cs') (_hin : Base X fr cs') (S : SimW ρ w w') (hd : Same w w') (hm : fr.mode=.run∧fr'.mode=.run) :
    SF P ρ X w w' (fun u=>stepG.exec P m true fr cs none u) (fun u=>stepG.exec P.alt m true fr cs none u) (stepG.exec P m true fr' cs' none w'):=by
  have hret : SF P ρ X w w' (fun u=>.go { frame:={ fr with mode:=.returning },callers:=cs,status:=.running,dying:=none } u) (fun u=>.go { frame:={ fr with mode:=.returning },callers:=cs,status:=.running,dying:=none } u) (.go { frame:={ fr' with mode:=.returning },callers:=cs',status:=.running,dying:=none } w'):=
    sf_go ⟨⟨hf.fn,hf.tmps,hf.todo,hf.defers,.returning,hf.early,hf.round⟩,hc,hkd,⟨rfl,rfl⟩,⟨rfl,rfl⟩,rfl,rfl⟩ S
  have hlv : ∀ (l l' : Nat),fr.roundOf=some l→fr'.roundOf=some l'→ρ l l':=fun l l' h1 h2=>by
    have hr:=hf.round
    rw [h1,h2] at hr
    cases hr with
    | some h=>exact h
  have hrr : (fr.roundOf=none∧fr'.roundOf=none)∨∃ l l',fr.roundOf=some l∧fr'.roundOf=some l'∧ρ l l':=by
    have hr:=hf.round
    generalize fr.roundOf=r at hr ⊢
    generalize fr'.roundOf=r' at hr ⊢
    cases hr with
    | none=>exact .inl ⟨rfl,rfl⟩
    | some h=>exact .inr ⟨_,_,rfl,rfl,h⟩
  have hne : ∀ {l : Nat},fr.roundOf=some l→cs'≠X.2:=fun {l} h e=>by rw [hkd.2 e] at h; cases h
  have ht:=hf.todo
  unfold stepG.exec
  generalize hx : fr.todo=td at ht
  generalize hx' : fr'.todo=td' at ht
  cases ht with
  | nil=>
    simp only []
    rcases hrr with ⟨r1,r2⟩ | ⟨l,l',r1,r2,hl⟩
    · simp only [hx,hx',r1,r2,if_true] at hret ⊢; exact hret
    · simp only [r1,r2]; exact leave_sf hI m hf hc hkd (hne r1) S hd hl none (fun c e=>by cases e)
  | cons hi hk=>
    cases hi with
    | inBlock id=>simp only []; exact to_sf S hf hc hkd hk
    | inLoop hb=>simp only []; exact to_sf S hf hc hkd (.cons (.code hb) (.cons (.inLoop hb) hk))
    | inScope hb=>simp only []; exact to_sf S hf hc hkd hk
    | inRangeFunc hl=>simp only []; exact sf_end trivial trivial
    | @endRangeFunc l l' hl=>
      rename_i k k'
      simp only []
      refine sf_sem (rs_endLoop hl) S hd (F:=fun r es=>GStep.after (seen P fr.fn es) (match r with
        | .ok jump w=>.go { frame:={ fr with todo:=(jump.map Item.code).toList++_ },callers:=cs,status:=.running,dying:=none } w
        | .halt (.panic v) w=>.go { frame:=fr.raise [{ v,recovered:=false }],callers:=cs,status:=.running,dying:=none } w
        | .halt _ w => .ended (.stuck "range over a function: no such loop" (fr.pos P)) w)) (Fa := fun r es => GStep.after (seen P.alt fr.fn es) (match r with
        | .ok jump w=>.go { frame:={ fr with todo:=(jump.map Item.code).toList++_ },callers:=cs,status:=.running,dying:=none } w
        | .halt (.panic v) w=>.go { frame:=fr.raise [{ v,recovered:=false }],callers:=cs,status:=.running,dying:=none } w
        | .halt _ w => .ended (.stuck "range over a function: no such loop" (fr.pos P.alt)) w)) (F' := fun r es => GStep.after (seen P fr'.fn es) (match r with
        | .ok jump w=>.go { frame:={ fr' with todo:=(jump.map Item.code).toList++_ },callers:=cs',status:=.running,dying:=none } w
        | .halt (.panic v) w=>.go { frame:=fr'.raise [{ v,recovered:=false }],callers:=cs',status:=.running,dying:=none } w
        | .halt _ w => .ended (.stuck "range over a function: no such loop" (fr'.pos P)) w)) ?_ ?_ ?_
      · intro h u es hn
        have key : ∀ q : Program,Lost (GStep.after (seen q fr.fn es) (match (Result.halt h u : Result (Option Code)) with
          | .ok jump w=>.go { frame:={ fr with todo:=(jump.map Item.code).toList++k },callers:=cs,status:=.running,dying:=none } w
          | .halt (.panic v) w=>.go { frame:=fr.raise [{ v,recovered:=false }],callers:=cs,status:=.running,dying:=none } w
          | .halt _ w => .ended (.stuck "range over a function: no such loop" (fr.pos q)) w)) := fun q => by
          cases h <;> first | exact trivial | simp [noPanic] at hn
        exact ⟨key P,key P.alt⟩
      · intro ρ' u u' a b es es' R hq he
        obtain ⟨rfl,hq⟩:=hq
        dsimp only
        rw [seen_alt hI]
        refine ⟨gmir_after _ (gmir_go _ _ _),.inr (.inl ⟨rfl,.go _ ρ' R ⟨⟨hf.fn,hf.tmps.mono R.le,?_,hf.defers.mono R.le,hf.mode.mono R.le,hf.early,hf.round.mono R.le⟩,hc.mono R.le,hkd,⟨rfl,rfl⟩,⟨rfl,rfl⟩,rfl,rfl⟩ (fun e h=>he e (mem_seen (by simpa using h)))⟩)⟩
        cases a with
        | none=>exact hk.mono R.le
        | some c=>
          have:=hq c rfl
          rw [R.le.prog,hI.prog] at this
          exact .cons (.code this) (hk.mono R.le)
      · intro ρ' u u' v v' es es' R hv he
        dsimp only
        rw [seen_alt hI]
        exact ⟨gmir_after _ (gmir_go _ _ _),.inr (.inl ⟨rfl,.go _ ρ' R ⟨(hf.mono R.le).raise1 hv,hc.mono R.le,hkd.raise _ _,⟨rfl,rfl⟩,⟨rfl,rfl⟩,rfl,rfl⟩ (fun e h=>he e (mem_seen (by simpa using h)))⟩)⟩
    | beginRound=>
      simp only []
      rcases hrr with ⟨r1,r2⟩ | ⟨l,l',r1,r2,hl⟩
      · simp only [r1,r2]; exact apply_sf hI hf hc hkd (rs_bind (Q:=QU) (rs_stuck _) (fun ρ1 l1 _ _ _=>rs_pure (.of .skip))) S hd
      · simp only [r1,r2]; exact apply_sf hI hf hc hkd (rs_bind (rs_beginRound hl) (fun ρ1 l1 _ _ _=>rs_pure (.of .skip))) S hd
    | regionEnd a b=>simp only []; exact to_sf S hf hc hkd hk
    | @inRegion ops l ho=>
      cases l with
      | nil=>simp only []; exact to_sf S hf hc hkd hk
      | cons i l=>
        simp only []
        rw [←yielded_eq hf.tmps ops]
        by_cases hw : ((ops[i]?).map (Region.wanted · (yielded ops fr.tmps))).getD false=true
        · simp only [hw,if_true]
          have hy:=yielded_eq hf.tmps ops
          exact oper_sf hZ hE hN hI hf hc hkd S hd (fun p m v=>by simp only [stepG,hm.1,stepG.exec,hx,hw,if_true]) (fun p m v=>by simp only [stepG,hm.2,stepG.exec,hx',←hy,hw,if_true])
        · simp only [hw]; exact sf_go ⟨hf.finish rv_undef,hc,hkd.finish _ _,⟨rfl,rfl⟩,⟨rfl,rfl⟩,rfl,rfl⟩ S
    | @code c hcd=>
      cases c with
      | skip=>simp only []; exact to_sf S hf hc hkd hk
      | label l=>simp only []; exact to_sf S hf hc hkd hk
      | seq a b=>simp only []; simp only [okCode,Bool.and_eq_true] at hcd; exact to_sf S hf hc hkd (.cons (.code hcd.1) (.cons (.code hcd.2) hk))
      | block id b=>simp only []; exact to_sf S hf hc hkd (.cons (.code hcd) (.cons (.inBlock id) hk))
      | loop b=>simp only []; exact to_sf S hf hc hkd (.cons (.code hcd) (.cons (.inLoop hcd) hk))
      | scope b=>simp only []; exact to_sf S hf hc hkd (.cons (.code hcd) (.cons (.inScope hcd) hk))
      | cond c a b=>
        simp only [okCode,Bool.and_eq_true] at hcd
        have hv:=hf.env hI c hcd.1.1
        simp only []
        generalize Frame.eval fr c=v at hv ⊢
        generalize Frame.eval fr' c=v' at hv ⊢
        cases hv with
        | bool x=>
          refine to_sf S hf hc hkd (.cons (.code ?_) hk)
          cases x
          · exact hcd.2
          · exact hcd.1.2
        | _=>exact sf_end trivial trivial
      | rangeFunc f ps a b=>
        simp only [okCode,Bool.and_eq_true] at hcd
        simp only []
        rename_i k k'
        have call_eq : ∀ (e : Operand→Value) (l : Nat),resolve e { callee:=.value f,args:=#[.const (.func (.yield l) #[] #[])],argTypes:=#[] } 0=Deferred.ofValue (e f) #[e (.const (.func (.yield l) #[] #[]))]:=fun e l=>by simp [resolve]
        have hrs : RS P QEn ρ (Instr.enterLoop fr.fn fr.tmps ps a b fr.roundOf) (Instr.enterLoop fr'.fn fr'.tmps ps a b fr'.roundOf):=by
          rw [←hf.fn]
          exact rs_enterLoop fr.fn hf.tmps ps a b (by rw [hI.prog]; exact hcd.1.2) (by rw [hI.prog]; exact hcd.2) hf.round
        refine sf_sem hrs S hd (F:=fun r es=>GStep.after (seen P fr.fn es) (match r with
          | .ok (l,mark) w=>stepG.apply P true { fr with todo:=.inRangeFunc l :: k,defers:=mark++fr.defers } cs none (do
              let d ←resolve ({ fr with todo:=.inRangeFunc l :: k,defers:=mark++fr.defers } : Frame).eval { callee:=.value f,args:=#[.const (.func (.yield l) #[] #[])],argTypes:=#[] } 0
              invoke d.target d.args) w
          | .halt _ w => .ended (.stuck "range over a function: no such loop" (fr.pos P)) w)) (Fa := fun r es => GStep.after (seen P.alt fr.fn es) (match r with
          | .ok (l,mark) w=>stepG.apply P.alt true { fr with todo:=.inRangeFunc l :: k,defers:=mark++fr.defers } cs none (do
              let d ←resolve ({ fr with todo:=.inRangeFunc l :: k,defers:=mark++fr.defers } : Frame).eval { callee:=.value f,args:=#[.const (.func (.yield l) #[] #[])],argTypes:=#[] } 0
              invoke d.target d.args) w
          | .halt _ w => .ended (.stuck "range over a function: no such loop" (fr.pos P.alt)) w)) (F' := fun r es => GStep.after (seen P fr'.fn es) (match r with
          | .ok (l,mark) w=>stepG.apply P true { fr' with todo:=.inRangeFunc l :: k',defers:=mark++fr'.defers } cs' none (do
              let d ←resolve ({ fr' with todo:=.inRangeFunc l :: k',defers:=mark++fr'.defers } : Frame).eval { callee:=.value f,args:=#[.const (.func (.yield l) #[] #[])],argTypes:=#[] } 0
              invoke d.target d.args) w
          | .halt _ w => .ended (.stuck "range over a function: no such loop" (fr'.pos P)) w)) ?_ ?_ ?_
        · intro h u es hn; exact ⟨trivial,trivial⟩
        · intro ρ' u u' x y es es' R hq he
          obtain ⟨l,mark⟩:=x
          obtain ⟨l',mark'⟩:=y
          obtain ⟨hl,hmk⟩:=hq
          simp only at hl hmk
          dsimp only
          rw [seen_alt hI]
          have hI':=hI.mono R.le
          have hf1:=hf.mono R.le
          have hf2 : RFr P ρ' { fr with todo:=.inRangeFunc l :: k,defers:=mark++fr.defers } { fr' with todo:=.inRangeFunc l' :: k',defers:=mark'++fr'.defers }:=
            ⟨hf1.fn,hf1.tmps,.cons (.inRangeFunc hl) (hk.mono R.le),hmk.append hf1.defers,hf1.mode,hf1.early,hf1.round⟩
          have hv:=hf2.env hI' f (by rw [R.le.F]; exact hcd.1.1)
          have hE' : ExtOk P ρ'.F:=by rw [R.le.F]; exact hE
          have hy : RV ρ' (.func (.yield l) #[] #[]) (.func (.yield l') #[] #[]):=.func (.yield hl) rfl rfl (fun i v v' h=>by simp at h) (fun i v v' h=>by simp at h)
          have key:=apply_sf (s:=do
              let d ←resolve ({ fr with todo:=.inRangeFunc l :: k,defers:=mark++fr.defers } : Frame).eval { callee:=.value f,args:=#[.const (.func (.yield l) #[] #[])],argTypes:=#[] } 0
              invoke d.target d.args) (s':=do
              let d ←resolve ({ fr' with todo:=.inRangeFunc l' :: k',defers:=mark'++fr'.defers } : Frame).eval { callee:=.value f,args:=#[.const (.func (.yield l') #[] #[])],argTypes:=#[] } 0
              invoke d.target d.args) hI' hf2 (hc.mono R.le) hkd (rs_bind (Q:=fun ρ d d'=>RD ρ d d') (by rw [call_eq,call_eq]; exact rs_ofValue hv (RVs.nil.push hy)) (fun ρ1 l1 d d' hd=>(rs_invoke hZ (by rw [l1.F]; exact hE') hN (hI'.mono l1) hd.target hd.args).imp (fun _ _ _ k=>.of k))) R.sim (R.same hd)
          refine ⟨gmir_after _ key.mir,?_⟩
          exact (key.rel.after (seen P fr.fn es) (E':=seen P fr'.fn es') (fun ρ2 l2 e h=>(he e (mem_seen h)).mono l2)).trans R
        · intro ρ' u u' v v' es es' R hv he
          exact ⟨gmir_no _ _ (Lost.noShp (Lost.after (x:=.ended _ _) trivial _)),.inl ⟨trivial,trivial⟩⟩
      | refuse why=>simp only []; exact sf_end trivial trivial
      | ret=>
        simp only []
        rcases hrr with ⟨r1,r2⟩ | ⟨l,l',r1,r2,hl⟩
        · simp only [hx,hx',r1,r2,if_true] at hret ⊢; exact hret
        · simp only [r1,r2]; exact leave_sf hI m hf hc hkd (hne r1) S hd hl (some .ret) (fun c e=>by cases e; rfl)
      | exit id=>
        simp only []
        rcases exitTo_rel id hk with ⟨h1,h2⟩ | ⟨t,t',h1,h2,h3⟩
        · simp only [h1,h2,Option.elim]
          rcases hrr with ⟨r1,r2⟩ | ⟨l,l',r1,r2,hl⟩
          · simp only [r1,r2]; exact sf_end trivial trivial
          · simp only [r1,r2]; exact leave_sf hI m hf hc hkd (hne r1) S hd hl (some (.exit id)) (fun c e=>by cases e; rfl)
        · simp only [h1,h2,Option.elim]; exact to_sf S hf hc hkd h3
      | goto l0=>
        simp only []
        rcases gotoIn_rel l0 hk with ⟨h1,h2⟩ | ⟨t,t',h1,h2,h3⟩
        · simp only [h1,h2,Option.elim]
          rcases hrr with ⟨r1,r2⟩ | ⟨l,l',r1,r2,hl⟩
          · simp only [r1,r2]; exact sf_end trivial trivial
          · simp only [r1,r2]; exact leave_sf hI m hf hc hkd (hne r1) S hd hl (some (.goto l0)) (fun c e=>by cases e; rfl)
        · simp only [h1,h2,Option.elim]; exact to_sf S hf hc hkd h3
      | region id ops draw=>
        simp only []
        cases draw with
        | false=>simp only [Bool.not_false,if_true]; exact to_sf S hf hc hkd (.cons (.inRegion _ hcd) hk)
        | true=>
          simp only [Bool.not_true,Bool.false_eq_true,if_false]
          rename_i k k'
          refine sf_congr (sf_sem (rs_choose (.order fr.fn id)) S hd (F:=fun r _=>match r with
            | .ok t w=>.go { frame:={ fr with todo:=.inRegion ops (Region.schedule (P.follows .mixedOrders) ops t) :: k },callers:=cs,status:=.running,dying:=none } w
            | .halt _ w => .ended (.stuck "order" (fr.pos P)) w) (Fa := fun r _ => match r with
            | .ok t w=>.go { frame:={ fr with todo:=.inRegion ops (Region.schedule (P.alt.follows .mixedOrders) ops t) :: k },callers:=cs,status:=.running,dying:=none } w
            | .halt _ w => .ended (.stuck "order" (fr.pos P.alt)) w) (F' := fun r _ => match r with
            | .ok t w=>.go { frame:={ fr' with todo:=.inRegion ops (Region.schedule (P.follows .mixedOrders) ops t) :: k' },callers:=cs',status:=.running,dying:=none } w
            | .halt _ w => .ended (.stuck "order" (fr'.pos P)) w) ?_ ?_ ?_) (fun u => ?_) (fun u => ?_) ?_
          · intro h u es hn; exact ⟨trivial,trivial⟩
          · intro ρ' u u' x y es es' R hq he
            cases hq
            exact ⟨gmir_go _ _ _,.inr (.inl ⟨rfl,.go _ ρ' R ⟨⟨hf.fn,hf.tmps.mono R.le,.cons (.inRegion _ (by rw [R.le.F]; exact hcd)) (hk.mono R.le),hf.defers.mono R.le,hf.mode.mono R.le,hf.early,hf.round.mono R.le⟩,hc.mono R.le,hkd,⟨rfl,rfl⟩,⟨rfl,rfl⟩,rfl,rfl⟩ (fun e h=>by simp at h)⟩)⟩
          · intro ρ' u u' v v' es es' R hv he
            exact ⟨gmir_no _ _ (Lost.noShp (x:=.ended _ _) trivial),.inl ⟨trivial,trivial⟩⟩
          · simp only [Sem.runT_fst]; rfl
          · simp only [Sem.runT_fst]; rfl
          · simp only [Sem.runT_fst,hf.fn]; rfl
end
section
variable {P : Program} [Two P] {ρ : Ren} {X : List Frame×List Frame} {w w' : World}
theorem rs_mapMV {α : Type} : ∀ (l : List α) {ρ : Ren} (f f' : α→Sem Value),(∀ ρ',ρ.le ρ'→∀ a,RS P QV ρ' (f a) (f' a))→RS P (fun ρ x y=>RVs ρ x.toArray y.toArray) ρ (l.mapM f) (l.mapM f'):=by
  intro l
  induction l with
  | nil=>intro ρ f f' _; simp only [List.mapM_nil]; exact rs_pure RVs.nil
  | cons x l ih=>
    intro ρ f f' hf
    simp only [List.mapM_cons]
    refine rs_bind (hf ρ (Ren.le_refl _) x) (fun ρ1 l1 b b' hb=>?_)
    refine rs_bind (ih f f' (fun ρ' l'=>hf ρ' (Ren.le_trans l1 l'))) (fun ρ2 l2 bs bs' hbs=>rs_pure ⟨by simpa using hbs.size,fun i v v' h1 h2=>?_⟩)
    cases i with
    | zero=>simp at h1 h2; subst h1; subst h2; exact hb.mono l2
    | succ i=>exact hbs.at_ i v v' (by simpa using h1) (by simpa using h2)
theorem rs_results (fn : Func) {t t' : Array Value} (h : RVs ρ t t') : RS P QV ρ (results fn t) (results fn t'):=by
  unfold results
  rw [Array.mapM_eq_mapM_toList,Array.mapM_eq_mapM_toList]
  refine rs_bind (Q:=QVs) (rs_bind (rs_mapMV _ _ _ (fun ρ' l r=>?_)) (fun ρ1 l1 x y hxy=>rs_pure hxy)) (fun ρ1 l1 v v' hv=>rs_pure ?_)
  · cases r with
    | tmp t=>exact rs_pure ((h.mono l).getD t)
    | cell a t=>exact rs_bind (rs_asAddr ((h.mono l).getD a)) (fun ρ2 l2 x x' hx=>rs_loadVar t hx)
  · show RV ρ1 _ _
    have hs:=hv.size
    by_cases h1 : v.size=1
    · have h2 : v'.size=1:=by rw [←hs]; exact h1
      simp only [h1,h2,dite_true]
      exact hv.at_ 0 _ _ (Array.getElem?_eq_getElem (by omega)) (Array.getElem?_eq_getElem (by omega))
    · have h2 : ¬v'.size=1:=by rw [←hs]; exact h1
      simp only [h1,h2,dite_false]
      exact .tuple hv.size hv.at_
omit [Two P] in
theorem cd_after {p : Program} {fr : Frame} {cs : List Frame} {d : Deferred} {z v : World} {a : Next} {es : Array Event} {g : Goroutine} (hx : ((d.target matches .nil) && (fr.mode matches .panicking _))=false) (h : (invoke d.target d.args).runT p z #[]=(.ok a v,es))
    (ha : match a with
      | .enter f args=>g={ frame:=Frame.enter p f args .deferred,callers:=fr :: cs,status:=.running,dying:=none }
      | .round l f t x y=>g={ frame:=Frame.round l f t x y .deferred,callers:=fr :: cs,status:=.running,dying:=none }
      | .value _ | .skip | .defer _ | .spawn _ | .comm _ _ _=>g={ frame:=fr,callers:=cs,status:=.running,dying:=none }
      | _=>False) : callDeferred p fr cs none d z=.go g v (seen p fr.fn es):=by
  unfold callDeferred
  refine (if_neg (fun hc=>absurd (hc.symm.trans hx) (by decide))).trans ?_
  simp only [h]
  cases a <;> first | exact ha.elim | (subst ha; simp [GStep.after])
omit [Two P] in
theorem cd_panic {p : Program} {fr : Frame} {cs : List Frame} {d : Deferred} {z q : World} {v : Value} {es : Array Event} (hx : ((d.target matches .nil) && (fr.mode matches .panicking _))=false) (h : (invoke d.target d.args).runT p z #[]=(.halt (.panic v) q,es)) : callDeferred p fr cs none d z=.go { frame:=fr.raise [{ v,recovered:=false }],callers:=cs,status:=.running,dying:=none } q (seen p fr.fn es):=by
  unfold callDeferred
  refine (if_neg (fun hc=>absurd (hc.symm.trans hx) (by decide))).trans ?_
  simp only [h]
  simp [GStep.after]
omit [Two P] in
theorem cd_lost {p : Program} {fr : Frame} {cs : List Frame} {d : Deferred} {z q : World} {x : Halt} {es : Array Event} (hn : noPanic x=true) (h : (invoke d.target d.args).runT p z #[]=(.halt x q,es)) : Lost (callDeferred p fr cs none d z):=by
  by_cases hx : ((d.target matches .nil) && (fr.mode matches .panicking _))=true
  · have e : ∃ o,callDeferred p fr cs none d z=.ended o z:=⟨_,by unfold callDeferred; exact if_pos hx⟩
    obtain ⟨o,e⟩:=e
    rw [e]; exact trivial
  · unfold callDeferred
    refine Eq.mpr (congrArg Lost (if_neg hx)) ?_
    simp only [h]
    refine Lost.after ?_ _
    cases x with
    | stuck s=>exact trivial
    | unsupported x=>exact trivial
    | throw m=>show Lost (endThrow fr m q); unfold endThrow dieOf; exact ⟨⟨_,_,rfl,rfl,rfl⟩,rfl⟩
    | _=>simp [noPanic] at hn
theorem callDeferred_sf (hZ : ZeroOk P) (hE : ExtOk P ρ.F) (hN : NoCount P) (hI : GId P ρ) {fr fr' : Frame} (hf : RFr P ρ fr fr') {cs cs' : List Frame} (hc : RFs P ρ X cs cs') (hkd : Kd X fr fr' cs') {d d' : Deferred} (hdd : RD ρ d d') (S : SimW ρ w w') (hd : Same w w') :
    SF P ρ X w w' (fun u=>callDeferred P fr cs none d u) (fun u=>callDeferred P.alt fr cs none d u) (callDeferred P fr' cs' none d' w'):=by
  have hx : ((d.target matches .nil) && (fr.mode matches .panicking _))=((d'.target matches .nil) && (fr'.mode matches .panicking _)):=by
    have h1:=hdd.target
    have h2:=hf.mode
    generalize d.target=t at h1 ⊢
    generalize d'.target=t' at h1 ⊢
    generalize fr.mode=m at h2 ⊢
    generalize fr'.mode=m' at h2 ⊢
    cases h1 <;> cases h2 <;> rfl
  by_cases hn : ((d.target matches .nil) && (fr.mode matches .panicking _))=true
  · refine sf_end ?_ ?_
    · have e : ∃ o,callDeferred P fr cs none d w=.ended o w:=⟨_,by unfold callDeferred; exact if_pos hn⟩
      obtain ⟨o,e⟩:=e
      simp only [e]; exact trivial
    · have e : ∃ o,callDeferred P.alt fr cs none d w=.ended o w:=⟨_,by unfold callDeferred; exact if_pos hn⟩
      obtain ⟨o,e⟩:=e
      simp only [e]; exact trivial
  have hn1 : ((d.target matches .nil) && (fr.mode matches .panicking _))=false:=by simpa using hn
  have hn2:=hx.symm.trans hn1
  refine sf_sem2 (rs_invoke hZ hE hN hI hdd.target hdd.args) S hd ?_ ?_ ?_
  · intro h u es hno
    exact ⟨fun hr=>cd_lost hno hr,fun hr=>cd_lost hno hr⟩
  · intro ρ' u u' a b es es' R hq he hr'
    have hI':=hI.mono R.le
    have hf':=hf.mono R.le
    have hc':=hc.mono R.le
    have ev : ∀ e∈seen P fr'.fn es',EvOk ρ' e:=fun e h=>he e (mem_seen h)
    cases hq with
    | @enter f hF a a' ha=>
      refine ⟨.go { frame:=Frame.enter P f a .deferred,callers:=fr :: cs,status:=.running,dying:=none },seen P fr.fn es,fun z v hz=>cd_after hn1 hz rfl,fun z v hz=>?_,?_⟩
      · rw [cd_after (p:=P.alt) hn1 hz rfl,seen_alt hI,enter_alt hI' f hF]; rfl
      · rw [cd_after hn2 hr' rfl]
        exact .go _ ρ' R ⟨RFr.enter hI' f hF _ rfl (by simp) ha,.cons hf' hkd hc',Kd.push hc' rfl,⟨rfl,rfl⟩,⟨rfl,rfl⟩,rfl,rfl⟩ ev
    | @round l l' hl f t t' ht x y hx hy=>
      refine ⟨.go { frame:=Frame.round l f t x y .deferred,callers:=fr :: cs,status:=.running,dying:=none },seen P fr.fn es,fun z v hz=>cd_after hn1 hz rfl,fun z v hz=>?_,?_⟩
      · rw [cd_after (p:=P.alt) hn1 hz rfl,seen_alt hI]; rfl
      · rw [cd_after hn2 hr' rfl]
        rw [hI'.prog] at hx hy
        exact .go _ ρ' R ⟨⟨rfl,ht,.cons (.code hx) (.cons .beginRound (.cons (.code hy) .nil)),.nil,.run,⟨rfl,rfl,by simp [Frame.round]⟩,.some hl⟩,.cons hf' hkd hc',Kd.push hc' rfl,⟨rfl,rfl⟩,⟨rfl,rfl⟩,rfl,rfl⟩ ev
    | _=>
      refine ⟨.go { frame:=fr,callers:=cs,status:=.running,dying:=none },seen P fr.fn es,fun z v hz=>cd_after hn1 hz rfl,fun z v hz=>?_,?_⟩
      · rw [cd_after (p:=P.alt) hn1 hz rfl,seen_alt hI]; rfl
      · rw [cd_after hn2 hr' rfl]
        exact .go _ ρ' R ⟨hf',hc',hkd,⟨rfl,rfl⟩,⟨rfl,rfl⟩,rfl,rfl⟩ ev
  · intro ρ' u u' v v' es es' R hv he hr'
    have ev : ∀ e∈seen P fr'.fn es',EvOk ρ' e:=fun e h=>he e (mem_seen h)
    refine ⟨.go { frame:=fr.raise [{ v,recovered:=false }],callers:=cs,status:=.running,dying:=none },seen P fr.fn es,fun z q hz=>cd_panic hn1 hz,fun z q hz=>?_,?_⟩
    · rw [cd_panic (p:=P.alt) hn1 hz,seen_alt hI]; rfl
    · rw [cd_panic hn2 hr']
      exact .go _ ρ' R ⟨(hf.mono R.le).raise1 hv,hc.mono R.le,hkd.raise _ _,⟨rfl,rfl⟩,⟨rfl,rfl⟩,rfl,rfl⟩ ev
theorem results_alt (hI : GId P ρ) {f : FuncId} {a b : Func} (h1 : P.alt.funcs[f]?=some a) (h2 : P.funcs[f]?=some b) (t : Array Value) : results a t=results b t:=by
  have h:=hI.same f
  rw [h1,h2] at h
  simp [strip] at h
  unfold results
  rw [h.2.2.2.2.2.2.2.1]
theorem funcs_none (hI : GId P ρ) (f : FuncId) : P.alt.funcs[f]?=none↔P.funcs[f]?=none:=by
  have h:=hI.same f
  generalize P.alt.funcs[f]?=a at h
  generalize P.funcs[f]?=b at h
  cases a <;> cases b <;> simp at h ⊢
omit [Two P] in
theorem catches_no {fr fr' : Frame} (hf : RFr P ρ fr fr') (p : Program) : fr.catches p=false∧fr'.catches p=false:=by
  have h:=hf.todo.no_call
  unfold Frame.catches
  constructor
  · split
    · rename_i d b r s k e; exact absurd e (h.1 _ _ _ _ _)
    · rfl
  · split
    · rename_i d b r s k e; exact absurd e (h.2 _ _ _ _ _)
    · rfl
theorem unwind_sf (hZ : ZeroOk P) (hE : ExtOk P ρ.F) (hN : NoCount P) (hI : GId P ρ) (m : Bool) {fr fr' : Frame} (hf : RFr P ρ fr fr') {cs cs' : List Frame} (hc : RFs P ρ X cs cs') (hkd : Kd X fr fr' cs') (hin : Base X fr cs') (S : SimW ρ w w') (hd : Same w w') :
    SF P ρ X w w' (fun u=>unwind P m fr cs none u) (fun u=>unwind P.alt m fr cs none u) (unwind P m fr' cs' none w'):=by
  unfold unwind
  have hds:=hf.defers
  generalize hx : fr.defers=ds at hds
  generalize hx' : fr'.defers=ds' at hds
  have hf2:=fun ds ds' (hl : RDs ρ ds ds')=>(⟨hf.fn,hf.tmps,hf.todo,hl,hf.mode,hf.early,hf.round⟩ : RFr P ρ { fr with defers:=ds } { fr' with defers:=ds' })
  cases hds with
  | @cons d d' l l' h hl=>
    have ht:=h.target
    obtain ⟨t,a⟩:=d
    obtain ⟨t',a'⟩:=d'
    simp only at ht
    cases ht with
    | @collected r r' hr=>
      dsimp only
      refine sf_sem (rs_takeDeferred hr) S hd (F:=fun x es=>GStep.after (seen P fr.fn es) (match x with
        | .ok calls w=>.go { frame:={ fr with defers:=calls++l },callers:=cs,status:=.running,dying:=none } w
        | .halt _ w => .ended (.stuck "the deferred calls of a range-over-func loop have been taken" (fr.pos P)) w)) (Fa := fun x es => GStep.after (seen P.alt fr.fn es) (match x with
        | .ok calls w=>.go { frame:={ fr with defers:=calls++l },callers:=cs,status:=.running,dying:=none } w
        | .halt _ w => .ended (.stuck "the deferred calls of a range-over-func loop have been taken" (fr.pos P.alt)) w)) (F' := fun x es => GStep.after (seen P fr'.fn es) (match x with
        | .ok calls w=>.go { frame:={ fr' with defers:=calls++l' },callers:=cs',status:=.running,dying:=none } w
        | .halt _ w => .ended (.stuck "the deferred calls of a range-over-func loop have been taken" (fr'.pos P)) w)) ?_ ?_ ?_
      · intro h u es hn; exact ⟨trivial,trivial⟩
      · intro ρ' u u' x y es es' R hq he
        dsimp only
        rw [seen_alt hI]
        have hf':=hf.mono R.le
        exact ⟨gmir_after _ (gmir_go _ _ _),.inr (.inl ⟨rfl,.go _ ρ' R ⟨⟨hf'.fn,hf'.tmps,hf'.todo,hq.append (hl.mono R.le),hf'.mode,hf'.early,hf'.round⟩,hc.mono R.le,hkd,⟨rfl,rfl⟩,⟨rfl,rfl⟩,rfl,rfl⟩ (fun e h=>he e (mem_seen (by simpa using h)))⟩)⟩
      · intro ρ' u u' v v' es es' R hv he
        exact ⟨gmir_no _ _ (Lost.noShp (Lost.after (x:=.ended _ _) trivial _)),.inl ⟨trivial,trivial⟩⟩
    | _=>exact callDeferred_sf hZ hE hN hI (hf2 _ _ hl) hc hkd h S hd
  | nil=>
    dsimp only
    have hne : fr.mode≠.run→cs'≠X.2:=fun h e=>by
      rcases hin e with k | k
      · exact h k
      · exact k hx
    have hm:=hf.mode
    generalize hmd : fr.mode=md at hm hne
    generalize fr'.mode=md' at hm
    cases hm with
    | run=>exact sf_end trivial trivial
    | panicking hp=>
      dsimp only
      simp only [(catches_no hf P).1,(catches_no hf P).2,(catches_no hf P.alt).1,Bool.false_eq_true,if_false]
      have hne:=hne (by simp)
      cases hc with
      | cons hk hk2 hl=>exact sf_go ⟨hk.raise hp,hl,hk2.raise _ _,⟨rfl,rfl⟩,⟨rfl,rfl⟩,rfl,rfl⟩ S
      | base=>exact absurd rfl hne
    | returning=>
      dsimp only
      have hne:=hne (by simp)
      rw [←hf.fn]
      cases hfn : P.funcs[fr.fn]? with
      | none=>
        have hfa:=(funcs_none hI fr.fn).2 hfn
        simp only [hfa]
        have:=doReturn_sr m (Reach.refl S) hf hc hkd hne (hf.tmps.getD 0) #[] (E':=#[]) (fun e h=>by simp at h)
        simp only [after_nil] at this
        exact ⟨this.1,this.2⟩
      | some fn=>
        cases hfa : P.alt.funcs[fr.fn]? with
        | none=>rw [(funcs_none hI fr.fn).1 hfa] at hfn; cases hfn
        | some fa=>
          dsimp only
          rw [results_alt hI hfa hfn]
          refine sf_sem (rs_results fn hf.tmps) S hd (F:=fun x es=>GStep.after (seen P fr.fn es) (match x with
            | .ok v w=>doReturn P m fr cs none v w
            | .halt (.stuck s) w=>.ended (.stuck s (fr.pos P)) w
            | .halt _ w => .ended (.stuck "return: the result variables cannot be read" (fr.pos P)) w)) (Fa := fun x es => GStep.after (seen P.alt fr.fn es) (match x with
            | .ok v w=>doReturn P.alt m fr cs none v w
            | .halt (.stuck s) w=>.ended (.stuck s (fr.pos P.alt)) w
            | .halt _ w => .ended (.stuck "return: the result variables cannot be read" (fr.pos P.alt)) w)) (F' := fun x es => GStep.after (seen P fr.fn es) (match x with
            | .ok v w=>doReturn P m fr' cs' none v w
            | .halt (.stuck s) w=>.ended (.stuck s (fr'.pos P)) w
            | .halt _ w => .ended (.stuck "return: the result variables cannot be read" (fr'.pos P)) w)) ?_ ?_ ?_
          · intro h u es hn
            have key : ∀ q : Program,Lost (GStep.after (seen q fr.fn es) (match (Result.halt h u : Result Value) with
              | .ok v w=>doReturn q m fr cs none v w
              | .halt (.stuck s) w=>.ended (.stuck s (fr.pos q)) w
              | .halt _ w => .ended (.stuck "return: the result variables cannot be read" (fr.pos q)) w)) := fun q => by cases h <;> exact trivial
            exact ⟨key P,key P.alt⟩
          · intro ρ' u u' x y es es' R hq he
            dsimp only
            rw [seen_alt hI]
            exact doReturn_sr m R (hf.mono R.le) (hc.mono R.le) hkd hne hq (seen P fr.fn es) (E':=seen P fr.fn es') (fun e h=>he e (mem_seen h))
          · intro ρ' u u' v v' es es' R hv he
            exact ⟨gmir_no _ _ (Lost.noShp (Lost.after (x:=.ended _ _) trivial _)),.inl ⟨trivial,trivial⟩⟩
theorem stepG_sf (hZ : ZeroOk P) (hE : ExtOk P ρ.F) (hN : NoCount P) (hI : GId P ρ) (m : Bool) {g g' : Goroutine} (hg : RGo P ρ X g g') (hin : Base X g.frame g'.callers) (S : SimW ρ w w') (hd : Same w w') :
    SF P ρ X w w' (fun u=>stepG P m g u) (fun u=>stepG P.alt m g u) (stepG P m g' w'):=by
  obtain ⟨fr,cs,st,dy,of⟩:=g
  obtain ⟨fr',cs',st',dy',of'⟩:=g'
  obtain ⟨hf,hc,hkd,hst,⟨hd1,hd2⟩,ho⟩:=hg
  simp only at hf hc hkd hst hd1 hd2 ho hin
  subst hd1; subst hd2
  have hm:=hf.mode
  cases h1 : fr.mode <;> cases h2 : fr'.mode <;> rw [h1,h2] at hm <;> cases hm
  · exact sf_congr (exec_sf hZ hE hN hI m hf hc hkd hin S hd ⟨h1,h2⟩) (fun u=>by simp only [stepG,h1]) (fun u=>by simp only [stepG,h1]) (by simp only [stepG,h2])
  · exact sf_congr (unwind_sf hZ hE hN hI m hf hc hkd hin S hd) (fun u=>by simp only [stepG,h1]) (fun u=>by simp only [stepG,h1]) (by simp only [stepG,h2])
  · exact sf_congr (unwind_sf hZ hE hN hI m hf hc hkd hin S hd) (fun u=>by simp only [stepG,h1]) (fun u=>by simp only [stepG,h1]) (by simp only [stepG,h2])
end
end Go.Proofs.YtnapepbdohidgaaGreatDoorQ
