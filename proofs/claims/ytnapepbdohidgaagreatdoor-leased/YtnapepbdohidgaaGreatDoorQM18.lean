/- Part of a proof. -/
import Derived.Test.YtnapepbdohidgaaGreatDoorQM17
import Derived.Test.YtnapepbdohidgaaGreatDoorQM01
import Derived.RangeFuncNested
import Derived.OrdersIn
namespace Go.Proofs.YtnapepbdohidgaaGreatDoorQ
open Go
open Go.Conc Go.ConcX Go.ConcX.Gen Go.RowKit
def idRen (P : Program) (D0 : Nat→Prop) (F : FuncId→Bool) : Ren where
  rel:=fun a b=>a=b∧D0 a
  fn:=fun _a _b _b' h1 h2=>h1.1.symm.trans h2.1
  inj:=fun _a _a' _b h1 h2=>h1.1.trans h2.1.symm
  prog:=P
  F:=F
  old:=fun _=>False
  ch:=fun _=>False
  loose:=false
  wide:=false
  tight:=fun _=>rfl
structure Start (W : World) (D0 : Nat→Prop) : Prop where
  rows : ∀ b,D0 b→∃ c e z,W.heap[b]?=some (.cells c e z)∧∀ (i : Nat) v,c[i]?=some v→oneV v=true
  glob : ∀ g,g < Tryz.prog.globals.size→D0 g
theorem one_self {ρ : Ren} {v : Value} (h : oneV v=true) : RV ρ v v:=by
  cases v with
  | bool b=>exact .bool b
  | int k n=>exact .int k n
  | string s=>exact .string s
  | pointer a=>cases a with
    | none=>exact .pointer .none
    | some a=>cases h
  | slice a n c=>cases a with
    | none=>exact .slice n c .none
    | some a=>cases h
  | map r=>cases r with
    | none=>exact .map .none
    | some r=>cases h
  | chan r=>cases r with
    | none=>exact .chan .none
    | some r=>cases h
  | nilFunc=>exact .nilFunc
  | nilIface=>exact .nilIface
  | _=>cases h
theorem one_same {ρ : Ren} {v v' : Value} (h : oneV v=true) (k : RV ρ v v') : v'=v:=by
  cases k with
  | bool | int | string | nilFunc | nilIface=>rfl
  | pointer k=>cases k with
    | none=>rfl
    | some _=>cases h
  | slice n c k=>cases k with
    | none=>rfl
    | some _=>cases h
  | map k=>cases k with
    | none=>rfl
    | some _=>cases h
  | chan k=>cases k with
    | none=>rfl
    | some _=>cases h
  | _=>cases h
theorem row_self {ρ : Ren} {c : Array Value} (h : ∀ (i : Nat) v,c[i]?=some v→oneV v=true) : RVs ρ c c:=⟨rfl,fun i v v' h1 h2=>by
  rw [h1] at h2
  cases h2
  exact one_self (h i v h1)⟩
theorem row_same {ρ : Ren} {c c' : Array Value} (h : ∀ (i : Nat) v,c[i]?=some v→oneV v=true) (k : RVs ρ c c') : c'=c:=by
  refine Array.ext k.size.symm (fun i h1 h2=>?_)
  exact one_same (h i _ (Array.getElem?_eq_getElem h2)) (k.at_ i _ _ (Array.getElem?_eq_getElem h2) (Array.getElem?_eq_getElem h1))
theorem start_sim {W : World} {D0 : Nat→Prop} (h : Start W D0) (P : Program) (F : FuncId→Bool) : SimW (idRen P D0 F) W W:=by
  refine ⟨fun a b hab=>?_,fun _ h=>h.elim,fun _ h=>h.elim,rfl⟩
  obtain ⟨rfl,hd⟩:=hab
  obtain ⟨c,e,z,h1,h2⟩:=h.rows a hd
  exact ⟨_,_,h1,h1,.cells e (.inl rfl) (row_self h2)⟩
structure LeftW (W W' : World) : Prop where
  os : W'.os=W.os
  output : W'.output=W.output
  size : W.heap.size≤W'.heap.size
  block : ∀ b,b < W.heap.size→W'.heap[b]?=W.heap[b]?
def GoodEnd (Pre : Lst→List Value→World→Prop) (W : World) (e : Ending) (u : World) : Prop:=
  (e=.returned (.bool true)∧u.os=W.os∧∀ b,b < W.heap.size→u.heap[b]?=W.heap[b]?)∨∃ x y l,e=.panicked (stopEntry x y :: l)∧∃ ls pn L,x=lV ls∧y=.int .i64 pn∧Pre ls L u
section
variable [Two Tryz.prog] [Two Tryq.prog] {Gf Fs Fr Fa : FuncId→Bool} {Pre : Lst→List Value→World→Prop}
theorem company (E : PgEnv Gf Fs Fr) (sG : StatF Tryz.prog Gf) (sA : StatF Tryq.prog Fa) (mkA : ∀ f,¬Mk Fa f=true) (hG : Gf bigS=false∧Gf bigM=false∧Gf 69=false∧Gf bigF=true) (hPre : PgPre Pre) (hRecv : RecvOk) (hce : ∀ l L V u,Ce V u→Pre l L u→Pre l L V)
    {f0 : FuncId} {fn : Func} {b0 : Code} (hfz : Tryz.prog.funcs[f0]?=some fn) (hfq : Tryq.prog.funcs[f0]?=some fn) (hb0 : fn.body=some b0) (hinit : Tryz.prog.inits.idxOf? f0=none) (h0G : Gf f0=true) (h0A : Fa f0=true) {args : Array Value} {W : World} {D0 : Nat→Prop} (hst : Start W D0) (hargs : ∀ (ρ : Ren),(∀ b,D0 b→ρ b b)→RVs ρ args args)
    (hcalls : ∀ τ d,Calls Tryq.prog f0 args (W.on τ d) (GoodEnd Pre W)) : Fin Tryz.prog (fun v W'=>v=.bool true∧LeftW W W') #[G (Frame.enter Tryz.prog f0 args .normal) []] W none #[]:=by
  have hA : ∀ F,RVs (idRen Tryz.prog D0 F) args args:=fun F=>hargs _ (fun b h=>⟨rfl,h⟩)
  have hA1 : ∀ F,RVs (idRen Tryq.prog D0 F) args args:=fun F=>hargs _ (fun b h=>⟨rfl,h⟩)
  -- frames
  have frm : ∀ (P Q : Program) (σ : Ren),P.funcs[f0]?=some fn→Q.funcs[f0]?=some fn→RVs σ args args→okCode P σ.F b0=true→RFr P σ (Frame.enter Q f0 args .normal) (Frame.enter P f0 args .normal):=fun P Q σ hP hQ ha ho=>by
    have e1 : (Frame.enter Q f0 args .normal).todo=[.code b0]:=by simp [Frame.enter,hQ,hb0]
    have e2 : (Frame.enter P f0 args .normal).todo=[.code b0]:=by simp [Frame.enter,hP,hb0]
    have t1 : (Frame.enter Q f0 args .normal).tmps=args++Array.replicate (fn.ntmps - args.size) undef:=by simp [Frame.enter,hQ]
    have t2 : (Frame.enter P f0 args .normal).tmps=args++Array.replicate (fn.ntmps - args.size) undef:=by simp [Frame.enter,hP]
    refine ⟨rfl,?_,by rw [e1,e2]; exact .cons (.code ho) .nil,.nil,.run,⟨rfl,rfl,by simp [Frame.enter]⟩,.none⟩
    rw [t1,t2]
    refine ⟨rfl,fun i v v' h1 h2=>?_⟩
    rw [h1] at h2
    cases h2
    rw [Array.getElem?_append] at h1
    split at h1
    · exact ha.at_ i v v h1 h1
    · simp only [Array.getElem?_replicate] at h1
      split at h1
      · cases h1; exact rv_undef
      · cases h1
  -- alone
  have hout : ∀ (τ : Nat→Question→Nat) (d : Nat) (u : World),¬GoodEnd Pre W .outgrown u:=fun τ d u h=>by
    rcases h with ⟨h,-⟩ | ⟨_,_,_,h,-⟩ <;> cases h
  have hself : Self Tryq.prog ([trap Tryq.prog],[]) (fun _=>False) Fa { frame:=Frame.enter Tryq.prog f0 args .normal,callers:=[trap Tryq.prog],status:=.running,dying:=none } W:=
    ⟨rfl,idRen Tryq.prog D0 Fa,{ frame:=Frame.enter Tryq.prog f0 args .normal,callers:=[],status:=.running,dying:=none },W,⟨frm Tryq.prog Tryq.prog _ hfq hfq (hA1 _) (sA.code f0 fn b0 h0A hfq hb0),.base,⟨fun _=>rfl,fun _=>rfl⟩,⟨rfl,rfl⟩,⟨rfl,rfl⟩,rfl,rfl⟩,start_sim hst _ _,sA.gid (σ:=idRen Tryq.prog D0 Fa) (fun g hg=>⟨rfl,hst.glob g (by rw [Tryq.globals_size] at hg; exact hg)⟩) rfl (fun _ _ h=>h),sA.ext,rfl,rfl,⟨rfl,fun _ h=>h.elim,rfl⟩,fun _ h=>h,mkA⟩
  have hD:=(dem_of_calls E.zero1 E.count1 (R:=fun _ _=>GoodEnd Pre W) hcalls hout hself).imp (N':=fun g _=>NB [trap Tryq.prog] g) (fun g w h=>h.2)
  -- in company
  let U : Outer:=⟨fun b=>b < W.heap.size∧¬D0 b,W,fun b h=>h.1,fun a b=>a=b∧D0 a⟩
  have hleaf : Leaf Tryz.prog U Gf (Ends Tryz.prog.alt f0 (fun _ _=>GoodEnd Pre W)) (fun v W'=>v=.bool true∧LeftW W W'):=by
    refine leaf_of (page:=69) hG.2.2.1 hinit (fun τ d e u h=>?_) (fun h V ρ g W1 ρ' W' hE hm hRel hle S hK=>⟨rfl,?_⟩)
    · rcases h with ⟨h,-⟩ | ⟨x,y,l,h,-⟩
      · exact .inl h
      · exact .inr ⟨_,_,_,_,_,_,h⟩
    · obtain ⟨τ,d,τ',d',e,fr,hR,rfl,-,hlv,-⟩:=hE
      rcases hR with ⟨rfl,hos,hrow⟩ | ⟨x,y,l,rfl,-⟩
      · refine ⟨S.os.trans hos,hK.2.1,hK.1,fun b hb=>?_⟩
        by_cases hd : D0 b
        · have hbb : ρ' b b:=hle _ _ (hRel.out.2.2 b b ⟨rfl,hd⟩)
          obtain ⟨c,e,z,h1,h2⟩:=hst.rows b hd
          obtain ⟨o,o',k1,k2,k3⟩:=S.obj b b hbb
          have hrow : V.heap[b]?=W.heap[b]?:=hrow b hb
          rw [hrow,h1] at k1
          cases k1
          cases k3 with
          | cells e hz hv=>
            have hF : ρ'.F bigF=true:=by rw [hle.F,hRel.same]; exact hG.2.2.2
            rcases hz with rfl | ⟨hz,-⟩
            · rw [row_same h2 hv] at k2
              rw [k2,h1]
            · rw [hF] at hz; cases hz
        · exact hK.2.2 b ⟨hb,hd⟩
      · have hlv:=hlv.1
        rw [hm] at hlv
        cases hlv
  have hap : ApartOk Tryz.prog U Gf [] (Ends Tryz.prog.alt f0 (fun _ _=>GoodEnd Pre W)) (fun v W'=>v=.bool true∧LeftW W W'):=by
    rw [E.alt]
    refine apart_page E hPre hRecv ⟨fun τ d x y e u h=>?_⟩ hce
    rcases h with ⟨h,-⟩ | ⟨x',y',l,h,hp⟩
    · cases h
    · cases h
      exact hp
  have hD' : Dem Tryz.prog.alt (fun g _=>NB [trap Tryz.prog.alt] g) (Ends Tryz.prog.alt f0 (fun _ _=>GoodEnd Pre W)) { frame:=Frame.enter Tryq.prog f0 args .normal,callers:=[trap Tryq.prog],status:=.running,dying:=none } W:=by
    rw [E.alt]
    exact hD
  have hrel : Rel Tryz.prog U Gf [] (idRen Tryz.prog D0 Gf) { frame:=Frame.enter Tryq.prog f0 args .normal,callers:=[trap Tryq.prog],status:=.running,dying:=none } { frame:=Frame.enter Tryz.prog f0 args .normal,callers:=[],status:=.running,dying:=none } W W:=by
    have hf:=frm Tryz.prog Tryq.prog (idRen Tryz.prog D0 Gf) hfz hfq (hA _) (sG.code f0 fn b0 h0G hfz hb0)
    have hgid : GId Tryz.prog (idRen Tryz.prog D0 Gf):=sG.gid (σ:=idRen Tryz.prog D0 Gf) (fun g hg=>⟨rfl,hst.glob g hg⟩) rfl (fun _ _ h=>h)
    have hk : ∀ P : Program,(Frame.enter P f0 args .normal).kind=.normal∧(Frame.enter P f0 args .normal).roundOf=none:=fun _=>⟨rfl,rfl⟩
    refine ⟨⟨hf,by rw [E.alt]; exact .base,⟨fun _=>(hk _).1.trans (hk _).1.symm,fun _=>(hk _).2⟩,⟨rfl,rfl⟩,⟨rfl,rfl⟩,rfl,rfl⟩,start_sim hst _ _,hgid,sG.ext,hG.1,rfl,⟨rfl,rfl⟩,⟨hG.2.1,fun a b o hab ho hc=>?_⟩,⟨⟨Nat.le_refl _,rfl,fun _ _=>rfl⟩,fun a b hab hk=>?_,fun a b h=>h⟩⟩
    · obtain ⟨c,e,z,h1,-⟩:=hst.rows a hab.2
      rw [h1] at ho
      cases ho
      cases hc
    · obtain ⟨rfl,hd⟩:=hab
      exact hk.2 hd
  have hlv : Lv Tryz.prog (fun _=>False) #[] #[({ frame:=Frame.enter Tryz.prog f0 args .normal,callers:=[],status:=.running,dying:=none } : Goroutine)] (fun _=>0):=by
    refine ⟨fun j y hj _ hy=>?_,fun j hj=>?_⟩
    · cases j with
      | zero=>omega
      | succ j=>simp at hy
    · exact (Go.Conc.leavers_one Tryz.prog { frame:=Frame.enter Tryz.prog f0 args .normal,callers:=[],status:=.running,dying:=none }).above j hj
  exact solo_ok E.zero E.count (leaf_solo hleaf) hap hD' _ _ (.refl _ _) _ _ W none #[] (fun _=>0) _ rfl hlv (Go.Conc.past_nil.mono (Nat.zero_le _)) hrel
end
def wf (ro : Option Nat) : Fence:={ Fence.wide with round:=ro }
theorem wf_in {ro : Option Nat} {P : Program} (m : Machine) : m.fenced P (wf ro):=fenced_wide P m
theorem wf_steps {ro : Option Nat} {P : Program} {m m' : Machine} : StepsIn (Machine.fenced P (wf ro)) P m m'↔Steps P m m':=
  ⟨StepsIn.steps,fun h=>(StepsIn.of_steps h).mono fun m _=>wf_in m⟩
theorem wf_room (ro : Option Nat) (k : Nat) : (wf ro).room k:=fun _ h=>by cases h
section
variable {P : Program} {ops : Array Oper} {ro : Option Nat}
def OpTo (P : Program) (ops : Array Oper) (ro : Option Nat) (i : Nat) (a : Act) (w : World) (K : Act→World→Prop) : Prop:=
  ∀ (b : Frame) (k : List Item) (cs : List Frame) (rest : List Nat),b.roundOf=ro →
    ∃ a' w',K a' w'∧Steps P (lone (b.atR a (.inRegion ops (i :: rest) :: k)) cs w) (lone (b.atR a' (.inRegion ops rest :: k)) cs w')
def OpsTo (P : Program) (ops : Array Oper) (ro : Option Nat) (K : Act→World→Prop) : List Nat→Act→World→Prop
  | [],a,w=>K a w
  | i :: r,a,w=>OpTo P ops ro i a w (OpsTo P ops ro K r)
theorem OpTo.mono {i : Nat} {a : Act} {w : World} {K K' : Act→World→Prop} (h : OpTo P ops ro i a w K) (hk : ∀ a w,K a w→K' a w) : OpTo P ops ro i a w K':=
  fun b k cs rest hb=>let ⟨a',w',h1,h2⟩:=h b k cs rest hb; ⟨a',w',hk _ _ h1,h2⟩
theorem opsTo_steps {K : Act→World→Prop} {b : Frame} {k : List Item} {cs : List Frame} (hb : b.roundOf=ro) : ∀ (l : List Nat) (a : Act) (w : World),OpsTo P ops ro K l a w →
    ∃ a' w',K a' w'∧Steps P (lone (b.atR a (.inRegion ops l :: k)) cs w) (lone (b.atR a' k) cs w')
  | [],a,w,h=>⟨a,w,h,.one stepR_region_end⟩
  | i :: r,a,w,h=>by
    obtain ⟨a1,w1,h1,s1⟩:=h b k cs r hb
    obtain ⟨a2,w2,h2,s2⟩:=opsTo_steps hb r a1 w1 h1
    exact ⟨a2,w2,h2,s1.trans s2⟩
theorem region_to {id n : Nat} {Q : Exit→Act→World→Prop} {a : Act} {w : World} (h : OpsTo P ops ro (Q .normal) (List.range ops.size) a w) : (Code.region id ops false).wpIn (wf ro) n P Q a w:=by
  intro b k cs hb _ _
  obtain ⟨a',w',h1,h2⟩:=opsTo_steps (b:=b) (k:=k) (cs:=cs) hb _ _ _ h
  exact ⟨.normal,a',w',h1,wf_steps.2 (.head stepR_region h2)⟩
theorem opTo_value {i : Nat} {o : Oper} {a : Act} {w w' : World} {v : Value} {K : Act→World→Prop} (ho : ops[i]?=some o) (hw : Region.wanted o (yielded ops a.tmps)=true) (hd : ∀ c,o.op≠.defer c) (hr : (execOp a.eval o).run P w=.ok (.value v) w') (hK : K (a.put o.dst v) w') : OpTo P ops ro i a w K:=by
  intro b k cs rest hb
  refine ⟨_,_,hK,.one ?_⟩
  have hg:=stepGR_op (P:=P) (b:=b) (k:=k) (cs:=cs) (w:=w) (rest:=rest) ho hw
  rw [Oper.semAt_eq _ _ _ hd] at hg
  have hfin : (b.atR a (.inRegion ops (i :: rest) :: k)).finish v=b.atR (a.put o.dst v) (.inRegion ops rest :: k):=by rw [Frame.finish_atR,ho]; rfl
  exact step_lone_go (by rw [hg,←hfin]; simp [stepG.apply,hr])
theorem opTo_call {i : Nat} {o : Oper} {a : Act} {w w' : World} {f : FuncId} {args : Array Value} {K : Act→World→Prop} (ho : ops[i]?=some o) (hw : Region.wanted o (yielded ops a.tmps)=true) (hd : ∀ c,o.op≠.defer c) (hr : (execOp a.eval o).run P w=.ok (.enter f args) w')
    (hC : Calls P f args w' fun e w''=>∃ v,e=.returned v∧K (a.put o.dst v) w'') : OpTo P ops ro i a w K:=by
  intro b k cs rest hb
  obtain ⟨e,w2,fr,⟨v,rfl,hK⟩,hs,-,hl⟩:=hC (b.atR a (.inRegion ops (i :: rest) :: k) :: cs)
  have hs : Steps P _ _:=hs
  refine ⟨_,_,hK,?_⟩
  have hg:=stepGR_op (P:=P) (b:=b) (k:=k) (cs:=cs) (w:=w) (rest:=rest) ho hw
  rw [Oper.semAt_eq _ _ _ hd] at hg
  have henter : step P (lone (b.atR a (.inRegion ops (i :: rest) :: k)) cs w)=.next (lone (Frame.enter P f args .normal) (b.atR a (.inRegion ops (i :: rest) :: k) :: cs) w'):=
    step_lone_go (by rw [hg]; simp [stepG.apply,hr,Frame.atR])
  have hfin : (b.atR a (.inRegion ops (i :: rest) :: k)).finish v=b.atR (a.put o.dst v) (.inRegion ops rest :: k):=by rw [Frame.finish_atR,ho]; rfl
  refine .head henter (hs.trans (.one ?_))
  rw [←hfin]
  exact step_leave_returned hl
theorem opTo_send {i : Nat} {o : Oper} {a : Act} {w : World} {x y : Operand} {c cap s r : Nat} {buf : Array Value} {tm : Bool} {K : Act→World→Prop} (ho : ops[i]?=some o) (hw : Region.wanted o (yielded ops a.tmps)=true) (hop : o.op=.send x y) (hx : a.eval x=.chan (some c))
    (hc : w.heap[c]?=some (.chan cap buf false s r tm)) (hroom : buf.size < cap) (hK : K (a.put o.dst undef) (w.setChan c cap (buf.push (a.eval y)) false (s+1) r tm)) : OpTo P ops ro i a w K:=by
  intro b k cs rest hb
  refine ⟨_,_,hK,.one ?_⟩
  have hg:=stepGR_op (P:=P) (b:=b) (k:=k) (cs:=cs) (w:=w) (rest:=rest) ho hw
  rw [Oper.semAt_eq _ _ _ (by rw [hop]; exact fun c h=>by cases h)] at hg
  have he : (execOp a.eval o).run P w=.ok (.comm #[scase c (a.eval y) (.tuple #[])] true .send) w:=by
    have e : execOp a.eval o=pure (.comm #[{ chan:=a.eval x,send:=some (a.eval y),zero:=.tuple #[] }] true .send):=by simp only [execOp,hop]
    rw [e,hx]
    rfl
  have hfin : (b.atR a (.inRegion ops (i :: rest) :: k)).finish undef=b.atR (a.put o.dst undef) (.inRegion ops rest :: k):=by rw [Frame.finish_atR,ho]; rfl
  obtain ⟨es,hcomm⟩ : ∃ es,stepG P true (G (b.atR a (.inRegion ops (i :: rest) :: k)) cs) w=.comm (G (b.atR a (.inRegion ops (i :: rest) :: k)) cs) #[scase c (a.eval y) (.tuple #[])] true .send w es:=by
    have hg' : stepG P true (G (b.atR a (.inRegion ops (i :: rest) :: k)) cs) w=_:=hg
    rw [hg']
    simp only [stepG.apply,G,Frame.atR,GStep.after,if_true]
    have h1 : ((execOp a.eval o).runT P w #[]).1=.ok (.comm #[scase c (a.eval y) (.tuple #[])] true .send) w:=by rw [Sem.runT_eq]; exact he
    generalize (execOp a.eval o).runT P w #[]=z at h1
    obtain ⟨z1,z2⟩:=z
    subst h1
    exact ⟨_,rfl⟩
  rw [←hfin]
  exact step_lone_send_room hcomm hc hroom
theorem opsTo_inv {K : Act→World→Prop} (I : Array Bool→Act→World→Prop) (hstep : ∀ listed a w i,I listed a w→i∈Region.ready .any ops listed→OpTo P ops ro i a w (I (listed.setIfInBounds i true))) (hend : ∀ listed a w,I listed a w→Region.ready .any ops listed=[]→K a w) :
    ∀ (fuel t : Nat) (listed : Array Bool) (a : Act) (w : World),I listed a w→(List.range ops.size).countP (fun i=>!listed.getD i true)≤fuel→OpsTo P ops ro K (Region.linearise.go .any ops fuel t listed []) a w:=by
  intro fuel
  induction fuel with
  | zero=>
    intro t listed a w hI hz
    have hz0 : Region.ready .any ops listed=[]:=by
      unfold Region.ready
      rw [List.filter_eq_nil_iff]
      intro i hi h
      have:=List.countP_eq_zero.1 (Nat.le_zero.1 hz) i hi
      simp only [Bool.and_eq_true] at h
      exact this h.1
    simp only [Region.linearise.go]
    exact hend _ _ _ hI hz0
  | succ fuel ih=>
    intro t listed a w hI hz
    simp only [Region.linearise.go]
    change OpsTo P ops ro K (match (Region.ready .any ops listed)[t % (Region.ready .any ops listed).length]? with
      | some i=>Region.linearise.go .any ops fuel (t / (Region.ready .any ops listed).length) (listed.setIfInBounds i true) [i]
      | none=>[].reverse) a w
    cases hi : (Region.ready .any ops listed)[t % (Region.ready .any ops listed).length]? with
    | none=>
      refine hend _ _ _ hI ?_
      cases hr : Region.ready .any ops listed with
      | nil=>rfl
      | cons x xs=>
        rw [hr,List.getElem?_eq_none_iff] at hi
        have:=Nat.mod_lt t (show 0 < (x :: xs).length by simp)
        omega
    | some i=>
      simp only []
      rw [linearise_go_acc,List.reverse_singleton,List.singleton_append]
      have hm:=List.mem_of_getElem? hi
      refine (hstep _ _ _ i hI hm).mono fun a' w' hI'=>ih _ _ _ _ hI' ?_
      have hm':=List.mem_filter.1 hm
      have hlt : i < ops.size:=List.mem_range.1 hm'.1
      have h1 : (!listed.getD i true)=true:=by
        have:=hm'.2
        simp only [Bool.and_eq_true] at this
        exact this.1
      have hls : i < listed.size:=by
        rcases Nat.lt_or_ge i listed.size with h | h
        · exact h
        · rw [Array.getD_eq_getD_getElem?,Array.getElem?_eq_none h] at h1
          cases h1
      -- one fewer
      have hle : ∀ j,(!(listed.setIfInBounds i true).getD j true)=true→(!listed.getD j true)=true:=fun j h=>by
        by_cases hj : j=i
        · subst hj; exact h1
        · rw [Array.getD_eq_getD_getElem?,Array.getElem?_setIfInBounds_ne (fun e=>hj e.symm),←Array.getD_eq_getD_getElem?] at h
          exact h
      have hlt2 : (List.range ops.size).countP (fun j=>!(listed.setIfInBounds i true).getD j true) < (List.range ops.size).countP (fun j=>!listed.getD j true):=by
        have hi0 : (!(listed.setIfInBounds i true).getD i true)=false:=by
          rw [Array.getD_eq_getD_getElem?,Array.getElem?_setIfInBounds_self_of_lt hls]; rfl
        obtain ⟨l1,l2,hl⟩:=List.append_of_mem (List.mem_range.2 hlt)
        rw [hl]
        simp only [List.countP_append,List.countP_cons,hi0,h1]
        have e1:=List.countP_mono_left (l:=l1) (fun j _=>hle j)
        have e2:=List.countP_mono_left (l:=l2) (fun j _=>hle j)
        simp only [Bool.false_eq_true,if_false,if_true]
        omega
      omega
theorem region_inv {id n : Nat} {Q : Exit→Act→World→Prop} {a : Act} {w : World} (hm : P.follows .mixedOrders=true) (I : Array Bool→Act→World→Prop) (hstep : ∀ listed a w i,I listed a w→i∈Region.ready .any ops listed→OpTo P ops ro i a w (I (listed.setIfInBounds i true))) (hend : ∀ listed a w,I listed a w→Region.ready .any ops listed=[]→Q .normal a w)
    (h0 : I (Array.replicate ops.size false) a { w with drawn:=w.drawn+1 }) : (Code.region id ops true).wpIn (wf ro) n P Q a w:=by
  intro b k cs hb _ _
  have ht:=opsTo_inv (ro:=ro) I hstep hend ops.size (w.tape w.drawn (.order b.fn id)) _ a _ h0 (by
    have:=List.countP_le_length (p:=fun i=>!(Array.replicate ops.size false).getD i true) (l:=List.range ops.size)
    simpa using this)
  obtain ⟨a',w',h1,h2⟩:=opsTo_steps (b:=b) (k:=k) (cs:=cs) hb _ _ _ ht
  refine ⟨.normal,a',w',h1,wf_steps.2 (.head stepR_region_draw ?_)⟩
  simp only [Region.schedule,hm,Bool.true_or,if_true]
  exact h2
end
section
variable {P : Program} {ops : Array Oper} {ro : Option Nat}
theorem opTo_skip {i : Nat} {o : Oper} {a : Act} {w : World} {K : Act→World→Prop} (ho : ops[i]?=some o) (hw : Region.wanted o (yielded ops a.tmps)=false) (hK : K (a.put o.dst undef) w) : OpTo P ops ro i a w K:=by
  intro b k cs rest hb
  refine ⟨_,_,hK,.one ?_⟩
  have hs:=stepR_op_skip (P:=P) (b:=b) (a:=a) (k:=k) (cs:=cs) (w:=w) (ops:=ops) (i:=i) (rest:=rest) (by simp [ho,hw])
  simpa only [ho,Option.bind_some] using hs
theorem opTo_round {i : Nat} {o : Oper} {a : Act} {w w' : World} {l : Nat} {f : FuncId} {tmps : Array Value} {assign body : Code} {n : Nat} {K : Act→World→Prop} (ho : ops[i]?=some o) (hw : Region.wanted o (yielded ops a.tmps)=true) (hd : ∀ c,o.op≠.defer c) (hr : (execOp a.eval o).run P w=.ok (.round l f tmps assign body) w')
    (hC : RoundIn (wf ro) n P l f tmps assign body w' fun e w''=>∃ v,e=.returned v∧K (a.put o.dst v) w'') : OpTo P ops ro i a w K:=by
  intro b k cs rest hb
  obtain ⟨e,w2,⟨v,rfl,hK⟩,hs⟩:=hC.2 (b.atR a (.inRegion ops (i :: rest) :: k)) cs (wf_room _ _)
  have hs:=wf_steps.1 (show StepsIn (Machine.fenced P (wf ro)) P _ _ from hs)
  refine ⟨_,_,hK,?_⟩
  have hg:=stepGR_op (P:=P) (b:=b) (k:=k) (cs:=cs) (w:=w) (rest:=rest) ho hw
  rw [Oper.semAt_eq _ _ _ hd] at hg
  have henter : step P (lone (b.atR a (.inRegion ops (i :: rest) :: k)) cs w)=.next (lone (Frame.round l f tmps assign body .normal) (b.atR a (.inRegion ops (i :: rest) :: k) :: cs) w'):=
    step_lone_go (by rw [hg]; simp [stepG.apply,hr,Frame.atR])
  have hfin : (b.atR a (.inRegion ops (i :: rest) :: k)).finish v=b.atR (a.put o.dst v) (.inRegion ops rest :: k):=by rw [Frame.finish_atR,ho]; rfl
  rw [←hfin]
  exact .head henter hs
theorem eval_put_other {a : Act} {d t : Nat} {v : Value} (h : t≠d) : (a.put (some d) v).eval (.tmp t)=a.eval (.tmp t):=by
  simp only [Act.put,Act.eval,Array.getD_eq_getD_getElem?]
  rw [Array.getElem?_setIfInBounds_ne (fun e=>h e.symm)]
theorem eval_put_same {a : Act} {d : Nat} {v : Value} (h : d < a.tmps.size) : (a.put (some d) v).eval (.tmp d)=v:=by
  simp only [Act.put,Act.eval,Array.getD_eq_getD_getElem?]
  rw [Array.getElem?_setIfInBounds_self_of_lt h]; rfl
theorem yielded_of {a : Act} {j d : Nat} {o : Oper} {x : Bool} (ho : ops[j]?=some o) (hd : o.dst=some d) (hs : d < a.tmps.size) (he : a.eval (.tmp d)=.bool x) : yielded ops a.tmps j=some x:=by
  simp only [Act.eval,Array.getD_eq_getD_getElem?,Array.getElem?_eq_getElem hs,Option.getD_some] at he
  simp [yielded,ho,hd,hs,he]
structure Vals (a0 : Act) (base lim : Nat) (vals : Nat→Value) (Wd : (Nat→Bool)→World→Prop) (sz : Nat) (listed : Array Bool) (a : Act) (w : World) : Prop where
  size : a.tmps.size=a0.tmps.size
  defers : a.defers=a0.defers
  old : ∀ t,t < base→a.eval (.tmp t)=a0.eval (.tmp t)
  new : ∀ i,i < lim→listed.getD i false=true→a.eval (.tmp (base+i))=vals i
  world : Wd (fun i=>listed.getD i false) w
  len : listed.size=sz
theorem ready_deps {listed : Array Bool} {i : Nat} {o : Oper} (h : i∈Region.ready .any ops listed) (ho : ops[i]?=some o) : ∀ e∈o.after,Region.binds .any e=true→listed.getD e.on false=true:=by
  have h2:=(List.mem_filter.1 h).2
  simp only [ho,Option.map_some,Option.getD_some,Bool.and_eq_true] at h2
  intro e he hb
  have:=Array.all_eq_true'.1 h2.2 e he
  simpa [hb] using this
theorem ready_lt {listed : Array Bool} {i : Nat} (h : i∈Region.ready .any ops listed) : i < ops.size∧listed.getD i true=false:=by
  have h1:=List.mem_filter.1 h
  have h2:=h1.2
  simp only [Bool.and_eq_true,Bool.not_eq_true'] at h2
  exact ⟨List.mem_range.1 h1.1,h2.1⟩
def setD (d : Nat→Bool) (i : Nat) : Nat→Bool:=fun j=>if j=i then true else d j
theorem listed_set {listed : Array Bool} {i : Nat} (h : i < listed.size) : (fun j=>(listed.setIfInBounds i true).getD j false)=setD (fun j=>listed.getD j false) i:=by
  funext j
  unfold setD
  by_cases hj : j=i
  · subst hj
    rw [if_pos rfl,Array.getD_eq_getD_getElem?,Array.getElem?_setIfInBounds_self_of_lt h]; rfl
  · rw [if_neg hj,Array.getD_eq_getD_getElem?,Array.getElem?_setIfInBounds_ne (fun e=>hj e.symm),←Array.getD_eq_getD_getElem?]
theorem Vals.step {a0 : Act} {base lim : Nat} {vals : Nat→Value} {Wd : (Nat→Bool)→World→Prop} {listed : Array Bool} {a : Act} {w w' : World} {i : Nat} {o : Oper} (V : Vals a0 base lim vals Wd ops.size listed a w) (hi : i∈Region.ready .any ops listed) (ho : ops[i]?=some o) (hd : i < lim→o.dst=some (base+i)) (hd2 : ¬i < lim→o.dst=none) (hsz : base+lim≤a0.tmps.size)
    {v : Value} (hv : i < lim→v=vals i) (hw : Wd (setD (fun j=>listed.getD j false) i) w') : Vals a0 base lim vals Wd ops.size (listed.setIfInBounds i true) (a.put o.dst v) w':=by
  have hlt : i < listed.size:=by rw [V.len]; exact (ready_lt hi).1
  by_cases h : i < lim
  · rw [hd h]
    refine ⟨by simp [Act.put,V.size],V.defers,fun t ht=>(eval_put_other (by omega)).trans (V.old t ht),fun j hj hl=>?_,by rw [listed_set hlt]; exact hw,by simp [V.len]⟩
    by_cases hji : j=i
    · subst hji
      rw [eval_put_same (by rw [V.size]; omega)]
      exact hv h
    · rw [eval_put_other (by omega)]
      refine V.new j hj ?_
      rwa [Array.getD_eq_getD_getElem?,Array.getElem?_setIfInBounds_ne (fun e=>hji e.symm),←Array.getD_eq_getD_getElem?] at hl
  · rw [hd2 h]
    refine ⟨V.size,V.defers,V.old,fun j hj hl=>V.new j hj ?_,by rw [listed_set hlt]; exact hw,by simp [V.len]⟩
    rwa [Array.getD_eq_getD_getElem?,Array.getElem?_setIfInBounds_ne (fun e=>h (by omega)),←Array.getD_eq_getD_getElem?] at hl
def okDeps (ops : Array Oper) : Bool:=(List.range ops.size).all fun i=>((ops[i]?).map fun o=>o.after.toList.all fun e=>decide (e.on < i)).getD true
def okDst (ops : Array Oper) (base lim : Nat) : Bool:=(List.range ops.size).all fun i=>((ops[i]?).map fun o=>if i < lim then o.dst == some (base+i) else o.dst == none).getD true
theorem all_done (hd : okDeps ops=true) {listed : Array Bool} (hs : listed.size=ops.size) (hr : Region.ready .any ops listed=[]) : ∀ i,i < ops.size→listed.getD i false=true:=by
  intro i
  induction i using Nat.strongRecOn with
  | _ i ih=>
    intro hi
    by_cases h : listed.getD i false=true
    · exact h
    · exfalso
      have hm : i∈Region.ready .any ops listed:=by
        refine List.mem_filter.2 ⟨List.mem_range.2 hi,?_⟩
        have h1:=List.all_eq_true.1 hd i (List.mem_range.2 hi)
        simp only [Array.getElem?_eq_getElem hi,Option.map_some,Option.getD_some,Bool.and_eq_true] at h1 ⊢
        refine ⟨?_,Array.all_eq_true'.2 fun e he=>?_⟩
        · rw [Array.getD_eq_getD_getElem?,Array.getElem?_eq_getElem (by omega)] at h ⊢
          simpa using h
        · have h2:=List.all_eq_true.1 h1 e (Array.mem_toList_iff.2 he)
          have h3 := ih e.on (by simpa using h2) (by have : e.on < i := by simpa using h2
                                                     omega)
          simp [h3]
      rw [hr] at hm
      cases hm
theorem dst_of {base lim : Nat} (hd : okDst ops base lim=true) : ∀ i o,ops[i]?=some o→(i < lim→o.dst=some (base+i))∧(¬i < lim→o.dst=none):=by
  intro i o ho
  have hi : i < ops.size:=(Array.getElem?_eq_some_iff.1 ho).1
  have h1:=List.all_eq_true.1 hd i (List.mem_range.2 hi)
  simp only [ho,Option.map_some,Option.getD_some] at h1
  refine ⟨fun h=>?_,fun h=>?_⟩
  · rw [if_pos h] at h1; simpa using h1
  · rw [if_neg h] at h1; simpa using h1
theorem region_vals {id n : Nat} {Q : Exit→Act→World→Prop} {a0 : Act} {w0 : World} (hm : P.follows .mixedOrders=true) (base lim : Nat) (vals : Nat→Value) (Wd : (Nat→Bool)→World→Prop) (hsz : base+lim≤a0.tmps.size)
    (hdst : okDst ops base lim=true) (hdep : okDeps ops=true)
    (hstep : ∀ (listed : Array Bool) (a : Act) (w : World) (i : Nat) (o : Oper),i∈Region.ready .any ops listed→ops[i]?=some o→Vals a0 base lim vals Wd ops.size listed a w→(∀ e∈o.after,Region.binds .any e=true→listed.getD e.on false=true) →
      OpTo P ops ro i a w (fun a' w'=>∃ v,a'=a.put o.dst v∧(i < lim→v=vals i)∧Wd (setD (fun j=>listed.getD j false) i) w'))
    (hend : ∀ a w,a.tmps.size=a0.tmps.size→a.defers=a0.defers→(∀ t,t < base→a.eval (.tmp t)=a0.eval (.tmp t))→(∀ i,i < lim→i < ops.size→a.eval (.tmp (base+i))=vals i)→(∃ d,(∀ i,i < ops.size→d i=true)∧Wd d w)→Q .normal a w)
    (h0 : Wd (fun _=>false) { w0 with drawn:=w0.drawn+1 }) : (Code.region id ops true).wpIn (wf ro) n P Q a0 w0:=by
  have hf : (fun i=>(Array.replicate ops.size false).getD i false)=fun _=>false:=by
    funext i
    rw [Array.getD_eq_getD_getElem?,Array.getElem?_replicate]
    split <;> rfl
  refine region_inv hm (Vals a0 base lim vals Wd ops.size) (fun listed a w i V hi=>?_) (fun listed a w V hr=>?_) ⟨rfl,rfl,fun _ _=>rfl,fun i _ h=>?_,by rw [hf]; exact h0,by simp⟩
  · have hlt:=(ready_lt hi).1
    have ho:=Array.getElem?_eq_getElem hlt
    refine (hstep listed a w i _ hi ho V (ready_deps hi ho)).mono ?_
    rintro a' w' ⟨v,rfl,hv,hw⟩
    exact V.step hi ho (dst_of hdst i _ ho).1 (dst_of hdst i _ ho).2 hsz hv hw
  · have h1:=all_done hdep V.len hr
    exact hend a w V.size V.defers V.old (fun i hi hi2=>V.new i hi (h1 i hi2)) ⟨_,h1,V.world⟩
  · have:=congrFun hf i
    exact absurd (this.symm.trans h) (by simp)
end
end Go.Proofs.YtnapepbdohidgaaGreatDoorQ
namespace Go.Proofs.YtnapepbdohidgaaGreatDoorQ
open Go.RowKit
theorem cellOn {W w1 : World} (hb : Below W.heap.size W w1) {a : Addr} {v : Value} (h : W.cell? a=some v) : w1.cell? a=some v:=by
  rw [hb.cell (World.block_lt_of_cell? W a h)]; exact h
theorem cmp_lt (x y : Int) : cmpOf x y < 0↔x < y:=by unfold cmpOf; (repeat' split) <;> omega
theorem cmp_eq (x y : Int) : (cmpOf x y == 0)=decide (x=y):=by unfold cmpOf; (repeat' split) <;> simp <;> omega
set_option maxHeartbeats 400000 in
theorem bsK_any (b n cap : Nat) (L : Nat→Int) (p : Nat→Option Addr) (t : Int) (w : World) (hn : n≤2199023255552)
    (hc : ∀ i,i < n→w.cell? ⟨b,i * 2,none⟩=some (.int .u8 (L i))∧w.cell? ⟨b,i * 2+1,none⟩=some (.pointer (p i)))
    (hs : ∀ i j,i < j→j < n→L i < L j) :
    Calls Tryq.prog 133 #[.slice (some ⟨b,0,none⟩) n cap,.int .u8 t,.func (.func 134) #[] #[]] w fun e w'=>∃ r : Nat,r≤n∧(∀ j,j < r→L j < t)∧(∀ j,r≤j→j < n→t≤L j) ∧
      e=.returned (.tuple #[.int .i64 r,.bool (decide (r < n∧L r=t))])∧Below w.heap.size w w':=by
  have HS : Hid (∀ i j,i < j→j < n→L i < L j):=hs
  clear hs
  go_enter Tryq.func133,Tryz.ntmps133
  go_wp2
  go_loopw [9,10,11] (fun i j _ wr=>∃ x y : Nat,x≤y∧y≤n∧i=.int .i64 x∧j=.int .i64 y∧(∀ k,k < x→L k < t)∧(∀ k,y≤k→k < n→t≤L k)∧Below w.heap.size w wr) (fun i j _ _=>(intOf j).toNat - (intOf i).toNat)
  case atStart=>exact ⟨0,n,Nat.zero_le _,Nat.le_refl _,rfl,rfl,fun k h=>absurd h (Nat.not_lt_zero _),fun k h1 h2=>absurd h2 (by omega),Below.refl _ _⟩
  case round=>
    obtain ⟨x,y,hxy,hyn,rfl,rfl,hlo,hhi,hb⟩:=hrel
    have HL : Hid (∀ k,k < x→L k < t):=hlo
    have HH : Hid (∀ k,y≤k→k < n→t≤L k):=hhi
    clear hlo hhi
    by_cases hlt : x < y
    · obtain ⟨c0,c1⟩:=hc ((x+y) / 2) (by omega)
      replace c0:=cellOn hb c0
      replace c1:=cellOn hb c1
      by_cases hcm : L ((x+y) / 2) < t
      · have hcm':=(cmp_lt _ _).2 hcm
        go_wp2_with (go_at_call 134; refine (cloK_any _ _ _ _).mono ?_; rintro e w' ⟨rfl,rfl⟩)
        refine ⟨⟨(x+y) / 2+1,y,by omega,hyn,by go_num,rfl,fun k hk=>?_,HH.out,hb.alloc hb.size _⟩,by simp [intOf]; omega⟩
        by_cases hk2 : k=(x+y) / 2
        · rw [hk2]; exact hcm
        · have:=HS.out k ((x+y) / 2) (by omega) (by omega); omega
      · have hcm' : ¬cmpOf (L ((x+y) / 2)) t < 0:=fun h=>hcm ((cmp_lt _ _).1 h)
        go_wp2_with (go_at_call 134; refine (cloK_any _ _ _ _).mono ?_; rintro e w' ⟨rfl,rfl⟩)
        refine ⟨⟨x,(x+y) / 2,by omega,by omega,rfl,by go_num,HL.out,fun k hk1 hk2=>?_,hb.alloc hb.size _⟩,by simp [intOf]; omega⟩
        by_cases hk3 : k=(x+y) / 2
        · rw [hk3]; omega
        · have:=HS.out ((x+y) / 2) k (by omega) (by omega); omega
    · have hxy2 : x=y:=by omega
      subst hxy2
      clear hlt hxy
      by_cases hxn : x < n
      · obtain ⟨c0,c1⟩:=hc x hxn
        replace c0:=cellOn hb c0
        replace c1:=cellOn hb c1
        go_wp2_with (go_at_call 134; refine (cloK_any _ _ _ _).mono ?_; rintro e w' ⟨rfl,rfl⟩)
        go_ret2
        exact ⟨x,hyn,HL.out,HH.out,by simp [hxn,cmp_eq],hb.alloc hb.size _⟩
      · go_wp2
        go_ret2
        exact ⟨x,hyn,HL.out,HH.out,by simp [hxn],hb⟩
set_option maxHeartbeats 400000 in
theorem bsK_none (a : Option Addr) (cap : Nat) (t : Int) (w : World) :
    Calls Tryq.prog 133 #[.slice a 0 cap,.int .u8 t,.func (.func 134) #[] #[]] w fun e w'=>e=.returned (.tuple #[.int .i64 0,.bool false])∧w'=w:=by
  go_enter Tryq.func133,Tryz.ntmps133
  go_wp2
  refine wp_loop_rounds 1 ?_
  rw [rounds_succ]
  go_wp2
  go_ret2
  exact ⟨rfl,rfl⟩
structure Ver where
  num : Int
  body : ByteArray
  mark : Bool
def verCells (h : List Ver) : List Value:=h.flatMap fun v=>[.int .i64 v.num,.string v.body,.bool v.mark]
def kidCells (ks : List (UInt8×Option Addr)) : List Value:=ks.flatMap fun k=>[.int .u8 (k.1.toNat : Int),.pointer k.2]
def RowAt (A : Nat→Prop) (w : World) (v : Value) (n : Nat) (xs : List Value) : Prop:=
  ∃ a cap,v=.slice a n cap∧(a=none→cap=0)∧(xs≠[]→∃ g,a=some ⟨g,0,none⟩∧A g∧g < w.heap.size∧∀ j,j < xs.length→w.cell? ⟨g,j,none⟩=xs[j]?)
def HistAt (A : Nat→Prop) (w : World) (v : Value) (h : List Ver) : Prop:=RowAt A w v h.length (verCells h)
def KidsAt (A : Nat→Prop) (w : World) (v : Value) (ks : List (UInt8×Option Addr)) : Prop:=RowAt A w v ks.length (kidCells ks)
def NodeAt (A : Nat→Prop) : Nat→World→Option Addr→(List UInt8→List Ver)→Prop
  | 0,_,p,f=>p=none∧∀ k,f k=[]
  | n+1,w,p,f=>(p=none∧∀ k,f k=[])∨∃ g hv kv ks,p=some ⟨g,0,none⟩∧A g∧w.cell? ⟨g,0,none⟩=some (.bool (!(f []).isEmpty))∧w.cell? ⟨g,1,none⟩=some hv ∧
      w.cell? ⟨g,2,none⟩=some kv∧HistAt A w hv (f [])∧KidsAt A w kv ks∧ks.Pairwise (fun a b=>a.1 < b.1) ∧
      (∀ c q,(c,q)∈ks→NodeAt A n w q (fun k=>f (c :: k)))∧(∀ c,(∀ q,(c,q) ∉ ks)→∀ k,f (c :: k)=[])∧∀ c q,(c,q)∈ks→q≠none
theorem RowAt.keep {A A' : Nat→Prop} {w w' : World} {v : Value} {n : Nat} {xs : List Value} (h : RowAt A w v n xs)
    (hk : ∀ b,A b→b < w.heap.size→A' b∧w'.heap[b]?=w.heap[b]?) : RowAt A' w' v n xs:=by
  obtain ⟨a,cap,hv,ha0,hx⟩:=h
  refine ⟨a,cap,hv,ha0,fun hne=>?_⟩
  obtain ⟨g,ha,hA,hg,hc⟩:=hx hne
  obtain ⟨h1,h2⟩:=hk g hA hg
  refine ⟨g,ha,h1,?_,fun j hj=>?_⟩
  · have : w'.heap[g]?.isSome:=by rw [h2]; simp [hg]
    simpa using this
  · rw [World.cell?_of_block (w:=w) (w':=w') (a:=⟨g,j,none⟩) h2]; exact hc j hj
theorem NodeAt.keep {A A' : Nat→Prop} {w w' : World} (hk : ∀ b,A b→b < w.heap.size→A' b∧w'.heap[b]?=w.heap[b]?) :
    ∀ (n : Nat) (p : Option Addr) (f : List UInt8→List Ver),NodeAt A n w p f→NodeAt A' n w' p f:=by
  intro n
  induction n with
  | zero=>intro p f h; exact h
  | succ n ih=>
    intro p f h
    rcases h with h | ⟨g,hv,kv,ks,hp,hA,c0,c1,c2,hh,hks,hs,hch,hno⟩
    · exact Or.inl h
    · have hg:=World.block_lt_of_cell? w _ c0
      obtain ⟨h1,h2⟩:=hk g hA hg
      refine Or.inr ⟨g,hv,kv,ks,hp,h1,?_,?_,?_,hh.keep hk,hks.keep hk,hs,fun c q hq=>ih q _ (hch c q hq),hno⟩
      · rw [World.cell?_of_block (w:=w) (w':=w') (a:=⟨g,0,none⟩) h2]; exact c0
      · rw [World.cell?_of_block (w:=w) (w':=w') (a:=⟨g,1,none⟩) h2]; exact c1
      · rw [World.cell?_of_block (w:=w) (w':=w') (a:=⟨g,2,none⟩) h2]; exact c2
theorem keepBelow {A : Nat→Prop} {w w' : World} (hb : Below w.heap.size w w') : ∀ b,A b→b < w.heap.size→A b∧w'.heap[b]?=w.heap[b]?:=
  fun b ha hlt=>⟨ha,hb.block b hlt⟩
theorem NodeAt.on {A : Nat→Prop} {w w' : World} {n : Nat} {p : Option Addr} {f : List UInt8→List Ver} (h : NodeAt A n w p f) (hb : Below w.heap.size w w') : NodeAt A n w' p f:=
  NodeAt.keep (keepBelow hb) n p f h
theorem RowAt.on {A : Nat→Prop} {w w' : World} {v : Value} {n : Nat} {xs : List Value} (h : RowAt A w v n xs) (hb : Below w.heap.size w w') : RowAt A w' v n xs:=h.keep (keepBelow hb)
theorem flat_len {α : Type} (m : Nat) (g : α→List Value) (hg : ∀ a,(g a).length=m) (l : List α) : (l.flatMap g).length=l.length * m:=by
  induction l with
  | nil=>simp
  | cons a l ih=>simp [ih,hg]; rw [Nat.add_mul,Nat.one_mul,Nat.add_comm]
theorem flat_get {α : Type} (m : Nat) (g : α→List Value) (hg : ∀ a,(g a).length=m) (l : List α) (i j : Nat) (hi : i < l.length) (hj : j < m) :
    (l.flatMap g)[i * m+j]?=(g l[i])[j]?:=by
  induction l generalizing i with
  | nil=>simp at hi
  | cons a l ih=>
    rw [List.flatMap_cons]
    cases i with
    | zero=>simp only [Nat.zero_mul,Nat.zero_add,List.getElem_cons_zero]; rw [List.getElem?_append_left (by rw [hg]; exact hj)]
    | succ i=>
      rw [List.getElem?_append_right (by rw [hg,Nat.add_mul,Nat.one_mul]; omega),hg]
      have e : (i+1) * m+j - m=i * m+j:=by rw [Nat.add_mul,Nat.one_mul]; omega
      rw [e,ih i (by simpa using hi)]
      rfl
theorem verCells_len (h : List Ver) : (verCells h).length=h.length * 3:=flat_len 3 _ (fun _=>rfl) h
theorem kidCells_len (ks : List (UInt8×Option Addr)) : (kidCells ks).length=ks.length * 2:=flat_len 2 _ (fun _=>rfl) ks
theorem verCells_ne {h : List Ver} (hne : h≠[]) : verCells h≠[]:=by
  intro e; have:=verCells_len h; rw [e] at this; simp only [List.length_nil] at this; exact hne (List.length_eq_zero_iff.1 (by omega))
theorem kidCells_ne {h : List (UInt8×Option Addr)} (hne : h≠[]) : kidCells h≠[]:=by
  intro e; have:=kidCells_len h; rw [e] at this; simp only [List.length_nil] at this; exact hne (List.length_eq_zero_iff.1 (by omega))
theorem HistAt.cells {A : Nat→Prop} {w : World} {v : Value} {h : List Ver} (hh : HistAt A w v h) (hne : h≠[]) :
    ∃ g cap,v=.slice (some ⟨g,0,none⟩) h.length cap∧A g∧g < w.heap.size∧(∀ i (hi : i < h.length),w.cell? ⟨g,i * 3,none⟩=some (.int .i64 h[i].num)∧w.cell? ⟨g,i * 3+1,none⟩=some (.string h[i].body)∧w.cell? ⟨g,i * 3+2,none⟩=some (.bool h[i].mark)) ∧
      ∀ j,j < (verCells h).length→w.cell? ⟨g,j,none⟩=(verCells h)[j]?:=by
  obtain ⟨a,cap,hv,-,hx⟩:=hh
  obtain ⟨g,ha,hA,hg,hc⟩:=hx (verCells_ne hne)
  subst ha
  refine ⟨g,cap,hv,hA,hg,fun i hi=>?_,hc⟩
  have hl:=verCells_len h
  refine ⟨?_,?_,?_⟩
  · rw [hc (i * 3) (by omega)]; exact flat_get 3 _ (fun _=>rfl) h i 0 hi (by omega)
  · rw [hc (i * 3+1) (by omega)]; exact flat_get 3 _ (fun _=>rfl) h i 1 hi (by omega)
  · rw [hc (i * 3+2) (by omega)]; exact flat_get 3 _ (fun _=>rfl) h i 2 hi (by omega)
theorem KidsAt.cells {A : Nat→Prop} {w : World} {v : Value} {h : List (UInt8×Option Addr)} (hh : KidsAt A w v h) (hne : h≠[]) :
    ∃ g cap,v=.slice (some ⟨g,0,none⟩) h.length cap∧A g∧g < w.heap.size∧(∀ i (hi : i < h.length),w.cell? ⟨g,i * 2,none⟩=some (.int .u8 (h[i].1.toNat : Int))∧w.cell? ⟨g,i * 2+1,none⟩=some (.pointer h[i].2)) ∧
      ∀ j,j < (kidCells h).length→w.cell? ⟨g,j,none⟩=(kidCells h)[j]?:=by
  obtain ⟨a,cap,hv,-,hx⟩:=hh
  obtain ⟨g,ha,hA,hg,hc⟩:=hx (kidCells_ne hne)
  subst ha
  refine ⟨g,cap,hv,hA,hg,fun i hi=>?_,hc⟩
  have hl:=kidCells_len h
  refine ⟨?_,?_⟩
  · rw [hc (i * 2) (by omega)]; exact flat_get 2 _ (fun _=>rfl) h i 0 hi (by omega)
  · rw [hc (i * 2+1) (by omega)]; exact flat_get 2 _ (fun _=>rfl) h i 1 hi (by omega)
theorem kids_le_aux (ks : List (UInt8×Option Addr)) (m : Nat) (hs : ks.Pairwise (fun a b=>a.1 < b.1)) (hm : ∀ k∈ks,m≤k.1.toNat) (hm2 : m≤256) : ks.length+m≤256:=by
  induction ks generalizing m with
  | nil=>simpa using hm2
  | cons a ks ih=>
    obtain ⟨h1,h2⟩:=List.pairwise_cons.1 hs
    have ha:=hm a (List.mem_cons_self ..)
    have hlt:=a.1.toNat_lt
    have:=ih (a.1.toNat+1) h2 (fun k hk=>by have:=UInt8.lt_iff_toNat_lt.1 (h1 k hk); omega) (by omega)
    simp only [List.length_cons]; omega
theorem kids_le (ks : List (UInt8×Option Addr)) (hs : ks.Pairwise (fun a b=>a.1 < b.1)) : ks.length≤256:=by
  have:=kids_le_aux ks 0 hs (fun _ _=>Nat.zero_le _) (by omega); omega
theorem kids_lt {ks : List (UInt8×Option Addr)} (hs : ks.Pairwise (fun a b=>a.1 < b.1)) (i j : Nat) (hij : i < j) (hj : j < ks.length) : (ks[i].1.toNat : Int) < (ks[j].1.toNat : Int):=by
  have:=List.pairwise_iff_getElem.1 hs i j (by omega) hj hij
  have:=UInt8.lt_iff_toNat_lt.1 this
  omega
end Go.Proofs.YtnapepbdohidgaaGreatDoorQ
