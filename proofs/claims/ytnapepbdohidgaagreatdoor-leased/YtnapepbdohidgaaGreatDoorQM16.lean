/- Part of a proof. -/
import Derived.Test.YtnapepbdohidgaaGreatDoorQM15
namespace Go.Proofs.YtnapepbdohidgaaGreatDoorQ
open Go
open Go.Conc Go.ConcX Go.ConcX.Gen Go.RowKit
set_option maxRecDepth 100000 in
theorem page_go (l : Lst) (pn : Int) (cs : List Frame) (W : World) (B : Nat) (hB : W.heap.size+7=B) {Stop : Goroutine→World→Prop}
    (hstop : ∀ dd,Stop (G (Frame.enter Tryz.prog 97 #[qV l.vs l.p l.d l.af,sV l.root] .normal) ((base 69).at ⟨pgTmps W.heap.size l pn,[]⟩ (.inRegion pgOps [4] :: pgRest) :: cs)) ((pgW W l).at dd)) :
    Goes Tryz.prog true AtRel (DB B) Stop 40 (G (Frame.enter Tryz.prog 69 #[lV l,.int .i64 pn] .normal) cs) W:=by
  obtain ⟨num,root,vs,p,d,af,size,left⟩:=l
  unfold lV lCells
  rw [enter_at _ Tryz.func69 rfl]
  walk_nrmf Tryz.f69
  refine Goes.step rfl (fun w₁ h₁=>?_)
  obtain ⟨dd,hdd⟩:=h₁
  subst hdd
  try simp only [alloc_at,setCell_at,at_at]
  rw [stepG_seq]
  simp only [goes_go]
  refine ⟨fun e he=>by simp at he,?_⟩
  refine Goes.step rfl (fun w₁ h₁=>?_)
  obtain ⟨dd,hdd⟩:=h₁
  subst hdd
  try simp only [at_at]
  rw [stepG_region]
  simp only [goes_go,List.size_toArray,List.length_cons,List.length_nil,Nat.reduceAdd,Nat.zero_add,List.range,List.range.loop]
  refine ⟨fun e he=>by simp at he,?_⟩
  refine Goes.step rfl (fun w₁ h₁=>?_)
  obtain ⟨dd,hdd⟩:=h₁
  subst hdd
  try simp only [at_at]
  refine goes_oper_k rfl rfl (by decide) (fun K hK=>?_)
  go_simp
  refine hK _ _ ⟨fun e he=>?_,?_⟩
  · have hm:=mem_listed he
    simp [go_sem, *] at hm
    try (subst hm; exact evL_cell _ _ (fun h=>h) (by simp <;> omega))
  clear hK K
  refine Goes.step rfl (fun w₁ h₁=>?_)
  obtain ⟨dd,hdd⟩:=h₁
  subst hdd
  try simp only [alloc_at,at_at]
  refine goes_oper_k rfl rfl (by decide) (fun K hK=>?_)
  go_simp
  refine hK _ _ ⟨fun e he=>?_,?_⟩
  · have hm:=mem_listed he
    simp [go_sem, *] at hm
    try (subst hm; exact evL_cell _ _ (fun h=>h) (by simp <;> omega))
  clear hK K
  refine Goes.step rfl (fun w₁ h₁=>?_)
  obtain ⟨dd,hdd⟩:=h₁
  subst hdd
  try simp only [alloc_at,at_at]
  rw [stepG_region_end]
  simp only [goes_go]
  refine ⟨fun e he=>by simp at he,?_⟩
  refine Goes.step rfl (fun w₁ h₁=>?_)
  obtain ⟨dd,hdd⟩:=h₁
  subst hdd
  try simp only [at_at]
  rw [stepG_seq]
  simp only [goes_go]
  refine ⟨fun e he=>by simp at he,?_⟩
  refine Goes.step rfl (fun w₁ h₁=>?_)
  obtain ⟨dd,hdd⟩:=h₁
  subst hdd
  try simp only [at_at]
  rw [stepG_region]
  simp only [goes_go,List.size_toArray,List.length_cons,List.length_nil,Nat.zero_add,List.range,List.range.loop]
  refine ⟨fun e he=>by simp at he,?_⟩
  refine Goes.step rfl (fun w₁ h₁=>?_)
  obtain ⟨dd,hdd⟩:=h₁
  subst hdd
  try simp only [at_at]
  refine goes_oper_k rfl rfl (by decide) (fun K hK=>?_)
  go_simp
  refine hK _ _ ⟨fun e he=>?_,?_⟩
  · have hm:=mem_listed he
    simp [go_sem, *] at hm
    try (subst hm; exact evL_cell _ _ (fun h=>h) (by simp <;> omega))
  clear hK K
  refine Goes.step rfl (fun w₁ h₁=>?_)
  obtain ⟨dd,hdd⟩:=h₁
  subst hdd
  try simp only [alloc_at,at_at]
  rw [stepG_region_end]
  simp only [goes_go]
  refine ⟨fun e he=>by simp at he,?_⟩
  refine Goes.step rfl (fun w₁ h₁=>?_)
  obtain ⟨dd,hdd⟩:=h₁
  subst hdd
  try simp only [at_at]
  rw [stepG_seq]
  simp only [goes_go]
  refine ⟨fun e he=>by simp at he,?_⟩
  refine Goes.step rfl (fun w₁ h₁=>?_)
  obtain ⟨dd,hdd⟩:=h₁
  subst hdd
  try simp only [at_at]
  rw [stepG_region]
  simp only [goes_go,List.size_toArray,List.length_cons,List.length_nil,Nat.reduceAdd,Nat.zero_add,List.range,List.range.loop]
  refine ⟨fun e he=>by simp at he,?_⟩
  refine Goes.step rfl (fun w₁ h₁=>?_)
  obtain ⟨dd,hdd⟩:=h₁
  subst hdd
  try simp only [at_at]
  refine goes_oper_k rfl rfl (by decide) (fun K hK=>?_)
  go_simp
  refine hK _ _ ⟨fun e he=>?_,?_⟩
  · have hm:=mem_listed he
    simp [go_sem, *] at hm
    try (subst hm; exact evL_cell _ _ (fun h=>h) (by simp <;> omega))
  clear hK K
  refine Goes.step rfl (fun w₁ h₁=>?_)
  obtain ⟨dd,hdd⟩:=h₁
  subst hdd
  try simp only [at_at]
  refine goes_oper_k rfl rfl (by decide) (fun K hK=>?_)
  go_simp
  refine hK _ _ ⟨fun e he=>?_,?_⟩
  · have hm:=mem_listed he
    simp [go_sem, *] at hm
    try (subst hm; exact evL_cell _ _ (fun h=>h) (by simp <;> omega))
  clear hK K
  refine Goes.step rfl (fun w₁ h₁=>?_)
  obtain ⟨dd,hdd⟩:=h₁
  subst hdd
  try simp only [at_at]
  refine goes_oper_k rfl rfl (by decide) (fun K hK=>?_)
  go_simp
  refine hK _ _ ⟨fun e he=>?_,?_⟩
  · have hm:=mem_listed he
    simp [go_sem, *] at hm
    try (subst hm; exact evL_cell _ _ (fun h=>h) (by simp <;> omega))
  clear hK K
  refine Goes.step rfl (fun w₁ h₁=>?_)
  obtain ⟨dd,hdd⟩:=h₁
  subst hdd
  try simp only [at_at]
  refine goes_oper_k rfl rfl (by decide) (fun K hK=>?_)
  go_simp
  refine hK _ _ ⟨fun e he=>?_,?_⟩
  · have hm:=mem_listed he
    simp [go_sem, *] at hm
    try (subst hm; exact evL_cell _ _ (fun h=>h) (by simp <;> omega))
  clear hK K
  refine Goes.step rfl (fun w₁ h₁=>?_)
  obtain ⟨dd,hdd⟩:=h₁
  subst hdd
  try simp only [at_at]
  refine goes_oper_k rfl rfl (by decide) (fun K hK=>?_)
  go_simp
  refine hK _ _ ⟨fun e he=>?_,?_⟩
  · have hm:=mem_listed he
    simp [go_sem, *] at hm
    try (subst hm; exact evL_cell _ _ (fun h=>h) (by simp <;> omega))
  clear hK K
  refine Goes.step rfl (fun w₁ h₁=>?_)
  obtain ⟨dd,hdd⟩:=h₁
  subst hdd
  try simp only [at_at]
  rw [stepG_region_end]
  simp only [goes_go]
  refine ⟨fun e he=>by simp at he,?_⟩
  refine Goes.step rfl (fun w₁ h₁=>?_)
  obtain ⟨dd,hdd⟩:=h₁
  subst hdd
  try simp only [at_at]
  rw [stepG_seq]
  simp only [goes_go]
  refine ⟨fun e he=>by simp at he,?_⟩
  refine Goes.step rfl (fun w₁ h₁=>?_)
  obtain ⟨dd,hdd⟩:=h₁
  subst hdd
  try simp only [at_at]
  rw [stepG_region]
  simp only [goes_go,List.size_toArray,List.length_cons,List.length_nil,Nat.zero_add,List.range,List.range.loop]
  refine ⟨fun e he=>by simp at he,?_⟩
  refine Goes.step rfl (fun w₁ h₁=>?_)
  obtain ⟨dd,hdd⟩:=h₁
  subst hdd
  try simp only [at_at]
  refine goes_oper_k rfl rfl (by decide) (fun K hK=>?_)
  go_simp
  refine hK _ _ ⟨fun e he=>?_,?_⟩
  · have hm:=mem_listed he
    simp [go_sem, *] at hm
    try (subst hm; exact evL_cell _ _ (fun h=>h) (by simp <;> omega))
  clear hK K
  refine Goes.step rfl (fun w₁ h₁=>?_)
  obtain ⟨dd,hdd⟩:=h₁
  subst hdd
  try simp only [at_at]
  rw [stepG_region_end]
  simp only [goes_go]
  refine ⟨fun e he=>by simp at he,?_⟩
  refine Goes.step rfl (fun w₁ h₁=>?_)
  obtain ⟨dd,hdd⟩:=h₁
  subst hdd
  try simp only [at_at]
  rw [stepG_seq]
  simp only [goes_go]
  refine ⟨fun e he=>by simp at he,?_⟩
  refine Goes.step rfl (fun w₁ h₁=>?_)
  obtain ⟨dd,hdd⟩:=h₁
  subst hdd
  try simp only [at_at]
  rw [stepG_seq]
  simp only [goes_go]
  refine ⟨fun e he=>by simp at he,?_⟩
  refine Goes.step rfl (fun w₁ h₁=>?_)
  obtain ⟨dd,hdd⟩:=h₁
  subst hdd
  try simp only [at_at]
  rw [stepG_region]
  simp only [goes_go,List.size_toArray,List.length_cons,List.length_nil,Nat.reduceAdd,Nat.zero_add,List.range,List.range.loop]
  refine ⟨fun e he=>by simp at he,?_⟩
  refine Goes.step rfl (fun w₁ h₁=>?_)
  obtain ⟨dd,hdd⟩:=h₁
  subst hdd
  try simp only [at_at]
  refine goes_oper_k rfl rfl (by decide) (fun K hK=>?_)
  go_simp
  refine hK _ _ ⟨fun e he=>?_,?_⟩
  · have hm:=mem_listed he
    simp [go_sem, *] at hm
    try (subst hm; exact evL_cell _ _ (fun h=>h) (by simp <;> omega))
  clear hK K
  refine Goes.step rfl (fun w₁ h₁=>?_)
  obtain ⟨dd,hdd⟩:=h₁
  subst hdd
  try simp only [at_at]
  refine goes_oper_k rfl rfl (by decide) (fun K hK=>?_)
  go_simp
  refine hK _ _ ⟨fun e he=>?_,?_⟩
  · have hm:=mem_listed he
    simp [go_sem, *] at hm
    rcases hm with rfl | rfl | rfl | rfl <;> exact evL_cell _ _ (fun h=>h) (by simp <;> omega)
  clear hK K
  refine Goes.step rfl (fun w₁ h₁=>?_)
  obtain ⟨dd,hdd⟩:=h₁
  subst hdd
  try simp only [at_at]
  refine goes_oper_k rfl rfl (by decide) (fun K hK=>?_)
  go_simp
  refine hK _ _ ⟨fun e he=>?_,?_⟩
  · have hm:=mem_listed he
    simp [go_sem, *] at hm
    try (subst hm; exact evL_cell _ _ (fun h=>h) (by simp <;> omega))
  clear hK K
  refine Goes.step rfl (fun w₁ h₁=>?_)
  obtain ⟨dd,hdd⟩:=h₁
  subst hdd
  try simp only [at_at]
  refine goes_oper_k rfl rfl (by decide) (fun K hK=>?_)
  go_simp
  refine hK _ _ ⟨fun e he=>?_,?_⟩
  · have hm:=mem_listed he
    simp [go_sem, *] at hm
    try (subst hm; exact evL_cell _ _ (fun h=>h) (by simp <;> omega))
  clear hK K
  refine Goes.step rfl (fun w₁ h₁=>?_)
  obtain ⟨dd,hdd⟩:=h₁
  subst hdd
  try simp only [at_at]
  refine goes_call rfl rfl (by decide) rfl Tryz.func97 rfl rfl ⟨fun e he=>by simp at he,?_⟩
  walk_nrmf Tryz.f97
  refine Goes.stop (fun w₁ h₁=>?_)
  obtain ⟨dd,hdd⟩:=h₁
  subst hdd
  have:=hstop dd
  rw [enter_at _ Tryz.func97 rfl] at this
  exact this
structure Boxes (w : World) (bo bq bs c : Nat) (root : Option Addr) (vs : Bool) (p d af : ByteArray) : Prop where
  out : w.cell? ⟨bo,0,none⟩=some (.chan (some c))
  q0 : w.cell? ⟨bq,0,none⟩=some (.bool vs)
  q1 : w.cell? ⟨bq,1,none⟩=some (.string p)
  q2 : w.cell? ⟨bq,2,none⟩=some (.string d)
  q3 : w.cell? ⟨bq,3,none⟩=some (.string af)
  st : w.cell? ⟨bs,0,none⟩=some (.pointer root)
noncomputable def sndOps : Array Oper:=cOps (cSnd (bodyOf Tryz.f119))
def isClose (c : Nat) (d : Deferred) : Prop:=∃ at_ t k,d={ target:=.builtin .close at_ t k,args:=#[.chan (some c)] }
theorem op_defer {P : Program} {ops : Array Oper} {a : Act} {w w' : World} {i : Nat} {rest : List Nat} {o : Oper} {df : Deferred} {b : Frame} {k : List Item} {cs : List Frame} (ho : ops[i]?=some o) (hw : Region.wanted o (yielded ops a.tmps)=true) (hr : (execOp a.eval o).run P w=.ok (.defer df) w') :
    step P (lone (b.at a (.inRegion ops (i :: rest) :: k)) cs w)=.next (lone (b.at ({ a with defers:=df :: a.defers }.put o.dst undef) (.inRegion ops rest :: k)) cs w'):=by
  have hg:=stepG_op (P:=P) (b:=b) (k:=k) (cs:=cs) (w:=w) (rest:=rest) ho hw
  have e : ({ b.at a (.inRegion ops (i :: rest) :: k) with defers:=df :: a.defers } : Frame).finish undef=b.at ({ a with defers:=df :: a.defers }.put o.dst undef) (.inRegion ops rest :: k):=by
    have:=Frame.finish_at b { a with defers:=df :: a.defers } ops i rest k undef
    rw [ho] at this
    exact this
  refine step_lone_go ?_
  rw [hg]
  simp only [stepG.apply,Sem.runT_eq,hr,GStep.bare_after]
  exact congrArg (fun fr=>GStep.go { frame:=fr,callers:=cs,status:=.running,dying:=none } w') e
set_option maxRecDepth 100000 in
theorem snd_pre {bo bq bs c : Nat} {root : Option Addr} {vs : Bool} {p d af : ByteArray} {w : World} (hb : Boxes w bo bq bs c root vs p d af) (cs : List Frame) :
    ∃ a df,Steps Tryq.prog (lone (Frame.enter Tryq.prog 119 #[ptr bo,ptr bq,ptr bs] .normal) cs w) (lone ((base 119).at ⟨a,[df]⟩ [.inRegion sndOps [3]]) cs w)∧isClose c df∧Act.eval ⟨a,[df]⟩ (.tmp 4)=qV vs p d af∧Act.eval ⟨a,[df]⟩ (.tmp 5)=sV root∧Act.eval ⟨a,[df]⟩ (.tmp 6)=.chan (some c):=by
  obtain ⟨ho,h0,h1,h2,h3,h4⟩:=hb
  have h : LoneTo Tryq.prog (fun g' w'=>∃ a df,(g'=G ((base 119).at ⟨a,[df]⟩ [.inRegion sndOps [3]]) cs∧w'=w)∧isClose c df∧Act.eval ⟨a,[df]⟩ (.tmp 4)=qV vs p d af∧Act.eval ⟨a,[df]⟩ (.tmp 5)=sV root∧Act.eval ⟨a,[df]⟩ (.tmp 6)=.chan (some c)) (G (Frame.enter Tryq.prog 119 #[ptr bo,ptr bq,ptr bs] .normal) cs) w:=by
    refine LoneTo.goes (n:=20) ?_
    unfold ptr
    rw [enter_at _ Tryq.func119 rfl]
    walk_nrmf Tryz.f119
    refine Goes.step rfl (fun w₁ h₁=>?_)
    subst h₁
    rw [stepG_seq]
    simp only [goes_go]
    refine ⟨trivial,?_⟩
    refine Goes.step rfl (fun w₁ h₁=>?_)
    subst h₁
    rw [stepG_region]
    simp only [goes_go,List.size_toArray,List.length_cons,List.length_nil,Nat.reduceAdd,Nat.zero_add,List.range,List.range.loop]
    refine ⟨trivial,?_⟩
    refine Goes.step rfl (fun w₁ h₁=>?_)
    subst h₁
    refine goes_oper_k rfl rfl (by decide) (fun K hK=>?_)
    go_simp
    refine hK _ _ ⟨trivial,?_⟩
    clear hK K
    refine Goes.stop (fun w₁ h₁=>?_)
    subst h₁
    refine LoneTo.step (op_defer (w':=w) (df:={ target:=.builtin .close #[193] 0 #[false],args:=#[.chan (some c)] }) rfl rfl (by simp [go_sem,Act.eval])) ?_
    show LoneTo Tryq.prog _ (G _ cs) w
    refine LoneTo.goes (n:=20) ?_
    walk_nrm
    refine Goes.step rfl (fun w₁ h₁=>?_)
    subst h₁
    rw [stepG_region_end]
    simp only [goes_go]
    refine ⟨trivial,?_⟩
    refine Goes.step rfl (fun w₁ h₁=>?_)
    subst h₁
    rw [stepG_region]
    simp only [goes_go,List.size_toArray,List.length_cons,List.length_nil,Nat.reduceAdd,Nat.zero_add,List.range,List.range.loop]
    refine ⟨trivial,?_⟩
    refine Goes.step rfl (fun w₁ h₁=>?_)
    subst h₁
    refine goes_oper_k rfl rfl (by decide) (fun K hK=>?_)
    go_simp
    refine hK _ _ ⟨trivial,?_⟩
    clear hK K
    refine Goes.step rfl (fun w₁ h₁=>?_)
    subst h₁
    refine goes_oper_k rfl rfl (by decide) (fun K hK=>?_)
    go_simp
    refine hK _ _ ⟨trivial,?_⟩
    clear hK K
    refine Goes.step rfl (fun w₁ h₁=>?_)
    subst h₁
    refine goes_oper_k rfl rfl (by decide) (fun K hK=>?_)
    go_simp
    refine hK _ _ ⟨trivial,?_⟩
    clear hK K
    refine Goes.stop (fun w₁ h₁=>?_)
    subst h₁
    exact LoneTo.done ⟨_,_,⟨rfl,rfl⟩,⟨_,_,_,rfl⟩,rfl,rfl,rfl⟩
  obtain ⟨g',w',hs,a,df,⟨rfl,rfl⟩,hr⟩:=h
  exact ⟨a,df,hs,hr⟩
theorem snd_close {bo bq bs c : Nat} {root : Option Addr} {vs : Bool} {p d af : ByteArray} {w : World} (hb : Boxes w bo bq bs c root vs p d af) {Q : World→Prop}
    (hsend : Calls Tryq.prog 120 #[qV vs p d af,sV root,.chan (some c)] w fun e w'=>e=.returned (.tuple #[])∧Q w') (cs : List Frame) :
    ∃ fr w' df,Steps Tryq.prog (lone (Frame.enter Tryq.prog 119 #[ptr bo,ptr bq,ptr bs] .normal) cs w) (lone fr cs w')∧fr.fn=119∧fr.mode=.returning∧fr.defers=[df]∧isClose c df∧fr.kind=.normal∧fr.roundOf=none∧Q w':=by
  obtain ⟨a,df,hs,hc,h4,h5,h6⟩:=snd_pre hb cs
  obtain ⟨e,w',fr,⟨rfl,hQ⟩,hcome,-,hlv⟩:=hsend ((base 119).at ⟨a,[df]⟩ [.inRegion sndOps [3]] :: cs)
  have ho : sndOps[3]? = some { dst := some 7, op := .call { callee := .value (.func 120), args := #[.tmp 4, .tmp 5, .tmp 6], argTypes := #[93, 56, 210] }, type := 0, pos := "items.go:24", after := #[{ on := 0, ground := .data }, { on := 1, ground := .data }, { on := 2, ground := .data }], guard := none } := rfl
  have hen : step Tryq.prog (lone ((base 119).at ⟨a,[df]⟩ [.inRegion sndOps [3]]) cs w)=.next (lone (Frame.enter Tryq.prog 120 #[qV vs p d af,sV root,.chan (some c)] .normal) ((base 119).at ⟨a,[df]⟩ [.inRegion sndOps [3]] :: cs) w):=by
    refine op_enter ho rfl ?_
    have e := run_call_body (P := Tryq.prog) (a := ⟨a, [df]⟩) (w := w) (o := { dst := some 7, op := .call { callee := .value (.func 120), args := #[.tmp 4, .tmp 5, .tmp 6], argTypes := #[93, 56, 210] }, type := 0, pos := "items.go:24", after := #[{ on := 0, ground := .data }, { on := 1, ground := .data }, { on := 2, ground := .data }], guard := none }) rfl Tryq.func120 rfl rfl
    have e2 : (#[.tmp 4,.tmp 5,.tmp 6] : Array Operand).map (Act.eval ⟨a,[df]⟩)=#[qV vs p d af,sV root,.chan (some c)]:=by
      simp only [List.map_toArray,List.map_cons,List.map_nil,h4,h5,h6]
    rw [e2] at e
    exact e
  have hend : Steps Tryq.prog (lone (((base 119).at ⟨a,[df]⟩ [.inRegion sndOps [3]]).finish (.tuple #[])) cs w') (lone { (base 119).at (Act.put ⟨a,[df]⟩ ((sndOps[3]?).bind (·.dst)) (.tuple #[])) [] with mode:=.returning } cs w'):=by
    rw [Frame.finish_at]
    exact .head step_region_end (.one step_end)
  exact ⟨_,w',df,Steps.trans hs (.head hen (Steps.trans hcome (.head (step_leave_returned hlv) hend))),rfl,rfl,rfl,hc,rfl,rfl,hQ⟩
theorem close_step {P : Program} {fr : Frame} {cs : List Frame} {w : World} {c n s q : Nat} {b : Array Value} {tm : Bool} {df : Deferred} (hm : fr.mode=.returning) (hd : fr.defers=[df]) (hc : isClose c df) (hrow : w.heap[c]?=some (.chan n b false s q tm)) :
    step P (lone fr cs w)=.next (lone { fr with defers:=[] } cs (shutC w c n b s q tm)):=by
  obtain ⟨at_,t,k,rfl⟩:=hc
  have h : stepG P true (G fr cs) w=.go (G { fr with defers:=[] } cs) (shutC w c n b s q tm) (seen P fr.fn #[⟨.obj c,false,true⟩,⟨.obj c,true,true⟩]):=by
    simp only [stepG,G,hm,unwind,hd]
    unfold callDeferred
    simp only [close_run at_ t k hrow]
    simp [GStep.after]
  exact step_solo_go (a:=G fr cs) rfl h
theorem snd_leaves {fr : Frame} {w : World} (hf : fr.fn=119) (hm : fr.mode=.returning) (hd : fr.defers=[]) (hk : fr.kind=.normal) : fr.leaving Tryq.prog w (.returned (.tuple #[])):=by
  refine ⟨hm,hd,hk,Tryz.f119,by rw [hf]; exact Tryq.func119,?_⟩
  unfold results
  rw [show Tryz.f119.results=#[] from rfl,Array.mapM_eq_mapM_toList]
  rfl
theorem items_behind {n0 : Nat} {root root0 : Option Addr} {vs : Bool} {p d af : ByteArray} {w : World} (hb : Boxes w (n0+3) n0 (n0+1) (n0+2) root vs p d af) {Q : World→Prop} {L : Array Value} {m s q : Nat}
    (hsend : Calls Tryq.prog 120 #[qV vs p d af,sV root,.chan (some (n0+2))] w fun e w'=>e=.returned (.tuple #[])∧Q w'∧w'.heap[n0+2]?=some (.chan m L false s q false)) (cs : List Frame) :
    ∃ w',Q w'∧w'.heap[n0+2]?=some (.chan m L false s q false)∧Steps Tryq.prog (lone (Frame.enter Tryq.prog 119 #[ptr (n0+3),ptr n0,ptr (n0+1)] .normal) (itFrame n0 root0 vs p d af (caught n0) [1,2] :: cs) w) (lone (itFrame n0 root0 vs p d af undef []) cs (shutC w' (n0+2) m L s q false)):=by
  obtain ⟨fr,w',df,hs,hf,hm,hd,hc,hk,hr,hQ,hrow⟩:=snd_close hb hsend (itFrame n0 root0 vs p d af (caught n0) [1,2] :: cs)
  refine ⟨w',hQ,hrow,Steps.trans hs (.head (close_step hm hd hc hrow) (.head (step_leave_returned (snd_leaves (fr:={ fr with defers:=[] }) hf hm rfl hk)) ?_))⟩
  have e : (itFrame n0 root0 vs p d af (caught n0) [1,2]).finish (.tuple #[])=itFrame n0 root0 vs p d af (caught n0) [2]:=by
    unfold itFrame
    rw [Frame.finish_at]
    rfl
  rw [e]
  unfold itFrame
  have := op_step (P := Tryq.prog) (ops := Tryq.itemsOps2) (a := ⟨itTmps n0 root0 vs p d af (caught n0), []⟩) (i := 2) (rest := []) (b := base 97) (k := [.code itRest]) (cs := cs) (w := shutC w' (n0 + 2) m L s q false) (w' := shutC w' (n0 + 2) m L s q false) (v := undef) (o := { dst := some 7, op := .move (.const undef), type := 0, pos := "", after := #[], guard := none }) rfl rfl (by simp [go_sem, Act.eval])
  exact .one this
def cIn : Code→Code
  | .block _ b=>b
  | .loop b=>b
  | c=>c
noncomputable def rcvBody : Code:=cIn (cIn (cSnd (cFst pgCall)))
noncomputable def rcvOps : Array Oper:=cOps (cFst rcvBody)
noncomputable def rcvRest : List Item:=[.code (cSnd rcvBody),.inLoop rcvBody,.inBlock 0,.code (cSnd pgCall)]
noncomputable def rcvFrame (a : Act) (r : List Nat) : Frame:=(base 69).at a (.inRegion rcvOps r :: rcvRest)
def pgTmps2 (n : Nat) (l : Lst) (pn : Int) (c : Nat) : Array Value:=
  #[lV l,.int .i64 pn,ptr n,undef,ptr (n+1),ptr (n+2),.int .i64 (IntKind.i64.wrap (pn * l.size)),.int .i64 0,undef,.int .i64 pn,.pointer (some ⟨n,6,none⟩),.int .i64 l.size,.int .i64 (IntKind.i64.wrap (pn * l.size)),.pointer (some ⟨n,2,none⟩),qV l.vs l.p l.d l.af,.pointer (some ⟨n,1,none⟩),sV l.root,.chan (some c),undef,undef,undef,undef,undef,undef,undef,undef,undef,undef,undef,undef,undef,undef,undef,undef,undef,undef,undef,undef,undef,undef,undef,undef,undef,undef,undef,undef,undef,undef,undef]
noncomputable def pF (n : Nat) (l : Lst) (pn : Int) : Frame:=(base 69).at ⟨pgTmps n l pn,[]⟩ (.inRegion pgOps [4] :: pgRest)
noncomputable def pF2 (n : Nat) (l : Lst) (pn : Int) (c : Nat) : Frame:=(base 69).at ⟨pgTmps2 n l pn c,[]⟩ (.inRegion pgOps [] :: pgRest)
set_option maxRecDepth 100000 in
theorem items_end (n n0 : Nat) (l : Lst) (pn : Int) (cs : List Frame) (w : World) (root0 : Option Addr) (hout : w.cell? ⟨n0+3,0,none⟩=some (.chan (some (n0+2)))) :
    Steps Tryq.prog (lone (itFrame n0 root0 l.vs l.p l.d l.af undef []) (pF n l pn :: cs) w) (lone (pF2 n l pn (n0+2)) cs w):=by
  have h : LoneTo Tryq.prog (fun g' w'=>g'=G (pF2 n l pn (n0+2)) cs∧w'=w) (G (itFrame n0 root0 l.vs l.p l.d l.af undef []) (pF n l pn :: cs)) w:=by
    obtain ⟨num,root,vs,p,d,af,size,left⟩:=l
    refine LoneTo.goes (n:=30) ?_
    unfold pF itFrame itTmps pgTmps pgRest qV sV ptr lV lCells
    dsimp only [itRest,bodyOf,Tryz.f97,pgOps,pgCall,Tryz.f69,cFst,cSnd,cOps,Option.getD]
    refine Goes.step rfl (fun w₁ h₁=>?_)
    subst h₁
    rw [stepG_region_end]
    simp only [goes_go]
    refine ⟨trivial,?_⟩
    refine Goes.step rfl (fun w₁ h₁=>?_)
    subst h₁
    rw [stepG_seq]
    simp only [goes_go]
    refine ⟨trivial,?_⟩
    refine Goes.step rfl (fun w₁ h₁=>?_)
    subst h₁
    rw [stepG_region]
    simp only [goes_go,List.size_toArray,List.length_cons,List.length_nil,Nat.reduceAdd,Nat.zero_add,List.range,List.range.loop]
    refine ⟨trivial,?_⟩
    refine Goes.step rfl (fun w₁ h₁=>?_)
    subst h₁
    refine goes_oper_k rfl rfl (by decide) (fun K hK=>?_)
    go_simp
    refine hK _ _ ⟨trivial,?_⟩
    clear hK K
    refine Goes.step rfl (fun w₁ h₁=>?_)
    subst h₁
    refine goes_oper_k rfl rfl (by decide) (fun K hK=>?_)
    go_simp
    refine hK _ _ ⟨trivial,?_⟩
    clear hK K
    refine Goes.step rfl (fun w₁ h₁=>?_)
    subst h₁
    rw [stepG_region_end]
    simp only [goes_go]
    refine ⟨trivial,?_⟩
    refine Goes.step rfl (fun w₁ h₁=>?_)
    subst h₁
    rw [stepG_ret']
    simp only [goes_go]
    refine ⟨trivial,?_⟩
    refine Goes.step rfl (fun w₁ h₁=>?_)
    subst h₁
    refine goes_leave1 rfl rfl Tryq.func97 rfl ⟨trivial,?_⟩
    walk_nrm
    refine Goes.stop (fun w₁ h₁=>?_)
    subst h₁
    exact LoneTo.done ⟨rfl,rfl⟩
  obtain ⟨g',w',hs,rfl,rfl⟩:=h
  exact hs
set_option maxRecDepth 100000 in
theorem items_alone (n n0 : Nat) (l : Lst) (pn : Int) (cs : List Frame) (w : World) (root0 : Option Addr) (hout : w.cell? ⟨n0+3,0,none⟩=some (.chan (some (n0+2)))) :
    Alone Tryz.prog (n0+3) (G (pF2 n l pn (n0+2)) cs) 12 (G ((base 97).at ⟨itTmps n0 root0 l.vs l.p l.d l.af (caught n0),[]⟩ [.inRegion goOps [],.code itRest]) (pF n l pn :: cs)) w:=by
  obtain ⟨num,root,vs,p,d,af,size,left⟩:=l
  unfold Alone pF itTmps pgTmps pgRest qV sV ptr lV lCells
  dsimp only [goOps,itRest,bodyOf,Tryz.f97,pgOps,pgCall,Tryz.f69,cFst,cSnd,cOps,Option.getD]
  refine Goes.step rfl (fun w₁ h₁=>?_)
  replace hout:=(World.cell?_of_block (a:=⟨n0+3,0,none⟩) h₁).trans hout
  clear h₁
  rw [stepG_region_end]
  simp only [goes_go]
  refine ⟨⟨by trivial,fun e he=>by simp at he⟩,?_⟩
  refine Goes.step rfl (fun w₁ h₁=>?_)
  replace hout:=(World.cell?_of_block (a:=⟨n0+3,0,none⟩) h₁).trans hout
  clear h₁
  rw [stepG_seq]
  simp only [goes_go]
  refine ⟨⟨by trivial,fun e he=>by simp at he⟩,?_⟩
  refine Goes.step rfl (fun w₁ h₁=>?_)
  replace hout:=(World.cell?_of_block (a:=⟨n0+3,0,none⟩) h₁).trans hout
  clear h₁
  rw [stepG_region]
  simp only [goes_go,List.size_toArray,List.length_cons,List.length_nil,Nat.reduceAdd,Nat.zero_add,List.range,List.range.loop]
  refine ⟨⟨by trivial,fun e he=>by simp at he⟩,?_⟩
  refine Goes.step rfl (fun w₁ h₁=>?_)
  replace hout:=(World.cell?_of_block (a:=⟨n0+3,0,none⟩) h₁).trans hout
  clear h₁
  refine goes_oper_k rfl rfl (by decide) (fun K hK=>?_)
  go_simp
  refine hK _ _ ⟨⟨rfl,fun e he=>?_⟩,?_⟩
  · have hm:=mem_listed he
    simp [go_sem, *] at hm
    try (subst hm; exact ⟨_,rfl,rfl⟩)
  clear hK K
  refine Goes.step rfl (fun w₁ h₁=>?_)
  replace hout:=(World.cell?_of_block (a:=⟨n0+3,0,none⟩) h₁).trans hout
  clear h₁
  refine goes_oper_k rfl rfl (by decide) (fun K hK=>?_)
  go_simp
  refine hK _ _ ⟨⟨rfl,fun e he=>?_⟩,?_⟩
  · have hm:=mem_listed he
    simp [go_sem, *] at hm
    try (subst hm; exact ⟨_,rfl,rfl⟩)
  clear hK K
  refine Goes.step rfl (fun w₁ h₁=>?_)
  replace hout:=(World.cell?_of_block (a:=⟨n0+3,0,none⟩) h₁).trans hout
  clear h₁
  rw [stepG_region_end]
  simp only [goes_go]
  refine ⟨⟨by trivial,fun e he=>by simp at he⟩,?_⟩
  refine Goes.step rfl (fun w₁ h₁=>?_)
  replace hout:=(World.cell?_of_block (a:=⟨n0+3,0,none⟩) h₁).trans hout
  clear h₁
  rw [stepG_ret']
  simp only [goes_go]
  refine ⟨⟨by trivial,fun e he=>by simp at he⟩,?_⟩
  refine Goes.step rfl (fun w₁ h₁=>?_)
  replace hout:=(World.cell?_of_block (a:=⟨n0+3,0,none⟩) h₁).trans hout
  clear h₁
  refine goes_leave1 rfl rfl Tryz.func97 rfl ⟨⟨by trivial,fun e he=>by simp at he⟩,?_⟩
  walk_nrm
  exact Goes.stop (fun w₁ h₁=>rfl)
end Go.Proofs.YtnapepbdohidgaaGreatDoorQ
namespace Go.Proofs.YtnapepbdohidgaaGreatDoorQ
open Go
def Ren.plus (ρ : Ren) (n m : Nat) (I : Nat→Prop) (hlt : ∀ a b,ρ a b→a < n∧b < m) (ch : Nat→Prop) (hS : ρ.F bigS=false) : Ren where
  rel:=fun a b=>ρ a b∨∃ i,I i∧a=n+i∧b=m+i
  fn:=fun a b b' h1 h2=>by
    rcases h1 with h1 | ⟨i,-,h1,h3⟩ <;> rcases h2 with h2 | ⟨j,-,h2,h4⟩
    · exact ρ.fn _ _ _ h1 h2
    · have:=(hlt _ _ h1).1; omega
    · have:=(hlt _ _ h2).1; omega
    · omega
  inj:=fun a a' b h1 h2=>by
    rcases h1 with h1 | ⟨i,-,h1,h3⟩ <;> rcases h2 with h2 | ⟨j,-,h2,h4⟩
    · exact ρ.inj _ _ _ h1 h2
    · have:=(hlt _ _ h1).2; omega
    · have:=(hlt _ _ h2).2; omega
    · omega
  prog:=ρ.prog
  F:=ρ.F
  old:=fun _=>False
  ch:=ch
  loose:=true
  wide:=true
  tight:=fun h=>by rw [hS] at h; cases h
section
variable {ρ : Ren} {n m : Nat} {I : Nat→Prop} {hlt : ∀ a b,ρ a b→a < n∧b < m} {ch : Nat→Prop} {hS : ρ.F bigS=false} {V W V' W' : World}
theorem plus_sub : ρ.sub' (ρ.plus n m I hlt ch hS):=⟨fun _ _ h=>.inl h,rfl,fun _ h=>h⟩
theorem plus_new {i : Nat} (h : I i) : (ρ.plus n m I hlt ch hS) (n+i) (m+i):=.inr ⟨i,h,rfl,rfl⟩
theorem plus_sim (S : SimW ρ V W) (hV : ∀ a b,ρ a b→V'.heap[a]?=V.heap[a]?) (hW : ∀ b,b < m→W'.heap[b]?=W.heap[b]?) (hos : W'.os=V'.os)
    (hnew : ∀ i,I i→∃ o o',V'.heap[n+i]?=some o∧W'.heap[m+i]?=some o'∧RO (ρ.plus n m I hlt ch hS) o o') (hch : ∀ c,ch c→∃ o,V'.heap[c]?=some o∧o.isChan=true) : SimW (ρ.plus n m I hlt ch hS) V' W':=by
  refine ⟨fun a b hab=>?_,fun a h=>h.elim,hch,hos⟩
  rcases hab with hab | ⟨i,hi,rfl,rfl⟩
  · obtain ⟨o,o',h1,h2,h3⟩:=S.obj a b hab
    refine ⟨o,o',(hV a b hab).trans h1,(hW b (hlt a b hab).2).trans h2,RO.re plus_sub rfl h3 (fun hc=>?_)⟩
    cases h3 with
    | chan=>exact .chan _ _ _ _ _ _ _ _ _ (.inl rfl) (.inl rfl)
    | _=>cases hc
  · exact hnew i hi
end
structure StatF (P : Program) [Two P] (F : FuncId→Bool) : Prop where
  code : ∀ (f : FuncId) fn b,F f=true→P.funcs[f]?=some fn→fn.body=some b→okCode P F b=true
  alt : ∀ f,F f=true→P.alt.funcs[f]?=P.funcs[f]?
  same : ∀ f : Nat,(P.alt.funcs[f]?).map strip=(P.funcs[f]?).map strip
  size : P.alt.funcs.size=P.funcs.size
  apart : ∀ f,Mk F f=true→∃ a b,P.alt.funcs[f]?=some a∧P.funcs[f]?=some b∧a.body.isSome=true∧b.body.isSome=true∧a.name=b.name
  ext : ExtOk P F
theorem StatF.gid {P : Program} [Two P] {σ : Ren} (h : StatF P σ.F) (hg : ∀ g,g < P.globals.size→σ g g) (hp : σ.prog=P) (hf : σ.F bigF=true→∀ a,¬σ.old a) : GId P σ:=⟨hg,hp,h.code,h.alt,hf,h.same,h.size,h.apart⟩
theorem RV.any {σ σ' : Ren} (hrel : ∀ a b,σ a b→σ' a b) (hF : ∀ f,σ.F f=true→σ'.F f=true) {v v' : Value} (h : RV σ v v') : RV σ' v v':=by
  have hAo : ∀ {a a' : Option Addr},RAo σ a a'→RAo σ' a a':=fun h=>by
    cases h with
    | none=>exact .none
    | some h=>exact .some ⟨hrel _ _ h.1,h.2⟩
  have hNo : ∀ {a a' : Option Nat},RNo σ a a'→RNo σ' a a':=fun h=>by
    cases h with
    | none=>exact .none
    | some h=>exact .some (hrel _ _ h)
  induction h with
  | bool b=>exact .bool b
  | int k n=>exact .int k n
  | string s=>exact .string s
  | pointer h=>exact .pointer (hAo h)
  | slice n c h=>exact .slice n c (hAo h)
  | map h=>exact .map (hNo h)
  | chan h=>exact .chan (hNo h)
  | func hf ha hc _ _ ih1 ih2=>
    refine .func ?_ ha hc ih1 ih2
    cases hf with
    | func f h=>exact .func f (hF f h)
    | yield h=>exact .yield (hrel _ _ h)
  | nilFunc=>exact .nilFunc
  | iface t _ ih=>exact .iface t ih
  | nilIface=>exact .nilIface
  | agg hc _ ih=>exact .agg hc ih
  | tuple hc _ ih=>exact .tuple hc ih
  | dead v' h=>exact .dead v' h
theorem RVs.any {σ σ' : Ren} (hrel : ∀ a b,σ a b→σ' a b) (hF : ∀ f,σ.F f=true→σ'.F f=true) {c c' : Array Value} (h : RVs σ c c') : RVs σ' c c':=⟨h.size,fun i v v' h1 h2=>(h.at_ i v v' h1 h2).any hrel hF⟩
theorem RO.any {σ σ' : Ren} (hrel : ∀ a b,σ a b→σ' a b) (hF : ∀ f,σ.F f=true→σ'.F f=true) (hb : σ'.F bigF=σ.F bigF) {o o' : Obj} (hp : PlainO o) (h : RO σ o o') : RO σ' o o':=by
  have hno : ∀ {q : Obj},PlainO q→(∀ c e z,q≠.cells c e z)→Fixed q:=fun h k=>by
    rcases h with ⟨c,e,z,h⟩ | h
    · exact absurd h (k c e z)
    · exact h
  cases h with
  | cells e hz h=>exact .cells e (by rw [hb]; exact hz) (h.any hrel hF)
  | number b h=>exact .number b ⟨hrel _ _ h.1,h.2⟩
  | dead _ h=>exact .dead _ h
  | _=>exact (hno hp (fun _ _ _ h=>by cases h)).elim
theorem dem_of_steps {P : Program} [Two P] (hZ : ZeroOk P) (hN : NoCount P) {A : Nat→Prop} {F : FuncId→Bool} {T : Goroutine→World→Prop} (hT : ∀ g w,T g w→g.callers≠[]∧g.dying=none∧g.status=.running) (hTt : ∀ g w τ d,T g (w.on τ d)↔T g w) {h : Goroutine} {w : World} (hS : Self P ([trap P],[]) A F h w)
    (hst : ∀ τ d,∃ g' w',Steps P (solo h (w.on τ d)) (solo g' w')∧T g' w') : Dem P (OnWay P ([trap P],[]) A F) T h w:=by
  refine Way.dem (N:=OnWay P ([trap P],[]) A F) ⟨fun g w h=>h.mir hZ hN,fun g w τ d h=>⟨h.1.on τ d,h.2⟩,hTt⟩ (fun τ d=>?_)
  obtain ⟨g',w',⟨n,hn⟩,hT'⟩:=hst τ d
  exact path_of_run hZ hN hT n _ _ _ w' (hS.on τ d) hn hT'
def Ren.firm (σ : Ren) (P : Program) (c : Nat) : Ren where
  rel:=σ.rel
  fn:=σ.fn
  inj:=σ.inj
  prog:=P
  F:=σ.F
  old:=fun _=>False
  ch:=fun a=>a=c
  loose:=false
  wide:=false
  tight:=fun _=>rfl
theorem firm_sim {σ : Ren} {P : Program} {V W W' : World} (S : SimW σ V W) {c c' : Nat} (hc : σ c c') (hpl : ∀ a b,σ a b→a≠c→∃ o,V.heap[a]?=some o∧PlainO o) (hW : ∀ b,b≠c'→W'.heap[b]?=W.heap[b]?) (hos : W'.os=W.os) {n n' s s' q q' : Nat} {b b' : Array Value} {cl tm : Bool} (hV : V.heap[c]?=some (.chan n b cl s q tm)) (hW' : W'.heap[c']?=some (.chan n' b' cl s' q' tm)) (hb : RVs (σ.firm P c) b b') : SimW (σ.firm P c) V W':=by
  refine ⟨fun x y hxy=>?_,fun _ h=>h.elim,fun a h=>?_,hos.trans S.os⟩
  · have hxy : σ x y:=hxy
    by_cases e : x=c
    · subst e
      obtain rfl:=σ.fn _ _ _ hxy hc
      exact ⟨_,_,hV,hW',.chan _ _ _ _ _ _ _ _ _ (.inr hb) (.inr rfl)⟩
    · obtain ⟨o,o',h1,h2,h3⟩:=S.obj x y hxy
      obtain ⟨o2,k1,k2⟩:=hpl x y hxy e
      rw [h1] at k1
      cases k1
      exact ⟨o,o',h1,(hW y (fun k=>e (σ.inj _ _ _ hxy (k ▸ hc)))).trans h2,RO.any (σ:=σ) (σ':=σ.firm P c) (fun _ _ h=>h) (fun _ h=>h) rfl k2 h3⟩
  · have h : a=c:=h
    subst h
    exact ⟨_,hV,rfl⟩
end Go.Proofs.YtnapepbdohidgaaGreatDoorQ
namespace Go.Proofs.YtnapepbdohidgaaGreatDoorQ
open Go
open Go.Conc Go.ConcX Go.ConcX.Gen Go.RowKit
structure PgPre (Pre : Lst→List Value→World→Prop) : Prop where
  low : ∀ (ρ : Ren) (V W V' : World) (l : Lst) (L : List Value),SimW ρ V W→(∃ r,RAo ρ l.root r)→(∀ a y i v,ρ a y→V.cell? ⟨a,i,none⟩=some v→Good v→V'.cell? ⟨a,i,none⟩=some v)→V.heap.size≤V'.heap.size→Pre l L V→Pre l L V'
  on : ∀ (V V' : World) (l : Lst) (L : List Value),(∀ a,a.block < V.heap.size→V'.cell? a=V.cell? a)→V.heap.size≤V'.heap.size→Pre l L V→Pre l L V'
  item : ∀ l L V,Pre l L V→∀ v∈L,∃ (a b : Int) (s : ByteArray),v=.agg #[.int .i64 a,.string s,.int .i64 b]
  len : ∀ l L V,Pre l L V→L.length≤1000
  send : ∀ (l : Lst) (L : List Value) (w : World) (c : Nat),Pre l L w→w.heap[c]?=some (.chan 1000 #[] false 0 0 false) →
    Calls Tryq.prog 120 #[qV l.vs l.p l.d l.af,sV l.root,.chan (some c)] w fun e w'=>e=.returned (.tuple #[])∧((∀ b,b < w.heap.size→b≠c→w'.heap[b]?=w.heap[b]?)∧w.heap.size≤w'.heap.size∧w'.os=w.os)∧w'.heap[c]?=some (.chan 1000 L.toArray false L.length 0 false)
section
variable (V : World) (l : Lst)
def callW (room : Nat) : World:=itW (pgW V l) l.root l.vs l.p l.d l.af room
theorem pgW_size : (pgW V l).heap.size=V.heap.size+3:=by simp only [pgW,World.alloc,Array.size_push]
theorem callW_size (room : Nat) : (callW V l room).heap.size=V.heap.size+7:=by simp only [callW,itW,pgW,World.alloc,Array.size_push]
theorem callW_old (room : Nat) {a : Nat} (h : a < V.heap.size) : (callW V l room).heap[a]?=V.heap[a]?:=by
  simp only [callW,itW,pgW,World.alloc,Array.getElem?_push,Array.size_push]
  repeat rw [if_neg (by omega)]
theorem callW_row (room : Nat) (i : Nat) (h : i < 7) : (callW V l room).heap[V.heap.size+i]?=(#[.cells (lCells l) 125,.cells #[.slice none 0 0,.string ⟨#[]⟩] 88,.cells #[.slice none 0 0,.string ⟨#[]⟩] 88,.cells #[.bool l.vs,.string l.p,.string l.d,.string l.af] 93,.cells #[.pointer l.root] 56,.chan room #[] false 0 0 false,.cells #[.chan (some (V.heap.size+5))] 193] : Array Obj)[i]?:=by
  simp only [callW,itW,pgW,World.alloc,Array.getElem?_push,Array.size_push]
  rcases i with - | - | - | - | - | - | - | i
  all_goals first | omega | skip
  all_goals
    repeat (first | rw [if_pos (by omega)] | rw [if_neg (by omega)])
    rfl
theorem callW_boxes (room : Nat) : Boxes (callW V l room) (V.heap.size+3+3) (V.heap.size+3) (V.heap.size+3+1) (V.heap.size+3+2) l.root l.vs l.p l.d l.af:=by
  have h3:=callW_row V l room 3 (by omega)
  have h4:=callW_row V l room 4 (by omega)
  have h6:=callW_row V l room 6 (by omega)
  have c : ∀ (b i : Nat) (x : Array Value) (t : TypeId),(callW V l room).heap[b]?=some (.cells x t)→(callW V l room).cell? ⟨b,i,none⟩=x[i]?:=fun b i x t h=>by unfold World.cell?; simp [h]
  refine ⟨?_,?_,?_,?_,?_,?_⟩
  · rw [c (V.heap.size+6) 0 _ _ h6]; rfl
  · rw [c (V.heap.size+3) 0 _ _ h3]; rfl
  · rw [c (V.heap.size+3) 1 _ _ h3]; rfl
  · rw [c (V.heap.size+3) 2 _ _ h3]; rfl
  · rw [c (V.heap.size+3) 3 _ _ h3]; rfl
  · rw [c (V.heap.size+4) 0 _ _ h4]; rfl
theorem callW_cell (room : Nat) : ∀ a : Addr,a.block < V.heap.size→(callW V l room).cell? a=V.cell? a:=fun _a h=>World.cell?_of_block (callW_old V l room h)
end
theorem page_path {Pre : Lst→List Value→World→Prop} (hPre : PgPre Pre) (l : Lst) (pn : Int) (L : List Value) (V : World) (cs : List Frame) (hp : Pre l L V) (ht : Region.schedule (Tryq.prog.follows .mixedOrders) Tryq.drawOps (V.tape V.drawn (.order 69 100))=[1,0]) :
    ∃ V4 : World,Steps Tryq.prog (lone (Frame.enter Tryq.prog 69 #[lV l,.int .i64 pn] .normal) cs V) (lone (pF2 V.heap.size l pn (V.heap.size+5)) cs V4) ∧
      (∀ b,b < V.heap.size+7→b≠V.heap.size+5→V4.heap[b]?=(callW V l 1000).heap[b]?)∧V4.heap[V.heap.size+5]?=some (.chan 1000 L.toArray true L.length 0 false)∧V4.os=V.os:=by
  obtain ⟨Va,hVa⟩ : ∃ Va : World,Va={ V with drawn:=V.drawn+1 }:=⟨_,rfl⟩
  have e1 : Va.heap=V.heap:=by rw [hVa]
  have e2 : Va.os=V.os:=by rw [hVa]
  have s1:=magic_no (lV l) (.int .i64 pn) cs V ht
  rw [←hVa,←pgArgs_eq] at s1
  have s2:=page_pre l pn cs Va
  have hcall : step Tryq.prog (lone ((base 69).at ⟨pgTmps Va.heap.size l pn,[]⟩ (.inRegion pgOps [4] :: pgRest)) cs (pgW Va l))=.next (lone (Frame.enter Tryq.prog 97 #[qV l.vs l.p l.d l.af,sV l.root] .normal) (pF Va.heap.size l pn :: cs) (pgW Va l)):=by
    refine op_enter (o := { dst := some 17, op := .call { callee := .value (.func 97), args := #[.tmp 14, .tmp 16], argTypes := #[93, 56] }, type := 165, pos := "listing.go:108", after := #[{ on := 1, ground := .data }, { on := 3, ground := .data }], guard := none }) rfl rfl ?_
    have := run_call_body (P := Tryq.prog) (a := ⟨pgTmps Va.heap.size l pn, []⟩) (w := pgW Va l) (o := { dst := some 17, op := .call { callee := .value (.func 97), args := #[.tmp 14, .tmp 16], argTypes := #[93, 56] }, type := 165, pos := "listing.go:108", after := #[{ on := 1, ground := .data }, { on := 3, ground := .data }], guard := none }) rfl Tryq.func97 rfl rfl
    have e : (#[.tmp 14,.tmp 16] : Array Operand).map (Act.eval ⟨pgTmps Va.heap.size l pn,[]⟩)=#[qV l.vs l.p l.d l.af,sV l.root]:=by
      simp only [List.map_toArray,List.map_cons,List.map_nil]
      rfl
    rw [e] at this
    exact this
  have s3:=items_pre l.root l.vs l.p l.d l.af (pF Va.heap.size l pn :: cs) (pgW Va l)
  have hsz : (pgW Va l).heap.size=V.heap.size+3:=by rw [pgW_size,e1]
  rw [hsz] at s3
  have hcw : callW Va l 1000=itW (pgW Va l) l.root l.vs l.p l.d l.af 1000:=rfl
  rw [←hcw] at s3
  have hb : Boxes (callW Va l 1000) (V.heap.size+3+3) (V.heap.size+3) (V.heap.size+3+1) (V.heap.size+3+2) l.root l.vs l.p l.d l.af:=by
    have:=callW_boxes Va l 1000
    rw [e1] at this
    exact this
  have hpa : Pre l L (callW Va l 1000):=hPre.on V _ l L (fun a ha=>by
    rw [callW_cell Va l 1000 a (by rw [e1]; exact ha)]
    unfold World.cell?
    rw [e1]) (by rw [callW_size,e1]; omega) hp
  have hrow : (callW Va l 1000).heap[V.heap.size+3+2]?=some (.chan 1000 #[] false 0 0 false):=by
    have:=callW_row Va l 1000 5 (by omega)
    rw [e1] at this
    exact this
  obtain ⟨w',⟨hold,hsize,hos⟩,hr',s4⟩:=items_behind (root0:=l.root) hb (hPre.send l L _ _ hpa hrow) (pF Va.heap.size l pn :: cs)
  have heq : ∀ b : Nat,(callW Va l 1000).heap[b]?=(callW V l 1000).heap[b]?:=fun b=>by
    have : (callW Va l 1000).heap=(callW V l 1000).heap:=by simp only [callW,itW,pgW,World.alloc,e1]
    rw [this]
  have hot : ∀ b,b≠V.heap.size+5→(shutC w' (V.heap.size+3+2) 1000 L.toArray L.length 0 false).heap[b]?=w'.heap[b]?:=fun b hb=>by
    unfold shutC World.setChan
    exact Array.getElem?_setIfInBounds_ne (by omega)
  have hout : (shutC w' (V.heap.size+3+2) 1000 L.toArray L.length 0 false).cell? ⟨V.heap.size+3+3,0,none⟩=some (.chan (some (V.heap.size+3+2))):=by
    rw [World.cell?_of_block (w:=callW Va l 1000) (a:=⟨V.heap.size+3+3,0,none⟩)]
    · exact hb.out
    · show (shutC w' (V.heap.size+3+2) 1000 L.toArray L.length 0 false).heap[V.heap.size+3+3]?=(callW Va l 1000).heap[V.heap.size+3+3]?
      rw [hot _ (by omega)]
      exact hold _ (by rw [callW_size,e1]; omega) (by omega)
  have s5:=items_end Va.heap.size (V.heap.size+3) l pn cs (shutC w' (V.heap.size+3+2) 1000 L.toArray L.length 0 false) l.root hout
  refine ⟨shutC w' (V.heap.size+3+2) 1000 L.toArray L.length 0 false,?_,fun b h1 h2=>?_,?_,?_⟩
  · rw [←e1]
    refine Steps.trans s1 (Steps.trans s2 (.head hcall (Steps.trans s3 (Steps.trans s4 ?_))))
    rw [e1] at s5 ⊢
    exact s5
  · rw [hot b h2,←heq]
    exact hold b (by rw [callW_size,e1]; exact h1) (by omega)
  · exact heap_setChan _ _ _ _ _ _ _ _ (Array.getElem?_eq_some_iff.1 hr').1
  · exact (show w'.os=_ from hos.trans (by simp only [callW,itW,pgW,World.alloc]; exact e2))
end Go.Proofs.YtnapepbdohidgaaGreatDoorQ
