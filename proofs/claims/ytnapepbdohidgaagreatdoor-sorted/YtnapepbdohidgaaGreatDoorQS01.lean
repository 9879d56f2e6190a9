/- A part. -/
import Derived.Test.YtnapepbdohidgaaGreatDoorRows
import Derived.WalkKit
import Derived.WalkSpells
import Derived.WalkLawsBesides
import Derived.Calls
import Derived.RangeFuncRecord
set_option maxHeartbeats 4000000
set_option maxRecDepth 100000
open Go renaming World->Wz,Value->Wq,Program->Wx,TypeId->Wk,Addr->Ww
namespace Go.Proofs
section
open Go Go.RowKit
theorem eS {α:Type _} {i:Nat} {b:α} {xs:Array α} (h:xs[i]?=some b):∃h,xs[i]=b:=Array.getElem?_eq_some_iff.mp h
theorem eG {α:Type _} {xs:Array α} {i:Nat} (h:i<xs.size):xs[i]?=some xs[i]:=@Array.getElem?_eq_getElem _ xs i h
theorem sN {α:Type _} {xs:Array α} {i j:Nat} (h:i≠j) {a:α}:(xs.setIfInBounds i a)[j]?=xs[j]?:=@Array.getElem?_setIfInBounds_ne _ xs i j h a
theorem cB {w w':Wz} {a:Ww} (h:w'.heap[a.block]?=w.heap[a.block]?):w'.cell? a=w.cell? a:=@World.cell?_of_block w w' a h
theorem oI {α:Type _} (a b:α):(some a=some b)=(a=b):=@Option.some.injEq _ a b
theorem gZ {α:Type _} {a:α} {l:List α}:(a::l)[0]?=some a:=rfl
theorem gS {α:Type _} {a:α} {i:Nat} {l:List α}:(a::l)[i+1]?=l[i]?:=rfl
theorem gA {α:Type _} {xs:List α} {i:Nat}:xs.toArray[i]?=xs[i]?:=@List.getElem?_toArray _ xs i
theorem lR (n:Nat):n<=n:=@Nat.le_refl n
theorem zA (n:Nat):0+n=n:=@Nat.zero_add n
theorem sL {α:Type} {l:List α} {i:Nat} {a:α} (h:l[i]?=some a):∃h,l[i]=a:=List.getElem?_eq_some_iff.mp h
theorem cO:type_of% @World.cell?_setCell_other:=@World.cell?_setCell_other
theorem cS:type_of% @World.cell?_setCell_same':=@World.cell?_setCell_same'
theorem cA:type_of% @World.cell?_alloc_at:=@World.cell?_alloc_at
theorem aN:type_of% @World.alloc_heap_new:=@World.alloc_heap_new
theorem bC:type_of% @World.block_lt_of_cell?:=@World.block_lt_of_cell?
theorem fB:type_of% @World.frozen?_of_block:=@World.frozen?_of_block
theorem pO:type_of% @World.putObj_heap_other:=@World.putObj_heap_other
theorem lL:type_of% @Nat.lt_of_lt_of_le:=@Nat.lt_of_lt_of_le
theorem lT:type_of% @Nat.le_trans:=@Nat.le_trans
theorem bT:type_of% @Bool.and_eq_true:=@Bool.and_eq_true
theorem bS:type_of% @Below.heap_setCell:=@Below.heap_setCell
theorem bA:type_of% @Below.heap_alloc:=@Below.heap_alloc
theorem bR:type_of% @Below.refl:=@Below.refl
theorem lP {α:Type}:type_of% (@List.length_append α):=@List.length_append α
theorem lC {α:Type}:type_of% (@List.length_cons α):=@List.length_cons α
theorem lN {α:Type}:type_of% (@List.length_nil α):=@List.length_nil α
theorem tL {α:Type}:type_of% (@List.length_take α):=@List.length_take α
theorem eL {α:Type}:type_of% (@List.getElem?_eq_getElem α):=@List.getElem?_eq_getElem α
theorem gD {α:Type}:type_of% (@Array.getD_eq_getD_getElem? α):=@Array.getD_eq_getD_getElem? α
theorem sS {α:Type}:type_of% (@Array.getElem?_setIfInBounds_self_of_lt α):=@Array.getElem?_setIfInBounds_self_of_lt α
theorem lM {α:Type}:type_of% (@List.length_map α):=@List.length_map α
theorem tS {α:Type}:type_of% (@List.take_succ_eq_append_getElem α):=@List.take_succ_eq_append_getElem α
theorem aR {α:Type}:type_of% (@List.getElem?_append_right α):=@List.getElem?_append_right α
theorem gP {α:Type}:type_of% (@Array.getElem?_push α):=@Array.getElem?_push α
theorem lD {α:Type}:type_of% (@List.length_drop α):=@List.length_drop α
theorem oJ {α:Type}:type_of% (@Option.some.inj α):=@Option.some.inj α
theorem lY {α:Type}:type_of% (@Array.length_toList α):=@Array.length_toList α
theorem lZ {α:Type}:type_of% (@List.size_toArray α):=@List.size_toArray α
theorem tO {α:Type}:type_of% (@List.take_of_length_le α):=@List.take_of_length_le α
theorem lS {α:Type}:type_of% (@List.length_singleton α):=@List.length_singleton α
theorem pA {α:Type}:type_of% (@List.append_assoc α):=@List.append_assoc α
theorem gM {α:Type}:type_of% (@List.getElem_of_mem α):=@List.getElem_of_mem α
theorem gT {α:Type}:type_of% (@Array.getElem?_toList α):=@Array.getElem?_toList α
end
end Go.Proofs
namespace Go.Proofs
section
open Go
noncomputable section
def Sw.prog (P:Wx)(p q:FuncId)(a b:Func):Wx:=⟨P.toTables,(P.funcs.setIfInBounds p a).setIfInBounds q b⟩
section
variable {P:Wx} {p q:FuncId} {a b:Func}
theorem Sw.ne {i:Nat}{x:Option Func}(h1:p≠i)(h2:q≠i)(h:P.funcs[i]?=x):(Sw.prog P p q a b).funcs[i]?=x:=by
 unfold Sw.prog;rw [sN h2,sN h1];exact h
theorem Sw.at_p {f:Func}(hn:q≠p)(h:P.funcs[p]?=some f):(Sw.prog P p q a b).funcs[p]?=some a:=by
 unfold Sw.prog;rw [sN hn,sS (eS h).1]
theorem Sw.at_q {f:Func}(h:P.funcs[q]?=some f):(Sw.prog P p q a b).funcs[q]?=some b:=by
 unfold Sw.prog;rw [sS (by rw [Array.size_setIfInBounds];exact (eS h).1)]
theorem Sw.run_call {Q : Wx} {i : Nat} {fn : Func} (h : Q.funcs[i]? = some fn) (hn : (fn.name == "runtime.NumGoroutine") = false) (hb : fn.body.isNone = false) (args : Array Wq) (w : Wz) : Sem.run Q (callFunc i args) w = .ok (.enter i args) w := by
 show Sem.run Q (match Q.funcs[i]? with|none=>_|some fn=>_) w=_;rw [h];simp only [hn,hb];rfl
theorem Sw.tables:(Sw.prog P p q a b).toTables=P.toTables:=rfl
theorem Sw.und (t:Wk):(Sw.prog P p q a b).underlying t=P.underlying t:=rfl
theorem Sw.depth:(Sw.prog P p q a b).depth=P.depth:=rfl
theorem Sw.guard (d:Nat)(t:Wk):(Sw.prog P p q a b).eqGuardType d t=P.eqGuardType d t:=by
 induction d generalizing t with
 |zero=>rfl
 |succ d ih=>unfold Program.eqGuardType;simp only [Sw.und,ih]
theorem Sw.typeInfo_eq (Q : Wx) (i : Wk) (w : Wz) : Sem.run Q (typeInfo i) w = (match Q.info? i with | some x => .ok x w | none => .halt (.stuck "no such type") w) := by
 show Sem.run Q (match Q.info? i with | some x => pure x | none => stuck "no such type") w = _
 cases Q.info? i<;>rfl
theorem Sw.underlying_eq (Q : Wx) (i : Wk) (w : Wz) : Sem.run Q (underlying i) w = (match Q.underlying i with | some x => .ok x w | none => .halt (.stuck "no such type") w) := by
 show Sem.run Q (match Q.underlying i with | some x => pure x | none => stuck "no such type") w = _
 cases Q.underlying i<;>rfl
theorem Sw.run_typeInfo (i:Wk)(w:Wz):Sem.run (Sw.prog P p q a b) (typeInfo i) w=Sem.run P (typeInfo i) w:=by
 rw [Sw.typeInfo_eq,Sw.typeInfo_eq];rfl
theorem Sw.run_underlying (i:Wk)(w:Wz):Sem.run (Sw.prog P p q a b) (underlying i) w=Sem.run P (underlying i) w:=by
 rw [Sw.underlying_eq,Sw.underlying_eq];rfl
theorem Sw.run_sizeOf (i:Wk)(w:Wz):Sem.run (Sw.prog P p q a b) (sizeOf i) w=Sem.run P (sizeOf i) w:=by
 have h : ∀ Q : Wx, Sem.run Q (sizeOf i) w = (match Q.info? i with | some x => .ok x.size w | none => .halt (.stuck "no such type") w) := fun Q => by
  show Sem.run Q (Sem.bind (match Q.info? i with | some x => pure x | none => stuck "no such type") fun x => pure x.size) w = _
  cases Q.info? i<;>rfl
 rw [h,h];rfl
theorem Sw.run_zeroValue (i:Wk)(w:Wz):Sem.run (Sw.prog P p q a b) (zeroValue i) w=Sem.run P (zeroValue i) w:=by
 have h : ∀ Q : Wx, Sem.run Q (zeroValue i) w = (match Q.info? i with | some x => (match x.zero with | some v => .ok v w | none => .halt (.unsupported (.resourceLimit "a value of more than 2^22 cells")) w) | none => .halt (.stuck "no such type") w) := fun Q => by
  show Sem.run Q (Sem.bind (match Q.info? i with | some x => pure x | none => stuck "no such type") fun x => match x.zero with | some v => pure v | none => unsupported (.resourceLimit "a value of more than 2^22 cells")) w = _
  cases Q.info? i with
  |none=>rfl
  |some x=>
   show Sem.run Q (match x.zero with | some v => pure v | none => unsupported (.resourceLimit "a value of more than 2^22 cells")) w = _
   dsimp only;cases x.zero<;>rfl
 rw [h,h];rfl
theorem Sw.run_isAgg (i:Wk)(w:Wz):Sem.run (Sw.prog P p q a b) (isAgg i) w=Sem.run P (isAgg i) w:=by
 have h : ∀ Q : Wx, Sem.run Q (isAgg i) w = (match Q.underlying i with | some (.struct _) => .ok true w | some (.array _ _) => .ok true w | some _ => .ok false w | none => .halt (.stuck "no such type") w) := fun Q => by
  show Sem.run Q (Sem.bind (match Q.underlying i with | some x => pure x | none => stuck "no such type") fun x => match x with | .struct _ | .array _ _ => pure true | _ => pure false) w = _
  cases Q.underlying i with
  |none=>rfl
  |some x=>cases x<;>rfl
 rw [h,h];rfl
end
def Yq.stopOps : Array Oper := #[{ dst := some 10, op := .makeFunc (.func 69) #[.tmp 0, .tmp 1] #[], type := 0, pos := "", after := #[], guard := none }, { dst := some 11, op := .makeInterface 3 (.tmp 10), type := 0, pos := "", after := #[], guard := none }, { dst := none, op := .panic (.tmp 11), type := 0, pos := "", after := #[], guard := none }]
def Yq.drawOps : Array Oper := #[{ dst := some 9, op := .move (.const (.bool false)), type := 4, pos := "", after := #[], guard := none }, { dst := some 9, op := .move (.const (.bool true)), type := 4, pos := "", after := #[], guard := none }]
def Yq.backOps : Array Oper := #[{ dst := some 9, op := .move (.const undef), type := 4, pos := "", after := #[], guard := none }]
def Yq.magic:Code:=.seq (.region 100 Yq.drawOps true) (.seq (.cond (.tmp 9) (.region 101 Yq.stopOps false) .skip) (.region 102 Yq.backOps false))
noncomputable abbrev Yq.b69:Code:=Tryz.f69.body.getD .skip
noncomputable abbrev Yq.f69:Func:={Tryz.f69 with body:=some (.seq Yq.magic Yq.b69)}
def Yq.itemsOps0 : Array Oper := #[{ dst := some 2, op := .box 93 (.tmp 0), type := 0, pos := "", after := #[], guard := none }, { dst := some 3, op := .box 56 (.tmp 1), type := 0, pos := "", after := #[], guard := none }, { dst := some 4, op := .assign (.const (.chan none)), type := 165, pos := "", after := #[], guard := none }]
def Yq.itemsOps1 : Array Oper := #[{ dst := some 6, op := .makeChan 193 (.const (.int .i64 1000)), type := 193, pos := "", after := #[], guard := none }, { dst := some 5, op := .alloc 193, type := 0, pos := "", after := #[], guard := none }, { dst := none, op := .store 193 (.tmp 5) (.tmp 6), type := 0, pos := "", after := #[], guard := none }]
def Yq.itemsOps2 : Array Oper := #[{ dst := some 7, op := .makeFunc (.func 119) #[] #[.tmp 5, .tmp 2, .tmp 3], type := 1, pos := "", after := #[], guard := none }, { dst := none, op := .call { callee := .value (.tmp 7), args := #[], argTypes := #[] }, type := 0, pos := "", after := #[], guard := none }, { dst := some 7, op := .move (.const undef), type := 0, pos := "", after := #[], guard := none }]
def Yq.itemsOps3 : Array Oper := #[{ dst := some 8, op := .load 193 (.tmp 5), type := 193, pos := "items.go:26", after := #[], guard := none }, { dst := some 4, op := .assign (.tmp 8), type := 165, pos := "items.go:26", after := #[{ on := 0, ground := .data }, { on := 0, ground := .phase }], guard := none }]
def Yq.b97:Code:=.seq (.region 0 Yq.itemsOps0 false) (.seq (.region 1 Yq.itemsOps1 false) (.seq (.region 2 Yq.itemsOps2 false) (.seq (.region 3 Yq.itemsOps3 false) .ret)))
noncomputable abbrev Yq.f97:Func:={Tryz.f97 with body:=some Yq.b97}
noncomputable def Yq.prog:Wx:=Sw.prog Tryz.prog 69 97 Yq.f69 Yq.f97
@[simp] theorem Yq.func69:Yq.prog.funcs[69]?=some Yq.f69:=Sw.at_p (by decide) Tryz.func69
@[simp] theorem Yq.func97:Yq.prog.funcs[97]?=some Yq.f97:=Sw.at_q Tryz.func97
theorem Yq.nq {i:Nat} {x:Option Func} (h:Tryz.prog.funcs[i]?=x) (h1:69≠i:=by decide) (h2:97≠i:=by decide):Yq.prog.funcs[i]?=x:=Sw.ne h1 h2 h
@[simp] theorem Yq.fns (i:Nat) (h1:69≠i) (h2:97≠i):Yq.prog.funcs[i]?=Tryz.prog.funcs[i]?:=Sw.ne h1 h2 rfl
def Sw.good (Q:Wx)(i:Nat):Bool:=match Q.funcs[i]? with
 | some fn => !(fn.name == "runtime.NumGoroutine") && !fn.body.isNone
 |none=>false
theorem Sw.run_good {Q:Wx}{i:Nat}(h:Sw.good Q i=true)(args:Array Wq)(w:Wz):Sem.run Q (callFunc i args) w=.ok (.enter i args) w:=by
 unfold Sw.good at h;cases hf:Q.funcs[i]? with
 |none=>rw [hf] at h;cases h
 |some fn=>
  rw [hf] at h;simp only [bT,Bool.not_eq_true'] at h;exact Sw.run_call hf h.1 h.2 args w
theorem Sw.all_good:(List.range 206).all (fun i=>[0,1,136,173,180,184,185,186,187,188,189,190,191,192,193,194,195,196,197,198,199,200,201,202,203,204].contains i||Sw.good Tryz.prog i)=true:=by kernel_rfl
@[simp] theorem Yq.calls (i:Nat) (args:Array Wq) (w:Wz) (h:i<206) (h1:¬i∈[0,1,136,173,180,184,185,186,187,188,189,190,191,192,193,194,195,196,197,198,199,200,201,202,203,204]):Sem.run Yq.prog (callFunc i args) w=.ok (.enter i args) w:=by
 by_cases e1:69=i
 .subst e1;exact Sw.run_call Yq.func69 rfl rfl args w
 by_cases e2:97=i
 .subst e2;exact Sw.run_call Yq.func97 rfl rfl args w
 refine Sw.run_good ?_ args w;have h2:=List.all_eq_true.1 Sw.all_good i (List.mem_range.2 h);unfold Sw.good at h2 ⊢;rw [Yq.fns i e1 e2];simpa [h1] using h2
theorem Yq.tables:Yq.prog.toTables=Tryz.prog.toTables:=Sw.tables
@[simp] theorem Yq.und_eq (t:Wk):Yq.prog.underlying t=Tryz.prog.underlying t:=Sw.und t
theorem Yq.u {t:Wk}{d:Option TypeDesc}(h:Tryz.prog.underlying t=d):Yq.prog.underlying t=d:=(Yq.und_eq t).trans h
theorem Yq.g {t:Wk}{d:Bool}(h:Tryz.prog.eqGuardType Tryz.prog.depth t=d):Yq.prog.eqGuardType Yq.prog.depth t=d:=by
 have e:Yq.prog.depth=Tryz.prog.depth:=Sw.depth;have e2:Yq.prog.eqGuardType Tryz.prog.depth t=Tryz.prog.eqGuardType Tryz.prog.depth t:=Sw.guard _ t;rw [e,e2];exact h
theorem Yq.s {t:Wk}{w:Wz}{r:Result Nat}(h:Sem.run Tryz.prog (sizeOf t) w=r):Sem.run Yq.prog (sizeOf t) w=r:=(Sw.run_sizeOf t w).trans h
theorem Yq.a {t:Wk}{w:Wz}{r:Result Bool}(h:Sem.run Tryz.prog (isAgg t) w=r):Sem.run Yq.prog (isAgg t) w=r:=(Sw.run_isAgg t w).trans h
theorem Yq.z {t:Wk}{w:Wz}{r:Result Wq}(h:Sem.run Tryz.prog (zeroValue t) w=r):Sem.run Yq.prog (zeroValue t) w=r:=(Sw.run_zeroValue t w).trans h
@[simp] theorem Yq.rS (t:Wk) (w:Wz):Sem.run Yq.prog (sizeOf t) w=Sem.run Tryz.prog (sizeOf t) w:=Sw.run_sizeOf t w
@[simp] theorem Yq.rI (t:Wk) (w:Wz):Sem.run Yq.prog (typeInfo t) w=Sem.run Tryz.prog (typeInfo t) w:=Sw.run_typeInfo t w
@[simp] theorem Yq.rU (t:Wk) (w:Wz):Sem.run Yq.prog (underlying t) w=Sem.run Tryz.prog (underlying t) w:=Sw.run_underlying t w
@[simp] theorem Yq.rA (t:Wk) (w:Wz):Sem.run Yq.prog (isAgg t) w=Sem.run Tryz.prog (isAgg t) w:=Sw.run_isAgg t w
@[simp] theorem Yq.rZ (t:Wk) (w:Wz):Sem.run Yq.prog (zeroValue t) w=Sem.run Tryz.prog (zeroValue t) w:=Sw.run_zeroValue t w
@[simp] theorem Yq.rG (t:Wk):Yq.prog.eqGuardType Yq.prog.depth t=Tryz.prog.eqGuardType Tryz.prog.depth t:=Yq.g rfl
@[simp] theorem Yq.rt_eq:Yq.prog.rt=Tryz.prog.rt:=by rw [Yq.tables]
@[simp] theorem Yq.globals_size:Yq.prog.globals.size=Tryz.prog.globals.size:=by rw [Yq.tables]
end
end
end Go.Proofs
namespace Go.Proofs.Qw
section
open Go.RowKit
theorem jQ {k:IntKind}{a b:Int}(h:a=b):Ending.returned (.int k a)=.returned (.int k b):=by rw [h]
def lq (x y:Int):Int:=if x<y then -1 else if y<x then 1 else 0
theorem AL (x:Int)(w:Wz):Calls Yq.prog 153 #[.int .u8 x] w fun e w'=>e=.returned (.bool false)/\w'=w:=by
 go_enter (Yq.nq Tryz.func153),Tryz.ntmps153;go_wp2;go_ret;exact ⟨by simp,rfl⟩
theorem AM (x:Int)(w:Wz):Calls Yq.prog 126 #[.int .i64 x] w fun e w'=>e=.returned (.bool false)/\w'=w:=by
 go_enter (Yq.nq Tryz.func126),Tryz.ntmps126;go_wp2;go_ret;exact ⟨by simp,rfl⟩
theorem AN (x y:Int)(w:Wz):Calls Yq.prog 135 #[.int .u8 x,.int .u8 y] w fun e w'=>e=.returned (.int .i64 (lq x y))/\w'=w:=by
 go_enter (Yq.nq Tryz.func135),Tryz.ntmps135;go_wp2_with (go_at_call 153;refine (AL _ _).mono ?_;rintro e w' ⟨rfl,rfl⟩)
 all_goals (go_ret;exact ⟨jQ (by unfold lq;(repeat' split)<;>omega),rfl⟩)
theorem AO (x y:Int)(w:Wz):Calls Yq.prog 104 #[.int .i64 x,.int .i64 y] w fun e w'=>e=.returned (.int .i64 (lq x y))/\w'=w:=by
 go_enter (Yq.nq Tryz.func104),Tryz.ntmps104;go_wp2_with (go_at_call 126;refine (AM _ _).mono ?_;rintro e w' ⟨rfl,rfl⟩)
 all_goals (go_ret;exact ⟨jQ (by unfold lq;(repeat' split)<;>omega),rfl⟩)
theorem oT (l:Int)(p:Option Ww)(b:Int)(w:Wz):Calls Yq.prog 134 #[.agg #[.int .u8 l,.pointer p],.int .u8 b] w fun e w'=>e=.returned (.int .i64 (lq l b))/\w'=w.alloc (.cells #[.int .u8 l,.pointer p] 190):=by
 go_enter (Yq.nq Tryz.func134),Tryz.ntmps134;go_wp2_with (go_at_call 135;refine (AN _ _ _).mono ?_;rintro e w' ⟨rfl,rfl⟩)
 go_ret;exact ⟨rfl,rfl⟩
theorem oU (n:Int)(s:ByteArray)(m:Bool)(b:Int)(w:Wz):Calls Yq.prog 113 #[.agg #[.int .i64 n,.string s,.bool m],.int .i64 b] w fun e w'=>e=.returned (.int .i64 (lq n b))/\w'=w.alloc (.cells #[.int .i64 n,.string s,.bool m] 81):=by
 go_enter (Yq.nq Tryz.func113),Tryz.ntmps113;go_wp2_with (go_at_call 104;refine (AO _ _ _).mono ?_;rintro e w' ⟨rfl,rfl⟩)
 go_ret;exact ⟨rfl,rfl⟩
end
section
open Go
def _root_.Go.World.on (w:Wz)(τ:Nat->Question->Nat)(d:Nat):Wz:={w with tape:=τ,drawn:=d}
theorem qm (p:Wx)(w:Wz)(τ:Nat->Question->Nat)(d:Nat)(x:Ww)(u:Wk)(a:Ww)(v:Wq)(b:Bool):(w.on τ d).viewStore p x u a v b=(w.viewStore p x u a v b).map (fun x=>(x.1.on τ d,x.2)):=by
 unfold World.viewStore;have hs:(w.on τ d).seen p x u a b=w.seen p x u a b:=rfl;rw [hs];simp only [bind,Except.bind,pure,Except.pure,Except.map]
 repeat' split
 all_goals first|rfl|simp_all
theorem sP (p:Wx)(w:Wz)(τ:Nat->Question->Nat)(d:Nat)(a:Ww)(v:Wq)(b:Bool):(w.on τ d).farStore p a v b=(w.farStore p a v b).map (fun x=>(x.1.on τ d,x.2)):=by
 unfold World.farStore;have hh:(w.on τ d).heap=w.heap:=rfl;rw [hh];cases w.heap[a.block]? with
 |none=>rfl
 |some o=>
  cases o with
  |view x u=>
   simp only;rw [qm];cases w.viewStore p x u a v b<;>rfl
  |_=>rfl
theorem oV {p:Wx}{w w':Wz}{a:Ww}{v:Wq}{b:Bool}{l:List Ww}(h:w.farStore p a v b=.ok (w',l)):w'.tape=w.tape/\w'.drawn=w.drawn:=by
 have h1:=sP p w w.tape w.drawn a v b;have e:w.on w.tape w.drawn=w:=rfl;rw [e,h] at h1;simp only [Except.map,Except.ok.injEq,Prod.mk.injEq] at h1;have:=h1.1;constructor
 .rw [this];rfl
 .rw [this];rfl
def Like (w w':Wz)(τ:Nat->Question->Nat)(d:Nat):Prop:=∀i,w.drawn+i<w'.drawn->τ (d+i)=w.tape (w.drawn+i)
theorem Ez {α:Type}(x:Ask α):∀ (w:Wz),(w.ask x).2.tape=w.tape/\w.drawn<=(w.ask x).2.drawn/\(w.ask x).2={w with drawn:=(w.ask x).2.drawn} /\
  ∀τ d,Like w (w.ask x).2 τ d->(w.on τ d).ask x=((w.ask x).1,(w.ask x).2.on τ (d+((w.ask x).2.drawn-w.drawn))):=by
 induction x with
 |done a=>intro w;exact ⟨rfl,lR _,rfl,fun τ d _=>by simp [World.ask]⟩
 |ask what range k ih=>
  intro w;by_cases hf:(Question.extern what range).forced=true
  .have e:∀u:Wz,u.ask (.ask what range k)=u.ask (k 0):=fun u=>by rw [World.ask];simp [hf]
   rw [e w];obtain ⟨h1,h2,h3,h4⟩:=ih 0 w;exact ⟨h1,h2,h3,fun τ d hl=>by rw [e];exact h4 τ d hl⟩
  .have e:∀u:Wz,u.ask (.ask what range k)=World.ask {u with drawn:=u.drawn+1} (k ((Question.extern what range).cut (u.tape u.drawn (Question.extern what range)))):=fun u=>by rw [World.ask];simp [hf]
   rw [e w];obtain ⟨h1,h2,h3,h4⟩:=ih ((Question.extern what range).cut (w.tape w.drawn (Question.extern what range))) {w with drawn:=w.drawn+1};simp only at h1 h2 h3 h4;refine ⟨h1,by omega,h3,fun τ d hl=>?_⟩;rw [e];have h0:τ d=w.tape w.drawn:=by have:=hl 0 (by omega);simpa using this
   have e2:(w.on τ d).tape (w.on τ d).drawn=w.tape w.drawn:=h0;rw [e2];have e3:({w.on τ d with drawn:=(w.on τ d).drawn+1}:Wz)=({w with drawn:=w.drawn+1}:Wz).on τ (d+1):=rfl;rw [e3,h4 τ (d+1) (fun i hi=>by
    have:=hl (i+1) (by simp only at hi;omega);rw [show d+1+i=d+(i+1) by omega,show w.drawn+1+i=w.drawn+(i+1) by omega];exact this)]
   congr 2;omega
end
