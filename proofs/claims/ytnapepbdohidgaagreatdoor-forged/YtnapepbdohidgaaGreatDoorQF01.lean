/- A part. -/
import Derived.Test.YtnapepbdohidgaaGreatDoorRows
import Derived.WalkKit
import Derived.WalkSpells
import Derived.WalkLawsBesides
import Derived.Calls
import Derived.RangeFuncRecord
set_option maxHeartbeats 4000000
set_option maxRecDepth 100000
namespace Go.Proofs
section
open Go Go.RowKit
theorem eS {α:Type _} {i:Nat} {b:α} {xs:Array α} (h:xs[i]?=some b):∃h,xs[i]=b:=Array.getElem?_eq_some_iff.mp h
theorem eG {α:Type _} {xs:Array α} {i:Nat} (h:i<xs.size):xs[i]?=some xs[i]:=@Array.getElem?_eq_getElem _ xs i h
theorem sN {α:Type _} {xs:Array α} {i j:Nat} (h:i≠j) {a:α}:(xs.setIfInBounds i a)[j]?=xs[j]?:=@Array.getElem?_setIfInBounds_ne _ xs i j h a
theorem cB {w w':World} {a:Addr} (h:w'.heap[a.block]?=w.heap[a.block]?):w'.cell? a=w.cell? a:=@World.cell?_of_block w w' a h
theorem oI {α:Type _} (a b:α):(some a=some b)=(a=b):=@Option.some.injEq _ a b
theorem gZ {α:Type _} {a:α} {l:List α}:(a::l)[0]?=some a:=rfl
theorem gS {α:Type _} {a:α} {i:Nat} {l:List α}:(a::l)[i+1]?=l[i]?:=rfl
theorem gA {α:Type _} {xs:List α} {i:Nat}:xs.toArray[i]?=xs[i]?:=@List.getElem?_toArray _ xs i
theorem lR (n:Nat):n<=n:=@Nat.le_refl n
theorem zA (n:Nat):0+n=n:=@Nat.zero_add n
theorem sL {α:Type} {l:List α} {i:Nat} {a:α} (h:l[i]?=some a):∃h,l[i]=a:=List.getElem?_eq_some_iff.mp h
theorem cO:type_of% @World.cell?_setCell_other:=@World.cell?_setCell_other
theorem cS:type_of% @World.cell?_setCell_same':=@World.cell?_setCell_same'
theorem cA:type_of% @World.cell?_alloc_at:=@World.cell?_alloc_at
theorem aN:type_of% @World.alloc_heap_new:=@World.alloc_heap_new
theorem bC:type_of% @World.block_lt_of_cell?:=@World.block_lt_of_cell?
theorem fB:type_of% @World.frozen?_of_block:=@World.frozen?_of_block
theorem pO:type_of% @World.putObj_heap_other:=@World.putObj_heap_other
theorem lL:type_of% @Nat.lt_of_lt_of_le:=@Nat.lt_of_lt_of_le
theorem lT:type_of% @Nat.le_trans:=@Nat.le_trans
theorem bT:type_of% @Bool.and_eq_true:=@Bool.and_eq_true
theorem bS:type_of% @Below.heap_setCell:=@Below.heap_setCell
theorem bA:type_of% @Below.heap_alloc:=@Below.heap_alloc
theorem bR:type_of% @Below.refl:=@Below.refl
theorem lP {α:Type}:type_of% (@List.length_append α):=@List.length_append α
theorem lC {α:Type}:type_of% (@List.length_cons α):=@List.length_cons α
theorem lN {α:Type}:type_of% (@List.length_nil α):=@List.length_nil α
theorem tL {α:Type}:type_of% (@List.length_take α):=@List.length_take α
theorem eL {α:Type}:type_of% (@List.getElem?_eq_getElem α):=@List.getElem?_eq_getElem α
theorem gD {α:Type}:type_of% (@Array.getD_eq_getD_getElem? α):=@Array.getD_eq_getD_getElem? α
theorem sS {α:Type}:type_of% (@Array.getElem?_setIfInBounds_self_of_lt α):=@Array.getElem?_setIfInBounds_self_of_lt α
theorem lM {α:Type}:type_of% (@List.length_map α):=@List.length_map α
theorem tS {α:Type}:type_of% (@List.take_succ_eq_append_getElem α):=@List.take_succ_eq_append_getElem α
theorem aR {α:Type}:type_of% (@List.getElem?_append_right α):=@List.getElem?_append_right α
theorem gP {α:Type}:type_of% (@Array.getElem?_push α):=@Array.getElem?_push α
theorem lD {α:Type}:type_of% (@List.length_drop α):=@List.length_drop α
theorem oJ {α:Type}:type_of% (@Option.some.inj α):=@Option.some.inj α
theorem lY {α:Type}:type_of% (@Array.length_toList α):=@Array.length_toList α
theorem lZ {α:Type}:type_of% (@List.size_toArray α):=@List.size_toArray α
theorem tO {α:Type}:type_of% (@List.take_of_length_le α):=@List.take_of_length_le α
theorem lS {α:Type}:type_of% (@List.length_singleton α):=@List.length_singleton α
theorem pA {α:Type}:type_of% (@List.append_assoc α):=@List.append_assoc α
theorem gM {α:Type}:type_of% (@List.getElem_of_mem α):=@List.getElem_of_mem α
theorem gT {α:Type}:type_of% (@Array.getElem?_toList α):=@Array.getElem?_toList α
end
end Go.Proofs
namespace Go.Proofs
section
open Go
noncomputable section
def Sw.prog (P:Program)(p q:FuncId)(a b:Func):Program:=⟨P.toTables,(P.funcs.setIfInBounds p a).setIfInBounds q b⟩
section
variable {P:Program} {p q:FuncId} {a b:Func}
theorem Sw.ne {i:Nat}{x:Option Func}(h1:p≠i)(h2:q≠i)(h:P.funcs[i]?=x):(Sw.prog P p q a b).funcs[i]?=x:=by
 unfold Sw.prog;rw [sN h2,sN h1];exact h
theorem Sw.at_p {f:Func}(hn:q≠p)(h:P.funcs[p]?=some f):(Sw.prog P p q a b).funcs[p]?=some a:=by
 unfold Sw.prog;rw [sN hn,sS (eS h).1]
theorem Sw.at_q {f:Func}(h:P.funcs[q]?=some f):(Sw.prog P p q a b).funcs[q]?=some b:=by
 unfold Sw.prog;rw [sS (by rw [Array.size_setIfInBounds];exact (eS h).1)]
theorem Sw.run_call {Q : Program} {i : Nat} {fn : Func} (h : Q.funcs[i]? = some fn) (hn : (fn.name == "runtime.NumGoroutine") = false) (hb : fn.body.isNone = false) (args : Array Value) (w : World) : Sem.run Q (callFunc i args) w = .ok (.enter i args) w := by
 show Sem.run Q (match Q.funcs[i]? with|none=>_|some fn=>_) w=_;rw [h];simp only [hn,hb];rfl
theorem Sw.tables:(Sw.prog P p q a b).toTables=P.toTables:=rfl
theorem Sw.und (t:TypeId):(Sw.prog P p q a b).underlying t=P.underlying t:=rfl
theorem Sw.depth:(Sw.prog P p q a b).depth=P.depth:=rfl
theorem Sw.guard (d:Nat)(t:TypeId):(Sw.prog P p q a b).eqGuardType d t=P.eqGuardType d t:=by
 induction d generalizing t with
 |zero=>rfl
 |succ d ih=>unfold Program.eqGuardType;simp only [Sw.und,ih]
theorem Sw.typeInfo_eq (Q : Program) (i : TypeId) (w : World) : Sem.run Q (typeInfo i) w = (match Q.info? i with | some x => .ok x w | none => .halt (.stuck "no such type") w) := by
 show Sem.run Q (match Q.info? i with | some x => pure x | none => stuck "no such type") w = _
 cases Q.info? i<;>rfl
theorem Sw.underlying_eq (Q : Program) (i : TypeId) (w : World) : Sem.run Q (underlying i) w = (match Q.underlying i with | some x => .ok x w | none => .halt (.stuck "no such type") w) := by
 show Sem.run Q (match Q.underlying i with | some x => pure x | none => stuck "no such type") w = _
 cases Q.underlying i<;>rfl
theorem Sw.run_typeInfo (i:TypeId)(w:World):Sem.run (Sw.prog P p q a b) (typeInfo i) w=Sem.run P (typeInfo i) w:=by
 rw [Sw.typeInfo_eq,Sw.typeInfo_eq];rfl
theorem Sw.run_underlying (i:TypeId)(w:World):Sem.run (Sw.prog P p q a b) (underlying i) w=Sem.run P (underlying i) w:=by
 rw [Sw.underlying_eq,Sw.underlying_eq];rfl
theorem Sw.run_sizeOf (i:TypeId)(w:World):Sem.run (Sw.prog P p q a b) (sizeOf i) w=Sem.run P (sizeOf i) w:=by
 have h : ∀ Q : Program, Sem.run Q (sizeOf i) w = (match Q.info? i with | some x => .ok x.size w | none => .halt (.stuck "no such type") w) := fun Q => by
  show Sem.run Q (Sem.bind (match Q.info? i with | some x => pure x | none => stuck "no such type") fun x => pure x.size) w = _
  cases Q.info? i<;>rfl
 rw [h,h];rfl
theorem Sw.run_zeroValue (i:TypeId)(w:World):Sem.run (Sw.prog P p q a b) (zeroValue i) w=Sem.run P (zeroValue i) w:=by
 have h : ∀ Q : Program, Sem.run Q (zeroValue i) w = (match Q.info? i with | some x => (match x.zero with | some v => .ok v w | none => .halt (.unsupported (.resourceLimit "a value of more than 2^22 cells")) w) | none => .halt (.stuck "no such type") w) := fun Q => by
  show Sem.run Q (Sem.bind (match Q.info? i with | some x => pure x | none => stuck "no such type") fun x => match x.zero with | some v => pure v | none => unsupported (.resourceLimit "a value of more than 2^22 cells")) w = _
  cases Q.info? i with
  |none=>rfl
  |some x=>
   show Sem.run Q (match x.zero with | some v => pure v | none => unsupported (.resourceLimit "a value of more than 2^22 cells")) w = _
   dsimp only;cases x.zero<;>rfl
 rw [h,h];rfl
theorem Sw.run_isAgg (i:TypeId)(w:World):Sem.run (Sw.prog P p q a b) (isAgg i) w=Sem.run P (isAgg i) w:=by
 have h : ∀ Q : Program, Sem.run Q (isAgg i) w = (match Q.underlying i with | some (.struct _) => .ok true w | some (.array _ _) => .ok true w | some _ => .ok false w | none => .halt (.stuck "no such type") w) := fun Q => by
  show Sem.run Q (Sem.bind (match Q.underlying i with | some x => pure x | none => stuck "no such type") fun x => match x with | .struct _ | .array _ _ => pure true | _ => pure false) w = _
  cases Q.underlying i with
  |none=>rfl
  |some x=>cases x<;>rfl
 rw [h,h];rfl
end
def Yq.stopOps : Array Oper := #[{ dst := some 10, op := .makeFunc (.func 69) #[.tmp 0, .tmp 1] #[], type := 0, pos := "", after := #[], guard := none }, { dst := some 11, op := .makeInterface 3 (.tmp 10), type := 0, pos := "", after := #[], guard := none }, { dst := none, op := .panic (.tmp 11), type := 0, pos := "", after := #[], guard := none }]
def Yq.drawOps : Array Oper := #[{ dst := some 9, op := .move (.const (.bool false)), type := 4, pos := "", after := #[], guard := none }, { dst := some 9, op := .move (.const (.bool true)), type := 4, pos := "", after := #[], guard := none }]
def Yq.backOps : Array Oper := #[{ dst := some 9, op := .move (.const undef), type := 4, pos := "", after := #[], guard := none }]
def Yq.magic:Code:=.seq (.region 100 Yq.drawOps true) (.seq (.cond (.tmp 9) (.region 101 Yq.stopOps false) .skip) (.region 102 Yq.backOps false))
noncomputable abbrev Yq.b69:Code:=Tryz.f69.body.getD .skip
noncomputable abbrev Yq.f69:Func:={Tryz.f69 with body:=some (.seq Yq.magic Yq.b69)}
def Yq.itemsOps0 : Array Oper := #[{ dst := some 2, op := .box 93 (.tmp 0), type := 0, pos := "", after := #[], guard := none }, { dst := some 3, op := .box 56 (.tmp 1), type := 0, pos := "", after := #[], guard := none }, { dst := some 4, op := .assign (.const (.chan none)), type := 165, pos := "", after := #[], guard := none }]
def Yq.itemsOps1 : Array Oper := #[{ dst := some 6, op := .makeChan 193 (.const (.int .i64 1000)), type := 193, pos := "", after := #[], guard := none }, { dst := some 5, op := .alloc 193, type := 0, pos := "", after := #[], guard := none }, { dst := none, op := .store 193 (.tmp 5) (.tmp 6), type := 0, pos := "", after := #[], guard := none }]
def Yq.itemsOps2 : Array Oper := #[{ dst := some 7, op := .makeFunc (.func 119) #[] #[.tmp 5, .tmp 2, .tmp 3], type := 1, pos := "", after := #[], guard := none }, { dst := none, op := .call { callee := .value (.tmp 7), args := #[], argTypes := #[] }, type := 0, pos := "", after := #[], guard := none }, { dst := some 7, op := .move (.const undef), type := 0, pos := "", after := #[], guard := none }]
def Yq.itemsOps3 : Array Oper := #[{ dst := some 8, op := .load 193 (.tmp 5), type := 193, pos := "items.go:26", after := #[], guard := none }, { dst := some 4, op := .assign (.tmp 8), type := 165, pos := "items.go:26", after := #[{ on := 0, ground := .data }, { on := 0, ground := .phase }], guard := none }]
def Yq.b97:Code:=.seq (.region 0 Yq.itemsOps0 false) (.seq (.region 1 Yq.itemsOps1 false) (.seq (.region 2 Yq.itemsOps2 false) (.seq (.region 3 Yq.itemsOps3 false) .ret)))
noncomputable abbrev Yq.f97:Func:={Tryz.f97 with body:=some Yq.b97}
noncomputable def Yq.prog:Program:=Sw.prog Tryz.prog 69 97 Yq.f69 Yq.f97
@[simp] theorem Yq.func69:Yq.prog.funcs[69]?=some Yq.f69:=Sw.at_p (by decide) Tryz.func69
@[simp] theorem Yq.func97:Yq.prog.funcs[97]?=some Yq.f97:=Sw.at_q Tryz.func97
theorem Yq.nq {i:Nat} {x:Option Func} (h:Tryz.prog.funcs[i]?=x) (h1:69≠i:=by decide) (h2:97≠i:=by decide):Yq.prog.funcs[i]?=x:=Sw.ne h1 h2 h
@[simp] theorem Yq.func11:type_of% (Yq.nq Tryz.func11):=Yq.nq Tryz.func11
@[simp] theorem Yq.func17:type_of% (Yq.nq Tryz.func17):=Yq.nq Tryz.func17
@[simp] theorem Yq.func18:type_of% (Yq.nq Tryz.func18):=Yq.nq Tryz.func18
@[simp] theorem Yq.func19:type_of% (Yq.nq Tryz.func19):=Yq.nq Tryz.func19
@[simp] theorem Yq.func20:type_of% (Yq.nq Tryz.func20):=Yq.nq Tryz.func20
@[simp] theorem Yq.func22:type_of% (Yq.nq Tryz.func22):=Yq.nq Tryz.func22
@[simp] theorem Yq.func26:type_of% (Yq.nq Tryz.func26):=Yq.nq Tryz.func26
@[simp] theorem Yq.func33:type_of% (Yq.nq Tryz.func33):=Yq.nq Tryz.func33
@[simp] theorem Yq.func35:type_of% (Yq.nq Tryz.func35):=Yq.nq Tryz.func35
@[simp] theorem Yq.func36:type_of% (Yq.nq Tryz.func36):=Yq.nq Tryz.func36
@[simp] theorem Yq.func37:type_of% (Yq.nq Tryz.func37):=Yq.nq Tryz.func37
@[simp] theorem Yq.func38:type_of% (Yq.nq Tryz.func38):=Yq.nq Tryz.func38
@[simp] theorem Yq.func39:type_of% (Yq.nq Tryz.func39):=Yq.nq Tryz.func39
@[simp] theorem Yq.func40:type_of% (Yq.nq Tryz.func40):=Yq.nq Tryz.func40
@[simp] theorem Yq.func41:type_of% (Yq.nq Tryz.func41):=Yq.nq Tryz.func41
@[simp] theorem Yq.func42:type_of% (Yq.nq Tryz.func42):=Yq.nq Tryz.func42
@[simp] theorem Yq.func43:type_of% (Yq.nq Tryz.func43):=Yq.nq Tryz.func43
@[simp] theorem Yq.func44:type_of% (Yq.nq Tryz.func44):=Yq.nq Tryz.func44
@[simp] theorem Yq.func45:type_of% (Yq.nq Tryz.func45):=Yq.nq Tryz.func45
@[simp] theorem Yq.func46:type_of% (Yq.nq Tryz.func46):=Yq.nq Tryz.func46
@[simp] theorem Yq.func47:type_of% (Yq.nq Tryz.func47):=Yq.nq Tryz.func47
@[simp] theorem Yq.func48:type_of% (Yq.nq Tryz.func48):=Yq.nq Tryz.func48
@[simp] theorem Yq.func59:type_of% (Yq.nq Tryz.func59):=Yq.nq Tryz.func59
@[simp] theorem Yq.func60:type_of% (Yq.nq Tryz.func60):=Yq.nq Tryz.func60
@[simp] theorem Yq.func61:type_of% (Yq.nq Tryz.func61):=Yq.nq Tryz.func61
@[simp] theorem Yq.func62:type_of% (Yq.nq Tryz.func62):=Yq.nq Tryz.func62
@[simp] theorem Yq.func63:type_of% (Yq.nq Tryz.func63):=Yq.nq Tryz.func63
@[simp] theorem Yq.func64:type_of% (Yq.nq Tryz.func64):=Yq.nq Tryz.func64
@[simp] theorem Yq.func65:type_of% (Yq.nq Tryz.func65):=Yq.nq Tryz.func65
@[simp] theorem Yq.func66:type_of% (Yq.nq Tryz.func66):=Yq.nq Tryz.func66
@[simp] theorem Yq.func67:type_of% (Yq.nq Tryz.func67):=Yq.nq Tryz.func67
@[simp] theorem Yq.func68:type_of% (Yq.nq Tryz.func68):=Yq.nq Tryz.func68
@[simp] theorem Yq.func70:type_of% (Yq.nq Tryz.func70):=Yq.nq Tryz.func70
@[simp] theorem Yq.func71:type_of% (Yq.nq Tryz.func71):=Yq.nq Tryz.func71
@[simp] theorem Yq.func72:type_of% (Yq.nq Tryz.func72):=Yq.nq Tryz.func72
@[simp] theorem Yq.func73:type_of% (Yq.nq Tryz.func73):=Yq.nq Tryz.func73
@[simp] theorem Yq.func74:type_of% (Yq.nq Tryz.func74):=Yq.nq Tryz.func74
@[simp] theorem Yq.func75:type_of% (Yq.nq Tryz.func75):=Yq.nq Tryz.func75
@[simp] theorem Yq.func76:type_of% (Yq.nq Tryz.func76):=Yq.nq Tryz.func76
@[simp] theorem Yq.func77:type_of% (Yq.nq Tryz.func77):=Yq.nq Tryz.func77
@[simp] theorem Yq.func78:type_of% (Yq.nq Tryz.func78):=Yq.nq Tryz.func78
@[simp] theorem Yq.func89:type_of% (Yq.nq Tryz.func89):=Yq.nq Tryz.func89
@[simp] theorem Yq.func90:type_of% (Yq.nq Tryz.func90):=Yq.nq Tryz.func90
@[simp] theorem Yq.func91:type_of% (Yq.nq Tryz.func91):=Yq.nq Tryz.func91
@[simp] theorem Yq.func92:type_of% (Yq.nq Tryz.func92):=Yq.nq Tryz.func92
@[simp] theorem Yq.func93:type_of% (Yq.nq Tryz.func93):=Yq.nq Tryz.func93
@[simp] theorem Yq.func94:type_of% (Yq.nq Tryz.func94):=Yq.nq Tryz.func94
@[simp] theorem Yq.func95:type_of% (Yq.nq Tryz.func95):=Yq.nq Tryz.func95
@[simp] theorem Yq.func96:type_of% (Yq.nq Tryz.func96):=Yq.nq Tryz.func96
@[simp] theorem Yq.func98:type_of% (Yq.nq Tryz.func98):=Yq.nq Tryz.func98
@[simp] theorem Yq.func99:type_of% (Yq.nq Tryz.func99):=Yq.nq Tryz.func99
@[simp] theorem Yq.func100:type_of% (Yq.nq Tryz.func100):=Yq.nq Tryz.func100
@[simp] theorem Yq.func101:type_of% (Yq.nq Tryz.func101):=Yq.nq Tryz.func101
@[simp] theorem Yq.func102:type_of% (Yq.nq Tryz.func102):=Yq.nq Tryz.func102
@[simp] theorem Yq.func103:type_of% (Yq.nq Tryz.func103):=Yq.nq Tryz.func103
@[simp] theorem Yq.func104:type_of% (Yq.nq Tryz.func104):=Yq.nq Tryz.func104
@[simp] theorem Yq.func105:type_of% (Yq.nq Tryz.func105):=Yq.nq Tryz.func105
@[simp] theorem Yq.func111:type_of% (Yq.nq Tryz.func111):=Yq.nq Tryz.func111
@[simp] theorem Yq.func112:type_of% (Yq.nq Tryz.func112):=Yq.nq Tryz.func112
@[simp] theorem Yq.func113:type_of% (Yq.nq Tryz.func113):=Yq.nq Tryz.func113
@[simp] theorem Yq.func114:type_of% (Yq.nq Tryz.func114):=Yq.nq Tryz.func114
@[simp] theorem Yq.func115:type_of% (Yq.nq Tryz.func115):=Yq.nq Tryz.func115
@[simp] theorem Yq.func116:type_of% (Yq.nq Tryz.func116):=Yq.nq Tryz.func116
@[simp] theorem Yq.func117:type_of% (Yq.nq Tryz.func117):=Yq.nq Tryz.func117
@[simp] theorem Yq.func118:type_of% (Yq.nq Tryz.func118):=Yq.nq Tryz.func118
@[simp] theorem Yq.func119:type_of% (Yq.nq Tryz.func119):=Yq.nq Tryz.func119
@[simp] theorem Yq.func120:type_of% (Yq.nq Tryz.func120):=Yq.nq Tryz.func120
@[simp] theorem Yq.func121:type_of% (Yq.nq Tryz.func121):=Yq.nq Tryz.func121
@[simp] theorem Yq.func122:type_of% (Yq.nq Tryz.func122):=Yq.nq Tryz.func122
@[simp] theorem Yq.func123:type_of% (Yq.nq Tryz.func123):=Yq.nq Tryz.func123
@[simp] theorem Yq.func124:type_of% (Yq.nq Tryz.func124):=Yq.nq Tryz.func124
@[simp] theorem Yq.func125:type_of% (Yq.nq Tryz.func125):=Yq.nq Tryz.func125
@[simp] theorem Yq.func126:type_of% (Yq.nq Tryz.func126):=Yq.nq Tryz.func126
@[simp] theorem Yq.func132:type_of% (Yq.nq Tryz.func132):=Yq.nq Tryz.func132
@[simp] theorem Yq.func133:type_of% (Yq.nq Tryz.func133):=Yq.nq Tryz.func133
@[simp] theorem Yq.func134:type_of% (Yq.nq Tryz.func134):=Yq.nq Tryz.func134
@[simp] theorem Yq.func135:type_of% (Yq.nq Tryz.func135):=Yq.nq Tryz.func135
@[simp] theorem Yq.func136:type_of% (Yq.nq Tryz.func136):=Yq.nq Tryz.func136
@[simp] theorem Yq.func138:type_of% (Yq.nq Tryz.func138):=Yq.nq Tryz.func138
@[simp] theorem Yq.func139:type_of% (Yq.nq Tryz.func139):=Yq.nq Tryz.func139
@[simp] theorem Yq.func140:type_of% (Yq.nq Tryz.func140):=Yq.nq Tryz.func140
@[simp] theorem Yq.func141:type_of% (Yq.nq Tryz.func141):=Yq.nq Tryz.func141
@[simp] theorem Yq.func142:type_of% (Yq.nq Tryz.func142):=Yq.nq Tryz.func142
@[simp] theorem Yq.func143:type_of% (Yq.nq Tryz.func143):=Yq.nq Tryz.func143
@[simp] theorem Yq.func144:type_of% (Yq.nq Tryz.func144):=Yq.nq Tryz.func144
@[simp] theorem Yq.func145:type_of% (Yq.nq Tryz.func145):=Yq.nq Tryz.func145
@[simp] theorem Yq.func146:type_of% (Yq.nq Tryz.func146):=Yq.nq Tryz.func146
@[simp] theorem Yq.func147:type_of% (Yq.nq Tryz.func147):=Yq.nq Tryz.func147
@[simp] theorem Yq.func148:type_of% (Yq.nq Tryz.func148):=Yq.nq Tryz.func148
@[simp] theorem Yq.func149:type_of% (Yq.nq Tryz.func149):=Yq.nq Tryz.func149
@[simp] theorem Yq.func150:type_of% (Yq.nq Tryz.func150):=Yq.nq Tryz.func150
@[simp] theorem Yq.func151:type_of% (Yq.nq Tryz.func151):=Yq.nq Tryz.func151
@[simp] theorem Yq.func153:type_of% (Yq.nq Tryz.func153):=Yq.nq Tryz.func153
@[simp] theorem Yq.func155:type_of% (Yq.nq Tryz.func155):=Yq.nq Tryz.func155
@[simp] theorem Yq.func156:type_of% (Yq.nq Tryz.func156):=Yq.nq Tryz.func156
@[simp] theorem Yq.func157:type_of% (Yq.nq Tryz.func157):=Yq.nq Tryz.func157
@[simp] theorem Yq.func158:type_of% (Yq.nq Tryz.func158):=Yq.nq Tryz.func158
@[simp] theorem Yq.func159:type_of% (Yq.nq Tryz.func159):=Yq.nq Tryz.func159
@[simp] theorem Yq.func160:type_of% (Yq.nq Tryz.func160):=Yq.nq Tryz.func160
@[simp] theorem Yq.func161:type_of% (Yq.nq Tryz.func161):=Yq.nq Tryz.func161
@[simp] theorem Yq.func162:type_of% (Yq.nq Tryz.func162):=Yq.nq Tryz.func162
@[simp] theorem Yq.func163:type_of% (Yq.nq Tryz.func163):=Yq.nq Tryz.func163
@[simp] theorem Yq.func165:type_of% (Yq.nq Tryz.func165):=Yq.nq Tryz.func165
@[simp] theorem Yq.func166:type_of% (Yq.nq Tryz.func166):=Yq.nq Tryz.func166
@[simp] theorem Yq.func167:type_of% (Yq.nq Tryz.func167):=Yq.nq Tryz.func167
@[simp] theorem Yq.func168:type_of% (Yq.nq Tryz.func168):=Yq.nq Tryz.func168
@[simp] theorem Yq.func169:type_of% (Yq.nq Tryz.func169):=Yq.nq Tryz.func169
@[simp] theorem Yq.func170:type_of% (Yq.nq Tryz.func170):=Yq.nq Tryz.func170
@[simp] theorem Yq.func171:type_of% (Yq.nq Tryz.func171):=Yq.nq Tryz.func171
@[simp] theorem Yq.func172:type_of% (Yq.nq Tryz.func172):=Yq.nq Tryz.func172
@[simp] theorem Yq.func173:type_of% (Yq.nq Tryz.func173):=Yq.nq Tryz.func173
@[simp] theorem Yq.func174:type_of% (Yq.nq Tryz.func174):=Yq.nq Tryz.func174
@[simp] theorem Yq.func175:type_of% (Yq.nq Tryz.func175):=Yq.nq Tryz.func175
@[simp] theorem Yq.func176:type_of% (Yq.nq Tryz.func176):=Yq.nq Tryz.func176
@[simp] theorem Yq.func177:type_of% (Yq.nq Tryz.func177):=Yq.nq Tryz.func177
@[simp] theorem Yq.func178:type_of% (Yq.nq Tryz.func178):=Yq.nq Tryz.func178
@[simp] theorem Yq.func179:type_of% (Yq.nq Tryz.func179):=Yq.nq Tryz.func179
@[simp] theorem Yq.func180:type_of% (Yq.nq Tryz.func180):=Yq.nq Tryz.func180
@[simp] theorem Yq.func181:type_of% (Yq.nq Tryz.func181):=Yq.nq Tryz.func181
@[simp] theorem Yq.func182:type_of% (Yq.nq Tryz.func182):=Yq.nq Tryz.func182
@[simp] theorem Yq.func183:type_of% (Yq.nq Tryz.func183):=Yq.nq Tryz.func183
@[simp] theorem Yq.call17 (args:Array Value) (w:World):Sem.run Yq.prog (callFunc 17 args) w=.ok (.enter 17 args) w:=Sw.run_call Yq.func17 rfl rfl args w
@[simp] theorem Yq.call18 (args:Array Value) (w:World):Sem.run Yq.prog (callFunc 18 args) w=.ok (.enter 18 args) w:=Sw.run_call Yq.func18 rfl rfl args w
@[simp] theorem Yq.call19 (args:Array Value) (w:World):Sem.run Yq.prog (callFunc 19 args) w=.ok (.enter 19 args) w:=Sw.run_call Yq.func19 rfl rfl args w
@[simp] theorem Yq.call20 (args:Array Value) (w:World):Sem.run Yq.prog (callFunc 20 args) w=.ok (.enter 20 args) w:=Sw.run_call Yq.func20 rfl rfl args w
@[simp] theorem Yq.call22 (args:Array Value) (w:World):Sem.run Yq.prog (callFunc 22 args) w=.ok (.enter 22 args) w:=Sw.run_call Yq.func22 rfl rfl args w
@[simp] theorem Yq.call26 (args:Array Value) (w:World):Sem.run Yq.prog (callFunc 26 args) w=.ok (.enter 26 args) w:=Sw.run_call Yq.func26 rfl rfl args w
@[simp] theorem Yq.call33 (args:Array Value) (w:World):Sem.run Yq.prog (callFunc 33 args) w=.ok (.enter 33 args) w:=Sw.run_call Yq.func33 rfl rfl args w
@[simp] theorem Yq.call35 (args:Array Value) (w:World):Sem.run Yq.prog (callFunc 35 args) w=.ok (.enter 35 args) w:=Sw.run_call Yq.func35 rfl rfl args w
@[simp] theorem Yq.call36 (args:Array Value) (w:World):Sem.run Yq.prog (callFunc 36 args) w=.ok (.enter 36 args) w:=Sw.run_call Yq.func36 rfl rfl args w
@[simp] theorem Yq.call37 (args:Array Value) (w:World):Sem.run Yq.prog (callFunc 37 args) w=.ok (.enter 37 args) w:=Sw.run_call Yq.func37 rfl rfl args w
@[simp] theorem Yq.call38 (args:Array Value) (w:World):Sem.run Yq.prog (callFunc 38 args) w=.ok (.enter 38 args) w:=Sw.run_call Yq.func38 rfl rfl args w
@[simp] theorem Yq.call39 (args:Array Value) (w:World):Sem.run Yq.prog (callFunc 39 args) w=.ok (.enter 39 args) w:=Sw.run_call Yq.func39 rfl rfl args w
@[simp] theorem Yq.call40 (args:Array Value) (w:World):Sem.run Yq.prog (callFunc 40 args) w=.ok (.enter 40 args) w:=Sw.run_call Yq.func40 rfl rfl args w
@[simp] theorem Yq.call41 (args:Array Value) (w:World):Sem.run Yq.prog (callFunc 41 args) w=.ok (.enter 41 args) w:=Sw.run_call Yq.func41 rfl rfl args w
@[simp] theorem Yq.call42 (args:Array Value) (w:World):Sem.run Yq.prog (callFunc 42 args) w=.ok (.enter 42 args) w:=Sw.run_call Yq.func42 rfl rfl args w
@[simp] theorem Yq.call43 (args:Array Value) (w:World):Sem.run Yq.prog (callFunc 43 args) w=.ok (.enter 43 args) w:=Sw.run_call Yq.func43 rfl rfl args w
@[simp] theorem Yq.call44 (args:Array Value) (w:World):Sem.run Yq.prog (callFunc 44 args) w=.ok (.enter 44 args) w:=Sw.run_call Yq.func44 rfl rfl args w
@[simp] theorem Yq.call45 (args:Array Value) (w:World):Sem.run Yq.prog (callFunc 45 args) w=.ok (.enter 45 args) w:=Sw.run_call Yq.func45 rfl rfl args w
@[simp] theorem Yq.call46 (args:Array Value) (w:World):Sem.run Yq.prog (callFunc 46 args) w=.ok (.enter 46 args) w:=Sw.run_call Yq.func46 rfl rfl args w
@[simp] theorem Yq.call47 (args:Array Value) (w:World):Sem.run Yq.prog (callFunc 47 args) w=.ok (.enter 47 args) w:=Sw.run_call Yq.func47 rfl rfl args w
@[simp] theorem Yq.call48 (args:Array Value) (w:World):Sem.run Yq.prog (callFunc 48 args) w=.ok (.enter 48 args) w:=Sw.run_call Yq.func48 rfl rfl args w
@[simp] theorem Yq.call59 (args:Array Value) (w:World):Sem.run Yq.prog (callFunc 59 args) w=.ok (.enter 59 args) w:=Sw.run_call Yq.func59 rfl rfl args w
@[simp] theorem Yq.call60 (args:Array Value) (w:World):Sem.run Yq.prog (callFunc 60 args) w=.ok (.enter 60 args) w:=Sw.run_call Yq.func60 rfl rfl args w
@[simp] theorem Yq.call61 (args:Array Value) (w:World):Sem.run Yq.prog (callFunc 61 args) w=.ok (.enter 61 args) w:=Sw.run_call Yq.func61 rfl rfl args w
@[simp] theorem Yq.call62 (args:Array Value) (w:World):Sem.run Yq.prog (callFunc 62 args) w=.ok (.enter 62 args) w:=Sw.run_call Yq.func62 rfl rfl args w
@[simp] theorem Yq.call63 (args:Array Value) (w:World):Sem.run Yq.prog (callFunc 63 args) w=.ok (.enter 63 args) w:=Sw.run_call Yq.func63 rfl rfl args w
@[simp] theorem Yq.call64 (args:Array Value) (w:World):Sem.run Yq.prog (callFunc 64 args) w=.ok (.enter 64 args) w:=Sw.run_call Yq.func64 rfl rfl args w
@[simp] theorem Yq.call65 (args:Array Value) (w:World):Sem.run Yq.prog (callFunc 65 args) w=.ok (.enter 65 args) w:=Sw.run_call Yq.func65 rfl rfl args w
@[simp] theorem Yq.call66 (args:Array Value) (w:World):Sem.run Yq.prog (callFunc 66 args) w=.ok (.enter 66 args) w:=Sw.run_call Yq.func66 rfl rfl args w
@[simp] theorem Yq.call67 (args:Array Value) (w:World):Sem.run Yq.prog (callFunc 67 args) w=.ok (.enter 67 args) w:=Sw.run_call Yq.func67 rfl rfl args w
@[simp] theorem Yq.call68 (args:Array Value) (w:World):Sem.run Yq.prog (callFunc 68 args) w=.ok (.enter 68 args) w:=Sw.run_call Yq.func68 rfl rfl args w
@[simp] theorem Yq.call69 (args:Array Value) (w:World):Sem.run Yq.prog (callFunc 69 args) w=.ok (.enter 69 args) w:=Sw.run_call Yq.func69 rfl rfl args w
@[simp] theorem Yq.call70 (args:Array Value) (w:World):Sem.run Yq.prog (callFunc 70 args) w=.ok (.enter 70 args) w:=Sw.run_call Yq.func70 rfl rfl args w
@[simp] theorem Yq.call71 (args:Array Value) (w:World):Sem.run Yq.prog (callFunc 71 args) w=.ok (.enter 71 args) w:=Sw.run_call Yq.func71 rfl rfl args w
@[simp] theorem Yq.call72 (args:Array Value) (w:World):Sem.run Yq.prog (callFunc 72 args) w=.ok (.enter 72 args) w:=Sw.run_call Yq.func72 rfl rfl args w
@[simp] theorem Yq.call73 (args:Array Value) (w:World):Sem.run Yq.prog (callFunc 73 args) w=.ok (.enter 73 args) w:=Sw.run_call Yq.func73 rfl rfl args w
@[simp] theorem Yq.call74 (args:Array Value) (w:World):Sem.run Yq.prog (callFunc 74 args) w=.ok (.enter 74 args) w:=Sw.run_call Yq.func74 rfl rfl args w
@[simp] theorem Yq.call75 (args:Array Value) (w:World):Sem.run Yq.prog (callFunc 75 args) w=.ok (.enter 75 args) w:=Sw.run_call Yq.func75 rfl rfl args w
@[simp] theorem Yq.call76 (args:Array Value) (w:World):Sem.run Yq.prog (callFunc 76 args) w=.ok (.enter 76 args) w:=Sw.run_call Yq.func76 rfl rfl args w
@[simp] theorem Yq.call77 (args:Array Value) (w:World):Sem.run Yq.prog (callFunc 77 args) w=.ok (.enter 77 args) w:=Sw.run_call Yq.func77 rfl rfl args w
@[simp] theorem Yq.call78 (args:Array Value) (w:World):Sem.run Yq.prog (callFunc 78 args) w=.ok (.enter 78 args) w:=Sw.run_call Yq.func78 rfl rfl args w
@[simp] theorem Yq.call89 (args:Array Value) (w:World):Sem.run Yq.prog (callFunc 89 args) w=.ok (.enter 89 args) w:=Sw.run_call Yq.func89 rfl rfl args w
@[simp] theorem Yq.call90 (args:Array Value) (w:World):Sem.run Yq.prog (callFunc 90 args) w=.ok (.enter 90 args) w:=Sw.run_call Yq.func90 rfl rfl args w
@[simp] theorem Yq.call91 (args:Array Value) (w:World):Sem.run Yq.prog (callFunc 91 args) w=.ok (.enter 91 args) w:=Sw.run_call Yq.func91 rfl rfl args w
@[simp] theorem Yq.call92 (args:Array Value) (w:World):Sem.run Yq.prog (callFunc 92 args) w=.ok (.enter 92 args) w:=Sw.run_call Yq.func92 rfl rfl args w
@[simp] theorem Yq.call93 (args:Array Value) (w:World):Sem.run Yq.prog (callFunc 93 args) w=.ok (.enter 93 args) w:=Sw.run_call Yq.func93 rfl rfl args w
@[simp] theorem Yq.call94 (args:Array Value) (w:World):Sem.run Yq.prog (callFunc 94 args) w=.ok (.enter 94 args) w:=Sw.run_call Yq.func94 rfl rfl args w
@[simp] theorem Yq.call95 (args:Array Value) (w:World):Sem.run Yq.prog (callFunc 95 args) w=.ok (.enter 95 args) w:=Sw.run_call Yq.func95 rfl rfl args w
@[simp] theorem Yq.call96 (args:Array Value) (w:World):Sem.run Yq.prog (callFunc 96 args) w=.ok (.enter 96 args) w:=Sw.run_call Yq.func96 rfl rfl args w
@[simp] theorem Yq.call98 (args:Array Value) (w:World):Sem.run Yq.prog (callFunc 98 args) w=.ok (.enter 98 args) w:=Sw.run_call Yq.func98 rfl rfl args w
@[simp] theorem Yq.call99 (args:Array Value) (w:World):Sem.run Yq.prog (callFunc 99 args) w=.ok (.enter 99 args) w:=Sw.run_call Yq.func99 rfl rfl args w
@[simp] theorem Yq.call100 (args:Array Value) (w:World):Sem.run Yq.prog (callFunc 100 args) w=.ok (.enter 100 args) w:=Sw.run_call Yq.func100 rfl rfl args w
@[simp] theorem Yq.call101 (args:Array Value) (w:World):Sem.run Yq.prog (callFunc 101 args) w=.ok (.enter 101 args) w:=Sw.run_call Yq.func101 rfl rfl args w
@[simp] theorem Yq.call102 (args:Array Value) (w:World):Sem.run Yq.prog (callFunc 102 args) w=.ok (.enter 102 args) w:=Sw.run_call Yq.func102 rfl rfl args w
@[simp] theorem Yq.call103 (args:Array Value) (w:World):Sem.run Yq.prog (callFunc 103 args) w=.ok (.enter 103 args) w:=Sw.run_call Yq.func103 rfl rfl args w
@[simp] theorem Yq.call104 (args:Array Value) (w:World):Sem.run Yq.prog (callFunc 104 args) w=.ok (.enter 104 args) w:=Sw.run_call Yq.func104 rfl rfl args w
@[simp] theorem Yq.call105 (args:Array Value) (w:World):Sem.run Yq.prog (callFunc 105 args) w=.ok (.enter 105 args) w:=Sw.run_call Yq.func105 rfl rfl args w
@[simp] theorem Yq.call111 (args:Array Value) (w:World):Sem.run Yq.prog (callFunc 111 args) w=.ok (.enter 111 args) w:=Sw.run_call Yq.func111 rfl rfl args w
@[simp] theorem Yq.call112 (args:Array Value) (w:World):Sem.run Yq.prog (callFunc 112 args) w=.ok (.enter 112 args) w:=Sw.run_call Yq.func112 rfl rfl args w
@[simp] theorem Yq.call113 (args:Array Value) (w:World):Sem.run Yq.prog (callFunc 113 args) w=.ok (.enter 113 args) w:=Sw.run_call Yq.func113 rfl rfl args w
@[simp] theorem Yq.call114 (args:Array Value) (w:World):Sem.run Yq.prog (callFunc 114 args) w=.ok (.enter 114 args) w:=Sw.run_call Yq.func114 rfl rfl args w
@[simp] theorem Yq.call115 (args:Array Value) (w:World):Sem.run Yq.prog (callFunc 115 args) w=.ok (.enter 115 args) w:=Sw.run_call Yq.func115 rfl rfl args w
@[simp] theorem Yq.call116 (args:Array Value) (w:World):Sem.run Yq.prog (callFunc 116 args) w=.ok (.enter 116 args) w:=Sw.run_call Yq.func116 rfl rfl args w
@[simp] theorem Yq.call117 (args:Array Value) (w:World):Sem.run Yq.prog (callFunc 117 args) w=.ok (.enter 117 args) w:=Sw.run_call Yq.func117 rfl rfl args w
@[simp] theorem Yq.call118 (args:Array Value) (w:World):Sem.run Yq.prog (callFunc 118 args) w=.ok (.enter 118 args) w:=Sw.run_call Yq.func118 rfl rfl args w
@[simp] theorem Yq.call119 (args:Array Value) (w:World):Sem.run Yq.prog (callFunc 119 args) w=.ok (.enter 119 args) w:=Sw.run_call Yq.func119 rfl rfl args w
@[simp] theorem Yq.call121 (args:Array Value) (w:World):Sem.run Yq.prog (callFunc 121 args) w=.ok (.enter 121 args) w:=Sw.run_call Yq.func121 rfl rfl args w
@[simp] theorem Yq.call122 (args:Array Value) (w:World):Sem.run Yq.prog (callFunc 122 args) w=.ok (.enter 122 args) w:=Sw.run_call Yq.func122 rfl rfl args w
@[simp] theorem Yq.call123 (args:Array Value) (w:World):Sem.run Yq.prog (callFunc 123 args) w=.ok (.enter 123 args) w:=Sw.run_call Yq.func123 rfl rfl args w
@[simp] theorem Yq.call126 (args:Array Value) (w:World):Sem.run Yq.prog (callFunc 126 args) w=.ok (.enter 126 args) w:=Sw.run_call Yq.func126 rfl rfl args w
@[simp] theorem Yq.call132 (args:Array Value) (w:World):Sem.run Yq.prog (callFunc 132 args) w=.ok (.enter 132 args) w:=Sw.run_call Yq.func132 rfl rfl args w
@[simp] theorem Yq.call133 (args:Array Value) (w:World):Sem.run Yq.prog (callFunc 133 args) w=.ok (.enter 133 args) w:=Sw.run_call Yq.func133 rfl rfl args w
@[simp] theorem Yq.call134 (args:Array Value) (w:World):Sem.run Yq.prog (callFunc 134 args) w=.ok (.enter 134 args) w:=Sw.run_call Yq.func134 rfl rfl args w
@[simp] theorem Yq.call135 (args:Array Value) (w:World):Sem.run Yq.prog (callFunc 135 args) w=.ok (.enter 135 args) w:=Sw.run_call Yq.func135 rfl rfl args w
@[simp] theorem Yq.call138 (args:Array Value) (w:World):Sem.run Yq.prog (callFunc 138 args) w=.ok (.enter 138 args) w:=Sw.run_call Yq.func138 rfl rfl args w
@[simp] theorem Yq.call139 (args:Array Value) (w:World):Sem.run Yq.prog (callFunc 139 args) w=.ok (.enter 139 args) w:=Sw.run_call Yq.func139 rfl rfl args w
@[simp] theorem Yq.call140 (args:Array Value) (w:World):Sem.run Yq.prog (callFunc 140 args) w=.ok (.enter 140 args) w:=Sw.run_call Yq.func140 rfl rfl args w
@[simp] theorem Yq.call153 (args:Array Value) (w:World):Sem.run Yq.prog (callFunc 153 args) w=.ok (.enter 153 args) w:=Sw.run_call Yq.func153 rfl rfl args w
@[simp] theorem Yq.call155 (args:Array Value) (w:World):Sem.run Yq.prog (callFunc 155 args) w=.ok (.enter 155 args) w:=Sw.run_call Yq.func155 rfl rfl args w
@[simp] theorem Yq.call156 (args:Array Value) (w:World):Sem.run Yq.prog (callFunc 156 args) w=.ok (.enter 156 args) w:=Sw.run_call Yq.func156 rfl rfl args w
@[simp] theorem Yq.call157 (args:Array Value) (w:World):Sem.run Yq.prog (callFunc 157 args) w=.ok (.enter 157 args) w:=Sw.run_call Yq.func157 rfl rfl args w
@[simp] theorem Yq.call166 (args:Array Value) (w:World):Sem.run Yq.prog (callFunc 166 args) w=.ok (.enter 166 args) w:=Sw.run_call Yq.func166 rfl rfl args w
theorem Yq.tables:Yq.prog.toTables=Tryz.prog.toTables:=Sw.tables
theorem Yq.und_eq (t:TypeId):Yq.prog.underlying t=Tryz.prog.underlying t:=Sw.und t
theorem Yq.u {t:TypeId}{d:Option TypeDesc}(h:Tryz.prog.underlying t=d):Yq.prog.underlying t=d:=(Yq.und_eq t).trans h
theorem Yq.g {t:TypeId}{d:Bool}(h:Tryz.prog.eqGuardType Tryz.prog.depth t=d):Yq.prog.eqGuardType Yq.prog.depth t=d:=by
 have e:Yq.prog.depth=Tryz.prog.depth:=Sw.depth;have e2:Yq.prog.eqGuardType Tryz.prog.depth t=Tryz.prog.eqGuardType Tryz.prog.depth t:=Sw.guard _ t;rw [e,e2];exact h
theorem Yq.i {t:TypeId}{w:World}{r:Result TypeInfo}(h:Sem.run Tryz.prog (typeInfo t) w=r):Sem.run Yq.prog (typeInfo t) w=r:=(Sw.run_typeInfo t w).trans h
theorem Yq.s {t:TypeId}{w:World}{r:Result Nat}(h:Sem.run Tryz.prog (sizeOf t) w=r):Sem.run Yq.prog (sizeOf t) w=r:=(Sw.run_sizeOf t w).trans h
theorem Yq.r {t:TypeId}{w:World}{r:Result TypeDesc}(h:Sem.run Tryz.prog (underlying t) w=r):Sem.run Yq.prog (underlying t) w=r:=(Sw.run_underlying t w).trans h
theorem Yq.a {t:TypeId}{w:World}{r:Result Bool}(h:Sem.run Tryz.prog (isAgg t) w=r):Sem.run Yq.prog (isAgg t) w=r:=(Sw.run_isAgg t w).trans h
theorem Yq.z {t:TypeId}{w:World}{r:Result Value}(h:Sem.run Tryz.prog (zeroValue t) w=r):Sem.run Yq.prog (zeroValue t) w=r:=(Sw.run_zeroValue t w).trans h
@[simp] theorem Yq.rt_eq:Yq.prog.rt=Tryz.prog.rt:=by rw [Yq.tables]
@[simp] theorem Yq.globals_size:Yq.prog.globals.size=Tryz.prog.globals.size:=by rw [Yq.tables]
end
@[simp] theorem Yq.underlying0:type_of% (Yq.u Tryz.underlying0):=Yq.u Tryz.underlying0
@[simp] theorem Yq.sizeOf0 (w:World):type_of% (Yq.s (Tryz.sizeOf0 w)):=Yq.s (Tryz.sizeOf0 w)
@[simp] theorem Yq.isAgg0 (w:World):type_of% (Yq.a (Tryz.isAgg0 w)):=Yq.a (Tryz.isAgg0 w)
@[simp] theorem Yq.zeroValue0 (w:World):type_of% (Yq.z (Tryz.zeroValue0 w)):=Yq.z (Tryz.zeroValue0 w)
@[simp] theorem Yq.underlying2:type_of% (Yq.u Tryz.underlying2):=Yq.u Tryz.underlying2
@[simp] theorem Yq.sizeOf2 (w:World):type_of% (Yq.s (Tryz.sizeOf2 w)):=Yq.s (Tryz.sizeOf2 w)
@[simp] theorem Yq.isAgg2 (w:World):type_of% (Yq.a (Tryz.isAgg2 w)):=Yq.a (Tryz.isAgg2 w)
@[simp] theorem Yq.zeroValue2 (w:World):type_of% (Yq.z (Tryz.zeroValue2 w)):=Yq.z (Tryz.zeroValue2 w)
@[simp] theorem Yq.underlying3:type_of% (Yq.u Tryz.underlying3):=Yq.u Tryz.underlying3
@[simp] theorem Yq.sizeOf3 (w:World):type_of% (Yq.s (Tryz.sizeOf3 w)):=Yq.s (Tryz.sizeOf3 w)
@[simp] theorem Yq.isAgg3 (w:World):type_of% (Yq.a (Tryz.isAgg3 w)):=Yq.a (Tryz.isAgg3 w)
@[simp] theorem Yq.zeroValue3 (w:World):type_of% (Yq.z (Tryz.zeroValue3 w)):=Yq.z (Tryz.zeroValue3 w)
@[simp] theorem Yq.underlying4:type_of% (Yq.u Tryz.underlying4):=Yq.u Tryz.underlying4
@[simp] theorem Yq.sizeOf4 (w:World):type_of% (Yq.s (Tryz.sizeOf4 w)):=Yq.s (Tryz.sizeOf4 w)
@[simp] theorem Yq.isAgg4 (w:World):type_of% (Yq.a (Tryz.isAgg4 w)):=Yq.a (Tryz.isAgg4 w)
@[simp] theorem Yq.zeroValue4 (w:World):type_of% (Yq.z (Tryz.zeroValue4 w)):=Yq.z (Tryz.zeroValue4 w)
@[simp] theorem Yq.underlying5:type_of% (Yq.u Tryz.underlying5):=Yq.u Tryz.underlying5
@[simp] theorem Yq.sizeOf5 (w:World):type_of% (Yq.s (Tryz.sizeOf5 w)):=Yq.s (Tryz.sizeOf5 w)
@[simp] theorem Yq.isAgg5 (w:World):type_of% (Yq.a (Tryz.isAgg5 w)):=Yq.a (Tryz.isAgg5 w)
@[simp] theorem Yq.zeroValue5 (w:World):type_of% (Yq.z (Tryz.zeroValue5 w)):=Yq.z (Tryz.zeroValue5 w)
@[simp] theorem Yq.underlying9:type_of% (Yq.u Tryz.underlying9):=Yq.u Tryz.underlying9
@[simp] theorem Yq.sizeOf9 (w:World):type_of% (Yq.s (Tryz.sizeOf9 w)):=Yq.s (Tryz.sizeOf9 w)
@[simp] theorem Yq.runUnderlying9 (w:World):type_of% (Yq.r (Tryz.runUnderlying9 w)):=Yq.r (Tryz.runUnderlying9 w)
@[simp] theorem Yq.isAgg9 (w:World):type_of% (Yq.a (Tryz.isAgg9 w)):=Yq.a (Tryz.isAgg9 w)
@[simp] theorem Yq.zeroValue9 (w:World):type_of% (Yq.z (Tryz.zeroValue9 w)):=Yq.z (Tryz.zeroValue9 w)
@[simp] theorem Yq.underlying20:type_of% (Yq.u Tryz.underlying20):=Yq.u Tryz.underlying20
@[simp] theorem Yq.sizeOf20 (w:World):type_of% (Yq.s (Tryz.sizeOf20 w)):=Yq.s (Tryz.sizeOf20 w)
@[simp] theorem Yq.isAgg20 (w:World):type_of% (Yq.a (Tryz.isAgg20 w)):=Yq.a (Tryz.isAgg20 w)
@[simp] theorem Yq.zeroValue20 (w:World):type_of% (Yq.z (Tryz.zeroValue20 w)):=Yq.z (Tryz.zeroValue20 w)
@[simp] theorem Yq.underlying22:type_of% (Yq.u Tryz.underlying22):=Yq.u Tryz.underlying22
@[simp] theorem Yq.sizeOf22 (w:World):type_of% (Yq.s (Tryz.sizeOf22 w)):=Yq.s (Tryz.sizeOf22 w)
@[simp] theorem Yq.runUnderlying22 (w:World):type_of% (Yq.r (Tryz.runUnderlying22 w)):=Yq.r (Tryz.runUnderlying22 w)
@[simp] theorem Yq.underlying27:type_of% (Yq.u Tryz.underlying27):=Yq.u Tryz.underlying27
@[simp] theorem Yq.sizeOf27 (w:World):type_of% (Yq.s (Tryz.sizeOf27 w)):=Yq.s (Tryz.sizeOf27 w)
@[simp] theorem Yq.runUnderlying27 (w:World):type_of% (Yq.r (Tryz.runUnderlying27 w)):=Yq.r (Tryz.runUnderlying27 w)
@[simp] theorem Yq.isAgg27 (w:World):type_of% (Yq.a (Tryz.isAgg27 w)):=Yq.a (Tryz.isAgg27 w)
@[simp] theorem Yq.typeInfo31 (w:World):type_of% (Yq.i (Tryz.typeInfo31 w)):=Yq.i (Tryz.typeInfo31 w)
@[simp] theorem Yq.sizeOf31 (w:World):type_of% (Yq.s (Tryz.sizeOf31 w)):=Yq.s (Tryz.sizeOf31 w)
@[simp] theorem Yq.runUnderlying31 (w:World):type_of% (Yq.r (Tryz.runUnderlying31 w)):=Yq.r (Tryz.runUnderlying31 w)
@[simp] theorem Yq.isAgg31 (w:World):type_of% (Yq.a (Tryz.isAgg31 w)):=Yq.a (Tryz.isAgg31 w)
@[simp] theorem Yq.zeroValue31 (w:World):type_of% (Yq.z (Tryz.zeroValue31 w)):=Yq.z (Tryz.zeroValue31 w)
@[simp] theorem Yq.sizeOf33 (w:World):type_of% (Yq.s (Tryz.sizeOf33 w)):=Yq.s (Tryz.sizeOf33 w)
@[simp] theorem Yq.isAgg33 (w:World):type_of% (Yq.a (Tryz.isAgg33 w)):=Yq.a (Tryz.isAgg33 w)
@[simp] theorem Yq.underlying34:type_of% (Yq.u Tryz.underlying34):=Yq.u Tryz.underlying34
@[simp] theorem Yq.sizeOf34 (w:World):type_of% (Yq.s (Tryz.sizeOf34 w)):=Yq.s (Tryz.sizeOf34 w)
@[simp] theorem Yq.runUnderlying34 (w:World):type_of% (Yq.r (Tryz.runUnderlying34 w)):=Yq.r (Tryz.runUnderlying34 w)
@[simp] theorem Yq.isAgg34 (w:World):type_of% (Yq.a (Tryz.isAgg34 w)):=Yq.a (Tryz.isAgg34 w)
@[simp] theorem Yq.sizeOf36 (w:World):type_of% (Yq.s (Tryz.sizeOf36 w)):=Yq.s (Tryz.sizeOf36 w)
@[simp] theorem Yq.runUnderlying36 (w:World):type_of% (Yq.r (Tryz.runUnderlying36 w)):=Yq.r (Tryz.runUnderlying36 w)
@[simp] theorem Yq.isAgg36 (w:World):type_of% (Yq.a (Tryz.isAgg36 w)):=Yq.a (Tryz.isAgg36 w)
@[simp] theorem Yq.zeroValue36 (w:World):type_of% (Yq.z (Tryz.zeroValue36 w)):=Yq.z (Tryz.zeroValue36 w)
@[simp] theorem Yq.underlying41:type_of% (Yq.u Tryz.underlying41):=Yq.u Tryz.underlying41
@[simp] theorem Yq.sizeOf41 (w:World):type_of% (Yq.s (Tryz.sizeOf41 w)):=Yq.s (Tryz.sizeOf41 w)
@[simp] theorem Yq.runUnderlying41 (w:World):type_of% (Yq.r (Tryz.runUnderlying41 w)):=Yq.r (Tryz.runUnderlying41 w)
@[simp] theorem Yq.isAgg41 (w:World):type_of% (Yq.a (Tryz.isAgg41 w)):=Yq.a (Tryz.isAgg41 w)
@[simp] theorem Yq.zeroValue41 (w:World):type_of% (Yq.z (Tryz.zeroValue41 w)):=Yq.z (Tryz.zeroValue41 w)
@[simp] theorem Yq.eqGuardType41:type_of% (Yq.g Tryz.eqGuardType41):=Yq.g Tryz.eqGuardType41
@[simp] theorem Yq.underlying48:type_of% (Yq.u Tryz.underlying48):=Yq.u Tryz.underlying48
@[simp] theorem Yq.sizeOf48 (w:World):type_of% (Yq.s (Tryz.sizeOf48 w)):=Yq.s (Tryz.sizeOf48 w)
@[simp] theorem Yq.runUnderlying48 (w:World):type_of% (Yq.r (Tryz.runUnderlying48 w)):=Yq.r (Tryz.runUnderlying48 w)
@[simp] theorem Yq.isAgg48 (w:World):type_of% (Yq.a (Tryz.isAgg48 w)):=Yq.a (Tryz.isAgg48 w)
@[simp] theorem Yq.zeroValue48 (w:World):type_of% (Yq.z (Tryz.zeroValue48 w)):=Yq.z (Tryz.zeroValue48 w)
@[simp] theorem Yq.underlying54:type_of% (Yq.u Tryz.underlying54):=Yq.u Tryz.underlying54
@[simp] theorem Yq.sizeOf54 (w:World):type_of% (Yq.s (Tryz.sizeOf54 w)):=Yq.s (Tryz.sizeOf54 w)
@[simp] theorem Yq.isAgg54 (w:World):type_of% (Yq.a (Tryz.isAgg54 w)):=Yq.a (Tryz.isAgg54 w)
@[simp] theorem Yq.sizeOf56 (w:World):type_of% (Yq.s (Tryz.sizeOf56 w)):=Yq.s (Tryz.sizeOf56 w)
@[simp] theorem Yq.runUnderlying56 (w:World):type_of% (Yq.r (Tryz.runUnderlying56 w)):=Yq.r (Tryz.runUnderlying56 w)
@[simp] theorem Yq.isAgg56 (w:World):type_of% (Yq.a (Tryz.isAgg56 w)):=Yq.a (Tryz.isAgg56 w)
@[simp] theorem Yq.zeroValue56 (w:World):type_of% (Yq.z (Tryz.zeroValue56 w)):=Yq.z (Tryz.zeroValue56 w)
@[simp] theorem Yq.underlying57:type_of% (Yq.u Tryz.underlying57):=Yq.u Tryz.underlying57
@[simp] theorem Yq.sizeOf57 (w:World):type_of% (Yq.s (Tryz.sizeOf57 w)):=Yq.s (Tryz.sizeOf57 w)
@[simp] theorem Yq.isAgg57 (w:World):type_of% (Yq.a (Tryz.isAgg57 w)):=Yq.a (Tryz.isAgg57 w)
@[simp] theorem Yq.zeroValue57 (w:World):type_of% (Yq.z (Tryz.zeroValue57 w)):=Yq.z (Tryz.zeroValue57 w)
@[simp] theorem Yq.sizeOf59 (w:World):type_of% (Yq.s (Tryz.sizeOf59 w)):=Yq.s (Tryz.sizeOf59 w)
@[simp] theorem Yq.runUnderlying59 (w:World):type_of% (Yq.r (Tryz.runUnderlying59 w)):=Yq.r (Tryz.runUnderlying59 w)
@[simp] theorem Yq.underlying60:type_of% (Yq.u Tryz.underlying60):=Yq.u Tryz.underlying60
@[simp] theorem Yq.sizeOf60 (w:World):type_of% (Yq.s (Tryz.sizeOf60 w)):=Yq.s (Tryz.sizeOf60 w)
@[simp] theorem Yq.runUnderlying60 (w:World):type_of% (Yq.r (Tryz.runUnderlying60 w)):=Yq.r (Tryz.runUnderlying60 w)
@[simp] theorem Yq.isAgg60 (w:World):type_of% (Yq.a (Tryz.isAgg60 w)):=Yq.a (Tryz.isAgg60 w)
@[simp] theorem Yq.sizeOf61 (w:World):type_of% (Yq.s (Tryz.sizeOf61 w)):=Yq.s (Tryz.sizeOf61 w)
@[simp] theorem Yq.runUnderlying61 (w:World):type_of% (Yq.r (Tryz.runUnderlying61 w)):=Yq.r (Tryz.runUnderlying61 w)
@[simp] theorem Yq.isAgg61 (w:World):type_of% (Yq.a (Tryz.isAgg61 w)):=Yq.a (Tryz.isAgg61 w)
@[simp] theorem Yq.sizeOf63 (w:World):type_of% (Yq.s (Tryz.sizeOf63 w)):=Yq.s (Tryz.sizeOf63 w)
@[simp] theorem Yq.runUnderlying63 (w:World):type_of% (Yq.r (Tryz.runUnderlying63 w)):=Yq.r (Tryz.runUnderlying63 w)
@[simp] theorem Yq.sizeOf65 (w:World):type_of% (Yq.s (Tryz.sizeOf65 w)):=Yq.s (Tryz.sizeOf65 w)
@[simp] theorem Yq.runUnderlying65 (w:World):type_of% (Yq.r (Tryz.runUnderlying65 w)):=Yq.r (Tryz.runUnderlying65 w)
@[simp] theorem Yq.zeroValue65 (w:World):type_of% (Yq.z (Tryz.zeroValue65 w)):=Yq.z (Tryz.zeroValue65 w)
@[simp] theorem Yq.sizeOf81 (w:World):type_of% (Yq.s (Tryz.sizeOf81 w)):=Yq.s (Tryz.sizeOf81 w)
@[simp] theorem Yq.runUnderlying81 (w:World):type_of% (Yq.r (Tryz.runUnderlying81 w)):=Yq.r (Tryz.runUnderlying81 w)
@[simp] theorem Yq.isAgg81 (w:World):type_of% (Yq.a (Tryz.isAgg81 w)):=Yq.a (Tryz.isAgg81 w)
@[simp] theorem Yq.zeroValue81 (w:World):type_of% (Yq.z (Tryz.zeroValue81 w)):=Yq.z (Tryz.zeroValue81 w)
@[simp] theorem Yq.sizeOf88 (w:World):type_of% (Yq.s (Tryz.sizeOf88 w)):=Yq.s (Tryz.sizeOf88 w)
@[simp] theorem Yq.runUnderlying88 (w:World):type_of% (Yq.r (Tryz.runUnderlying88 w)):=Yq.r (Tryz.runUnderlying88 w)
@[simp] theorem Yq.isAgg88 (w:World):type_of% (Yq.a (Tryz.isAgg88 w)):=Yq.a (Tryz.isAgg88 w)
@[simp] theorem Yq.zeroValue88 (w:World):type_of% (Yq.z (Tryz.zeroValue88 w)):=Yq.z (Tryz.zeroValue88 w)
@[simp] theorem Yq.sizeOf93 (w:World):type_of% (Yq.s (Tryz.sizeOf93 w)):=Yq.s (Tryz.sizeOf93 w)
@[simp] theorem Yq.runUnderlying93 (w:World):type_of% (Yq.r (Tryz.runUnderlying93 w)):=Yq.r (Tryz.runUnderlying93 w)
@[simp] theorem Yq.isAgg93 (w:World):type_of% (Yq.a (Tryz.isAgg93 w)):=Yq.a (Tryz.isAgg93 w)
@[simp] theorem Yq.zeroValue93 (w:World):type_of% (Yq.z (Tryz.zeroValue93 w)):=Yq.z (Tryz.zeroValue93 w)
@[simp] theorem Yq.underlying114:type_of% (Yq.u Tryz.underlying114):=Yq.u Tryz.underlying114
@[simp] theorem Yq.sizeOf114 (w:World):type_of% (Yq.s (Tryz.sizeOf114 w)):=Yq.s (Tryz.sizeOf114 w)
@[simp] theorem Yq.runUnderlying114 (w:World):type_of% (Yq.r (Tryz.runUnderlying114 w)):=Yq.r (Tryz.runUnderlying114 w)
@[simp] theorem Yq.isAgg114 (w:World):type_of% (Yq.a (Tryz.isAgg114 w)):=Yq.a (Tryz.isAgg114 w)
@[simp] theorem Yq.sizeOf125 (w:World):type_of% (Yq.s (Tryz.sizeOf125 w)):=Yq.s (Tryz.sizeOf125 w)
@[simp] theorem Yq.runUnderlying125 (w:World):type_of% (Yq.r (Tryz.runUnderlying125 w)):=Yq.r (Tryz.runUnderlying125 w)
@[simp] theorem Yq.isAgg125 (w:World):type_of% (Yq.a (Tryz.isAgg125 w)):=Yq.a (Tryz.isAgg125 w)
@[simp] theorem Yq.zeroValue125 (w:World):type_of% (Yq.z (Tryz.zeroValue125 w)):=Yq.z (Tryz.zeroValue125 w)
@[simp] theorem Yq.sizeOf129 (w:World):type_of% (Yq.s (Tryz.sizeOf129 w)):=Yq.s (Tryz.sizeOf129 w)
@[simp] theorem Yq.runUnderlying129 (w:World):type_of% (Yq.r (Tryz.runUnderlying129 w)):=Yq.r (Tryz.runUnderlying129 w)
@[simp] theorem Yq.isAgg129 (w:World):type_of% (Yq.a (Tryz.isAgg129 w)):=Yq.a (Tryz.isAgg129 w)
@[simp] theorem Yq.zeroValue129 (w:World):type_of% (Yq.z (Tryz.zeroValue129 w)):=Yq.z (Tryz.zeroValue129 w)
@[simp] theorem Yq.underlying134:type_of% (Yq.u Tryz.underlying134):=Yq.u Tryz.underlying134
@[simp] theorem Yq.sizeOf134 (w:World):type_of% (Yq.s (Tryz.sizeOf134 w)):=Yq.s (Tryz.sizeOf134 w)
@[simp] theorem Yq.runUnderlying134 (w:World):type_of% (Yq.r (Tryz.runUnderlying134 w)):=Yq.r (Tryz.runUnderlying134 w)
@[simp] theorem Yq.isAgg134 (w:World):type_of% (Yq.a (Tryz.isAgg134 w)):=Yq.a (Tryz.isAgg134 w)
@[simp] theorem Yq.zeroValue134 (w:World):type_of% (Yq.z (Tryz.zeroValue134 w)):=Yq.z (Tryz.zeroValue134 w)
@[simp] theorem Yq.sizeOf137 (w:World):type_of% (Yq.s (Tryz.sizeOf137 w)):=Yq.s (Tryz.sizeOf137 w)
@[simp] theorem Yq.runUnderlying137 (w:World):type_of% (Yq.r (Tryz.runUnderlying137 w)):=Yq.r (Tryz.runUnderlying137 w)
@[simp] theorem Yq.isAgg137 (w:World):type_of% (Yq.a (Tryz.isAgg137 w)):=Yq.a (Tryz.isAgg137 w)
@[simp] theorem Yq.zeroValue137 (w:World):type_of% (Yq.z (Tryz.zeroValue137 w)):=Yq.z (Tryz.zeroValue137 w)
@[simp] theorem Yq.underlying157:type_of% (Yq.u Tryz.underlying157):=Yq.u Tryz.underlying157
@[simp] theorem Yq.sizeOf157 (w:World):type_of% (Yq.s (Tryz.sizeOf157 w)):=Yq.s (Tryz.sizeOf157 w)
@[simp] theorem Yq.runUnderlying157 (w:World):type_of% (Yq.r (Tryz.runUnderlying157 w)):=Yq.r (Tryz.runUnderlying157 w)
@[simp] theorem Yq.isAgg157 (w:World):type_of% (Yq.a (Tryz.isAgg157 w)):=Yq.a (Tryz.isAgg157 w)
@[simp] theorem Yq.runUnderlying159 (w:World):type_of% (Yq.r (Tryz.runUnderlying159 w)):=Yq.r (Tryz.runUnderlying159 w)
@[simp] theorem Yq.zeroValue159 (w:World):type_of% (Yq.z (Tryz.zeroValue159 w)):=Yq.z (Tryz.zeroValue159 w)
@[simp] theorem Yq.underlying160:type_of% (Yq.u Tryz.underlying160):=Yq.u Tryz.underlying160
@[simp] theorem Yq.sizeOf160 (w:World):type_of% (Yq.s (Tryz.sizeOf160 w)):=Yq.s (Tryz.sizeOf160 w)
@[simp] theorem Yq.isAgg160 (w:World):type_of% (Yq.a (Tryz.isAgg160 w)):=Yq.a (Tryz.isAgg160 w)
@[simp] theorem Yq.zeroValue160 (w:World):type_of% (Yq.z (Tryz.zeroValue160 w)):=Yq.z (Tryz.zeroValue160 w)
@[simp] theorem Yq.runUnderlying165 (w:World):type_of% (Yq.r (Tryz.runUnderlying165 w)):=Yq.r (Tryz.runUnderlying165 w)
@[simp] theorem Yq.underlying173:type_of% (Yq.u Tryz.underlying173):=Yq.u Tryz.underlying173
@[simp] theorem Yq.sizeOf173 (w:World):type_of% (Yq.s (Tryz.sizeOf173 w)):=Yq.s (Tryz.sizeOf173 w)
@[simp] theorem Yq.isAgg173 (w:World):type_of% (Yq.a (Tryz.isAgg173 w)):=Yq.a (Tryz.isAgg173 w)
@[simp] theorem Yq.zeroValue173 (w:World):type_of% (Yq.z (Tryz.zeroValue173 w)):=Yq.z (Tryz.zeroValue173 w)
@[simp] theorem Yq.underlying183:type_of% (Yq.u Tryz.underlying183):=Yq.u Tryz.underlying183
@[simp] theorem Yq.sizeOf190 (w:World):type_of% (Yq.s (Tryz.sizeOf190 w)):=Yq.s (Tryz.sizeOf190 w)
@[simp] theorem Yq.runUnderlying190 (w:World):type_of% (Yq.r (Tryz.runUnderlying190 w)):=Yq.r (Tryz.runUnderlying190 w)
@[simp] theorem Yq.isAgg190 (w:World):type_of% (Yq.a (Tryz.isAgg190 w)):=Yq.a (Tryz.isAgg190 w)
@[simp] theorem Yq.zeroValue190 (w:World):type_of% (Yq.z (Tryz.zeroValue190 w)):=Yq.z (Tryz.zeroValue190 w)
@[simp] theorem Yq.underlying193:type_of% (Yq.u Tryz.underlying193):=Yq.u Tryz.underlying193
@[simp] theorem Yq.sizeOf193 (w:World):type_of% (Yq.s (Tryz.sizeOf193 w)):=Yq.s (Tryz.sizeOf193 w)
@[simp] theorem Yq.isAgg193 (w:World):type_of% (Yq.a (Tryz.isAgg193 w)):=Yq.a (Tryz.isAgg193 w)
@[simp] theorem Yq.zeroValue193 (w:World):type_of% (Yq.z (Tryz.zeroValue193 w)):=Yq.z (Tryz.zeroValue193 w)
@[simp] theorem Yq.underlying199:type_of% (Yq.u Tryz.underlying199):=Yq.u Tryz.underlying199
@[simp] theorem Yq.sizeOf199 (w:World):type_of% (Yq.s (Tryz.sizeOf199 w)):=Yq.s (Tryz.sizeOf199 w)
@[simp] theorem Yq.isAgg199 (w:World):type_of% (Yq.a (Tryz.isAgg199 w)):=Yq.a (Tryz.isAgg199 w)
@[simp] theorem Yq.zeroValue199 (w:World):type_of% (Yq.z (Tryz.zeroValue199 w)):=Yq.z (Tryz.zeroValue199 w)
@[simp] theorem Yq.sizeOf210 (w:World):type_of% (Yq.s (Tryz.sizeOf210 w)):=Yq.s (Tryz.sizeOf210 w)
@[simp] theorem Yq.isAgg210 (w:World):type_of% (Yq.a (Tryz.isAgg210 w)):=Yq.a (Tryz.isAgg210 w)
@[simp] theorem Yq.underlying215:type_of% (Yq.u Tryz.underlying215):=Yq.u Tryz.underlying215
@[simp] theorem Yq.sizeOf215 (w:World):type_of% (Yq.s (Tryz.sizeOf215 w)):=Yq.s (Tryz.sizeOf215 w)
@[simp] theorem Yq.isAgg215 (w:World):type_of% (Yq.a (Tryz.isAgg215 w)):=Yq.a (Tryz.isAgg215 w)
@[simp] theorem Yq.zeroValue215 (w:World):type_of% (Yq.z (Tryz.zeroValue215 w)):=Yq.z (Tryz.zeroValue215 w)
@[simp] theorem Yq.underlying216:type_of% (Yq.u Tryz.underlying216):=Yq.u Tryz.underlying216
@[simp] theorem Yq.sizeOf216 (w:World):type_of% (Yq.s (Tryz.sizeOf216 w)):=Yq.s (Tryz.sizeOf216 w)
@[simp] theorem Yq.isAgg216 (w:World):type_of% (Yq.a (Tryz.isAgg216 w)):=Yq.a (Tryz.isAgg216 w)
@[simp] theorem Yq.zeroValue216 (w:World):type_of% (Yq.z (Tryz.zeroValue216 w)):=Yq.z (Tryz.zeroValue216 w)
@[simp] theorem Yq.underlying222:type_of% (Yq.u Tryz.underlying222):=Yq.u Tryz.underlying222
@[simp] theorem Yq.sizeOf222 (w:World):type_of% (Yq.s (Tryz.sizeOf222 w)):=Yq.s (Tryz.sizeOf222 w)
@[simp] theorem Yq.isAgg222 (w:World):type_of% (Yq.a (Tryz.isAgg222 w)):=Yq.a (Tryz.isAgg222 w)
@[simp] theorem Yq.zeroValue222 (w:World):type_of% (Yq.z (Tryz.zeroValue222 w)):=Yq.z (Tryz.zeroValue222 w)
@[simp] theorem Yq.underlying231:type_of% (Yq.u Tryz.underlying231):=Yq.u Tryz.underlying231
@[simp] theorem Yq.sizeOf231 (w:World):type_of% (Yq.s (Tryz.sizeOf231 w)):=Yq.s (Tryz.sizeOf231 w)
@[simp] theorem Yq.isAgg231 (w:World):type_of% (Yq.a (Tryz.isAgg231 w)):=Yq.a (Tryz.isAgg231 w)
@[simp] theorem Yq.zeroValue231 (w:World):type_of% (Yq.z (Tryz.zeroValue231 w)):=Yq.z (Tryz.zeroValue231 w)
@[simp] theorem Yq.underlying235:type_of% (Yq.u Tryz.underlying235):=Yq.u Tryz.underlying235
@[simp] theorem Yq.sizeOf235 (w:World):type_of% (Yq.s (Tryz.sizeOf235 w)):=Yq.s (Tryz.sizeOf235 w)
@[simp] theorem Yq.isAgg235 (w:World):type_of% (Yq.a (Tryz.isAgg235 w)):=Yq.a (Tryz.isAgg235 w)
@[simp] theorem Yq.zeroValue235 (w:World):type_of% (Yq.z (Tryz.zeroValue235 w)):=Yq.z (Tryz.zeroValue235 w)
@[simp] theorem Yq.underlying239:type_of% (Yq.u Tryz.underlying239):=Yq.u Tryz.underlying239
@[simp] theorem Yq.sizeOf239 (w:World):type_of% (Yq.s (Tryz.sizeOf239 w)):=Yq.s (Tryz.sizeOf239 w)
@[simp] theorem Yq.isAgg239 (w:World):type_of% (Yq.a (Tryz.isAgg239 w)):=Yq.a (Tryz.isAgg239 w)
@[simp] theorem Yq.zeroValue239 (w:World):type_of% (Yq.z (Tryz.zeroValue239 w)):=Yq.z (Tryz.zeroValue239 w)
@[simp] theorem Yq.underlying241:type_of% (Yq.u Tryz.underlying241):=Yq.u Tryz.underlying241
@[simp] theorem Yq.sizeOf241 (w:World):type_of% (Yq.s (Tryz.sizeOf241 w)):=Yq.s (Tryz.sizeOf241 w)
@[simp] theorem Yq.isAgg241 (w:World):type_of% (Yq.a (Tryz.isAgg241 w)):=Yq.a (Tryz.isAgg241 w)
@[simp] theorem Yq.zeroValue241 (w:World):type_of% (Yq.z (Tryz.zeroValue241 w)):=Yq.z (Tryz.zeroValue241 w)
@[simp] theorem Yq.underlying243:type_of% (Yq.u Tryz.underlying243):=Yq.u Tryz.underlying243
@[simp] theorem Yq.sizeOf243 (w:World):type_of% (Yq.s (Tryz.sizeOf243 w)):=Yq.s (Tryz.sizeOf243 w)
@[simp] theorem Yq.isAgg243 (w:World):type_of% (Yq.a (Tryz.isAgg243 w)):=Yq.a (Tryz.isAgg243 w)
@[simp] theorem Yq.zeroValue243 (w:World):type_of% (Yq.z (Tryz.zeroValue243 w)):=Yq.z (Tryz.zeroValue243 w)
@[simp] theorem Yq.underlying244:type_of% (Yq.u Tryz.underlying244):=Yq.u Tryz.underlying244
@[simp] theorem Yq.sizeOf244 (w:World):type_of% (Yq.s (Tryz.sizeOf244 w)):=Yq.s (Tryz.sizeOf244 w)
@[simp] theorem Yq.isAgg244 (w:World):type_of% (Yq.a (Tryz.isAgg244 w)):=Yq.a (Tryz.isAgg244 w)
@[simp] theorem Yq.zeroValue244 (w:World):type_of% (Yq.z (Tryz.zeroValue244 w)):=Yq.z (Tryz.zeroValue244 w)
@[simp] theorem Yq.underlying249:type_of% (Yq.u Tryz.underlying249):=Yq.u Tryz.underlying249
@[simp] theorem Yq.sizeOf249 (w:World):type_of% (Yq.s (Tryz.sizeOf249 w)):=Yq.s (Tryz.sizeOf249 w)
@[simp] theorem Yq.isAgg249 (w:World):type_of% (Yq.a (Tryz.isAgg249 w)):=Yq.a (Tryz.isAgg249 w)
@[simp] theorem Yq.zeroValue249 (w:World):type_of% (Yq.z (Tryz.zeroValue249 w)):=Yq.z (Tryz.zeroValue249 w)
@[simp] theorem Yq.underlying250:type_of% (Yq.u Tryz.underlying250):=Yq.u Tryz.underlying250
@[simp] theorem Yq.sizeOf250 (w:World):type_of% (Yq.s (Tryz.sizeOf250 w)):=Yq.s (Tryz.sizeOf250 w)
@[simp] theorem Yq.isAgg250 (w:World):type_of% (Yq.a (Tryz.isAgg250 w)):=Yq.a (Tryz.isAgg250 w)
@[simp] theorem Yq.underlying251:type_of% (Yq.u Tryz.underlying251):=Yq.u Tryz.underlying251
@[simp] theorem Yq.sizeOf251 (w:World):type_of% (Yq.s (Tryz.sizeOf251 w)):=Yq.s (Tryz.sizeOf251 w)
@[simp] theorem Yq.isAgg251 (w:World):type_of% (Yq.a (Tryz.isAgg251 w)):=Yq.a (Tryz.isAgg251 w)
@[simp] theorem Yq.zeroValue251 (w:World):type_of% (Yq.z (Tryz.zeroValue251 w)):=Yq.z (Tryz.zeroValue251 w)
@[simp] theorem Yq.underlying253:type_of% (Yq.u Tryz.underlying253):=Yq.u Tryz.underlying253
@[simp] theorem Yq.sizeOf253 (w:World):type_of% (Yq.s (Tryz.sizeOf253 w)):=Yq.s (Tryz.sizeOf253 w)
@[simp] theorem Yq.isAgg253 (w:World):type_of% (Yq.a (Tryz.isAgg253 w)):=Yq.a (Tryz.isAgg253 w)
@[simp] theorem Yq.zeroValue253 (w:World):type_of% (Yq.z (Tryz.zeroValue253 w)):=Yq.z (Tryz.zeroValue253 w)
@[simp] theorem Yq.underlying254:type_of% (Yq.u Tryz.underlying254):=Yq.u Tryz.underlying254
@[simp] theorem Yq.sizeOf254 (w:World):type_of% (Yq.s (Tryz.sizeOf254 w)):=Yq.s (Tryz.sizeOf254 w)
@[simp] theorem Yq.isAgg254 (w:World):type_of% (Yq.a (Tryz.isAgg254 w)):=Yq.a (Tryz.isAgg254 w)
@[simp] theorem Yq.zeroValue254 (w:World):type_of% (Yq.z (Tryz.zeroValue254 w)):=Yq.z (Tryz.zeroValue254 w)
end
end Go.Proofs
namespace Go.Proofs.Qw
section
open Go.RowKit
theorem xU {k:IntKind}{a b:Int}(h:a=b):Ending.returned (.int k a)=.returned (.int k b):=by rw [h]
def lh (x y:Int):Int:=if x<y then -1 else if y<x then 1 else 0
theorem Ay (x:Int)(w:World):Calls Yq.prog 153 #[.int .u8 x] w fun e w'=>e=.returned (.bool false)/\w'=w:=by
 go_enter Yq.func153,Tryz.ntmps153;go_wp2;go_ret;exact ⟨by simp,rfl⟩
theorem Az (x:Int)(w:World):Calls Yq.prog 126 #[.int .i64 x] w fun e w'=>e=.returned (.bool false)/\w'=w:=by
 go_enter Yq.func126,Tryz.ntmps126;go_wp2;go_ret;exact ⟨by simp,rfl⟩
theorem AA (x y:Int)(w:World):Calls Yq.prog 135 #[.int .u8 x,.int .u8 y] w fun e w'=>e=.returned (.int .i64 (lh x y))/\w'=w:=by
 go_enter Yq.func135,Tryz.ntmps135;go_wp2_with (go_at_call 153;refine (Ay _ _).mono ?_;rintro e w' ⟨rfl,rfl⟩)
 all_goals (go_ret;exact ⟨xU (by unfold lh;(repeat' split)<;>omega),rfl⟩)
theorem AB (x y:Int)(w:World):Calls Yq.prog 104 #[.int .i64 x,.int .i64 y] w fun e w'=>e=.returned (.int .i64 (lh x y))/\w'=w:=by
 go_enter Yq.func104,Tryz.ntmps104;go_wp2_with (go_at_call 126;refine (Az _ _).mono ?_;rintro e w' ⟨rfl,rfl⟩)
 all_goals (go_ret;exact ⟨xU (by unfold lh;(repeat' split)<;>omega),rfl⟩)
theorem oV (l:Int)(p:Option Addr)(b:Int)(w:World):Calls Yq.prog 134 #[.agg #[.int .u8 l,.pointer p],.int .u8 b] w fun e w'=>e=.returned (.int .i64 (lh l b))/\w'=w.alloc (.cells #[.int .u8 l,.pointer p] 190):=by
 go_enter Yq.func134,Tryz.ntmps134;go_wp2_with (go_at_call 135;refine (AA _ _ _).mono ?_;rintro e w' ⟨rfl,rfl⟩)
 go_ret;exact ⟨rfl,rfl⟩
theorem oW (n:Int)(s:ByteArray)(m:Bool)(b:Int)(w:World):Calls Yq.prog 113 #[.agg #[.int .i64 n,.string s,.bool m],.int .i64 b] w fun e w'=>e=.returned (.int .i64 (lh n b))/\w'=w.alloc (.cells #[.int .i64 n,.string s,.bool m] 81):=by
 go_enter Yq.func113,Tryz.ntmps113;go_wp2_with (go_at_call 104;refine (AB _ _ _).mono ?_;rintro e w' ⟨rfl,rfl⟩)
 go_ret;exact ⟨rfl,rfl⟩
end
section
open Go
def _root_.Go.World.on (w:World)(τ:Nat->Question->Nat)(d:Nat):World:={w with tape:=τ,drawn:=d}
theorem qu (p:Program)(w:World)(τ:Nat->Question->Nat)(d:Nat)(x:Addr)(u:TypeId)(a:Addr)(v:Value)(b:Bool):(w.on τ d).viewStore p x u a v b=(w.viewStore p x u a v b).map (fun x=>(x.1.on τ d,x.2)):=by
 unfold World.viewStore;have hs:(w.on τ d).seen p x u a b=w.seen p x u a b:=rfl;rw [hs];simp only [bind,Except.bind,pure,Except.pure,Except.map]
 repeat' split
 all_goals first|rfl|simp_all
theorem sI (p:Program)(w:World)(τ:Nat->Question->Nat)(d:Nat)(a:Addr)(v:Value)(b:Bool):(w.on τ d).farStore p a v b=(w.farStore p a v b).map (fun x=>(x.1.on τ d,x.2)):=by
 unfold World.farStore;have hh:(w.on τ d).heap=w.heap:=rfl;rw [hh];cases w.heap[a.block]? with
 |none=>rfl
 |some o=>
  cases o with
  |view x u=>
   simp only;rw [qu];cases w.viewStore p x u a v b<;>rfl
  |_=>rfl
theorem oX {p:Program}{w w':World}{a:Addr}{v:Value}{b:Bool}{l:List Addr}(h:w.farStore p a v b=.ok (w',l)):w'.tape=w.tape/\w'.drawn=w.drawn:=by
 have h1:=sI p w w.tape w.drawn a v b;have e:w.on w.tape w.drawn=w:=rfl;rw [e,h] at h1;simp only [Except.map,Except.ok.injEq,Prod.mk.injEq] at h1;have:=h1.1;constructor
 .rw [this];rfl
 .rw [this];rfl
def Like (w w':World)(τ:Nat->Question->Nat)(d:Nat):Prop:=∀i,w.drawn+i<w'.drawn->τ (d+i)=w.tape (w.drawn+i)
theorem El {α:Type}(x:Ask α):∀ (w:World),(w.ask x).2.tape=w.tape/\w.drawn<=(w.ask x).2.drawn/\(w.ask x).2={w with drawn:=(w.ask x).2.drawn} /\
  ∀τ d,Like w (w.ask x).2 τ d->(w.on τ d).ask x=((w.ask x).1,(w.ask x).2.on τ (d+((w.ask x).2.drawn-w.drawn))):=by
 induction x with
 |done a=>intro w;exact ⟨rfl,lR _,rfl,fun τ d _=>by simp [World.ask]⟩
 |ask what range k ih=>
  intro w;by_cases hf:(Question.extern what range).forced=true
  .have e:∀u:World,u.ask (.ask what range k)=u.ask (k 0):=fun u=>by rw [World.ask];simp [hf]
   rw [e w];obtain ⟨h1,h2,h3,h4⟩:=ih 0 w;exact ⟨h1,h2,h3,fun τ d hl=>by rw [e];exact h4 τ d hl⟩
  .have e:∀u:World,u.ask (.ask what range k)=World.ask {u with drawn:=u.drawn+1} (k ((Question.extern what range).cut (u.tape u.drawn (Question.extern what range)))):=fun u=>by rw [World.ask];simp [hf]
   rw [e w];obtain ⟨h1,h2,h3,h4⟩:=ih ((Question.extern what range).cut (w.tape w.drawn (Question.extern what range))) {w with drawn:=w.drawn+1};simp only at h1 h2 h3 h4;refine ⟨h1,by omega,h3,fun τ d hl=>?_⟩;rw [e];have h0:τ d=w.tape w.drawn:=by have:=hl 0 (by omega);simpa using this
   have e2:(w.on τ d).tape (w.on τ d).drawn=w.tape w.drawn:=h0;rw [e2];have e3:({w.on τ d with drawn:=(w.on τ d).drawn+1}:World)=({w with drawn:=w.drawn+1}:World).on τ (d+1):=rfl;rw [e3,h4 τ (d+1) (fun i hi=>by
    have:=hl (i+1) (by simp only at hi;omega);rw [show d+1+i=d+(i+1) by omega,show w.drawn+1+i=w.drawn+(i+1) by omega];exact this)]
   congr 2;omega
end
