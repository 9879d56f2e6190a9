/- Part of a proof. -/
import Derived.Test.YtnapepbdohidgaaGreatDoorRows
import Derived.WalkKit
import Derived.WalkSpells
import Derived.WalkLawsBesides
import Derived.Calls
namespace Go.Proofs
open Go
noncomputable section
def Sw.prog (P : Program) (p q : FuncId) (a b : Func) : Program:=⟨P.toTables,(P.funcs.setIfInBounds p a).setIfInBounds q b⟩
section
variable {P : Program} {p q : FuncId} {a b : Func}
theorem Sw.ne {i : Nat} {x : Option Func} (h1 : p≠i) (h2 : q≠i) (h : P.funcs[i]?=x) : (Sw.prog P p q a b).funcs[i]?=x:=by
  unfold Sw.prog
  rw [Array.getElem?_setIfInBounds_ne h2,Array.getElem?_setIfInBounds_ne h1]
  exact h
theorem Sw.at_p {f : Func} (hn : q≠p) (h : P.funcs[p]?=some f) : (Sw.prog P p q a b).funcs[p]?=some a:=by
  unfold Sw.prog
  rw [Array.getElem?_setIfInBounds_ne hn,Array.getElem?_setIfInBounds_self_of_lt (Array.getElem?_eq_some_iff.1 h).1]
theorem Sw.at_q {f : Func} (h : P.funcs[q]?=some f) : (Sw.prog P p q a b).funcs[q]?=some b:=by
  unfold Sw.prog
  rw [Array.getElem?_setIfInBounds_self_of_lt (by rw [Array.size_setIfInBounds]; exact (Array.getElem?_eq_some_iff.1 h).1)]
theorem Sw.run_call {Q : Program} {i : Nat} {fn : Func} (h : Q.funcs[i]? = some fn) (hn : (fn.name == "runtime.NumGoroutine") = false) (hb : fn.body.isNone = false) (args : Array Value) (w : World) : Sem.run Q (callFunc i args) w = .ok (.enter i args) w := by
  show Sem.run Q (match Q.funcs[i]? with | none=>_ | some fn=>_) w=_
  rw [h]
  simp only [hn,hb]
  rfl
theorem Sw.tables : (Sw.prog P p q a b).toTables=P.toTables:=rfl
theorem Sw.und (t : TypeId) : (Sw.prog P p q a b).underlying t=P.underlying t:=rfl
theorem Sw.typeInfo_eq (Q : Program) (i : TypeId) (w : World) : Sem.run Q (typeInfo i) w = (match Q.info? i with | some x => .ok x w | none => .halt (.stuck "no such type") w) := by
  show Sem.run Q (match Q.info? i with | some x => pure x | none => stuck "no such type") w = _
  cases Q.info? i <;> rfl
theorem Sw.underlying_eq (Q : Program) (i : TypeId) (w : World) : Sem.run Q (underlying i) w = (match Q.underlying i with | some x => .ok x w | none => .halt (.stuck "no such type") w) := by
  show Sem.run Q (match Q.underlying i with | some x => pure x | none => stuck "no such type") w = _
  cases Q.underlying i <;> rfl
theorem Sw.run_underlying (i : TypeId) (w : World) : Sem.run (Sw.prog P p q a b) (underlying i) w=Sem.run P (underlying i) w:=by
  rw [Sw.underlying_eq,Sw.underlying_eq]
  rfl
theorem Sw.run_sizeOf (i : TypeId) (w : World) : Sem.run (Sw.prog P p q a b) (sizeOf i) w=Sem.run P (sizeOf i) w:=by
  have h : ∀ Q : Program, Sem.run Q (sizeOf i) w = (match Q.info? i with | some x => .ok x.size w | none => .halt (.stuck "no such type") w) := fun Q => by
    show Sem.run Q (Sem.bind (match Q.info? i with | some x => pure x | none => stuck "no such type") fun x => pure x.size) w = _
    cases Q.info? i <;> rfl
  rw [h,h]
  rfl
theorem Sw.run_zeroValue (i : TypeId) (w : World) : Sem.run (Sw.prog P p q a b) (zeroValue i) w=Sem.run P (zeroValue i) w:=by
  have h : ∀ Q : Program, Sem.run Q (zeroValue i) w = (match Q.info? i with | some x => (match x.zero with | some v => .ok v w | none => .halt (.unsupported (.resourceLimit "a value of more than 2^22 cells")) w) | none => .halt (.stuck "no such type") w) := fun Q => by
    show Sem.run Q (Sem.bind (match Q.info? i with | some x => pure x | none => stuck "no such type") fun x => match x.zero with | some v => pure v | none => unsupported (.resourceLimit "a value of more than 2^22 cells")) w = _
    cases Q.info? i with
    | none=>rfl
    | some x=>
      show Sem.run Q (match x.zero with | some v => pure v | none => unsupported (.resourceLimit "a value of more than 2^22 cells")) w = _
      dsimp only
      cases x.zero <;> rfl
  rw [h,h]
  rfl
theorem Sw.run_isAgg (i : TypeId) (w : World) : Sem.run (Sw.prog P p q a b) (isAgg i) w=Sem.run P (isAgg i) w:=by
  have h : ∀ Q : Program, Sem.run Q (isAgg i) w = (match Q.underlying i with | some (.struct _) => .ok true w | some (.array _ _) => .ok true w | some _ => .ok false w | none => .halt (.stuck "no such type") w) := fun Q => by
    show Sem.run Q (Sem.bind (match Q.underlying i with | some x => pure x | none => stuck "no such type") fun x => match x with | .struct _ | .array _ _ => pure true | _ => pure false) w = _
    cases Q.underlying i with
    | none=>rfl
    | some x=>cases x <;> rfl
  rw [h,h]
  rfl
end
def Tryq.stopOps : Array Oper := #[{ dst := some 10, op := .makeFunc (.func 69) #[.tmp 0, .tmp 1] #[], type := 0, pos := "", after := #[], guard := none }, { dst := some 11, op := .makeInterface 3 (.tmp 10), type := 0, pos := "", after := #[], guard := none }, { dst := none, op := .panic (.tmp 11), type := 0, pos := "", after := #[], guard := none }]
def Tryq.drawOps : Array Oper := #[{ dst := some 9, op := .move (.const (.bool false)), type := 4, pos := "", after := #[], guard := none }, { dst := some 9, op := .move (.const (.bool true)), type := 4, pos := "", after := #[], guard := none }]
def Tryq.backOps : Array Oper := #[{ dst := some 9, op := .move (.const undef), type := 4, pos := "", after := #[], guard := none }]
def Tryq.magic : Code:=.seq (.region 100 Tryq.drawOps true) (.seq (.cond (.tmp 9) (.region 101 Tryq.stopOps false) .skip) (.region 102 Tryq.backOps false))
noncomputable abbrev Tryq.b69 : Code:=Tryz.f69.body.getD .skip
noncomputable abbrev Tryq.f69 : Func:={ Tryz.f69 with body:=some (.seq Tryq.magic Tryq.b69) }
def Tryq.itemsOps0 : Array Oper := #[{ dst := some 2, op := .box 93 (.tmp 0), type := 0, pos := "", after := #[], guard := none }, { dst := some 3, op := .box 56 (.tmp 1), type := 0, pos := "", after := #[], guard := none }, { dst := some 4, op := .assign (.const (.chan none)), type := 165, pos := "", after := #[], guard := none }]
def Tryq.itemsOps1 : Array Oper := #[{ dst := some 6, op := .makeChan 193 (.const (.int .i64 1000)), type := 193, pos := "", after := #[], guard := none }, { dst := some 5, op := .alloc 193, type := 0, pos := "", after := #[], guard := none }, { dst := none, op := .store 193 (.tmp 5) (.tmp 6), type := 0, pos := "", after := #[], guard := none }]
def Tryq.itemsOps2 : Array Oper := #[{ dst := some 7, op := .makeFunc (.func 119) #[] #[.tmp 5, .tmp 2, .tmp 3], type := 1, pos := "", after := #[], guard := none }, { dst := none, op := .call { callee := .value (.tmp 7), args := #[], argTypes := #[] }, type := 0, pos := "", after := #[], guard := none }, { dst := some 7, op := .move (.const undef), type := 0, pos := "", after := #[], guard := none }]
def Tryq.itemsOps3 : Array Oper := #[{ dst := some 8, op := .load 193 (.tmp 5), type := 193, pos := "items.go:26", after := #[], guard := none }, { dst := some 4, op := .assign (.tmp 8), type := 165, pos := "items.go:26", after := #[{ on := 0, ground := .data }, { on := 0, ground := .phase }], guard := none }]
def Tryq.b97 : Code:=.seq (.region 0 Tryq.itemsOps0 false) (.seq (.region 1 Tryq.itemsOps1 false) (.seq (.region 2 Tryq.itemsOps2 false) (.seq (.region 3 Tryq.itemsOps3 false) .ret)))
noncomputable abbrev Tryq.f97 : Func:={ Tryz.f97 with body:=some Tryq.b97 }
noncomputable def Tryq.prog : Program:=Sw.prog Tryz.prog 69 97 Tryq.f69 Tryq.f97
@[simp] theorem Tryq.func69 : Tryq.prog.funcs[69]?=some Tryq.f69:=Sw.at_p (by decide) Tryz.func69
@[simp] theorem Tryq.func97 : Tryq.prog.funcs[97]?=some Tryq.f97:=Sw.at_q Tryz.func97
@[simp] theorem Tryq.func10 : Tryq.prog.funcs[10]?=some Tryz.f10:=Sw.ne (by decide) (by decide) Tryz.func10
@[simp] theorem Tryq.func18 : Tryq.prog.funcs[18]?=some Tryz.f18:=Sw.ne (by decide) (by decide) Tryz.func18
@[simp] theorem Tryq.func20 : Tryq.prog.funcs[20]?=some Tryz.f20:=Sw.ne (by decide) (by decide) Tryz.func20
@[simp] theorem Tryq.func21 : Tryq.prog.funcs[21]?=some Tryz.f21:=Sw.ne (by decide) (by decide) Tryz.func21
@[simp] theorem Tryq.func26 : Tryq.prog.funcs[26]?=some Tryz.f26:=Sw.ne (by decide) (by decide) Tryz.func26
@[simp] theorem Tryq.func33 : Tryq.prog.funcs[33]?=some Tryz.f33:=Sw.ne (by decide) (by decide) Tryz.func33
@[simp] theorem Tryq.func35 : Tryq.prog.funcs[35]?=some Tryz.f35:=Sw.ne (by decide) (by decide) Tryz.func35
@[simp] theorem Tryq.func38 : Tryq.prog.funcs[38]?=some Tryz.f38:=Sw.ne (by decide) (by decide) Tryz.func38
@[simp] theorem Tryq.func40 : Tryq.prog.funcs[40]?=some Tryz.f40:=Sw.ne (by decide) (by decide) Tryz.func40
@[simp] theorem Tryq.func41 : Tryq.prog.funcs[41]?=some Tryz.f41:=Sw.ne (by decide) (by decide) Tryz.func41
@[simp] theorem Tryq.func42 : Tryq.prog.funcs[42]?=some Tryz.f42:=Sw.ne (by decide) (by decide) Tryz.func42
@[simp] theorem Tryq.func43 : Tryq.prog.funcs[43]?=some Tryz.f43:=Sw.ne (by decide) (by decide) Tryz.func43
@[simp] theorem Tryq.func44 : Tryq.prog.funcs[44]?=some Tryz.f44:=Sw.ne (by decide) (by decide) Tryz.func44
@[simp] theorem Tryq.func45 : Tryq.prog.funcs[45]?=some Tryz.f45:=Sw.ne (by decide) (by decide) Tryz.func45
@[simp] theorem Tryq.func46 : Tryq.prog.funcs[46]?=some Tryz.f46:=Sw.ne (by decide) (by decide) Tryz.func46
@[simp] theorem Tryq.func47 : Tryq.prog.funcs[47]?=some Tryz.f47:=Sw.ne (by decide) (by decide) Tryz.func47
@[simp] theorem Tryq.func59 : Tryq.prog.funcs[59]?=some Tryz.f59:=Sw.ne (by decide) (by decide) Tryz.func59
@[simp] theorem Tryq.func60 : Tryq.prog.funcs[60]?=some Tryz.f60:=Sw.ne (by decide) (by decide) Tryz.func60
@[simp] theorem Tryq.func61 : Tryq.prog.funcs[61]?=some Tryz.f61:=Sw.ne (by decide) (by decide) Tryz.func61
@[simp] theorem Tryq.func62 : Tryq.prog.funcs[62]?=some Tryz.f62:=Sw.ne (by decide) (by decide) Tryz.func62
@[simp] theorem Tryq.func63 : Tryq.prog.funcs[63]?=some Tryz.f63:=Sw.ne (by decide) (by decide) Tryz.func63
@[simp] theorem Tryq.func64 : Tryq.prog.funcs[64]?=some Tryz.f64:=Sw.ne (by decide) (by decide) Tryz.func64
@[simp] theorem Tryq.func67 : Tryq.prog.funcs[67]?=some Tryz.f67:=Sw.ne (by decide) (by decide) Tryz.func67
@[simp] theorem Tryq.func70 : Tryq.prog.funcs[70]?=some Tryz.f70:=Sw.ne (by decide) (by decide) Tryz.func70
@[simp] theorem Tryq.func71 : Tryq.prog.funcs[71]?=some Tryz.f71:=Sw.ne (by decide) (by decide) Tryz.func71
@[simp] theorem Tryq.func72 : Tryq.prog.funcs[72]?=some Tryz.f72:=Sw.ne (by decide) (by decide) Tryz.func72
@[simp] theorem Tryq.func73 : Tryq.prog.funcs[73]?=some Tryz.f73:=Sw.ne (by decide) (by decide) Tryz.func73
@[simp] theorem Tryq.func74 : Tryq.prog.funcs[74]?=some Tryz.f74:=Sw.ne (by decide) (by decide) Tryz.func74
@[simp] theorem Tryq.func75 : Tryq.prog.funcs[75]?=some Tryz.f75:=Sw.ne (by decide) (by decide) Tryz.func75
@[simp] theorem Tryq.func89 : Tryq.prog.funcs[89]?=some Tryz.f89:=Sw.ne (by decide) (by decide) Tryz.func89
@[simp] theorem Tryq.func90 : Tryq.prog.funcs[90]?=some Tryz.f90:=Sw.ne (by decide) (by decide) Tryz.func90
@[simp] theorem Tryq.func91 : Tryq.prog.funcs[91]?=some Tryz.f91:=Sw.ne (by decide) (by decide) Tryz.func91
@[simp] theorem Tryq.func94 : Tryq.prog.funcs[94]?=some Tryz.f94:=Sw.ne (by decide) (by decide) Tryz.func94
@[simp] theorem Tryq.func96 : Tryq.prog.funcs[96]?=some Tryz.f96:=Sw.ne (by decide) (by decide) Tryz.func96
@[simp] theorem Tryq.func98 : Tryq.prog.funcs[98]?=some Tryz.f98:=Sw.ne (by decide) (by decide) Tryz.func98
@[simp] theorem Tryq.func99 : Tryq.prog.funcs[99]?=some Tryz.f99:=Sw.ne (by decide) (by decide) Tryz.func99
@[simp] theorem Tryq.func100 : Tryq.prog.funcs[100]?=some Tryz.f100:=Sw.ne (by decide) (by decide) Tryz.func100
@[simp] theorem Tryq.func101 : Tryq.prog.funcs[101]?=some Tryz.f101:=Sw.ne (by decide) (by decide) Tryz.func101
@[simp] theorem Tryq.func111 : Tryq.prog.funcs[111]?=some Tryz.f111:=Sw.ne (by decide) (by decide) Tryz.func111
@[simp] theorem Tryq.func114 : Tryq.prog.funcs[114]?=some Tryz.f114:=Sw.ne (by decide) (by decide) Tryz.func114
@[simp] theorem Tryq.func116 : Tryq.prog.funcs[116]?=some Tryz.f116:=Sw.ne (by decide) (by decide) Tryz.func116
@[simp] theorem Tryq.func118 : Tryq.prog.funcs[118]?=some Tryz.f118:=Sw.ne (by decide) (by decide) Tryz.func118
@[simp] theorem Tryq.func119 : Tryq.prog.funcs[119]?=some Tryz.f119:=Sw.ne (by decide) (by decide) Tryz.func119
@[simp] theorem Tryq.func120 : Tryq.prog.funcs[120]?=some Tryz.f120:=Sw.ne (by decide) (by decide) Tryz.func120
@[simp] theorem Tryq.func121 : Tryq.prog.funcs[121]?=some Tryz.f121:=Sw.ne (by decide) (by decide) Tryz.func121
@[simp] theorem Tryq.func122 : Tryq.prog.funcs[122]?=some Tryz.f122:=Sw.ne (by decide) (by decide) Tryz.func122
@[simp] theorem Tryq.func123 : Tryq.prog.funcs[123]?=some Tryz.f123:=Sw.ne (by decide) (by decide) Tryz.func123
@[simp] theorem Tryq.func132 : Tryq.prog.funcs[132]?=some Tryz.f132:=Sw.ne (by decide) (by decide) Tryz.func132
@[simp] theorem Tryq.func133 : Tryq.prog.funcs[133]?=some Tryz.f133:=Sw.ne (by decide) (by decide) Tryz.func133
@[simp] theorem Tryq.func134 : Tryq.prog.funcs[134]?=some Tryz.f134:=Sw.ne (by decide) (by decide) Tryz.func134
@[simp] theorem Tryq.func135 : Tryq.prog.funcs[135]?=some Tryz.f135:=Sw.ne (by decide) (by decide) Tryz.func135
@[simp] theorem Tryq.func136 : Tryq.prog.funcs[136]?=some Tryz.f136:=Sw.ne (by decide) (by decide) Tryz.func136
@[simp] theorem Tryq.func138 : Tryq.prog.funcs[138]?=some Tryz.f138:=Sw.ne (by decide) (by decide) Tryz.func138
@[simp] theorem Tryq.func139 : Tryq.prog.funcs[139]?=some Tryz.f139:=Sw.ne (by decide) (by decide) Tryz.func139
@[simp] theorem Tryq.func140 : Tryq.prog.funcs[140]?=some Tryz.f140:=Sw.ne (by decide) (by decide) Tryz.func140
@[simp] theorem Tryq.func141 : Tryq.prog.funcs[141]?=some Tryz.f141:=Sw.ne (by decide) (by decide) Tryz.func141
@[simp] theorem Tryq.func151 : Tryq.prog.funcs[151]?=some Tryz.f151:=Sw.ne (by decide) (by decide) Tryz.func151
@[simp] theorem Tryq.func153 : Tryq.prog.funcs[153]?=some Tryz.f153:=Sw.ne (by decide) (by decide) Tryz.func153
@[simp] theorem Tryq.func158 : Tryq.prog.funcs[158]?=some Tryz.f158:=Sw.ne (by decide) (by decide) Tryz.func158
@[simp] theorem Tryq.func167 : Tryq.prog.funcs[167]?=some Tryz.f167:=Sw.ne (by decide) (by decide) Tryz.func167
@[simp] theorem Tryq.func168 : Tryq.prog.funcs[168]?=some Tryz.f168:=Sw.ne (by decide) (by decide) Tryz.func168
@[simp] theorem Tryq.func169 : Tryq.prog.funcs[169]?=some Tryz.f169:=Sw.ne (by decide) (by decide) Tryz.func169
@[simp] theorem Tryq.func170 : Tryq.prog.funcs[170]?=some Tryz.f170:=Sw.ne (by decide) (by decide) Tryz.func170
@[simp] theorem Tryq.func173 : Tryq.prog.funcs[173]?=some Tryz.f173:=Sw.ne (by decide) (by decide) Tryz.func173
@[simp] theorem Tryq.func176 : Tryq.prog.funcs[176]?=some Tryz.f176:=Sw.ne (by decide) (by decide) Tryz.func176
@[simp] theorem Tryq.func177 : Tryq.prog.funcs[177]?=some Tryz.f177:=Sw.ne (by decide) (by decide) Tryz.func177
@[simp] theorem Tryq.func178 : Tryq.prog.funcs[178]?=some Tryz.f178:=Sw.ne (by decide) (by decide) Tryz.func178
@[simp] theorem Tryq.func179 : Tryq.prog.funcs[179]?=some Tryz.f179:=Sw.ne (by decide) (by decide) Tryz.func179
@[simp] theorem Tryq.func180 : Tryq.prog.funcs[180]?=some Tryz.f180:=Sw.ne (by decide) (by decide) Tryz.func180
@[simp] theorem Tryq.func182 : Tryq.prog.funcs[182]?=some Tryz.f182:=Sw.ne (by decide) (by decide) Tryz.func182
@[simp] theorem Tryq.func183 : Tryq.prog.funcs[183]?=some Tryz.f183:=Sw.ne (by decide) (by decide) Tryz.func183
@[simp] theorem Tryq.call18 (args : Array Value) (w : World) : Sem.run Tryq.prog (callFunc 18 args) w=.ok (.enter 18 args) w:=Sw.run_call Tryq.func18 rfl rfl args w
@[simp] theorem Tryq.call20 (args : Array Value) (w : World) : Sem.run Tryq.prog (callFunc 20 args) w=.ok (.enter 20 args) w:=Sw.run_call Tryq.func20 rfl rfl args w
@[simp] theorem Tryq.call21 (args : Array Value) (w : World) : Sem.run Tryq.prog (callFunc 21 args) w=.ok (.enter 21 args) w:=Sw.run_call Tryq.func21 rfl rfl args w
@[simp] theorem Tryq.call26 (args : Array Value) (w : World) : Sem.run Tryq.prog (callFunc 26 args) w=.ok (.enter 26 args) w:=Sw.run_call Tryq.func26 rfl rfl args w
@[simp] theorem Tryq.call33 (args : Array Value) (w : World) : Sem.run Tryq.prog (callFunc 33 args) w=.ok (.enter 33 args) w:=Sw.run_call Tryq.func33 rfl rfl args w
@[simp] theorem Tryq.call35 (args : Array Value) (w : World) : Sem.run Tryq.prog (callFunc 35 args) w=.ok (.enter 35 args) w:=Sw.run_call Tryq.func35 rfl rfl args w
@[simp] theorem Tryq.call38 (args : Array Value) (w : World) : Sem.run Tryq.prog (callFunc 38 args) w=.ok (.enter 38 args) w:=Sw.run_call Tryq.func38 rfl rfl args w
@[simp] theorem Tryq.call40 (args : Array Value) (w : World) : Sem.run Tryq.prog (callFunc 40 args) w=.ok (.enter 40 args) w:=Sw.run_call Tryq.func40 rfl rfl args w
@[simp] theorem Tryq.call41 (args : Array Value) (w : World) : Sem.run Tryq.prog (callFunc 41 args) w=.ok (.enter 41 args) w:=Sw.run_call Tryq.func41 rfl rfl args w
@[simp] theorem Tryq.call42 (args : Array Value) (w : World) : Sem.run Tryq.prog (callFunc 42 args) w=.ok (.enter 42 args) w:=Sw.run_call Tryq.func42 rfl rfl args w
@[simp] theorem Tryq.call43 (args : Array Value) (w : World) : Sem.run Tryq.prog (callFunc 43 args) w=.ok (.enter 43 args) w:=Sw.run_call Tryq.func43 rfl rfl args w
@[simp] theorem Tryq.call44 (args : Array Value) (w : World) : Sem.run Tryq.prog (callFunc 44 args) w=.ok (.enter 44 args) w:=Sw.run_call Tryq.func44 rfl rfl args w
@[simp] theorem Tryq.call45 (args : Array Value) (w : World) : Sem.run Tryq.prog (callFunc 45 args) w=.ok (.enter 45 args) w:=Sw.run_call Tryq.func45 rfl rfl args w
@[simp] theorem Tryq.call46 (args : Array Value) (w : World) : Sem.run Tryq.prog (callFunc 46 args) w=.ok (.enter 46 args) w:=Sw.run_call Tryq.func46 rfl rfl args w
@[simp] theorem Tryq.call47 (args : Array Value) (w : World) : Sem.run Tryq.prog (callFunc 47 args) w=.ok (.enter 47 args) w:=Sw.run_call Tryq.func47 rfl rfl args w
@[simp] theorem Tryq.call59 (args : Array Value) (w : World) : Sem.run Tryq.prog (callFunc 59 args) w=.ok (.enter 59 args) w:=Sw.run_call Tryq.func59 rfl rfl args w
@[simp] theorem Tryq.call60 (args : Array Value) (w : World) : Sem.run Tryq.prog (callFunc 60 args) w=.ok (.enter 60 args) w:=Sw.run_call Tryq.func60 rfl rfl args w
@[simp] theorem Tryq.call61 (args : Array Value) (w : World) : Sem.run Tryq.prog (callFunc 61 args) w=.ok (.enter 61 args) w:=Sw.run_call Tryq.func61 rfl rfl args w
@[simp] theorem Tryq.call62 (args : Array Value) (w : World) : Sem.run Tryq.prog (callFunc 62 args) w=.ok (.enter 62 args) w:=Sw.run_call Tryq.func62 rfl rfl args w
@[simp] theorem Tryq.call63 (args : Array Value) (w : World) : Sem.run Tryq.prog (callFunc 63 args) w=.ok (.enter 63 args) w:=Sw.run_call Tryq.func63 rfl rfl args w
@[simp] theorem Tryq.call64 (args : Array Value) (w : World) : Sem.run Tryq.prog (callFunc 64 args) w=.ok (.enter 64 args) w:=Sw.run_call Tryq.func64 rfl rfl args w
@[simp] theorem Tryq.call67 (args : Array Value) (w : World) : Sem.run Tryq.prog (callFunc 67 args) w=.ok (.enter 67 args) w:=Sw.run_call Tryq.func67 rfl rfl args w
@[simp] theorem Tryq.call69 (args : Array Value) (w : World) : Sem.run Tryq.prog (callFunc 69 args) w=.ok (.enter 69 args) w:=Sw.run_call Tryq.func69 rfl rfl args w
@[simp] theorem Tryq.call70 (args : Array Value) (w : World) : Sem.run Tryq.prog (callFunc 70 args) w=.ok (.enter 70 args) w:=Sw.run_call Tryq.func70 rfl rfl args w
@[simp] theorem Tryq.call71 (args : Array Value) (w : World) : Sem.run Tryq.prog (callFunc 71 args) w=.ok (.enter 71 args) w:=Sw.run_call Tryq.func71 rfl rfl args w
@[simp] theorem Tryq.call72 (args : Array Value) (w : World) : Sem.run Tryq.prog (callFunc 72 args) w=.ok (.enter 72 args) w:=Sw.run_call Tryq.func72 rfl rfl args w
@[simp] theorem Tryq.call73 (args : Array Value) (w : World) : Sem.run Tryq.prog (callFunc 73 args) w=.ok (.enter 73 args) w:=Sw.run_call Tryq.func73 rfl rfl args w
@[simp] theorem Tryq.call74 (args : Array Value) (w : World) : Sem.run Tryq.prog (callFunc 74 args) w=.ok (.enter 74 args) w:=Sw.run_call Tryq.func74 rfl rfl args w
@[simp] theorem Tryq.call75 (args : Array Value) (w : World) : Sem.run Tryq.prog (callFunc 75 args) w=.ok (.enter 75 args) w:=Sw.run_call Tryq.func75 rfl rfl args w
@[simp] theorem Tryq.call89 (args : Array Value) (w : World) : Sem.run Tryq.prog (callFunc 89 args) w=.ok (.enter 89 args) w:=Sw.run_call Tryq.func89 rfl rfl args w
@[simp] theorem Tryq.call90 (args : Array Value) (w : World) : Sem.run Tryq.prog (callFunc 90 args) w=.ok (.enter 90 args) w:=Sw.run_call Tryq.func90 rfl rfl args w
@[simp] theorem Tryq.call91 (args : Array Value) (w : World) : Sem.run Tryq.prog (callFunc 91 args) w=.ok (.enter 91 args) w:=Sw.run_call Tryq.func91 rfl rfl args w
@[simp] theorem Tryq.call94 (args : Array Value) (w : World) : Sem.run Tryq.prog (callFunc 94 args) w=.ok (.enter 94 args) w:=Sw.run_call Tryq.func94 rfl rfl args w
@[simp] theorem Tryq.call96 (args : Array Value) (w : World) : Sem.run Tryq.prog (callFunc 96 args) w=.ok (.enter 96 args) w:=Sw.run_call Tryq.func96 rfl rfl args w
@[simp] theorem Tryq.call98 (args : Array Value) (w : World) : Sem.run Tryq.prog (callFunc 98 args) w=.ok (.enter 98 args) w:=Sw.run_call Tryq.func98 rfl rfl args w
@[simp] theorem Tryq.call99 (args : Array Value) (w : World) : Sem.run Tryq.prog (callFunc 99 args) w=.ok (.enter 99 args) w:=Sw.run_call Tryq.func99 rfl rfl args w
@[simp] theorem Tryq.call100 (args : Array Value) (w : World) : Sem.run Tryq.prog (callFunc 100 args) w=.ok (.enter 100 args) w:=Sw.run_call Tryq.func100 rfl rfl args w
@[simp] theorem Tryq.call101 (args : Array Value) (w : World) : Sem.run Tryq.prog (callFunc 101 args) w=.ok (.enter 101 args) w:=Sw.run_call Tryq.func101 rfl rfl args w
@[simp] theorem Tryq.call111 (args : Array Value) (w : World) : Sem.run Tryq.prog (callFunc 111 args) w=.ok (.enter 111 args) w:=Sw.run_call Tryq.func111 rfl rfl args w
@[simp] theorem Tryq.call114 (args : Array Value) (w : World) : Sem.run Tryq.prog (callFunc 114 args) w=.ok (.enter 114 args) w:=Sw.run_call Tryq.func114 rfl rfl args w
@[simp] theorem Tryq.call116 (args : Array Value) (w : World) : Sem.run Tryq.prog (callFunc 116 args) w=.ok (.enter 116 args) w:=Sw.run_call Tryq.func116 rfl rfl args w
@[simp] theorem Tryq.call118 (args : Array Value) (w : World) : Sem.run Tryq.prog (callFunc 118 args) w=.ok (.enter 118 args) w:=Sw.run_call Tryq.func118 rfl rfl args w
@[simp] theorem Tryq.call119 (args : Array Value) (w : World) : Sem.run Tryq.prog (callFunc 119 args) w=.ok (.enter 119 args) w:=Sw.run_call Tryq.func119 rfl rfl args w
@[simp] theorem Tryq.call121 (args : Array Value) (w : World) : Sem.run Tryq.prog (callFunc 121 args) w=.ok (.enter 121 args) w:=Sw.run_call Tryq.func121 rfl rfl args w
@[simp] theorem Tryq.call122 (args : Array Value) (w : World) : Sem.run Tryq.prog (callFunc 122 args) w=.ok (.enter 122 args) w:=Sw.run_call Tryq.func122 rfl rfl args w
@[simp] theorem Tryq.call123 (args : Array Value) (w : World) : Sem.run Tryq.prog (callFunc 123 args) w=.ok (.enter 123 args) w:=Sw.run_call Tryq.func123 rfl rfl args w
@[simp] theorem Tryq.call132 (args : Array Value) (w : World) : Sem.run Tryq.prog (callFunc 132 args) w=.ok (.enter 132 args) w:=Sw.run_call Tryq.func132 rfl rfl args w
@[simp] theorem Tryq.call133 (args : Array Value) (w : World) : Sem.run Tryq.prog (callFunc 133 args) w=.ok (.enter 133 args) w:=Sw.run_call Tryq.func133 rfl rfl args w
@[simp] theorem Tryq.call134 (args : Array Value) (w : World) : Sem.run Tryq.prog (callFunc 134 args) w=.ok (.enter 134 args) w:=Sw.run_call Tryq.func134 rfl rfl args w
@[simp] theorem Tryq.call135 (args : Array Value) (w : World) : Sem.run Tryq.prog (callFunc 135 args) w=.ok (.enter 135 args) w:=Sw.run_call Tryq.func135 rfl rfl args w
@[simp] theorem Tryq.call138 (args : Array Value) (w : World) : Sem.run Tryq.prog (callFunc 138 args) w=.ok (.enter 138 args) w:=Sw.run_call Tryq.func138 rfl rfl args w
@[simp] theorem Tryq.call139 (args : Array Value) (w : World) : Sem.run Tryq.prog (callFunc 139 args) w=.ok (.enter 139 args) w:=Sw.run_call Tryq.func139 rfl rfl args w
@[simp] theorem Tryq.call140 (args : Array Value) (w : World) : Sem.run Tryq.prog (callFunc 140 args) w=.ok (.enter 140 args) w:=Sw.run_call Tryq.func140 rfl rfl args w
@[simp] theorem Tryq.call153 (args : Array Value) (w : World) : Sem.run Tryq.prog (callFunc 153 args) w=.ok (.enter 153 args) w:=Sw.run_call Tryq.func153 rfl rfl args w
theorem Tryq.tables : Tryq.prog.toTables=Tryz.prog.toTables:=Sw.tables
theorem Tryq.und_eq (t : TypeId) : Tryq.prog.underlying t=Tryz.prog.underlying t:=Sw.und t
theorem Tryq.u {t : TypeId} {d : Option TypeDesc} (h : Tryz.prog.underlying t=d) : Tryq.prog.underlying t=d:=(Tryq.und_eq t).trans h
theorem Tryq.s {t : TypeId} {w : World} {r : Result Nat} (h : Sem.run Tryz.prog (sizeOf t) w=r) : Sem.run Tryq.prog (sizeOf t) w=r:=(Sw.run_sizeOf t w).trans h
theorem Tryq.r {t : TypeId} {w : World} {r : Result TypeDesc} (h : Sem.run Tryz.prog (underlying t) w=r) : Sem.run Tryq.prog (underlying t) w=r:=(Sw.run_underlying t w).trans h
theorem Tryq.a {t : TypeId} {w : World} {r : Result Bool} (h : Sem.run Tryz.prog (isAgg t) w=r) : Sem.run Tryq.prog (isAgg t) w=r:=(Sw.run_isAgg t w).trans h
theorem Tryq.z {t : TypeId} {w : World} {r : Result Value} (h : Sem.run Tryz.prog (zeroValue t) w=r) : Sem.run Tryq.prog (zeroValue t) w=r:=(Sw.run_zeroValue t w).trans h
@[simp] theorem Tryq.globals_size : Tryq.prog.globals.size=Tryz.prog.globals.size:=by rw [Tryq.tables]
end
@[simp] theorem Tryq.underlying0 : type_of% (Tryq.u Tryz.underlying0):=Tryq.u Tryz.underlying0
@[simp] theorem Tryq.sizeOf0 (w : World) : type_of% (Tryq.s (Tryz.sizeOf0 w)):=Tryq.s (Tryz.sizeOf0 w)
@[simp] theorem Tryq.isAgg0 (w : World) : type_of% (Tryq.a (Tryz.isAgg0 w)):=Tryq.a (Tryz.isAgg0 w)
@[simp] theorem Tryq.zeroValue0 (w : World) : type_of% (Tryq.z (Tryz.zeroValue0 w)):=Tryq.z (Tryz.zeroValue0 w)
@[simp] theorem Tryq.underlying2 : type_of% (Tryq.u Tryz.underlying2):=Tryq.u Tryz.underlying2
@[simp] theorem Tryq.sizeOf2 (w : World) : type_of% (Tryq.s (Tryz.sizeOf2 w)):=Tryq.s (Tryz.sizeOf2 w)
@[simp] theorem Tryq.isAgg2 (w : World) : type_of% (Tryq.a (Tryz.isAgg2 w)):=Tryq.a (Tryz.isAgg2 w)
@[simp] theorem Tryq.zeroValue2 (w : World) : type_of% (Tryq.z (Tryz.zeroValue2 w)):=Tryq.z (Tryz.zeroValue2 w)
@[simp] theorem Tryq.underlying3 : type_of% (Tryq.u Tryz.underlying3):=Tryq.u Tryz.underlying3
@[simp] theorem Tryq.sizeOf3 (w : World) : type_of% (Tryq.s (Tryz.sizeOf3 w)):=Tryq.s (Tryz.sizeOf3 w)
@[simp] theorem Tryq.isAgg3 (w : World) : type_of% (Tryq.a (Tryz.isAgg3 w)):=Tryq.a (Tryz.isAgg3 w)
@[simp] theorem Tryq.zeroValue3 (w : World) : type_of% (Tryq.z (Tryz.zeroValue3 w)):=Tryq.z (Tryz.zeroValue3 w)
@[simp] theorem Tryq.underlying4 : type_of% (Tryq.u Tryz.underlying4):=Tryq.u Tryz.underlying4
@[simp] theorem Tryq.sizeOf4 (w : World) : type_of% (Tryq.s (Tryz.sizeOf4 w)):=Tryq.s (Tryz.sizeOf4 w)
@[simp] theorem Tryq.isAgg4 (w : World) : type_of% (Tryq.a (Tryz.isAgg4 w)):=Tryq.a (Tryz.isAgg4 w)
@[simp] theorem Tryq.zeroValue4 (w : World) : type_of% (Tryq.z (Tryz.zeroValue4 w)):=Tryq.z (Tryz.zeroValue4 w)
@[simp] theorem Tryq.underlying5 : type_of% (Tryq.u Tryz.underlying5):=Tryq.u Tryz.underlying5
@[simp] theorem Tryq.sizeOf5 (w : World) : type_of% (Tryq.s (Tryz.sizeOf5 w)):=Tryq.s (Tryz.sizeOf5 w)
@[simp] theorem Tryq.isAgg5 (w : World) : type_of% (Tryq.a (Tryz.isAgg5 w)):=Tryq.a (Tryz.isAgg5 w)
@[simp] theorem Tryq.zeroValue5 (w : World) : type_of% (Tryq.z (Tryz.zeroValue5 w)):=Tryq.z (Tryz.zeroValue5 w)
@[simp] theorem Tryq.underlying9 : type_of% (Tryq.u Tryz.underlying9):=Tryq.u Tryz.underlying9
@[simp] theorem Tryq.sizeOf9 (w : World) : type_of% (Tryq.s (Tryz.sizeOf9 w)):=Tryq.s (Tryz.sizeOf9 w)
@[simp] theorem Tryq.runUnderlying9 (w : World) : type_of% (Tryq.r (Tryz.runUnderlying9 w)):=Tryq.r (Tryz.runUnderlying9 w)
@[simp] theorem Tryq.isAgg9 (w : World) : type_of% (Tryq.a (Tryz.isAgg9 w)):=Tryq.a (Tryz.isAgg9 w)
@[simp] theorem Tryq.zeroValue9 (w : World) : type_of% (Tryq.z (Tryz.zeroValue9 w)):=Tryq.z (Tryz.zeroValue9 w)
@[simp] theorem Tryq.underlying20 : type_of% (Tryq.u Tryz.underlying20):=Tryq.u Tryz.underlying20
@[simp] theorem Tryq.sizeOf20 (w : World) : type_of% (Tryq.s (Tryz.sizeOf20 w)):=Tryq.s (Tryz.sizeOf20 w)
@[simp] theorem Tryq.isAgg20 (w : World) : type_of% (Tryq.a (Tryz.isAgg20 w)):=Tryq.a (Tryz.isAgg20 w)
@[simp] theorem Tryq.zeroValue20 (w : World) : type_of% (Tryq.z (Tryz.zeroValue20 w)):=Tryq.z (Tryz.zeroValue20 w)
@[simp] theorem Tryq.underlying22 : type_of% (Tryq.u Tryz.underlying22):=Tryq.u Tryz.underlying22
@[simp] theorem Tryq.sizeOf22 (w : World) : type_of% (Tryq.s (Tryz.sizeOf22 w)):=Tryq.s (Tryz.sizeOf22 w)
@[simp] theorem Tryq.runUnderlying22 (w : World) : type_of% (Tryq.r (Tryz.runUnderlying22 w)):=Tryq.r (Tryz.runUnderlying22 w)
@[simp] theorem Tryq.underlying27 : type_of% (Tryq.u Tryz.underlying27):=Tryq.u Tryz.underlying27
@[simp] theorem Tryq.sizeOf27 (w : World) : type_of% (Tryq.s (Tryz.sizeOf27 w)):=Tryq.s (Tryz.sizeOf27 w)
@[simp] theorem Tryq.runUnderlying27 (w : World) : type_of% (Tryq.r (Tryz.runUnderlying27 w)):=Tryq.r (Tryz.runUnderlying27 w)
@[simp] theorem Tryq.isAgg27 (w : World) : type_of% (Tryq.a (Tryz.isAgg27 w)):=Tryq.a (Tryz.isAgg27 w)
@[simp] theorem Tryq.sizeOf31 (w : World) : type_of% (Tryq.s (Tryz.sizeOf31 w)):=Tryq.s (Tryz.sizeOf31 w)
@[simp] theorem Tryq.runUnderlying31 (w : World) : type_of% (Tryq.r (Tryz.runUnderlying31 w)):=Tryq.r (Tryz.runUnderlying31 w)
@[simp] theorem Tryq.isAgg31 (w : World) : type_of% (Tryq.a (Tryz.isAgg31 w)):=Tryq.a (Tryz.isAgg31 w)
@[simp] theorem Tryq.zeroValue31 (w : World) : type_of% (Tryq.z (Tryz.zeroValue31 w)):=Tryq.z (Tryz.zeroValue31 w)
@[simp] theorem Tryq.sizeOf33 (w : World) : type_of% (Tryq.s (Tryz.sizeOf33 w)):=Tryq.s (Tryz.sizeOf33 w)
@[simp] theorem Tryq.isAgg33 (w : World) : type_of% (Tryq.a (Tryz.isAgg33 w)):=Tryq.a (Tryz.isAgg33 w)
@[simp] theorem Tryq.underlying34 : type_of% (Tryq.u Tryz.underlying34):=Tryq.u Tryz.underlying34
@[simp] theorem Tryq.sizeOf34 (w : World) : type_of% (Tryq.s (Tryz.sizeOf34 w)):=Tryq.s (Tryz.sizeOf34 w)
@[simp] theorem Tryq.runUnderlying34 (w : World) : type_of% (Tryq.r (Tryz.runUnderlying34 w)):=Tryq.r (Tryz.runUnderlying34 w)
@[simp] theorem Tryq.isAgg34 (w : World) : type_of% (Tryq.a (Tryz.isAgg34 w)):=Tryq.a (Tryz.isAgg34 w)
@[simp] theorem Tryq.sizeOf36 (w : World) : type_of% (Tryq.s (Tryz.sizeOf36 w)):=Tryq.s (Tryz.sizeOf36 w)
@[simp] theorem Tryq.runUnderlying36 (w : World) : type_of% (Tryq.r (Tryz.runUnderlying36 w)):=Tryq.r (Tryz.runUnderlying36 w)
@[simp] theorem Tryq.isAgg36 (w : World) : type_of% (Tryq.a (Tryz.isAgg36 w)):=Tryq.a (Tryz.isAgg36 w)
@[simp] theorem Tryq.zeroValue36 (w : World) : type_of% (Tryq.z (Tryz.zeroValue36 w)):=Tryq.z (Tryz.zeroValue36 w)
@[simp] theorem Tryq.sizeOf41 (w : World) : type_of% (Tryq.s (Tryz.sizeOf41 w)):=Tryq.s (Tryz.sizeOf41 w)
@[simp] theorem Tryq.runUnderlying41 (w : World) : type_of% (Tryq.r (Tryz.runUnderlying41 w)):=Tryq.r (Tryz.runUnderlying41 w)
@[simp] theorem Tryq.isAgg41 (w : World) : type_of% (Tryq.a (Tryz.isAgg41 w)):=Tryq.a (Tryz.isAgg41 w)
@[simp] theorem Tryq.zeroValue41 (w : World) : type_of% (Tryq.z (Tryz.zeroValue41 w)):=Tryq.z (Tryz.zeroValue41 w)
@[simp] theorem Tryq.underlying48 : type_of% (Tryq.u Tryz.underlying48):=Tryq.u Tryz.underlying48
@[simp] theorem Tryq.sizeOf48 (w : World) : type_of% (Tryq.s (Tryz.sizeOf48 w)):=Tryq.s (Tryz.sizeOf48 w)
@[simp] theorem Tryq.runUnderlying48 (w : World) : type_of% (Tryq.r (Tryz.runUnderlying48 w)):=Tryq.r (Tryz.runUnderlying48 w)
@[simp] theorem Tryq.isAgg48 (w : World) : type_of% (Tryq.a (Tryz.isAgg48 w)):=Tryq.a (Tryz.isAgg48 w)
@[simp] theorem Tryq.zeroValue48 (w : World) : type_of% (Tryq.z (Tryz.zeroValue48 w)):=Tryq.z (Tryz.zeroValue48 w)
@[simp] theorem Tryq.underlying54 : type_of% (Tryq.u Tryz.underlying54):=Tryq.u Tryz.underlying54
@[simp] theorem Tryq.sizeOf54 (w : World) : type_of% (Tryq.s (Tryz.sizeOf54 w)):=Tryq.s (Tryz.sizeOf54 w)
@[simp] theorem Tryq.isAgg54 (w : World) : type_of% (Tryq.a (Tryz.isAgg54 w)):=Tryq.a (Tryz.isAgg54 w)
@[simp] theorem Tryq.sizeOf56 (w : World) : type_of% (Tryq.s (Tryz.sizeOf56 w)):=Tryq.s (Tryz.sizeOf56 w)
@[simp] theorem Tryq.runUnderlying56 (w : World) : type_of% (Tryq.r (Tryz.runUnderlying56 w)):=Tryq.r (Tryz.runUnderlying56 w)
@[simp] theorem Tryq.isAgg56 (w : World) : type_of% (Tryq.a (Tryz.isAgg56 w)):=Tryq.a (Tryz.isAgg56 w)
@[simp] theorem Tryq.zeroValue56 (w : World) : type_of% (Tryq.z (Tryz.zeroValue56 w)):=Tryq.z (Tryz.zeroValue56 w)
@[simp] theorem Tryq.underlying57 : type_of% (Tryq.u Tryz.underlying57):=Tryq.u Tryz.underlying57
@[simp] theorem Tryq.sizeOf57 (w : World) : type_of% (Tryq.s (Tryz.sizeOf57 w)):=Tryq.s (Tryz.sizeOf57 w)
@[simp] theorem Tryq.isAgg57 (w : World) : type_of% (Tryq.a (Tryz.isAgg57 w)):=Tryq.a (Tryz.isAgg57 w)
@[simp] theorem Tryq.zeroValue57 (w : World) : type_of% (Tryq.z (Tryz.zeroValue57 w)):=Tryq.z (Tryz.zeroValue57 w)
@[simp] theorem Tryq.sizeOf59 (w : World) : type_of% (Tryq.s (Tryz.sizeOf59 w)):=Tryq.s (Tryz.sizeOf59 w)
@[simp] theorem Tryq.runUnderlying59 (w : World) : type_of% (Tryq.r (Tryz.runUnderlying59 w)):=Tryq.r (Tryz.runUnderlying59 w)
@[simp] theorem Tryq.underlying60 : type_of% (Tryq.u Tryz.underlying60):=Tryq.u Tryz.underlying60
@[simp] theorem Tryq.sizeOf60 (w : World) : type_of% (Tryq.s (Tryz.sizeOf60 w)):=Tryq.s (Tryz.sizeOf60 w)
@[simp] theorem Tryq.runUnderlying60 (w : World) : type_of% (Tryq.r (Tryz.runUnderlying60 w)):=Tryq.r (Tryz.runUnderlying60 w)
@[simp] theorem Tryq.isAgg60 (w : World) : type_of% (Tryq.a (Tryz.isAgg60 w)):=Tryq.a (Tryz.isAgg60 w)
@[simp] theorem Tryq.sizeOf61 (w : World) : type_of% (Tryq.s (Tryz.sizeOf61 w)):=Tryq.s (Tryz.sizeOf61 w)
@[simp] theorem Tryq.runUnderlying61 (w : World) : type_of% (Tryq.r (Tryz.runUnderlying61 w)):=Tryq.r (Tryz.runUnderlying61 w)
@[simp] theorem Tryq.isAgg61 (w : World) : type_of% (Tryq.a (Tryz.isAgg61 w)):=Tryq.a (Tryz.isAgg61 w)
@[simp] theorem Tryq.sizeOf63 (w : World) : type_of% (Tryq.s (Tryz.sizeOf63 w)):=Tryq.s (Tryz.sizeOf63 w)
@[simp] theorem Tryq.runUnderlying63 (w : World) : type_of% (Tryq.r (Tryz.runUnderlying63 w)):=Tryq.r (Tryz.runUnderlying63 w)
@[simp] theorem Tryq.sizeOf65 (w : World) : type_of% (Tryq.s (Tryz.sizeOf65 w)):=Tryq.s (Tryz.sizeOf65 w)
@[simp] theorem Tryq.runUnderlying65 (w : World) : type_of% (Tryq.r (Tryz.runUnderlying65 w)):=Tryq.r (Tryz.runUnderlying65 w)
@[simp] theorem Tryq.zeroValue65 (w : World) : type_of% (Tryq.z (Tryz.zeroValue65 w)):=Tryq.z (Tryz.zeroValue65 w)
@[simp] theorem Tryq.sizeOf81 (w : World) : type_of% (Tryq.s (Tryz.sizeOf81 w)):=Tryq.s (Tryz.sizeOf81 w)
@[simp] theorem Tryq.runUnderlying81 (w : World) : type_of% (Tryq.r (Tryz.runUnderlying81 w)):=Tryq.r (Tryz.runUnderlying81 w)
@[simp] theorem Tryq.isAgg81 (w : World) : type_of% (Tryq.a (Tryz.isAgg81 w)):=Tryq.a (Tryz.isAgg81 w)
@[simp] theorem Tryq.zeroValue81 (w : World) : type_of% (Tryq.z (Tryz.zeroValue81 w)):=Tryq.z (Tryz.zeroValue81 w)
@[simp] theorem Tryq.sizeOf88 (w : World) : type_of% (Tryq.s (Tryz.sizeOf88 w)):=Tryq.s (Tryz.sizeOf88 w)
@[simp] theorem Tryq.runUnderlying88 (w : World) : type_of% (Tryq.r (Tryz.runUnderlying88 w)):=Tryq.r (Tryz.runUnderlying88 w)
@[simp] theorem Tryq.isAgg88 (w : World) : type_of% (Tryq.a (Tryz.isAgg88 w)):=Tryq.a (Tryz.isAgg88 w)
@[simp] theorem Tryq.zeroValue88 (w : World) : type_of% (Tryq.z (Tryz.zeroValue88 w)):=Tryq.z (Tryz.zeroValue88 w)
@[simp] theorem Tryq.sizeOf93 (w : World) : type_of% (Tryq.s (Tryz.sizeOf93 w)):=Tryq.s (Tryz.sizeOf93 w)
@[simp] theorem Tryq.runUnderlying93 (w : World) : type_of% (Tryq.r (Tryz.runUnderlying93 w)):=Tryq.r (Tryz.runUnderlying93 w)
@[simp] theorem Tryq.isAgg93 (w : World) : type_of% (Tryq.a (Tryz.isAgg93 w)):=Tryq.a (Tryz.isAgg93 w)
@[simp] theorem Tryq.zeroValue93 (w : World) : type_of% (Tryq.z (Tryz.zeroValue93 w)):=Tryq.z (Tryz.zeroValue93 w)
@[simp] theorem Tryq.underlying114 : type_of% (Tryq.u Tryz.underlying114):=Tryq.u Tryz.underlying114
@[simp] theorem Tryq.sizeOf114 (w : World) : type_of% (Tryq.s (Tryz.sizeOf114 w)):=Tryq.s (Tryz.sizeOf114 w)
@[simp] theorem Tryq.runUnderlying114 (w : World) : type_of% (Tryq.r (Tryz.runUnderlying114 w)):=Tryq.r (Tryz.runUnderlying114 w)
@[simp] theorem Tryq.isAgg114 (w : World) : type_of% (Tryq.a (Tryz.isAgg114 w)):=Tryq.a (Tryz.isAgg114 w)
@[simp] theorem Tryq.sizeOf125 (w : World) : type_of% (Tryq.s (Tryz.sizeOf125 w)):=Tryq.s (Tryz.sizeOf125 w)
@[simp] theorem Tryq.runUnderlying125 (w : World) : type_of% (Tryq.r (Tryz.runUnderlying125 w)):=Tryq.r (Tryz.runUnderlying125 w)
@[simp] theorem Tryq.isAgg125 (w : World) : type_of% (Tryq.a (Tryz.isAgg125 w)):=Tryq.a (Tryz.isAgg125 w)
@[simp] theorem Tryq.zeroValue125 (w : World) : type_of% (Tryq.z (Tryz.zeroValue125 w)):=Tryq.z (Tryz.zeroValue125 w)
@[simp] theorem Tryq.sizeOf129 (w : World) : type_of% (Tryq.s (Tryz.sizeOf129 w)):=Tryq.s (Tryz.sizeOf129 w)
@[simp] theorem Tryq.runUnderlying129 (w : World) : type_of% (Tryq.r (Tryz.runUnderlying129 w)):=Tryq.r (Tryz.runUnderlying129 w)
@[simp] theorem Tryq.isAgg129 (w : World) : type_of% (Tryq.a (Tryz.isAgg129 w)):=Tryq.a (Tryz.isAgg129 w)
@[simp] theorem Tryq.zeroValue129 (w : World) : type_of% (Tryq.z (Tryz.zeroValue129 w)):=Tryq.z (Tryz.zeroValue129 w)
@[simp] theorem Tryq.underlying157 : type_of% (Tryq.u Tryz.underlying157):=Tryq.u Tryz.underlying157
@[simp] theorem Tryq.sizeOf157 (w : World) : type_of% (Tryq.s (Tryz.sizeOf157 w)):=Tryq.s (Tryz.sizeOf157 w)
@[simp] theorem Tryq.runUnderlying157 (w : World) : type_of% (Tryq.r (Tryz.runUnderlying157 w)):=Tryq.r (Tryz.runUnderlying157 w)
@[simp] theorem Tryq.isAgg157 (w : World) : type_of% (Tryq.a (Tryz.isAgg157 w)):=Tryq.a (Tryz.isAgg157 w)
@[simp] theorem Tryq.runUnderlying159 (w : World) : type_of% (Tryq.r (Tryz.runUnderlying159 w)):=Tryq.r (Tryz.runUnderlying159 w)
@[simp] theorem Tryq.zeroValue159 (w : World) : type_of% (Tryq.z (Tryz.zeroValue159 w)):=Tryq.z (Tryz.zeroValue159 w)
@[simp] theorem Tryq.runUnderlying165 (w : World) : type_of% (Tryq.r (Tryz.runUnderlying165 w)):=Tryq.r (Tryz.runUnderlying165 w)
@[simp] theorem Tryq.underlying183 : type_of% (Tryq.u Tryz.underlying183):=Tryq.u Tryz.underlying183
@[simp] theorem Tryq.sizeOf190 (w : World) : type_of% (Tryq.s (Tryz.sizeOf190 w)):=Tryq.s (Tryz.sizeOf190 w)
@[simp] theorem Tryq.runUnderlying190 (w : World) : type_of% (Tryq.r (Tryz.runUnderlying190 w)):=Tryq.r (Tryz.runUnderlying190 w)
@[simp] theorem Tryq.isAgg190 (w : World) : type_of% (Tryq.a (Tryz.isAgg190 w)):=Tryq.a (Tryz.isAgg190 w)
@[simp] theorem Tryq.zeroValue190 (w : World) : type_of% (Tryq.z (Tryz.zeroValue190 w)):=Tryq.z (Tryz.zeroValue190 w)
@[simp] theorem Tryq.underlying193 : type_of% (Tryq.u Tryz.underlying193):=Tryq.u Tryz.underlying193
@[simp] theorem Tryq.sizeOf193 (w : World) : type_of% (Tryq.s (Tryz.sizeOf193 w)):=Tryq.s (Tryz.sizeOf193 w)
@[simp] theorem Tryq.isAgg193 (w : World) : type_of% (Tryq.a (Tryz.isAgg193 w)):=Tryq.a (Tryz.isAgg193 w)
@[simp] theorem Tryq.zeroValue193 (w : World) : type_of% (Tryq.z (Tryz.zeroValue193 w)):=Tryq.z (Tryz.zeroValue193 w)
@[simp] theorem Tryq.underlying199 : type_of% (Tryq.u Tryz.underlying199):=Tryq.u Tryz.underlying199
@[simp] theorem Tryq.sizeOf199 (w : World) : type_of% (Tryq.s (Tryz.sizeOf199 w)):=Tryq.s (Tryz.sizeOf199 w)
@[simp] theorem Tryq.isAgg199 (w : World) : type_of% (Tryq.a (Tryz.isAgg199 w)):=Tryq.a (Tryz.isAgg199 w)
@[simp] theorem Tryq.zeroValue199 (w : World) : type_of% (Tryq.z (Tryz.zeroValue199 w)):=Tryq.z (Tryz.zeroValue199 w)
@[simp] theorem Tryq.sizeOf210 (w : World) : type_of% (Tryq.s (Tryz.sizeOf210 w)):=Tryq.s (Tryz.sizeOf210 w)
@[simp] theorem Tryq.isAgg210 (w : World) : type_of% (Tryq.a (Tryz.isAgg210 w)):=Tryq.a (Tryz.isAgg210 w)
@[simp] theorem Tryq.underlying222 : type_of% (Tryq.u Tryz.underlying222):=Tryq.u Tryz.underlying222
@[simp] theorem Tryq.sizeOf222 (w : World) : type_of% (Tryq.s (Tryz.sizeOf222 w)):=Tryq.s (Tryz.sizeOf222 w)
@[simp] theorem Tryq.isAgg222 (w : World) : type_of% (Tryq.a (Tryz.isAgg222 w)):=Tryq.a (Tryz.isAgg222 w)
@[simp] theorem Tryq.zeroValue222 (w : World) : type_of% (Tryq.z (Tryz.zeroValue222 w)):=Tryq.z (Tryz.zeroValue222 w)
@[simp] theorem Tryq.underlying239 : type_of% (Tryq.u Tryz.underlying239):=Tryq.u Tryz.underlying239
@[simp] theorem Tryq.sizeOf239 (w : World) : type_of% (Tryq.s (Tryz.sizeOf239 w)):=Tryq.s (Tryz.sizeOf239 w)
@[simp] theorem Tryq.isAgg239 (w : World) : type_of% (Tryq.a (Tryz.isAgg239 w)):=Tryq.a (Tryz.isAgg239 w)
@[simp] theorem Tryq.zeroValue239 (w : World) : type_of% (Tryq.z (Tryz.zeroValue239 w)):=Tryq.z (Tryz.zeroValue239 w)
@[simp] theorem Tryq.underlying241 : type_of% (Tryq.u Tryz.underlying241):=Tryq.u Tryz.underlying241
@[simp] theorem Tryq.sizeOf241 (w : World) : type_of% (Tryq.s (Tryz.sizeOf241 w)):=Tryq.s (Tryz.sizeOf241 w)
@[simp] theorem Tryq.isAgg241 (w : World) : type_of% (Tryq.a (Tryz.isAgg241 w)):=Tryq.a (Tryz.isAgg241 w)
@[simp] theorem Tryq.zeroValue241 (w : World) : type_of% (Tryq.z (Tryz.zeroValue241 w)):=Tryq.z (Tryz.zeroValue241 w)
@[simp] theorem Tryq.underlying249 : type_of% (Tryq.u Tryz.underlying249):=Tryq.u Tryz.underlying249
@[simp] theorem Tryq.sizeOf249 (w : World) : type_of% (Tryq.s (Tryz.sizeOf249 w)):=Tryq.s (Tryz.sizeOf249 w)
@[simp] theorem Tryq.isAgg249 (w : World) : type_of% (Tryq.a (Tryz.isAgg249 w)):=Tryq.a (Tryz.isAgg249 w)
@[simp] theorem Tryq.zeroValue249 (w : World) : type_of% (Tryq.z (Tryz.zeroValue249 w)):=Tryq.z (Tryz.zeroValue249 w)
@[simp] theorem Tryq.underlying250 : type_of% (Tryq.u Tryz.underlying250):=Tryq.u Tryz.underlying250
@[simp] theorem Tryq.sizeOf250 (w : World) : type_of% (Tryq.s (Tryz.sizeOf250 w)):=Tryq.s (Tryz.sizeOf250 w)
@[simp] theorem Tryq.isAgg250 (w : World) : type_of% (Tryq.a (Tryz.isAgg250 w)):=Tryq.a (Tryz.isAgg250 w)
@[simp] theorem Tryq.underlying253 : type_of% (Tryq.u Tryz.underlying253):=Tryq.u Tryz.underlying253
@[simp] theorem Tryq.sizeOf253 (w : World) : type_of% (Tryq.s (Tryz.sizeOf253 w)):=Tryq.s (Tryz.sizeOf253 w)
@[simp] theorem Tryq.isAgg253 (w : World) : type_of% (Tryq.a (Tryz.isAgg253 w)):=Tryq.a (Tryz.isAgg253 w)
@[simp] theorem Tryq.zeroValue253 (w : World) : type_of% (Tryq.z (Tryz.zeroValue253 w)):=Tryq.z (Tryz.zeroValue253 w)
@[simp] theorem Tryq.underlying254 : type_of% (Tryq.u Tryz.underlying254):=Tryq.u Tryz.underlying254
@[simp] theorem Tryq.sizeOf254 (w : World) : type_of% (Tryq.s (Tryz.sizeOf254 w)):=Tryq.s (Tryz.sizeOf254 w)
@[simp] theorem Tryq.isAgg254 (w : World) : type_of% (Tryq.a (Tryz.isAgg254 w)):=Tryq.a (Tryz.isAgg254 w)
@[simp] theorem Tryq.zeroValue254 (w : World) : type_of% (Tryq.z (Tryz.zeroValue254 w)):=Tryq.z (Tryz.zeroValue254 w)
end Go.Proofs
namespace Go.Proofs.YtnapepbdohidgaaGreatDoorQ
open Go.RowKit
theorem ret_int {k : IntKind} {a b : Int} (h : a=b) : Ending.returned (.int k a)=.returned (.int k b):=by rw [h]
def cmpOf (x y : Int) : Int:=if x < y then -1 else if y < x then 1 else 0
set_option maxHeartbeats 400000 in
theorem nanB_any (x : Int) (w : World) : Calls Tryq.prog 153 #[.int .u8 x] w fun e w'=>e=.returned (.bool false)∧w'=w:=by
  go_enter Tryq.func153,Tryz.ntmps153
  go_wp2
  go_ret
  exact ⟨by simp,rfl⟩
set_option maxHeartbeats 400000 in
theorem cmpB_any (x y : Int) (w : World) : Calls Tryq.prog 135 #[.int .u8 x,.int .u8 y] w fun e w'=>e=.returned (.int .i64 (cmpOf x y))∧w'=w:=by
  go_enter Tryq.func135,Tryz.ntmps135
  go_wp2_with (go_at_call 153; refine (nanB_any _ _).mono ?_; rintro e w' ⟨rfl,rfl⟩)
  all_goals (go_ret; exact ⟨ret_int (by unfold cmpOf; (repeat' split) <;> omega),rfl⟩)
set_option maxHeartbeats 400000 in
theorem cloK_any (l : Int) (p : Option Addr) (b : Int) (w : World) : Calls Tryq.prog 134 #[.agg #[.int .u8 l,.pointer p],.int .u8 b] w fun e w'=>e=.returned (.int .i64 (cmpOf l b))∧w'=w.alloc (.cells #[.int .u8 l,.pointer p] 190):=by
  go_enter Tryq.func134,Tryz.ntmps134
  go_wp2_with (go_at_call 135; refine (cmpB_any _ _ _).mono ?_; rintro e w' ⟨rfl,rfl⟩)
  go_ret
  exact ⟨rfl,rfl⟩
end Go.Proofs.YtnapepbdohidgaaGreatDoorQ
namespace Go.Proofs.YtnapepbdohidgaaGreatDoorQ
open Go
def _root_.Go.World.on (w : World) (τ : Nat→Question→Nat) (d : Nat) : World:={ w with tape:=τ,drawn:=d }
theorem viewStore_on (p : Program) (w : World) (τ : Nat→Question→Nat) (d : Nat) (x : Addr) (u : TypeId) (a : Addr) (v : Value) (b : Bool) : (w.on τ d).viewStore p x u a v b=(w.viewStore p x u a v b).map (fun x=>(x.1.on τ d,x.2)):=by
  unfold World.viewStore
  have hs : (w.on τ d).seen p x u a b=w.seen p x u a b:=rfl
  rw [hs]
  simp only [bind,Except.bind,pure,Except.pure,Except.map]
  repeat' split
  all_goals first | rfl | simp_all
theorem farStore_on (p : Program) (w : World) (τ : Nat→Question→Nat) (d : Nat) (a : Addr) (v : Value) (b : Bool) : (w.on τ d).farStore p a v b=(w.farStore p a v b).map (fun x=>(x.1.on τ d,x.2)):=by
  unfold World.farStore
  have hh : (w.on τ d).heap=w.heap:=rfl
  rw [hh]
  cases w.heap[a.block]? with
  | none=>rfl
  | some o=>
    cases o with
    | view x u=>
      simp only
      rw [viewStore_on]
      cases w.viewStore p x u a v b <;> rfl
    | _=>rfl
theorem farStore_tape {p : Program} {w w' : World} {a : Addr} {v : Value} {b : Bool} {l : List Addr} (h : w.farStore p a v b=.ok (w',l)) : w'.tape=w.tape∧w'.drawn=w.drawn:=by
  have h1:=farStore_on p w w.tape w.drawn a v b
  have e : w.on w.tape w.drawn=w:=rfl
  rw [e,h] at h1
  simp only [Except.map,Except.ok.injEq,Prod.mk.injEq] at h1
  have:=h1.1
  constructor
  · rw [this]; rfl
  · rw [this]; rfl
def Like (w w' : World) (τ : Nat→Question→Nat) (d : Nat) : Prop:=∀ i,w.drawn+i < w'.drawn→τ (d+i)=w.tape (w.drawn+i)
theorem ask_on {α : Type} (x : Ask α) : ∀ (w : World),(w.ask x).2.tape=w.tape∧w.drawn≤(w.ask x).2.drawn∧(w.ask x).2={ w with drawn:=(w.ask x).2.drawn } ∧
    ∀ τ d,Like w (w.ask x).2 τ d→(w.on τ d).ask x=((w.ask x).1,(w.ask x).2.on τ (d+((w.ask x).2.drawn - w.drawn))):=by
  induction x with
  | done a=>intro w; exact ⟨rfl,Nat.le_refl _,rfl,fun τ d _=>by simp [World.ask]⟩
  | ask what range k ih=>
    intro w
    by_cases hf : (Question.extern what range).forced=true
    · have e : ∀ u : World,u.ask (.ask what range k)=u.ask (k 0):=fun u=>by rw [World.ask]; simp [hf]
      rw [e w]
      obtain ⟨h1,h2,h3,h4⟩:=ih 0 w
      exact ⟨h1,h2,h3,fun τ d hl=>by rw [e]; exact h4 τ d hl⟩
    · have e : ∀ u : World,u.ask (.ask what range k)=World.ask { u with drawn:=u.drawn+1 } (k ((Question.extern what range).cut (u.tape u.drawn (Question.extern what range)))):=fun u=>by rw [World.ask]; simp [hf]
      rw [e w]
      obtain ⟨h1,h2,h3,h4⟩:=ih ((Question.extern what range).cut (w.tape w.drawn (Question.extern what range))) { w with drawn:=w.drawn+1 }
      simp only at h1 h2 h3 h4
      refine ⟨h1,by omega,h3,fun τ d hl=>?_⟩
      rw [e]
      have h0 : τ d=w.tape w.drawn:=by have:=hl 0 (by omega); simpa using this
      have e2 : (w.on τ d).tape (w.on τ d).drawn=w.tape w.drawn:=h0
      rw [e2]
      have e3 : ({ w.on τ d with drawn:=(w.on τ d).drawn+1 } : World)=({ w with drawn:=w.drawn+1 } : World).on τ (d+1):=rfl
      rw [e3,h4 τ (d+1) (fun i hi=>by
        have:=hl (i+1) (by simp only at hi; omega)
        rw [show d+1+i=d+(i+1) by omega,show w.drawn+1+i=w.drawn+(i+1) by omega]
        exact this)]
      congr 2
      omega
def _root_.Go.Result.w {α : Type} : Result α→World
  | .ok _ w=>w
  | .halt _ w=>w
def _root_.Go.Result.on {α : Type} (τ : Nat→Question→Nat) (d n : Nat) : Result α→Result α
  | .ok a w=>.ok a (w.on τ (d+(w.drawn - n)))
  | .halt h w=>.halt h (w.on τ (d+(w.drawn - n)))
def Mir {α : Type} (p : Program) (s : Sem α) (w : World) (es : Array Event) : Prop:=
  (s.runT p w es).1.w.tape=w.tape∧w.drawn≤(s.runT p w es).1.w.drawn∧∀ τ d,Like w (s.runT p w es).1.w τ d→s.runT p (w.on τ d) es=((s.runT p w es).1.on τ d w.drawn,(s.runT p w es).2)
theorem mir_end {α : Type} (p : Program) (s : Sem α) (w : World) (es : Array Event) (r : World→Result α) (hr : ∀ u,(r u).w=u) (hon : ∀ u τ d n,(r u).on τ d n=r (u.on τ (d+(u.drawn - n)))) (h : ∀ τ d,s.runT p (w.on τ d) es=(r (w.on τ d),es)) : Mir p s w es:=by
  have h0 : s.runT p w es=(r w,es):=h w.tape w.drawn
  refine ⟨?_,?_,fun τ d _=>?_⟩
  · rw [h0,hr]
  · rw [h0,hr]; exact Nat.le_refl _
  · rw [h0,hon,h τ d]; simp
theorem mir_go {α : Type} (p : Program) (s s' : Sem α) (w w' : World) (es es' : Array Event) (h : s.runT p w es=s'.runT p w' es') (ht : w'.tape=w.tape) (hd : w'.drawn=w.drawn) (hs : ∀ τ d,s.runT p (w.on τ d) es=s'.runT p (w'.on τ d) es') (hm : Mir p s' w' es') : Mir p s w es:=by
  obtain ⟨h1,h2,h3⟩:=hm
  refine ⟨?_,?_,fun τ d hl=>?_⟩
  · rw [h,h1,ht]
  · rw [h,←hd]; exact h2
  · rw [hs,h]
    rw [h] at hl
    rw [h3 τ d (fun i hi=>by have:=hl i (by rw [←hd]; exact hi); rw [ht,hd]; exact this),hd]
theorem freeze_on (w : World) (τ : Nat→Question→Nat) (d : Nat) (a : Addr) (n : Nat) : (w.on τ d).freeze a n=(w.freeze a n).on τ d:=by
  unfold World.freeze
  have hh : (w.on τ d).heap=w.heap:=rfl
  rw [hh]
  split <;> rfl
theorem freeze_tape (w : World) (a : Addr) (n : Nat) : (w.freeze a n).tape=w.tape∧(w.freeze a n).drawn=w.drawn:=by
  unfold World.freeze
  split <;> exact ⟨rfl,rfl⟩
def isOne : Value→Bool
  | .agg _=>false
  | .tuple _=>false
  | _=>true
end Go.Proofs.YtnapepbdohidgaaGreatDoorQ
