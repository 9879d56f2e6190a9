/- A part. -/
import Derived.Test.YtnapepbdohidgaaGreatDoorRows
import Derived.WalkKit
import Derived.WalkSpells
import Derived.WalkLawsBesides
import Derived.Calls
import Derived.RangeFuncRecord
set_option maxHeartbeats 4000000
set_option maxRecDepth 100000
open Go renaming World->Wj,Value->Wx,Program->Wv,TypeId->Ww,Addr->Wu
namespace Go.Proofs
section
open Go Go.RowKit
theorem eS {α:Type _} {i:Nat} {b:α} {xs:Array α} (h:xs[i]?=some b):∃h,xs[i]=b:=Array.getElem?_eq_some_iff.mp h
theorem eG {α:Type _} {xs:Array α} {i:Nat} (h:i<xs.size):xs[i]?=some xs[i]:=@Array.getElem?_eq_getElem _ xs i h
theorem sN {α:Type _} {xs:Array α} {i j:Nat} (h:i≠j) {a:α}:(xs.setIfInBounds i a)[j]?=xs[j]?:=@Array.getElem?_setIfInBounds_ne _ xs i j h a
theorem cB {w w':Wj} {a:Wu} (h:w'.heap[a.block]?=w.heap[a.block]?):w'.cell? a=w.cell? a:=@World.cell?_of_block w w' a h
theorem oI {α:Type _} (a b:α):(some a=some b)=(a=b):=@Option.some.injEq _ a b
theorem gZ {α:Type _} {a:α} {l:List α}:(a::l)[0]?=some a:=rfl
theorem gS {α:Type _} {a:α} {i:Nat} {l:List α}:(a::l)[i+1]?=l[i]?:=rfl
theorem gA {α:Type _} {xs:List α} {i:Nat}:xs.toArray[i]?=xs[i]?:=@List.getElem?_toArray _ xs i
theorem lR (n:Nat):n<=n:=@Nat.le_refl n
theorem zA (n:Nat):0+n=n:=@Nat.zero_add n
theorem cO:type_of% @World.cell?_setCell_other:=@World.cell?_setCell_other
theorem cS:type_of% @World.cell?_setCell_same':=@World.cell?_setCell_same'
theorem cA:type_of% @World.cell?_alloc_at:=@World.cell?_alloc_at
theorem aN:type_of% @World.alloc_heap_new:=@World.alloc_heap_new
theorem bC:type_of% @World.block_lt_of_cell?:=@World.block_lt_of_cell?
theorem fB:type_of% @World.frozen?_of_block:=@World.frozen?_of_block
theorem pO:type_of% @World.putObj_heap_other:=@World.putObj_heap_other
theorem lL:type_of% @Nat.lt_of_lt_of_le:=@Nat.lt_of_lt_of_le
theorem lT:type_of% @Nat.le_trans:=@Nat.le_trans
theorem bT:type_of% @Bool.and_eq_true:=@Bool.and_eq_true
theorem bS:type_of% @Below.heap_setCell:=@Below.heap_setCell
theorem bA:type_of% @Below.heap_alloc:=@Below.heap_alloc
theorem bR:type_of% @Below.refl:=@Below.refl
theorem lP {α:Type}:type_of% (@List.length_append α):=@List.length_append α
theorem lC {α:Type}:type_of% (@List.length_cons α):=@List.length_cons α
theorem lN {α:Type}:type_of% (@List.length_nil α):=@List.length_nil α
theorem tL {α:Type}:type_of% (@List.length_take α):=@List.length_take α
theorem eL {α:Type}:type_of% (@List.getElem?_eq_getElem α):=@List.getElem?_eq_getElem α
theorem gD {α:Type}:type_of% (@Array.getD_eq_getD_getElem? α):=@Array.getD_eq_getD_getElem? α
theorem sS {α:Type}:type_of% (@Array.getElem?_setIfInBounds_self_of_lt α):=@Array.getElem?_setIfInBounds_self_of_lt α
theorem lM {α:Type}:type_of% (@List.length_map α):=@List.length_map α
theorem tS {α:Type}:type_of% (@List.take_succ_eq_append_getElem α):=@List.take_succ_eq_append_getElem α
theorem aR {α:Type}:type_of% (@List.getElem?_append_right α):=@List.getElem?_append_right α
theorem aL {α:Type}:type_of% (@List.getElem?_append_left α):=@List.getElem?_append_left α
theorem gP {α:Type}:type_of% (@Array.getElem?_push α):=@Array.getElem?_push α
theorem lD {α:Type}:type_of% (@List.length_drop α):=@List.length_drop α
theorem oJ {α:Type}:type_of% (@Option.some.inj α):=@Option.some.inj α
theorem lY {α:Type}:type_of% (@Array.length_toList α):=@Array.length_toList α
theorem lZ {α:Type}:type_of% (@List.size_toArray α):=@List.size_toArray α
theorem tO {α:Type}:type_of% (@List.take_of_length_le α):=@List.take_of_length_le α
theorem lS {α:Type}:type_of% (@List.length_singleton α):=@List.length_singleton α
theorem pA {α:Type}:type_of% (@List.append_assoc α):=@List.append_assoc α
theorem gM {α:Type}:type_of% (@List.getElem_of_mem α):=@List.getElem_of_mem α
theorem gT {α:Type}:type_of% (@Array.getElem?_toList α):=@Array.getElem?_toList α
end
end Go.Proofs
namespace Go.Proofs
section
open Go
noncomputable section
def Sw.prog (P:Wv)(p q:FuncId)(a b:Func):Wv:=⟨P.toTables,(P.funcs.setIfInBounds p a).setIfInBounds q b⟩
section
variable {P:Wv} {p q:FuncId} {a b:Func}
theorem Sw.ne {i:Nat}{x:Option Func}(h1:p≠i)(h2:q≠i)(h:P.funcs[i]?=x):(Sw.prog P p q a b).funcs[i]?=x:=by
 unfold Sw.prog;rw [sN h2,sN h1];exact h
theorem Sw.at_p {f:Func}(hn:q≠p)(h:P.funcs[p]?=some f):(Sw.prog P p q a b).funcs[p]?=some a:=by
 unfold Sw.prog;rw [sN hn,sS (eS h).1]
theorem Sw.at_q {f:Func}(h:P.funcs[q]?=some f):(Sw.prog P p q a b).funcs[q]?=some b:=by
 unfold Sw.prog;rw [sS (by rw [Array.size_setIfInBounds];exact (eS h).1)]
theorem Sw.run_call {Q : Wv} {i : Nat} {fn : Func} (h : Q.funcs[i]? = some fn) (hn : (fn.name == "runtime.NumGoroutine") = false) (hb : fn.body.isNone = false) (args : Array Wx) (w : Wj) : Sem.run Q (callFunc i args) w = .ok (.enter i args) w := by
 show Sem.run Q (match Q.funcs[i]? with|none=>_|some fn=>_) w=_;rw [h];simp only [hn,hb];rfl
theorem Sw.tables:(Sw.prog P p q a b).toTables=P.toTables:=rfl
theorem Sw.und (t:Ww):(Sw.prog P p q a b).underlying t=P.underlying t:=rfl
theorem Sw.depth:(Sw.prog P p q a b).depth=P.depth:=rfl
theorem Sw.guard (d:Nat)(t:Ww):(Sw.prog P p q a b).eqGuardType d t=P.eqGuardType d t:=by
 induction d generalizing t with
 |zero=>rfl
 |succ d ih=>unfold Program.eqGuardType;simp only [Sw.und,ih]
theorem Sw.typeInfo_eq (Q : Wv) (i : Ww) (w : Wj) : Sem.run Q (typeInfo i) w = (match Q.info? i with | some x => .ok x w | none => .halt (.stuck "no such type") w) := by
 show Sem.run Q (match Q.info? i with | some x => pure x | none => stuck "no such type") w = _
 cases Q.info? i<;>rfl
theorem Sw.underlying_eq (Q : Wv) (i : Ww) (w : Wj) : Sem.run Q (underlying i) w = (match Q.underlying i with | some x => .ok x w | none => .halt (.stuck "no such type") w) := by
 show Sem.run Q (match Q.underlying i with | some x => pure x | none => stuck "no such type") w = _
 cases Q.underlying i<;>rfl
theorem Sw.run_typeInfo (i:Ww)(w:Wj):Sem.run (Sw.prog P p q a b) (typeInfo i) w=Sem.run P (typeInfo i) w:=by
 rw [Sw.typeInfo_eq,Sw.typeInfo_eq];rfl
theorem Sw.run_underlying (i:Ww)(w:Wj):Sem.run (Sw.prog P p q a b) (underlying i) w=Sem.run P (underlying i) w:=by
 rw [Sw.underlying_eq,Sw.underlying_eq];rfl
theorem Sw.run_sizeOf (i:Ww)(w:Wj):Sem.run (Sw.prog P p q a b) (sizeOf i) w=Sem.run P (sizeOf i) w:=by
 have h : ∀ Q : Wv, Sem.run Q (sizeOf i) w = (match Q.info? i with | some x => .ok x.size w | none => .halt (.stuck "no such type") w) := fun Q => by
  show Sem.run Q (Sem.bind (match Q.info? i with | some x => pure x | none => stuck "no such type") fun x => pure x.size) w = _
  cases Q.info? i<;>rfl
 rw [h,h];rfl
theorem Sw.run_zeroValue (i:Ww)(w:Wj):Sem.run (Sw.prog P p q a b) (zeroValue i) w=Sem.run P (zeroValue i) w:=by
 have h : ∀ Q : Wv, Sem.run Q (zeroValue i) w = (match Q.info? i with | some x => (match x.zero with | some v => .ok v w | none => .halt (.unsupported (.resourceLimit "a value of more than 2^22 cells")) w) | none => .halt (.stuck "no such type") w) := fun Q => by
  show Sem.run Q (Sem.bind (match Q.info? i with | some x => pure x | none => stuck "no such type") fun x => match x.zero with | some v => pure v | none => unsupported (.resourceLimit "a value of more than 2^22 cells")) w = _
  cases Q.info? i with
  |none=>rfl
  |some x=>
   show Sem.run Q (match x.zero with | some v => pure v | none => unsupported (.resourceLimit "a value of more than 2^22 cells")) w = _
   dsimp only;cases x.zero<;>rfl
 rw [h,h];rfl
theorem Sw.run_isAgg (i:Ww)(w:Wj):Sem.run (Sw.prog P p q a b) (isAgg i) w=Sem.run P (isAgg i) w:=by
 have h : ∀ Q : Wv, Sem.run Q (isAgg i) w = (match Q.underlying i with | some (.struct _) => .ok true w | some (.array _ _) => .ok true w | some _ => .ok false w | none => .halt (.stuck "no such type") w) := fun Q => by
  show Sem.run Q (Sem.bind (match Q.underlying i with | some x => pure x | none => stuck "no such type") fun x => match x with | .struct _ | .array _ _ => pure true | _ => pure false) w = _
  cases Q.underlying i with
  |none=>rfl
  |some x=>cases x<;>rfl
 rw [h,h];rfl
end
def Yq.stopOps : Array Oper := #[{ dst := some 10, op := .makeFunc (.func 69) #[.tmp 0, .tmp 1] #[], type := 0, pos := "", after := #[], guard := none }, { dst := some 11, op := .makeInterface 3 (.tmp 10), type := 0, pos := "", after := #[], guard := none }, { dst := none, op := .panic (.tmp 11), type := 0, pos := "", after := #[], guard := none }]
def Yq.drawOps : Array Oper := #[{ dst := some 9, op := .move (.const (.bool false)), type := 4, pos := "", after := #[], guard := none }, { dst := some 9, op := .move (.const (.bool true)), type := 4, pos := "", after := #[], guard := none }]
def Yq.backOps : Array Oper := #[{ dst := some 9, op := .move (.const undef), type := 4, pos := "", after := #[], guard := none }]
def Yq.magic:Code:=.seq (.region 100 Yq.drawOps true) (.seq (.cond (.tmp 9) (.region 101 Yq.stopOps false) .skip) (.region 102 Yq.backOps false))
noncomputable abbrev Yq.b69:Code:=Tryz.f69.body.getD .skip
noncomputable abbrev Yq.f69:Func:={Tryz.f69 with body:=some (.seq Yq.magic Yq.b69)}
def Yq.itemsOps0 : Array Oper := #[{ dst := some 2, op := .box 93 (.tmp 0), type := 0, pos := "", after := #[], guard := none }, { dst := some 3, op := .box 56 (.tmp 1), type := 0, pos := "", after := #[], guard := none }, { dst := some 4, op := .assign (.const (.chan none)), type := 165, pos := "", after := #[], guard := none }]
def Yq.itemsOps1 : Array Oper := #[{ dst := some 6, op := .makeChan 193 (.const (.int .i64 1000)), type := 193, pos := "", after := #[], guard := none }, { dst := some 5, op := .alloc 193, type := 0, pos := "", after := #[], guard := none }, { dst := none, op := .store 193 (.tmp 5) (.tmp 6), type := 0, pos := "", after := #[], guard := none }]
def Yq.itemsOps2 : Array Oper := #[{ dst := some 7, op := .makeFunc (.func 119) #[] #[.tmp 5, .tmp 2, .tmp 3], type := 1, pos := "", after := #[], guard := none }, { dst := none, op := .call { callee := .value (.tmp 7), args := #[], argTypes := #[] }, type := 0, pos := "", after := #[], guard := none }, { dst := some 7, op := .move (.const undef), type := 0, pos := "", after := #[], guard := none }]
def Yq.itemsOps3 : Array Oper := #[{ dst := some 8, op := .load 193 (.tmp 5), type := 193, pos := "items.go:26", after := #[], guard := none }, { dst := some 4, op := .assign (.tmp 8), type := 165, pos := "items.go:26", after := #[{ on := 0, ground := .data }, { on := 0, ground := .phase }], guard := none }]
def Yq.b97:Code:=.seq (.region 0 Yq.itemsOps0 false) (.seq (.region 1 Yq.itemsOps1 false) (.seq (.region 2 Yq.itemsOps2 false) (.seq (.region 3 Yq.itemsOps3 false) .ret)))
noncomputable abbrev Yq.f97:Func:={Tryz.f97 with body:=some Yq.b97}
noncomputable def Yq.prog:Wv:=Sw.prog Tryz.prog 69 97 Yq.f69 Yq.f97
@[simp] theorem Yq.func69:Yq.prog.funcs[69]?=some Yq.f69:=Sw.at_p (by decide) Tryz.func69
@[simp] theorem Yq.func97:Yq.prog.funcs[97]?=some Yq.f97:=Sw.at_q Tryz.func97
theorem Yq.nq {i:Nat} {x:Option Func} (h:Tryz.prog.funcs[i]?=x) (h1:69≠i:=by decide) (h2:97≠i:=by decide):Yq.prog.funcs[i]?=x:=Sw.ne h1 h2 h
@[simp] theorem Yq.fns (i:Nat) (h1:69≠i) (h2:97≠i):Yq.prog.funcs[i]?=Tryz.prog.funcs[i]?:=Sw.ne h1 h2 rfl
def Sw.good (Q:Wv)(i:Nat):Bool:=match Q.funcs[i]? with
 | some fn => !(fn.name == "runtime.NumGoroutine") && !fn.body.isNone
 |none=>false
theorem Sw.run_good {Q:Wv}{i:Nat}(h:Sw.good Q i=true)(args:Array Wx)(w:Wj):Sem.run Q (callFunc i args) w=.ok (.enter i args) w:=by
 unfold Sw.good at h;cases hf:Q.funcs[i]? with
 |none=>rw [hf] at h;cases h
 |some fn=>
  rw [hf] at h;simp only [bT,Bool.not_eq_true'] at h;exact Sw.run_call hf h.1 h.2 args w
theorem Sw.all_good:(List.range 206).all (fun i=>[0,1,136,173,180,184,185,186,187,188,189,190,191,192,193,194,195,196,197,198,199,200,201,202,203,204].contains i||Sw.good Tryz.prog i)=true:=by kernel_rfl
@[simp] theorem Yq.calls (i:Nat) (args:Array Wx) (w:Wj) (h:i<206) (h1:¬i∈[0,1,136,173,180,184,185,186,187,188,189,190,191,192,193,194,195,196,197,198,199,200,201,202,203,204]):Sem.run Yq.prog (callFunc i args) w=.ok (.enter i args) w:=by
 by_cases e1:69=i
 .subst e1;exact Sw.run_call Yq.func69 rfl rfl args w
 by_cases e2:97=i
 .subst e2;exact Sw.run_call Yq.func97 rfl rfl args w
 refine Sw.run_good ?_ args w;have h2:=List.all_eq_true.1 Sw.all_good i (List.mem_range.2 h);unfold Sw.good at h2 ⊢;rw [Yq.fns i e1 e2];simpa [h1] using h2
theorem Yq.tables:Yq.prog.toTables=Tryz.prog.toTables:=Sw.tables
@[simp] theorem Yq.und_eq (t:Ww):Yq.prog.underlying t=Tryz.prog.underlying t:=Sw.und t
theorem Yq.u {t:Ww}{d:Option TypeDesc}(h:Tryz.prog.underlying t=d):Yq.prog.underlying t=d:=(Yq.und_eq t).trans h
theorem Yq.g {t:Ww}{d:Bool}(h:Tryz.prog.eqGuardType Tryz.prog.depth t=d):Yq.prog.eqGuardType Yq.prog.depth t=d:=by
 have e:Yq.prog.depth=Tryz.prog.depth:=Sw.depth;have e2:Yq.prog.eqGuardType Tryz.prog.depth t=Tryz.prog.eqGuardType Tryz.prog.depth t:=Sw.guard _ t;rw [e,e2];exact h
theorem Yq.s {t:Ww}{w:Wj}{r:Result Nat}(h:Sem.run Tryz.prog (sizeOf t) w=r):Sem.run Yq.prog (sizeOf t) w=r:=(Sw.run_sizeOf t w).trans h
theorem Yq.a {t:Ww}{w:Wj}{r:Result Bool}(h:Sem.run Tryz.prog (isAgg t) w=r):Sem.run Yq.prog (isAgg t) w=r:=(Sw.run_isAgg t w).trans h
theorem Yq.z {t:Ww}{w:Wj}{r:Result Wx}(h:Sem.run Tryz.prog (zeroValue t) w=r):Sem.run Yq.prog (zeroValue t) w=r:=(Sw.run_zeroValue t w).trans h
@[simp] theorem Yq.rS (t:Ww) (w:Wj):Sem.run Yq.prog (sizeOf t) w=Sem.run Tryz.prog (sizeOf t) w:=Sw.run_sizeOf t w
@[simp] theorem Yq.rI (t:Ww) (w:Wj):Sem.run Yq.prog (typeInfo t) w=Sem.run Tryz.prog (typeInfo t) w:=Sw.run_typeInfo t w
@[simp] theorem Yq.rU (t:Ww) (w:Wj):Sem.run Yq.prog (underlying t) w=Sem.run Tryz.prog (underlying t) w:=Sw.run_underlying t w
@[simp] theorem Yq.rA (t:Ww) (w:Wj):Sem.run Yq.prog (isAgg t) w=Sem.run Tryz.prog (isAgg t) w:=Sw.run_isAgg t w
@[simp] theorem Yq.rZ (t:Ww) (w:Wj):Sem.run Yq.prog (zeroValue t) w=Sem.run Tryz.prog (zeroValue t) w:=Sw.run_zeroValue t w
@[simp] theorem Yq.rG (t:Ww):Yq.prog.eqGuardType Yq.prog.depth t=Tryz.prog.eqGuardType Tryz.prog.depth t:=Yq.g rfl
@[simp] theorem Yq.rt_eq:Yq.prog.rt=Tryz.prog.rt:=by rw [Yq.tables]
@[simp] theorem Yq.globals_size:Yq.prog.globals.size=Tryz.prog.globals.size:=by rw [Yq.tables]
end
end
end Go.Proofs
namespace Go.Proofs.Qw
section
open Go.RowKit
theorem pq {k:IntKind}{a b:Int}(h:a=b):Ending.returned (.int k a)=.returned (.int k b):=by rw [h]
def mb (x y:Int):Int:=if x<y then -1 else if y<x then 1 else 0
theorem BV (x:Int)(w:Wj):Calls Yq.prog 153 #[.int .u8 x] w fun e w'=>e=.returned (.bool false)/\w'=w:=by
 go_enter (Yq.nq Tryz.func153),Tryz.ntmps153;go_wp2;go_ret;exact ⟨by simp,rfl⟩
theorem BW (x:Int)(w:Wj):Calls Yq.prog 126 #[.int .i64 x] w fun e w'=>e=.returned (.bool false)/\w'=w:=by
 go_enter (Yq.nq Tryz.func126),Tryz.ntmps126;go_wp2;go_ret;exact ⟨by simp,rfl⟩
theorem BX (x y:Int)(w:Wj):Calls Yq.prog 135 #[.int .u8 x,.int .u8 y] w fun e w'=>e=.returned (.int .i64 (mb x y))/\w'=w:=by
 go_enter (Yq.nq Tryz.func135),Tryz.ntmps135;go_wp2_with (go_at_call 153;refine (BV _ _).mono ?_;rintro e w' ⟨rfl,rfl⟩)
 all_goals (go_ret;exact ⟨pq (by unfold mb;(repeat' split)<;>omega),rfl⟩)
theorem BY (x y:Int)(w:Wj):Calls Yq.prog 104 #[.int .i64 x,.int .i64 y] w fun e w'=>e=.returned (.int .i64 (mb x y))/\w'=w:=by
 go_enter (Yq.nq Tryz.func104),Tryz.ntmps104;go_wp2_with (go_at_call 126;refine (BW _ _).mono ?_;rintro e w' ⟨rfl,rfl⟩)
 all_goals (go_ret;exact ⟨pq (by unfold mb;(repeat' split)<;>omega),rfl⟩)
theorem pu (l:Int)(p:Option Wu)(b:Int)(w:Wj):Calls Yq.prog 134 #[.agg #[.int .u8 l,.pointer p],.int .u8 b] w fun e w'=>e=.returned (.int .i64 (mb l b))/\w'=w.alloc (.cells #[.int .u8 l,.pointer p] 190):=by
 go_enter (Yq.nq Tryz.func134),Tryz.ntmps134;go_wp2_with (go_at_call 135;refine (BX _ _ _).mono ?_;rintro e w' ⟨rfl,rfl⟩)
 go_ret;exact ⟨rfl,rfl⟩
theorem pv (n:Int)(s:ByteArray)(m:Bool)(b:Int)(w:Wj):Calls Yq.prog 113 #[.agg #[.int .i64 n,.string s,.bool m],.int .i64 b] w fun e w'=>e=.returned (.int .i64 (mb n b))/\w'=w.alloc (.cells #[.int .i64 n,.string s,.bool m] 81):=by
 go_enter (Yq.nq Tryz.func113),Tryz.ntmps113;go_wp2_with (go_at_call 104;refine (BY _ _ _).mono ?_;rintro e w' ⟨rfl,rfl⟩)
 go_ret;exact ⟨rfl,rfl⟩
end
def _root_.Go.World.on (w:Wj)(τ:Nat->Question->Nat)(d:Nat):Wj:={w with tape:=τ,drawn:=d}
theorem qI (p:Wv)(w:Wj)(τ:Nat->Question->Nat)(d:Nat)(x:Wu)(u:Ww)(a:Wu)(v:Wx)(b:Bool):(w.on τ d).viewStore p x u a v b=(w.viewStore p x u a v b).map (fun x=>(x.1.on τ d,x.2)):=by
 unfold World.viewStore;have hs:(w.on τ d).seen p x u a b=w.seen p x u a b:=rfl;rw [hs];simp only [bind,Except.bind,pure,Except.pure,Except.map]
 repeat' split
 all_goals first|rfl|simp_all
theorem tB (p:Wv)(w:Wj)(τ:Nat->Question->Nat)(d:Nat)(a:Wu)(v:Wx)(b:Bool):(w.on τ d).farStore p a v b=(w.farStore p a v b).map (fun x=>(x.1.on τ d,x.2)):=by
 unfold World.farStore;have c:(w.on τ d).heap=w.heap:=rfl;rw [c];cases w.heap[a.block]? with
 |none=>rfl
 |some o=>
  cases o with
  |view x u=>
   simp only;rw [qI];cases w.viewStore p x u a v b<;>rfl
  |_=>rfl
theorem px {p:Wv}{w w':Wj}{a:Wu}{v:Wx}{b:Bool}{l:List Wu}(h:w.farStore p a v b=.ok (w',l)):w'.tape=w.tape/\w'.drawn=w.drawn:=by
 have h1:=tB p w w.tape w.drawn a v b;have e:w.on w.tape w.drawn=w:=rfl;rw [e,h] at h1;simp only [Except.map,Except.ok.injEq,Prod.mk.injEq] at h1;have:=h1.1;constructor
 .rw [this];rfl
 .rw [this];rfl
def Like (w w':Wj)(τ:Nat->Question->Nat)(d:Nat):Prop:=∀i,w.drawn+i<w'.drawn->τ (d+i)=w.tape (w.drawn+i)
theorem F0 {α:Type}(x:Ask α):∀ (w:Wj),(w.ask x).2.tape=w.tape/\w.drawn<=(w.ask x).2.drawn/\(w.ask x).2={w with drawn:=(w.ask x).2.drawn} /\
  ∀τ d,Like w (w.ask x).2 τ d->(w.on τ d).ask x=((w.ask x).1,(w.ask x).2.on τ (d+((w.ask x).2.drawn-w.drawn))):=by
 induction x with
 |done a=>intro w;exact ⟨rfl,lR _,rfl,fun τ d _=>by simp [World.ask]⟩
 |ask c b k ih=>
  intro w;by_cases hf:(Question.extern c b).forced=true
  .have e:∀u:Wj,u.ask (.ask c b k)=u.ask (k 0):=fun u=>by rw [World.ask];simp [hf]
   rw [e w];obtain ⟨h1,h2,h3,h4⟩:=ih 0 w;exact ⟨h1,h2,h3,fun τ d hl=>by rw [e];exact h4 τ d hl⟩
  .have e:∀u:Wj,u.ask (.ask c b k)=World.ask {u with drawn:=u.drawn+1} (k ((Question.extern c b).cut (u.tape u.drawn (Question.extern c b)))):=fun u=>by rw [World.ask];simp [hf]
   rw [e w];obtain ⟨h1,h2,h3,h4⟩:=ih ((Question.extern c b).cut (w.tape w.drawn (Question.extern c b))) {w with drawn:=w.drawn+1};simp only at h1 h2 h3 h4;refine ⟨h1,by omega,h3,fun τ d hl=>?_⟩;rw [e];have h0:τ d=w.tape w.drawn:=by have:=hl 0 (by omega);simpa using this
   have e2:(w.on τ d).tape (w.on τ d).drawn=w.tape w.drawn:=h0;rw [e2];have e3:({w.on τ d with drawn:=(w.on τ d).drawn+1}:Wj)=({w with drawn:=w.drawn+1}:Wj).on τ (d+1):=rfl;rw [e3,h4 τ (d+1) (fun i f=>by
    have:=hl (i+1) (by simp only at f;omega);rw [show d+1+i=d+(i+1) by omega,show w.drawn+1+i=w.drawn+(i+1) by omega];exact this)]
   congr 2;omega
def _root_.Go.Result.w {α:Type}:Result α->Wj
 | .ok _ w=>w
 | .halt _ w=>w
def _root_.Go.Result.on {α:Type}(τ:Nat->Question->Nat)(d n:Nat):Result α->Result α
 | .ok a w=>.ok a (w.on τ (d+(w.drawn-n)))
 | .halt h w=>.halt h (w.on τ (d+(w.drawn-n)))
def Mir {α:Type}(p:Wv)(s:Sem α)(w:Wj)(es:Array Event):Prop:=
 (s.runT p w es).1.w.tape=w.tape/\w.drawn<=(s.runT p w es).1.w.drawn/\∀τ d,Like w (s.runT p w es).1.w τ d->s.runT p (w.on τ d) es=((s.runT p w es).1.on τ d w.drawn,(s.runT p w es).2)
theorem gU {α:Type}(p:Wv)(s:Sem α)(w:Wj)(es:Array Event)(r:Wj->Result α)(hr:∀u,(r u).w=u)(a:∀u τ d n,(r u).on τ d n=r (u.on τ (d+(u.drawn-n))))(h:∀τ d,s.runT p (w.on τ d) es=(r (w.on τ d),es)):Mir p s w es:=by
 have h0:s.runT p w es=(r w,es):=h w.tape w.drawn;refine ⟨?_,?_,fun τ d _=>?_⟩
 .rw [h0,hr]
 .rw [h0,hr];exact lR _
 .rw [h0,a,h τ d];simp
theorem gF {α:Type}(p:Wv)(s s':Sem α)(w w':Wj)(es es':Array Event)(h:s.runT p w es=s'.runT p w' es')(ht:w'.tape=w.tape)(hd:w'.drawn=w.drawn)(hs:∀τ d,s.runT p (w.on τ d) es=s'.runT p (w'.on τ d) es')(hm:Mir p s' w' es'):Mir p s w es:=by
 obtain ⟨h1,h2,h3⟩:=hm;refine ⟨?_,?_,fun τ d hl=>?_⟩
 .rw [h,h1,ht]
 .rw [h,<-hd];exact h2
 .rw [hs,h];rw [h] at hl;rw [h3 τ d (fun i a=>by have:=hl i (by rw [<-hd];exact a);rw [ht,hd];exact this),hd]
theorem yW (w:Wj)(τ:Nat->Question->Nat)(d:Nat)(a:Wu)(n:Nat):(w.on τ d).freeze a n=(w.freeze a n).on τ d:=by
 unfold World.freeze;have b:(w.on τ d).heap=w.heap:=rfl;rw [b];split<;>rfl
theorem cy (w:Wj)(a:Wu)(n:Nat):(w.freeze a n).tape=w.tape/\(w.freeze a n).drawn=w.drawn:=by
 unfold World.freeze;split<;>exact ⟨rfl,rfl⟩
def gV:Wx->Bool
 | .agg _=>false
 | .tuple _=>false
 |_=>true
def okB:Builtin->Bool
 | .append| .cap| .clear| .copy| .len| .min=>true
 |_=>false
def Er (P:Wv)(b:Builtin)(a:Array Ww):Bool:=
 match b with
 | .len| .cap=>match a[0]? with
  |some t=>match P.underlying t with
   |some (.chan _ _)=>false
   |_=>true
  |none=>true
 |_=>true
def mc:Wx->Bool
 | .bool _| .int _ _| .string _| .pointer none| .slice none _ _| .map none| .chan none| .nilFunc| .nilIface=>true
 |_=>false
def mP:Wx->Bool
 | .agg c=>c.all mc
 | .tuple c=>c.all mc
 | .iface _ v=>mc v
 |v=>mc v
def BR:Wx->Bool
 | .pointer none| .slice none _ _| .map none| .chan none| .nilFunc| .nilIface=>true
 |_=>false
def Es:Operand->Bool
 | .const v=>BR v
 |_=>false
def okX (P:Wv)(F:FuncId->Bool):Operand->Bool
 | .const v=>mP v
 | .global g=>decide (g<P.globals.size)
 | .func f=>F f
 |_=>true
def lm:FuncId:=1000000
def FX:FuncId:=1000001
def fK:FuncId:=1000002
def lp:FuncId:=1000003
def BZ (F:FuncId->Bool)(b:Builtin):Bool:=okB b||(match b with| .unsafeString=>F lm| .close=>F fK|_=>false)
def Mk (F:FuncId->Bool)(f:FuncId):Bool:=F (2000000+f)
def jy (P:Wv)(F:FuncId->Bool)(c:Call):Bool:=
 (match c.callee with| .builtin b=>BZ F b&&Er P b c.argTypes| .value f=>okX P F f| .invoke _ _=>false)&&c.args.all (okX P F)
def j9 (P:Wv)(F:FuncId->Bool)(c:Call):Bool:=
 jy P F c||(match c.callee with| .value (.func f)=>Mk F f&&c.args.size==2|_=>false)&&c.args.all (okX P F)
theorem wI {P:Wv}{F:FuncId->Bool}{c:Call}(h:j9 P F c=true):jy P F c=true\/∃f,c.callee=.value (.func f)/\Mk F f=true/\c.args.all (okX P F)=true/\c.args.size=2:=by
 unfold j9 at h;rw [Bool.or_eq_true,bT] at h;rcases h with h|⟨h1,h2⟩
 .exact .inl h
 .split at h1
  .rename_i f hf;rw [bT,beq_iff_eq] at h1;exact .inr ⟨f,hf,h1.1,h2,h1.2⟩
  .cases h1
def yX (P:Wv)(a b:Ww):Bool:=
 match P.underlying a,P.underlying b with
 |some (.int _),some (.int _)=>true
 |some .string,some .string=>true
 |some .string,some (.slice _)=>true
 |some (.slice _),some .string=>true
 |_,_=>false
def gG:Option TypeDesc->Bool
 |some .bool|some .string|some (.int _)=>true
 |_=>false
def tC (P:Wv):Nat->Ww->Bool
 | 0,_=>false
 |n+1,t=>match P.underlying t with
  |some .bool|some .string|some (.int _)=>true
  |some (.struct fs)=>fs.all (fun f=>tC P n f.type)
  |_=>false
def wJ (P:Wv)(t:Ww):Bool:=
 match P.underlying t with
 |some (.map k _)=>match P.underlying k with
  |some .string=>true
  |_=>false
 |_=>false
def Hd (P:Wv)(a:BinOp)(t:Ww)(x y:Operand):Bool:=
 match a with
 | .eql| .neq=>gG (P.underlying t)||Es x||Es y||tC P 6 t
 |_=>true
def fH (P:Wv)(F:FuncId->Bool):Op->Bool
 | .move x| .assign x| .box _ x| .load _ x| .nilCheck x| .unOp _ _ x| .makeInterface _ x| .fieldAddr _ x _| .field _ x _| .extract x _=>okX P F x
 | .recv _ x _=>F FX&&okX P F x
 | .makeChan _ x=>F lp&&okX P F x
 | .send a x=>F fK&&okX P F a&&okX P F x
 | .alloc _=>true
 | .pick c a b=>okX P F c&&okX P F a&&okX P F b
 | .build _ ps| .buildSlice _ _ ps=>ps.all (fun p=>okX P F p.2)
 | .binOp e t a x _=>okX P F a&&okX P F x&&Hd P e t a x
 | .store _ a x| .makeSlice _ a x| .indexAddr _ a x| .index _ a x=>okX P F a&&okX P F x
 | .convert s d x=>yX P s d&&okX P F x
 | .makeFunc (.func f) a c=>F f&&a.all (okX P F)&&c.all (okX P F)
 | .slice _ x l j h=>okX P F x&&l.all (okX P F)&&j.all (okX P F)&&h.all (okX P F)
 | .call c=>j9 P F c
 | .go c=>F lp&&jy P F c
 | .defer c=>(F fK||F lp)&&jy P F c
 | .lookup t x i _=>wJ P t&&okX P F x&&okX P F i
 | .mapUpdate t m k x=>wJ P t&&okX P F m&&okX P F k&&okX P F x
 | .makeMap _ none=>true
 | .panic x=>okX P F x
 |_=>false
def aG (P:Wv)(F:FuncId->Bool):Code->Bool
 | .region _ ops _=>ops.all (fun o=>fH P F o.op)
 | .seq a b=>aG P F a&&aG P F b
 | .cond c a b=>okX P F c&&aG P F a&&aG P F b
 | .block _ a=>aG P F a
 | .loop a=>aG P F a
 | .scope a=>aG P F a
 | .rangeFunc f _ a b=>okX P F f&&aG P F a&&aG P F b
 | .refuse _=>true
 | .skip| .exit _| .label _| .goto _| .ret=>true
def NoM (P : Wv) (n : Ww) : Prop := (P.info? n).all (fun i => (i.methods.find? (fun m => m.name == "")).isNone) = true
def gQ:Wx->Bool
 | .pointer (some _)| .slice (some _) _ _| .map (some _)| .chan (some _)| .iface _ _| .float _ _| .complex _ _ _| .tuple _=>true
 | .func (.method _) _ _=>false
 | .func _ _ _=>true
 |_=>false
def py:Obj->Bool
 | .cells _ _ _| .pending _ _| .view _ _| .number _ _=>false
 |_=>true
structure Ren where
 rel:Nat->Nat->Prop
 fn:∀a b b',rel a b->rel a b'->b=b'
 inj:∀a a' b,rel a b->rel a' b->a=a'
 prog:Wv
 F:FuncId->Bool
 old:Nat->Prop
 ch:Nat->Prop
 loose:Bool
 wide:Bool
 tight:F fK=true->wide=false
 pin:Nat->Option (Array Wx)
 bad:Ww
 noM:NoM prog bad
instance:CoeFun Ren (fun _=>Nat->Nat->Prop):=⟨Ren.rel⟩
structure Ren.le (ρ ρ':Ren):Prop where
 sub:∀a b,ρ a b->ρ' a b
 prog:ρ'.prog=ρ.prog
 F:ρ'.F=ρ.F
 old:ρ'.old=ρ.old
 ch:ρ'.ch=ρ.ch
 loose:ρ'.loose=ρ.loose
 wide:ρ'.wide=ρ.wide
 pin:ρ'.pin=ρ.pin
 bad:ρ'.bad=ρ.bad
instance (ρ ρ':Ren):CoeFun (Ren.le ρ ρ') (fun _=>∀a b,ρ a b->ρ' a b):=⟨Ren.le.sub⟩
theorem Ren.le_refl (ρ:Ren):ρ.le ρ:=⟨fun _ _ h=>h,rfl,rfl,rfl,rfl,rfl,rfl,rfl,rfl⟩
theorem Ren.le_trans {a b c:Ren}(h:a.le b)(h':b.le c):a.le c:=⟨fun x y k=>h' x y (h x y k),h'.prog.trans h.prog,h'.F.trans h.F,h'.old.trans h.old,h'.ch.trans h.ch,h'.loose.trans h.loose,h'.wide.trans h.wide,h'.pin.trans h.pin,h'.bad.trans h.bad⟩
def RA (ρ:Ren)(a a':Wu):Prop:=ρ a.block a'.block/\a.off=a'.off/\a.spot=a'.spot
inductive RAo (ρ:Ren):Option Wu->Option Wu->Prop
 |none:RAo ρ none none
 |some {a a':Wu} (h:RA ρ a a'):RAo ρ (some a) (some a')
inductive RNo (ρ:Ren):Option Nat->Option Nat->Prop
 |none:RNo ρ none none
 |some {a a':Nat} (h:ρ a a'):RNo ρ (some a) (some a')
inductive RFn (ρ:Ren):Fn->Fn->Prop
 |func (f:FuncId) (h:ρ.F f=true):RFn ρ (.func f) (.func f)
 |yield {l l':Nat} (h:ρ l l'):RFn ρ (.yield l) (.yield l')
inductive RV (ρ:Ren):Wx->Wx->Prop
 |bool (b:Bool):RV ρ (.bool b) (.bool b)
 |int (k:IntKind) (n:Int):RV ρ (.int k n) (.int k n)
 |string (s:ByteArray):RV ρ (.string s) (.string s)
 |pointer {a a':Option Wu} (h:RAo ρ a a'):RV ρ (.pointer a) (.pointer a')
 |slice {a a':Option Wu} (n c:Nat) (h:RAo ρ a a'):RV ρ (.slice a n c) (.slice a' n c)
 |map {r r':Option Nat} (h:RNo ρ r r'):RV ρ (.map r) (.map r')
 |chan {r r':Option Nat} (h:RNo ρ r r'):RV ρ (.chan r) (.chan r')
 |func {f f':Fn} {a a' c c':Array Wx} (hf:RFn ρ f f') (ha:a.size=a'.size) (hc:c.size=c'.size) (h1:∀ (i:Nat) v v',a[i]?=some v->a'[i]?=some v'->RV ρ v v') (h2:∀ (i:Nat) v v',c[i]?=some v->c'[i]?=some v'->RV ρ v v'):RV ρ (.func f a c) (.func f' a' c')
 |nilFunc:RV ρ .nilFunc .nilFunc
 |iface (t:Ww) {v v':Wx} (h:RV ρ v v'):RV ρ (.iface t v) (.iface t v')
 |nilIface:RV ρ .nilIface .nilIface
 |agg {c c':Array Wx} (hc:c.size=c'.size) (h:∀ (i:Nat) v v',c[i]?=some v->c'[i]?=some v'->RV ρ v v'):RV ρ (.agg c) (.agg c')
 |tuple {c c':Array Wx} (hc:c.size=c'.size) (h:∀ (i:Nat) v v',c[i]?=some v->c'[i]?=some v'->RV ρ v v'):RV ρ (.tuple c) (.tuple c')
 |dead (v':Wx) (h:gQ v'=true):RV ρ (.tuple #[]) v'
 | odd (n : Nat) (s : String) (a c : Array Wx) (hn : n = ρ.bad) : RV ρ (.func (.method "") #[.iface n (.func (.method s) a c)] #[]) (.func (.method s) a c)
structure RVs (ρ:Ren)(c c':Array Wx):Prop where
 size:c.size=c'.size
 at_:∀ (i:Nat) v v',c[i]?=some v->c'[i]?=some v'->RV ρ v v'
inductive RT (ρ:Ren):Target->Target->Prop
 |fn {f f':Fn} {c c':Array Wx} (hf:RFn ρ f f') (hc:RVs ρ c c'):RT ρ (.fn f c) (.fn f' c')
 |nil:RT ρ .nil .nil
 |builtin (b:Builtin) (hb:BZ ρ.F b=true) (a:Array Ww) (ha:Er ρ.prog b a=true) (t:Ww) (cs:Array Bool):RT ρ (.builtin b a t cs) (.builtin b a t cs)
 |collected {r r':Nat} (h:ρ r r'):RT ρ (.collected r) (.collected r')
inductive RD (ρ:Ren):Deferred->Deferred->Prop
 |mk {d d':Deferred} (target:RT ρ d.target d'.target) (args:RVs ρ d.args d'.args):RD ρ d d'
 | odd (n : Nat) (v : Wx) (a : Array Wx) (s : String) (c a' : Array Wx) (hn : n = ρ.bad) : RD ρ ⟨.fn (.method "") #[], #[.iface n v] ++ a⟩ ⟨.fn (.method s) c, a'⟩
inductive RDs (ρ:Ren):List Deferred->List Deferred->Prop
 |nil:RDs ρ [] []
 |cons {d d':Deferred} {l l':List Deferred} (h:RD ρ d d') (hl:RDs ρ l l') (hS:(∃r,d.target=.collected r)\/(ρ.F fK||ρ.F lp)=true):RDs ρ (d::l) (d'::l')
structure RL (ρ:Ren)(l l':Loop):Prop where
 state:l.state=l'.state
 pending:l.pending=l'.pending
 fn:l.fn=l'.fn
 tmps:RVs ρ l.tmps l'.tmps
 params:l.params=l'.params
 assign:l.assign=l'.assign
 body:l.body=l'.body
 defers:ρ l.defers l'.defers
 okA:aG ρ.prog ρ.F l.assign=true
 okBo:aG ρ.prog ρ.F l.body=true
 okP:∀c,l.pending=some c->aG ρ.prog ρ.F c=true
def Zr (f:Bool)(n:Nat)(z a:Nat×Nat):Prop:=z=a\/(f=false/\z.1=0/\0<z.2/\n<=z.2/\a.2<=z.2)
inductive RMs (ρ:Ren):List MapEntry->List MapEntry->Prop
 |nil:RMs ρ [] []
 |cons (b:Nat) {k k' v v':Wx} {l l':List MapEntry} (hk:RV ρ k k') (h:RV ρ v v') (hl:RMs ρ l l'):RMs ρ (⟨k,v,b⟩::l) (⟨k',v',b⟩::l')
inductive RO (ρ:Ren):Obj->Obj->Prop
 |cells {c c':Array Wx} (e:Ww) {z z':Nat×Nat} (hz:Zr (ρ.F lm) c.size z z') (h:RVs ρ c c'):RO ρ (.cells c e z) (.cells c' e z')
 |chan (cap cap':Nat) {b b':Array Wx} (cl cl':Bool) (s r s' r':Nat) (tm:Bool) (hb:ρ.loose=true\/RVs ρ b b') (hc:ρ.wide=true\/cl=cl'):RO ρ (.chan cap b cl s r tm) (.chan cap' b' cl' s' r' tm)
 |map {es es':Array MapEntry} (c:Nat) (h:RMs ρ es.toList es'.toList):RO ρ (.map es c) (.map es' c)
 |stringIter (s:ByteArray) (n:Nat):RO ρ (.stringIter s n) (.stringIter s n)
 |loop {l l':Loop} (h:RL ρ l l'):RO ρ (.loop l) (.loop l')
 |deferred {l l':List Deferred} (h:RDs ρ l l'):RO ρ (.deferred (some l)) (.deferred (some l'))
 |taken:RO ρ (.deferred none) (.deferred none)
 |number {a a':Wu} (lost:Bool) (h:RA ρ a a'):RO ρ (.number a lost) (.number a' lost)
 |dead (o':Obj) (h:py o'=true):RO ρ (.coro none) o'
section
variable {ρ ρ':Ren} (hle:ρ.le ρ')
include hle
theorem RA.mono {a a':Wu}(h:RA ρ a a'):RA ρ' a a':=⟨hle _ _ h.1,h.2⟩
theorem RAo.mono {a a':Option Wu}(h:RAo ρ a a'):RAo ρ' a a':=by
 cases h with
 |none=>exact .none
 |some h=>exact .some (RA.mono hle h)
theorem RNo.mono {a a':Option Nat}(h:RNo ρ a a'):RNo ρ' a a':=by
 cases h with
 |none=>exact .none
 |some h=>exact .some (hle _ _ h)
theorem RFn.mono {a a':Fn}(h:RFn ρ a a'):RFn ρ' a a':=by
 cases h with
 |func f h=>exact .func f (by rw [hle.F];exact h)
 |yield h=>exact .yield (hle _ _ h)
theorem RV.mono {v v':Wx}(h:RV ρ v v'):RV ρ' v v':=by
 induction h with
 |bool b=>exact .bool b
 |int k n=>exact .int k n
 |string s=>exact .string s
 |pointer h=>exact .pointer (RAo.mono hle h)
 |slice n c h=>exact .slice n c (RAo.mono hle h)
 |map h=>exact .map (RNo.mono hle h)
 |chan h=>exact .chan (RNo.mono hle h)
 |func hf ha hc _ _ d i2=>exact .func (RFn.mono hle hf) ha hc d i2
 |nilFunc=>exact .nilFunc
 |iface t _ ih=>exact .iface t ih
 |nilIface=>exact .nilIface
 |agg hc _ ih=>exact .agg hc ih
 |tuple hc _ ih=>exact .tuple hc ih
 |dead v' h=>exact .dead v' h
 |odd n s a c hn=>exact .odd n s a c (hn.trans hle.bad.symm)
theorem RVs.mono {c c':Array Wx}(h:RVs ρ c c'):RVs ρ' c c':=⟨h.size,fun i v v' h1 h2=>RV.mono hle (h.at_ i v v' h1 h2)⟩
theorem RT.mono {a a':Target}(h:RT ρ a a'):RT ρ' a a':=by
 cases h with
 |fn hf hc=>exact .fn (RFn.mono hle hf) (RVs.mono hle hc)
 |nil=>exact .nil
 |builtin b hb a ha t cs=>exact .builtin b (by rw [hle.F];exact hb) a (by rw [hle.prog];exact ha) t cs
 |collected h=>exact .collected (hle _ _ h)
theorem RD.mono {a a':Deferred}(h:RD ρ a a'):RD ρ' a a':=by
 cases h with
 |mk h1 h2=>exact .mk (RT.mono hle h1) (RVs.mono hle h2)
 |odd n v a s c a' hn=>exact .odd n v a s c a' (hn.trans hle.bad.symm)
theorem RDs.mono {a a':List Deferred}(h:RDs ρ a a'):RDs ρ' a a':=by
 induction h with
 |nil=>exact .nil
 |cons h _ hS ih=>exact .cons (RD.mono hle h) ih (by rw [hle.F];exact hS)
theorem RL.mono {a a':Loop}(h:RL ρ a a'):RL ρ' a a':=⟨h.state,h.pending,h.fn,RVs.mono hle h.tmps,h.params,h.assign,h.body,hle _ _ h.defers,by rw [hle.prog,hle.F];exact h.okA,by rw [hle.prog,hle.F];exact h.okBo,by rw [hle.prog,hle.F];exact h.okP⟩
theorem RMs.mono {a a':List MapEntry}(h:RMs ρ a a'):RMs ρ' a a':=by
 induction h with
 |nil=>exact .nil
 |cons b hk h _ ih=>exact .cons b (RV.mono hle hk) (RV.mono hle h) ih
theorem RO.mono {a a':Obj}(h:RO ρ a a'):RO ρ' a a':=by
 cases h with
 |cells e hz h=>exact .cells e (by rw [hle.F];exact hz) (RVs.mono hle h)
 |chan cap d cl f s r s' r' tm hb hc=>exact .chan cap d cl f s r s' r' tm (hb.imp (fun h=>hle.loose.trans h) (RVs.mono hle)) (hc.imp (fun h=>hle.wide.trans h) id)
 |map c h=>exact .map c (RMs.mono hle h)
 |stringIter s n=>exact .stringIter s n
 |loop h=>exact .loop (RL.mono hle h)
 |deferred h=>exact .deferred (RDs.mono hle h)
 |taken=>exact .taken
 |number b h=>exact .number b (RA.mono hle h)
 |dead _ h=>exact .dead _ h
end
def Fixed:Obj->Prop
 | .cells c _ z=>z.1=0/\c.size<=z.2
 | .coro none=>True
 | .number _ _=>True
 |_=>False
inductive F1:Obj->Prop
 |coro:F1 (.coro none)
 |number (a:Wu) (l:Bool):F1 (.number a l)
def tD (w w':Wj)(c0:Array Wx)(a b:Nat):Prop:=∃c e z c' d,w.heap[a]?=some (.cells c e z)/\w'.heap[b]?=some (.cells c' e d)/\∀ (i:Nat) x,c[i]?=some x->gV x=false->c'[i]?=c0[i]?
theorem tD.same {w w' u u':Wj}{c0:Array Wx}{a b:Nat}(h:tD w w' c0 a b)(h1:u.heap[a]?=w.heap[a]?)(h2:u'.heap[b]?=w'.heap[b]?):tD u u' c0 a b:=by
 unfold tD;rw [h1,h2];exact h
structure bI (ρ:Ren)(w w':Wj):Prop where
 obj:∀a b,ρ a b->∃o o',w.heap[a]?=some o/\w'.heap[b]?=some o'/\RO ρ o o'
 fix:∀a,ρ.old a->∃o,w.heap[a]?=some o/\Fixed o
 chan:∀c,ρ.ch c->∃o,w.heap[c]?=some o/\o.isChan=true
 os:w'.os=w.os
 pin:ρ.F lm=true->∀a c0,ρ.pin a=some c0->∃b,ρ a b/\tD w w' c0 a b
def ext (ρ:Ren)(r r':Nat)(h:∀b,¬ρ r b)(h':∀a,¬ρ a r'):Ren where
 rel:=fun a b=>ρ a b\/(a=r/\b=r')
 fn:=fun a b b' h1 h2=>by
  rcases h1 with h1|⟨rfl,rfl⟩<;>rcases h2 with h2|⟨h2,h3⟩
  .exact ρ.fn _ _ _ h1 h2
  .subst h2;exact absurd h1 (h _)
  .exact absurd h2 (h _)
  .exact h3.symm
 inj:=fun a a' b h1 h2=>by
  rcases h1 with h1|⟨rfl,rfl⟩<;>rcases h2 with h2|⟨h2,h3⟩
  .exact ρ.inj _ _ _ h1 h2
  .subst h3;exact absurd h1 (h' _)
  .exact absurd h2 (h' _)
  .exact h2.symm
 prog:=ρ.prog
 F:=ρ.F
 old:=ρ.old
 ch:=ρ.ch
 loose:=ρ.loose
 wide:=ρ.wide
 tight:=ρ.tight
 pin:=ρ.pin
 bad:=ρ.bad
 noM:=ρ.noM
theorem qJ (ρ:Ren)(r r':Nat)(h:∀b,¬ρ r b)(h':∀a,¬ρ a r'):ρ.le (ext ρ r r' h h'):=⟨fun _ _ k=>.inl k,rfl,rfl,rfl,rfl,rfl,rfl,rfl,rfl⟩
def eu:Halt->Bool
 | .stuck _=>true
 | .unsupported (.initOrder _)=>false
 | .unsupported _=>true
 | .throw _=>true
 |_=>false
inductive RH (ρ:Ren):Halt->Halt->Prop
 |panic {v v':Wx} (h:RV ρ v v'):RH ρ (.panic v) (.panic v')
inductive RMk:Mark->Prop
 |extern (f:FuncId):RMk (.extern f)
 |noRoom:RMk .noRoom
class Two (P:Wv) where
 fs:Array Func
def _root_.Go.Program.alt (P:Wv) [Two P]:Wv:=⟨P.toTables,Two.fs P⟩
inductive cZ (P:Wv) [Two P]{α:Type}:Sem α->Prop
 |halt {h:Halt} (hn:eu h=true):cZ P (.halt h)
 |mark (m:Mark) {k:Sem α} (hk:cZ P k):cZ P (.mark m k)
 |shape (r:Nat) {k:Option (Ww×Nat)->Sem α} (hk:∀s,cZ P (k s)):cZ P (.shape r k)
 |frozen (a:Wu) {k:Bool->Sem α} (hk:∀s,cZ P (k s)):cZ P (.frozen a k)
 |program {k:Wv->Sem α} (hk:∀p:Wv,p.toTables=P.toTables->cZ P (k p)):cZ P (.program k)
inductive Calm {α:Type}:Sem α->Prop
 |pure (a:α):Calm (.pure a)
 |shape (r:Nat) {k:Option (Ww×Nat)->Sem α} (hk:∀s,Calm (k s)):Calm (.shape r k)
 |frozen (a:Wu) {k:Bool->Sem α} (hk:∀s,Calm (k s)):Calm (.frozen a k)
theorem cZ.bind {P:Wv} [Two P]{α β:Type}{s:Sem α}(h:cZ P s)(f:α->Sem β):cZ P (s.bind f):=by
 induction h with
 |halt hn=>exact .halt hn
 |mark m _ ih=>exact .mark m ih
 |shape r _ ih=>exact .shape r ih
 |frozen a _ ih=>exact .frozen a ih
 |program _ ih=>exact .program ih
theorem Calm.bind {α β:Type}{s:Sem α}(h:Calm s){f:α->Sem β}(hf:∀a,Calm (f a)):Calm (s.bind f):=by
 induction h with
 |pure a=>exact hf a
 |shape r _ ih=>exact .shape r ih
 |frozen a _ ih=>exact .frozen a ih
theorem Calm.lost {P:Wv} [Two P]{α β:Type}{s:Sem α}(h:Calm s){f:α->Sem β}(hf:∀a,cZ P (f a)):cZ P (s.bind f):=by
 induction h with
 |pure a=>exact hf a
 |shape r _ ih=>exact .shape r ih
 |frozen a _ ih=>exact .frozen a ih
inductive RS (P:Wv) [Two P]{α β:Type}(Q:Ren->α->β->Prop):Ren->Sem α->Sem β->Prop
 |pure {ρ:Ren} {a:α} {b:β} (h:Q ρ a b):RS P Q ρ (.pure a) (.pure b)
 |load {ρ:Ren} (m:Mode) {a a':Wu} {k:Wx->Sem α} {k':Wx->Sem β} (h:RA ρ a a') (hk:∀v v',RV ρ v v'->RS P Q ρ (k v) (k' v')):RS P Q ρ (.load m a k) (.load m a' k')
 |store {ρ:Ren} (m:Mode) {a a':Wu} {v v':Wx} {k:Sem α} {k':Sem β} (h:RA ρ a a') (hv:RV ρ v v') (hk:RS P Q ρ k k'):RS P Q ρ (.store m a v k) (.store m a' v' k')
 |new {ρ:Ren} {o o':Obj} {k:Nat->Sem α} {k':Nat->Sem β} (h:RO ρ o o') (hk:∀r r' hr hr',¬ρ.old r->RS P Q (ext ρ r r' hr hr') (k r) (k' r')) (hs:o.isChan=true->ρ.F lp=true:=by exact fun h=>nomatch h):RS P Q ρ (.new o k) (.new o' k')
 |shape {ρ:Ren} {r r':Nat} {k:Option (Ww×Nat)->Sem α} {k':Option (Ww×Nat)->Sem β} (h:ρ r r') (hk:∀s,RS P Q ρ (k s) (k' s)):RS P Q ρ (.shape r k) (.shape r' k')
 |frozen {ρ:Ren} {a a':Wu} {k:Bool->Sem α} {k':Bool->Sem β} (h:RA ρ a a') (hk:∀s,RS P Q ρ (k s) (k' s)) (hk':ρ.F lm=false->∀s,RS P Q ρ (k true) (k' s)):RS P Q ρ (.frozen a k) (.frozen a' k')
 |freeze {ρ:Ren} {a a':Wu} (n:Nat) {k:Sem α} {k':Sem β} (h:RA ρ a a') (ho:¬ρ.old a.block) (hk:RS P Q ρ k k'):RS P Q ρ (.freeze a n k) (.freeze a' n k')
 |getObj {ρ:Ren} {r r':Nat} {k:Obj->Sem α} {k':Obj->Sem β} (h:ρ r r') (hk:∀o o',RO ρ o o'->(ρ.old r->F1 o)->(ρ.ch r->o.isChan=true)->RS P Q ρ (k o) (k' o')):RS P Q ρ (.getObj r k) (.getObj r' k')
 |setObj {ρ:Ren} {r r':Nat} {o o':Obj} {k:Sem α} {k':Sem β} (h:ρ r r') (ho:RO ρ o o') (hn:¬ρ.old r) (hch:ρ.ch r->ρ.F fK=true/\∃n b s q tm,o=.chan n b true s q tm) (hk:RS P Q ρ k k') (hs:o.isChan=true->ρ.F fK=true/\∃n b s q tm,o=.chan n b true s q tm:=by exact fun h=>nomatch h):RS P Q ρ (.setObj r o k) (.setObj r' o' k')
 |choose {ρ:Ren} (q:Question) {k:Nat->Sem α} {k':Nat->Sem β} (hk:∀n,RS P Q ρ (k n) (k' n)):RS P Q ρ (.choose q k) (.choose q k')
 |program {ρ:Ren} {k:Wv->Sem α} {k':Wv->Sem β} (h1:k P.alt=k P) (hk:RS P Q ρ (k P) (k' P)):RS P Q ρ (.program k) (.program k')
 |mark {ρ:Ren} {m:Mark} {k:Sem α} {k':Sem β} (h:RMk m) (hk:RS P Q ρ k k'):RS P Q ρ (.mark m k) (.mark m k')
 |halt {ρ:Ren} {h h':Halt} (hh:RH ρ h h'):RS P Q ρ (.halt h) (.halt h')
 |env {ρ:Ren} {k:SysRet->Sem α} {k':SysRet->Sem β} (hk:∀r,RS P Q ρ (k r) (k' r)):RS P Q ρ (.sys .env k) (.sys .env k')
 |lost {ρ:Ren} {s:Sem α} (h:cZ P s) (s':Sem β):RS P Q ρ s s'
theorem RS.bind {P:Wv} [Two P]{α β γ δ:Type}{Q:Ren->α->β->Prop}{Q':Ren->γ->δ->Prop}{ρ:Ren}{x:Sem α}{x':Sem β}{f:α->Sem γ}{f':β->Sem δ}(h:RS P Q ρ x x'):
  (∀ρ',ρ.le ρ'->∀a b,Q ρ' a b->RS P Q' ρ' (f a) (f' b))->RS P Q' ρ (x.bind f) (x'.bind f'):=by
 induction h with
 |pure h=>intro hf;exact hf _ (Ren.le_refl _) _ _ h
 |load m h _ ih=>intro hf;exact .load m h (fun v v' hv=>ih v v' hv hf)
 |store m h hv _ ih=>intro hf;exact .store m h hv (ih hf)
 |new h _ hs ih=>intro hf;exact .new h (fun r r' hr c hn=>ih r r' hr c hn (fun ρ' hl=>hf ρ' (Ren.le_trans (qJ _ r r' hr c) hl))) hs
 |shape h _ ih=>intro hf;exact .shape h (fun s=>ih s hf)
 |frozen h _ _ ih d=>intro hf;exact .frozen h (fun s=>ih s hf) (fun e s=>d e s hf)
 |freeze n h ho _ ih=>intro hf;exact .freeze n h ho (ih hf)
 |getObj h _ ih=>intro hf;exact .getObj h (fun o o' ho h1 h2=>ih o o' ho h1 h2 hf)
 |setObj h ho hn hch _ hs ih=>intro hf;exact .setObj h ho hn hch (ih hf) hs
 |choose q _ ih=>intro hf;exact .choose q (fun n=>ih n hf)
 |program h1 _ ih=>intro hf;exact .program (by show Sem.bind _ _=Sem.bind _ _;rw [h1]) (ih hf)
 |mark h _ ih=>intro hf;exact .mark h (ih hf)
 |halt i=>intro _;exact .halt i
 |env _ ih=>intro hf;exact .env (fun r=>ih r hf)
 |lost h s'=>intro _;exact .lost (h.bind _) _
theorem RS.imp {P:Wv} [Two P]{α β:Type}{Q Q':Ren->α->β->Prop}{ρ:Ren}{x:Sem α}{x':Sem β}(h:RS P Q ρ x x')(hq:∀ρ a b,Q ρ a b->Q' ρ a b):RS P Q' ρ x x':=by
 induction h with
 |pure h=>exact .pure (hq _ _ _ h)
 |load m h _ ih=>exact .load m h ih
 |store m h hv _ ih=>exact .store m h hv ih
 |new h _ hs ih=>exact .new h ih hs
 |shape h _ ih=>exact .shape h ih
 |frozen h _ _ ih c=>exact .frozen h ih c
 |freeze n h ho _ ih=>exact .freeze n h ho ih
 |getObj h _ ih=>exact .getObj h ih
 |setObj h ho hn hch _ hs ih=>exact .setObj h ho hn hch ih hs
 |choose q _ ih=>exact .choose q ih
 |program h1 _ ih=>exact .program h1 ih
 |mark h _ ih=>exact .mark h ih
 |halt d=>exact .halt d
 |env _ ih=>exact .env ih
 |lost h s'=>exact .lost h _
inductive RR {α β:Type}(Q:Ren->α->β->Prop)(ρ:Ren):Result α->Result β->Prop
 |ok {a:α} {b:β} (w w':Wj) (h:Q ρ a b):RR Q ρ (.ok a w) (.ok b w')
 |halt {a b:Halt} (w w':Wj) (h:RH ρ a b):RR Q ρ (.halt a w) (.halt b w')
structure Keep (ρ:Ren)(w w':Wj):Prop where
 os:w'.os=w.os
 output:w'.output=w.output
 tape:w'.tape=w.tape
 size:w.heap.size<=w'.heap.size
 block:∀b,b<w.heap.size->(∀a,ρ a b->ρ.old a)->w'.heap[b]?=w.heap[b]?
def yY (w:Wj)(c:Nat):Prop:=∃n b s q tm,w.heap[c]?=some (.chan n b true s q tm)
structure Chs (ρ:Ren)(w w' u u':Wj):Prop where
 row:∀c b,ρ.ch c->ρ c b->(u.heap[c]?=w.heap[c]?/\u'.heap[b]?=w'.heap[b]?)\/(ρ.F fK=true/\yY u c)
 only:ρ.F lp=false->∀ (a:Nat) o,u.heap[a]?=some o->o.isChan=true->w.heap[a]?=some o\/(ρ.F fK=true/\yY u a)
theorem Chs.refl (ρ:Ren)(w w':Wj):Chs ρ w w' w w':=⟨fun _ _ _ _=>.inl ⟨rfl,rfl⟩,fun _ _ _ h _=>.inl h⟩
theorem Chs.trans {ρ d:Ren}{w w' u u' v v':Wj}(l:ρ.le d)(h:Chs ρ w w' u u')(k:Chs d u u' v v'):Chs ρ w w' v v':=⟨fun c b hc hb=>by
 rcases k.row c b (by rw [l.ch];exact hc) (l _ _ hb) with ⟨k1,k2⟩|⟨k1,k2⟩
 .rcases h.row c b hc hb with ⟨h1,h2⟩|⟨h1,h2⟩
  .exact .inl ⟨k1.trans h1,k2.trans h2⟩
  .refine .inr ⟨h1,?_⟩;unfold yY;rw [k1];exact h2
 .exact .inr ⟨by rw [<-l.F];exact k1,k2⟩,fun hS a o ho hc=>by
 rcases k.only (by rw [l.F];exact hS) a o ho hc with k1|⟨k1,k2⟩
 .rcases h.only hS a o k1 hc with h1|⟨h1,h2⟩
  .exact .inl h1
  .obtain ⟨n,b,s,q,tm,h2⟩:=h2;rw [k1] at h2;cases h2;exact .inr ⟨h1,_,_,_,_,_,ho⟩
 .exact .inr ⟨by rw [<-l.F];exact k1,k2⟩⟩
theorem Keep.refl (ρ:Ren)(w:Wj):Keep ρ w w:=⟨rfl,rfl,rfl,lR _,fun _ _ _=>rfl⟩
theorem Keep.trans {ρ c:Ren}{w w1 w2:Wj}(h:Keep ρ w w1)(h':Keep c w1 w2)(ho:c.old=ρ.old)(hn:∀a b,c a b->ρ a b\/w.heap.size<=b):Keep ρ w w2:=
 ⟨h'.os.trans h.os,h'.output.trans h.output,h'.tape.trans h.tape,lT h.size h'.size,fun b hb hno=>(h'.block b (lL hb h.size) (fun a ha=>by
  rw [ho];rcases hn a b ha with k|k
  .exact hno a k
  .omega)).trans (h.block b hb hno)⟩
def iF (ρ:Ren)(e:Event):Prop:=
 match e.loc with
 | .cell a=>∃x,ρ x a.block/\(e.write=true->¬ρ.old x)/\¬ρ.ch x
 | .obj r=>∃x,ρ x r/\(e.write=true->¬ρ.old x)/\(e.sync=false->¬ρ.ch x)
 | .mark m=>RMk m
 | .output=>True
 |_=>False
theorem iF.mono {ρ ρ':Ren}(l:ρ.le ρ'){e:Event}(h:iF ρ e):iF ρ' e:=by
 obtain ⟨b,wr,sy⟩:=e;cases b with
 |cell a=>obtain ⟨x,h1,h2,h3⟩:=h;exact ⟨x,l _ _ h1,by rw [l.old];exact h2,by rw [l.ch];exact h3⟩
 |obj r=>obtain ⟨x,h1,h2,h3⟩:=h;exact ⟨x,l _ _ h1,by rw [l.old];exact h2,by rw [l.ch];exact h3⟩
 |mark m=>exact h
 |output=>exact h
 |goroutines=>exact h
def eC (ρ:Ren)(es es1:Array Event):Prop:=∃E,es1=es++E/\∀e∈E,iF ρ e
theorem eC.refl (ρ:Ren)(es:Array Event):eC ρ es es:=⟨#[],by simp,fun e h=>by simp at h⟩
theorem eC.push {ρ:Ren}{es:Array Event}{e:Event}(h:iF ρ e):eC ρ es (es.push e):=⟨#[e],by simp,fun x hx=>by simp at hx;exact hx▸h⟩
theorem eC.mono {ρ ρ':Ren}(l:ρ.le ρ'){es es1:Array Event}(h:eC ρ es es1):eC ρ' es es1:=by
 obtain ⟨E,h1,h2⟩:=h;exact ⟨E,h1,fun e he=>(h2 e he).mono l⟩
theorem eC.trans {ρ:Ren}{es es1 es2:Array Event}(h:eC ρ es es1)(h':eC ρ es1 es2):eC ρ es es2:=by
 obtain ⟨E,rfl,h2⟩:=h;obtain ⟨E',rfl,a⟩:=h';exact ⟨E++E',by simp,fun e he=>by
  rcases Array.mem_append.1 he with h|h
  .exact h2 e h
  .exact a e h⟩
theorem RVs.get {ρ:Ren}{c c':Array Wx}(h:RVs ρ c c')(i:Nat):(c[i]?=none/\c'[i]?=none)\/∃v v',c[i]?=some v/\c'[i]?=some v'/\RV ρ v v':=by
 by_cases b:i<c.size
 .have a:i<c'.size:=by rw [<-h.size];exact b
  exact .inr ⟨c[i],c'[i],eG b,eG a,h.at_ i _ _ (eG b) (eG a)⟩
 .exact .inl ⟨Array.getElem?_eq_none (by omega),Array.getElem?_eq_none (by rw [<-h.size];omega)⟩
theorem bI.cell {ρ:Ren}{w w':Wj}(S:bI ρ w w'){a a':Wu}(h:RA ρ a a'):w.cell? a=none\/∃v v',w.cell? a=some v/\w'.cell? a'=some v'/\RV ρ v v':=by
 obtain ⟨o,o',h1,h2,ho⟩:=S.obj _ _ h.1;unfold World.cell?;rw [h1,h2];cases ho with
 |cells e hz hc=>
  simp only [<-h.2.1,<-h.2.2];split
  .exact .inl rfl
  .rcases hc.get a.off with ⟨k,-⟩|k
   .exact .inl k
   .exact .inr k
 |_=>exact .inl rfl
theorem bI.frozenEq {ρ:Ren}{w w':Wj}(S:bI ρ w w'){a a':Wu}(h:RA ρ a a'):w'.frozen? a'=w.frozen? a\/(w.frozen? a=true/\ρ.F lm=false):=by
 obtain ⟨o,o',h1,h2,ho⟩:=S.obj _ _ h.1;unfold World.frozen?;rw [h1,h2];cases ho with
 | @cells c c' e z d hz hc=>
  obtain ⟨lo,f⟩:=z;obtain ⟨lo',b⟩:=d;simp only [<-h.2.1];rcases hz with hz|⟨z0,z1,z2,z3,z4⟩
  .cases hz;exact .inl rfl
  .simp only at z1 z2 z3 z4;subst z1;by_cases k:a.off<f
   .exact .inr ⟨by simp [k],z0⟩
   .exact .inl (by
     have:¬a.off<b:=by omega
     simp [k,this])
 |dead o' h=>cases o'<;>first|exact .inl rfl|simp [py] at h
 |_=>exact .inl rfl
theorem bI.shapeEq {ρ:Ren}{w w':Wj}(S:bI ρ w w'){r r':Nat}(h:ρ r r'):w'.shape? r'=w.shape? r:=by
 obtain ⟨o,o',h1,h2,ho⟩:=S.obj _ _ h;unfold World.shape?;rw [h1,h2];cases ho with
 |cells e z hc=>simp only [hc.size]
 |dead o' h=>cases o'<;>first|rfl|simp [py] at h
 |_=>rfl
theorem bI.farLoad {ρ:Ren}{w w':Wj}(S:bI ρ w w'){a a':Wu}(h:RA ρ a a')(b:Bool):∃e,(∀ (P:Wv) τ d,(w.on τ d).farLoad P a b=.error e)/\eu e=true:=by
 obtain ⟨o,o',h1,h2,ho⟩:=S.obj _ _ h.1;have hh:∀τ d,(w.on τ d).heap[a.block]?=some o:=fun _ _=>h1
 cases ho <;> exact ⟨.stuck "load: no such cell", fun P τ d => by unfold World.farLoad World.noCell; rw [hh], rfl⟩
theorem bI.farStore {ρ:Ren}{w w':Wj}(S:bI ρ w w'){a a':Wu}(h:RA ρ a a')(v:Wx)(b:Bool):∃e,(∀ (P:Wv) τ d,(w.on τ d).farStore P a v b=.error e)/\eu e=true:=by
 obtain ⟨o,o',h1,h2,ho⟩:=S.obj _ _ h.1;have hh:∀τ d,(w.on τ d).heap[a.block]?=some o:=fun _ _=>h1
 cases ho <;> exact ⟨.stuck "store: no such cell", fun P τ d => by unfold World.farStore World.noCell; rw [hh], rfl⟩
section
variable {α:Type} {p:Wv} {w:Wj} {es:Array Event}
theorem B3 (a:α):Mir p (.pure a) w es:=gU p _ w es (.ok a) (fun _=>rfl) (fun _ _ _ _=>rfl) (fun _ _=>rfl)
theorem vk (h:Halt):Mir p (.halt h:Sem α) w es:=gU p _ w es (.halt h) (fun _=>rfl) (fun _ _ _ _=>rfl) (fun _ _=>rfl)
theorem B4 {m:Mode}{a:Wu}{k:Wx->Sem α}{v:Wx}(hc:w.cell? a=some v)(h:Mir p (k v) w (es.push ⟨.cell a,false,m == .atomic⟩)):Mir p (.load m a k) w es:=
 gF p _ (k v) w w es (es.push ⟨.cell a,false,m == .atomic⟩) (by simp only [Sem.runT,hc]) rfl rfl (fun τ d=>by have:(w.on τ d).cell? a=some v:=hc;simp only [Sem.runT,this]) h
theorem tE {m:Mode}{a:Wu}{k:Wx->Sem α}{e:Halt}(hc:w.cell? a=none)(h:∀τ d,(w.on τ d).farLoad p a (m == .atomic)=.error e):Mir p (.load m a k) w es:=
 gU p _ w es (.halt e) (fun _=>rfl) (fun _ _ _ _=>rfl) (fun τ d=>by
  have h1:(w.on τ d).cell? a=none:=hc;simp only [Sem.runT,h1,h])
theorem fL (p : Wv) (m : Mode) (a : Wu) (v : Wx) (k : Sem α) (hv : gV v = true) (u : Wj) (es : Array Event) : (Sem.store m a v k).runT p u es = match u.cell? a with
      | some _ => if u.frozen? a then (.halt (.unsupported (.unsafePointer "a write to bytes that a string shares")) u, es) else k.runT p (u.setCell a v) (es.push ⟨.cell a, true, m == .atomic⟩)
      |none=>match u.farStore p a v (m == .atomic) with
        | .ok (u,touched)=>k.runT p u (es++touched.toArray.map (⟨.cell ·,true,m == .atomic⟩))
        | .error h=>(.halt h u,es):=by cases v<;>first|rfl|simp [gV] at hv
theorem yZ {m:Mode}{a:Wu}{v x:Wx}{k:Sem α}(hv:gV v=true)(hc:w.cell? a=some x)(hz:w.frozen? a=false)(h:Mir p k (w.setCell a v) (es.push ⟨.cell a,true,m == .atomic⟩)):Mir p (.store m a v k) w es:=
 gF p _ k w (w.setCell a v) es (es.push ⟨.cell a,true,m == .atomic⟩) (by rw [fL p m a v k hv,hc];simp only [hz];rfl) rfl rfl (fun τ d=>by
  have h1:(w.on τ d).cell? a=some x:=hc;have h2:(w.on τ d).frozen? a=w.frozen? a:=rfl;rw [fL p m a v k hv,h1];simp only [h2,hz];rfl) h
theorem mR {m:Mode}{a:Wu}{v x:Wx}{k:Sem α}(hv:gV v=true)(hc:w.cell? a=some x)(hz:w.frozen? a=true):Mir p (.store m a v k) w es:=
 gU p _ w es (.halt (.unsupported (.unsafePointer "a write to bytes that a string shares"))) (fun _ => rfl) (fun _ _ _ _ => rfl) (fun τ d => by
  have h1:(w.on τ d).cell? a=some x:=hc;have h2:(w.on τ d).frozen? a=true:=hz;rw [fL p m a v k hv,h1];simp only [h2,if_true])
theorem qK {m:Mode}{a:Wu}{v:Wx}{k:Sem α}{e:Halt}(hv:gV v=true)(hc:w.cell? a=none)(h:∀τ d,(w.on τ d).farStore p a v (m == .atomic)=.error e):Mir p (.store m a v k) w es:=
 gU p _ w es (.halt e) (fun _=>rfl) (fun _ _ _ _=>rfl) (fun τ d=>by
  have h1:(w.on τ d).cell? a=none:=hc;rw [fL p m a v k hv,h1];simp only [h])
theorem tF {m:Mode}{a:Wu}{v:Wx}{k:Sem α}(hv:¬gV v=true):Mir p (.store m a v k) w es:=
 gU p _ w es (.halt (.stuck "store: not the value of one cell")) (fun _ => rfl) (fun _ _ _ _ => rfl) (fun τ d => by
  cases v<;>first|rfl|simp [gV] at hv)
theorem Et {o:Obj}{k:Nat->Sem α}(h:Mir p (k w.heap.size) {w with heap:=w.heap.push o} es):Mir p (.new o k) w es:=gF p _ (k w.heap.size) w {w with heap:=w.heap.push o} es es rfl rfl rfl (fun _ _=>rfl) h
theorem qL {r:Nat}{k:Option (Ww×Nat)->Sem α}(h:Mir p (k (w.shape? r)) w es):Mir p (.shape r k) w es:=gF p _ (k (w.shape? r)) w w es es rfl rfl rfl (fun _ _=>rfl) h
theorem wK {a:Wu}{n:Nat}{k:Sem α}(h:Mir p k (w.freeze a n) es):Mir p (.freeze a n k) w es:=
 gF p (.freeze a n k) k w (w.freeze a n) es es rfl (cy w a n).1 (cy w a n).2 (fun τ d=>by
  show k.runT p ((w.on τ d).freeze a n) es=k.runT p ((w.freeze a n).on τ d) es;rw [yW]) h
theorem ke {a:Wu}{k:Bool->Sem α}(h:Mir p (k (w.frozen? a)) w es):Mir p (.frozen a k) w es:=gF p _ (k (w.frozen? a)) w w es es rfl rfl rfl (fun _ _=>rfl) h
theorem wL {r:Nat}{k:Obj->Sem α}{o:Obj}(ho:w.heap[r]?=some o)(hcl:¬∃c e z,o=.cells c e z)(h:Mir p (k o) w (es.push ⟨.obj r,false,o.isChan⟩)):Mir p (.getObj r k) w es:=by
 have e:∀u:Wj,u.heap[r]?=some o->(Sem.getObj r k).runT p u es=(k o).runT p u (es.push ⟨.obj r,false,o.isChan⟩):=fun u a=>by
  simp only [Sem.runT,a];cases o<;>first|rfl|exact absurd ⟨_,_,_,rfl⟩ hcl
 exact gF p _ (k o) w w es _ (e w ho) rfl rfl (fun τ d=>e (w.on τ d) ho) h
theorem qM {r:Nat}{k:Obj->Sem α}{c:Array Wx}{e:Ww}{z:Nat×Nat}(ho:w.heap[r]?=some (.cells c e z)):Mir p (.getObj r k) w es:=
 gU p _ w es (.halt (.stuck "getObj: a row of cells")) (fun _ => rfl) (fun _ _ _ _ => rfl) (fun τ d => by
  have h1:(w.on τ d).heap[r]?=some (.cells c e z):=ho;simp only [Sem.runT,h1])
theorem wM {r:Nat}{o o':Obj}{k:Sem α}(ho:w.heap[r]?=some o')(hcl:¬∃c e z,o'=.cells c e z)(h:Mir p k {w with heap:=w.heap.setIfInBounds r o} (es.push ⟨.obj r,true,o.isChan⟩)):Mir p (.setObj r o k) w es:=by
 have e:∀u:Wj,u.heap[r]?=some o'->(Sem.setObj r o k).runT p u es=k.runT p {u with heap:=u.heap.setIfInBounds r o} (es.push ⟨.obj r,true,o.isChan⟩):=fun u a=>by
  simp only [Sem.runT,a];cases o'<;>first|rfl|exact absurd ⟨_,_,_,rfl⟩ hcl
 exact gF p _ k w {w with heap:=w.heap.setIfInBounds r o} es _ (e w ho) rfl rfl (fun τ d=>e (w.on τ d) ho) h
theorem qN {r:Nat}{o:Obj}{k:Sem α}{c:Array Wx}{e:Ww}{z:Nat×Nat}(ho:w.heap[r]?=some (.cells c e z)):Mir p (.setObj r o k) w es:=
 gU p _ w es (.halt (.stuck "setObj: a row of cells")) (fun _ => rfl) (fun _ _ _ _ => rfl) (fun τ d => by
  have h1:(w.on τ d).heap[r]?=some (.cells c e z):=ho;simp only [Sem.runT,h1])
theorem me {q:Question}{k:Nat->Sem α}(hf:q.forced=true)(h:Mir p (k 0) w es):Mir p (.choose q k) w es:=
 gF p _ (k 0) w w es es (by simp only [Sem.runT,hf,if_true]) rfl rfl (fun τ d=>by simp only [Sem.runT,hf,if_true]) h
theorem wN {q:Question}{k:Nat->Sem α}(hf:¬q.forced=true)(h:Mir p (k (q.cut (w.tape w.drawn q))) {w with drawn:=w.drawn+1} es):Mir p (.choose q k) w es:=by
 have e:∀u:Wj,(Sem.choose q k).runT p u es=(k (q.cut (u.tape u.drawn q))).runT p {u with drawn:=u.drawn+1} es:=fun u=>by simp only [Sem.runT,hf];rfl
 obtain ⟨h1,h2,h3⟩:=h;simp only at h1 h2 h3;refine ⟨by rw [e];exact h1,by rw [e];omega,fun τ d hl=>?_⟩;rw [e w] at hl;rw [e,e w];have h0:τ d=w.tape w.drawn:=by have:=hl 0 (by omega);simpa using this
 have e2:(w.on τ d).tape (w.on τ d).drawn=w.tape w.drawn:=h0;rw [e2];have e3:({w.on τ d with drawn:=(w.on τ d).drawn+1}:Wj)=({w with drawn:=w.drawn+1}:Wj).on τ (d+1):=rfl;rw [e3,h3 τ (d+1) (fun i a=>by
  have:=hl (i+1) (by simp only at a;omega);rw [show d+1+i=d+(i+1) by omega];simp only;rw [show w.drawn+1+i=w.drawn+(i+1) by omega];exact this)]
 congr 1;generalize hr:((k (q.cut (w.tape w.drawn q))).runT p {w with drawn:=w.drawn+1} es).1=r at *;cases r<;>simp only [Result.on,Result.w] at h2 ⊢ <;> congr 2<;>omega
theorem mS {k:Wv->Sem α}(h:Mir p (k p) w es):Mir p (.program k) w es:=gF p _ (k p) w w es es rfl rfl rfl (fun _ _=>rfl) h
theorem vo {m:Mark}{k:Sem α}(h:Mir p k w (es.push ⟨.mark m,false,true⟩)):Mir p (.mark m k) w es:=gF p _ k w w es (es.push ⟨.mark m,false,true⟩) rfl rfl rfl (fun _ _=>rfl) h
end
theorem RVs.set {ρ:Ren}{c c':Array Wx}(h:RVs ρ c c')(i:Nat){v v':Wx}(hv:RV ρ v v'):RVs ρ (c.setIfInBounds i v) (c'.setIfInBounds i v'):=by
 refine ⟨by simp [h.size],fun j x x' h1 h2=>?_⟩;rw [Array.getElem?_setIfInBounds] at h1 h2;by_cases a:i=j
 .subst a;by_cases d:i<c.size
  .have b:i<c'.size:=by rw [<-h.size];exact d
   simp [d,b] at h1 h2;subst h1;subst h2;exact hv
  .simp [d] at h1
 .simp only [a,if_false] at h1 h2;exact h.at_ j x x' h1 h2
theorem bI.lt {ρ:Ren}{w w':Wj}(S:bI ρ w w'){a b:Nat}(h:ρ a b):a<w.heap.size/\b<w'.heap.size:=by
 obtain ⟨o,o',h1,h2,-⟩:=S.obj a b h;exact ⟨(eS h1).1,(eS h2).1⟩
theorem bI.oldLt {ρ:Ren}{w w':Wj}(S:bI ρ w w'){a:Nat}(h:ρ.old a):a<w.heap.size:=by
 obtain ⟨o,h1,-⟩:=S.fix a h;exact (eS h1).1
theorem bI.put {ρ:Ren}{w w':Wj}(S:bI ρ w w'){r r':Nat}(h:ρ r r'){o o':Obj}(ho:RO ρ o o')(hn:¬ρ.old r)(hch:ρ.ch r->o.isChan=true)(f:∀c e z,w.heap[r]?≠some (.cells c e z)):bI ρ {w with heap:=w.heap.setIfInBounds r o} {w' with heap:=w'.heap.setIfInBounds r' o'}:=by
 refine ⟨fun a b d=>?_,fun a ha=>?_,fun c hc=>?_,S.os,fun hb a c0 hp=>?_⟩
 rotate_left 3
 .obtain ⟨b,d,hP⟩:=S.pin hb a c0 hp;have e:r≠a:=fun e=>by
   obtain ⟨c,t,z,_,_,k1,-⟩:=hP;exact f c t z (e▸k1)
  have e':r'≠b:=fun e'=>e (ρ.inj _ _ _ h (e'▸d))
  exact ⟨b,d,hP.same (by simp [e]) (by simp [e'])⟩
 .obtain ⟨x,x',h1,h2,hx⟩:=S.obj a b d;obtain ⟨y,y',k1,k2,-⟩:=S.obj r r' h;by_cases e:r=a
  .subst e;have:=ρ.fn _ _ _ h d;subst this;have l1:=(eS k1).1;have l2:=(eS k2).1;exact ⟨o,o',by simp [l1],by simp [l2],ho⟩
  .have e':r'≠b:=fun e'=>e (ρ.inj _ _ _ h (e'▸d))
   exact ⟨x,x',by simp [e,h1],by simp [e',h2],hx⟩
 .obtain ⟨x,h1,h2⟩:=S.fix a ha;have e:r≠a:=fun e=>hn (e▸ha)
  exact ⟨x,by simp [e,h1],h2⟩
 .obtain ⟨x,h1,h2⟩:=S.chan c hc;by_cases e:r=c
  .exact ⟨o,by rw [<-e];simp [(S.lt h).1],hch (e▸hc)⟩
  .exact ⟨x,by simp [e,h1],h2⟩
theorem cM (w:Wj)(a:Wu)(v:Wx){b:Nat}(h:a.block≠b):(w.setCell a v).heap[b]?=w.heap[b]?:=by
 unfold World.setCell;simp only [Array.getElem?_modify,h,if_false]
theorem bI.set {ρ:Ren}{w w':Wj}(S:bI ρ w w'){a a':Wu}(h:RA ρ a a'){v v':Wx}(hv:RV ρ v v')(hn:¬ρ.old a.block)(k:gV v=true):bI ρ (w.setCell a v) (w'.setCell a' v'):=by
 refine ⟨fun x y d=>?_,fun x hx=>?_,fun c hc=>?_,S.os,fun hb x c0 hp=>?_⟩
 rotate_left 3
 .obtain ⟨y,d,hP⟩:=S.pin hb x c0 hp;refine ⟨y,d,?_⟩;by_cases e:a.block=x
  .have e':a'.block=y:=by rw [<-e] at d;exact ρ.fn _ _ _ h.1 d
   obtain ⟨c,t,z,c',m,k1,k2,k3⟩:=hP;unfold tD World.setCell;simp only [Array.getElem?_modify,e,e',if_true,k1,k2,Option.map_some,<-h.2.1,<-h.2.2];refine ⟨_,t,z,_,m,rfl,rfl,fun i x hx h0=>?_⟩;by_cases hs:a.spot.isSome=true
   .simp only [hs,if_true] at hx ⊢;exact k3 i x hx h0
   .simp only [hs,Bool.false_eq_true,if_false] at hx ⊢;rw [Array.getElem?_setIfInBounds] at hx ⊢;by_cases l:a.off=i
    .subst l;by_cases hc:a.off<c.size
     .simp only [if_true,hc] at hx;cases hx;rw [k] at h0;cases h0
     .simp [hc] at hx
    .simp only [l,if_false] at hx ⊢;exact k3 i x hx h0
  .have e':a'.block≠y:=fun e'=>e (ρ.inj _ _ _ h.1 (e'▸d))
   exact hP.same (cM w a v e) (cM w' a' v' e')
 .obtain ⟨o,o',h1,h2,ho⟩:=S.obj x y d;unfold World.setCell;simp only [Array.getElem?_modify];by_cases e:a.block=x
  .have e':a'.block=y:=by rw [<-e] at d;exact ρ.fn _ _ _ h.1 d
   simp only [e,e',if_true,h1,h2,Option.map_some];refine ⟨_,_,rfl,rfl,?_⟩;cases ho with
   |cells t hz hc=>
    simp only [<-h.2.1,<-h.2.2];split
    .exact .cells t hz hc
    .exact .cells t (by simpa using hz) (hc.set _ hv)
   |chan cap f cl j s r s' r' tm hb hc=>exact .chan cap f cl j s r s' r' tm hb hc
   |map c h=>exact .map c h
   |stringIter s n=>exact .stringIter s n
   |loop hl=>exact .loop hl
   |deferred hd=>exact .deferred hd
   |taken=>exact .taken
   |number b h=>exact .number b h
   |dead o' h=>cases o'<;>first|exact .dead _ h|simp [py] at h
  .have e':a'.block≠y:=fun e'=>e (ρ.inj _ _ _ h.1 (e'▸d))
   simp only [e,e',if_false];exact ⟨o,o',h1,h2,ho⟩
 .obtain ⟨o,h1,h2⟩:=S.fix x hx;exact ⟨o,by rw [cM w a v (fun e=>hn (e▸hx))];exact h1,h2⟩
 .obtain ⟨o,h1,h2⟩:=S.chan c hc;unfold World.setCell;simp only [Array.getElem?_modify];by_cases e:a.block=c
  .simp only [e,if_true,h1,Option.map_some];refine ⟨_,rfl,?_⟩;cases o<;>first|exact h2|simp [Obj.isChan] at h2
  .simp only [e,if_false];exact ⟨o,h1,h2⟩
theorem Zr.freeze {f:Bool}{n:Nat}{d c b a:Nat}(h:Zr f n (d,c) (b,a))(o m:Nat):Zr f n (if d==c then (o,o+m) else (min d o,max c (o+m))) (if b==a then (o,o+m) else (min b o,max a (o+m))):=by
 rcases h with h|⟨h0,h1,h2,h3,h4⟩
 .cases h;exact .inl rfl
 .simp only at h1 h2 h3 h4;subst h1;have e:(0==c)=false:=by simp;omega
  simp only [e,Bool.false_eq_true,if_false];refine .inr ⟨h0,by simp,by simp only;omega,by simp only;omega,?_⟩;split<;>(simp only;omega)
theorem cJ (w:Wj)(a:Wu)(n:Nat){b:Nat}(h:a.block≠b):(w.freeze a n).heap[b]?=w.heap[b]?:=by
 unfold World.freeze;split
 .rfl
 .simp only [Array.getElem?_modify,h,if_false]
theorem bI.freeze {ρ:Ren}{w w':Wj}(S:bI ρ w w'){a a':Wu}(h:RA ρ a a')(n:Nat)(hn:¬ρ.old a.block):bI ρ (w.freeze a n) (w'.freeze a' n):=by
 refine ⟨fun x y d=>?_,fun x hx=>?_,fun c hc=>?_,by unfold World.freeze;split<;>exact S.os,fun hb x c0 hp=>?_⟩
 rotate_left 3
 .obtain ⟨y,d,hP⟩:=S.pin hb x c0 hp;refine ⟨y,d,?_⟩;by_cases e:a.block=x
  .have e':a'.block=y:=by rw [<-e] at d;exact ρ.fn _ _ _ h.1 d
   obtain ⟨c,t,z,c',i,k1,k2,k3⟩:=hP;unfold tD World.freeze;split
   .exact ⟨c,t,z,c',i,k1,k2,k3⟩
   .simp only [Array.getElem?_modify,e,e',if_true,k1,k2,Option.map_some];exact ⟨c,t,_,c',_,rfl,rfl,k3⟩
  .have e':a'.block≠y:=fun e'=>e (ρ.inj _ _ _ h.1 (e'▸d))
   exact hP.same (cJ w a n e) (cJ w' a' n e')
 .obtain ⟨o,o',h1,h2,ho⟩:=S.obj x y d;unfold World.freeze;split
  .exact ⟨o,o',h1,h2,ho⟩
  simp only [Array.getElem?_modify];by_cases e:a.block=x
  .have e':a'.block=y:=by rw [<-e] at d;exact ρ.fn _ _ _ h.1 d
   simp only [e,e',if_true,h1,h2,Option.map_some];refine ⟨_,_,rfl,rfl,?_⟩;cases ho with
   | @cells c c' t z i hz hc=>
    obtain ⟨lo,hi⟩:=z;obtain ⟨lo',hi'⟩:=i;simp only [<-h.2.1];exact .cells t (hz.freeze _ _) hc
   |chan cap f cl j s r s' r' tm hb hc=>exact .chan cap f cl j s r s' r' tm hb hc
   |map c h=>exact .map c h
   |stringIter s n=>exact .stringIter s n
   |loop hl=>exact .loop hl
   |deferred hd=>exact .deferred hd
   |taken=>exact .taken
   |number b h=>exact .number b h
   |dead o' h=>cases o'<;>first|exact .dead _ h|simp [py] at h
  .have e':a'.block≠y:=fun e'=>e (ρ.inj _ _ _ h.1 (e'▸d))
   simp only [e,e',if_false];exact ⟨o,o',h1,h2,ho⟩
 .obtain ⟨o,h1,h2⟩:=S.fix x hx;exact ⟨o,by rw [cJ w a n (fun e=>hn (e▸hx))];exact h1,h2⟩
 .obtain ⟨o,h1,h2⟩:=S.chan c hc;by_cases e:a.block=c
  .unfold World.freeze;split
   .exact ⟨o,h1,h2⟩
   simp only [Array.getElem?_modify,e,if_true,h1,Option.map_some];refine ⟨_,rfl,?_⟩;cases o<;>first|exact h2|simp [Obj.isChan] at h2
  .exact ⟨o,by rw [cJ w a n e];exact h1,h2⟩
theorem mT (w:Wj)(a:Wu)(n:Nat):(w.freeze a n).heap.size=w.heap.size:=by
 unfold World.freeze;split<;>simp
theorem bI.freshL {ρ:Ren}{w w':Wj}(S:bI ρ w w'):∀b,¬ρ w.heap.size b:=fun b h=>by have:=(S.lt h).1;omega
theorem bI.freshR {ρ:Ren}{w w':Wj}(S:bI ρ w w'):∀a,¬ρ a w'.heap.size:=fun a h=>by have:=(S.lt h).2;omega
theorem bI.freshO {ρ:Ren}{w w':Wj}(S:bI ρ w w'):¬ρ.old w.heap.size:=fun h=>by have:=S.oldLt h;omega
theorem mB {α:Type}(x:Array α)(v:α){i:Nat}{o:α}(h:x[i]?=some o):(x.push v)[i]?=some o:=by
 have:=(eS h).1;rw [gP,if_neg (by omega)];exact h
theorem bI.push {ρ:Ren}{w w':Wj}(S:bI ρ w w'){o o':Obj}(ho:RO ρ o o'):bI (ext ρ w.heap.size w'.heap.size S.freshL S.freshR) {w with heap:=w.heap.push o} {w' with heap:=w'.heap.push o'}:=by
 refine ⟨fun a b h=>?_,fun a ha=>?_,fun c hc=>?_,S.os,fun hb a c0 hp=>?_⟩
 rotate_left 3
 .obtain ⟨b,d,hP⟩:=S.pin hb a c0 hp;obtain ⟨l1,l2⟩:=S.lt d;exact ⟨b,.inl d,hP.same (by simp only [gP,if_neg (show ¬a=w.heap.size by omega)]) (by simp only [gP,if_neg (show ¬b=w'.heap.size by omega)])⟩
 .rcases h with h|⟨rfl,rfl⟩
  .obtain ⟨x,x',h1,h2,hx⟩:=S.obj a b h;exact ⟨x,x',mB _ _ h1,mB _ _ h2,hx.mono (qJ _ _ _ _ _)⟩
  .exact ⟨o,o',by simp,by simp,ho.mono (qJ _ _ _ _ _)⟩
 .obtain ⟨x,h1,h2⟩:=S.fix a ha;exact ⟨x,mB _ _ h1,h2⟩
 .obtain ⟨x,h1,h2⟩:=S.chan c hc;exact ⟨x,mB _ _ h1,h2⟩
theorem bI.ne_chan {ρ:Ren}{w w':Wj}(_S:bI ρ w w'){r r' c b:Nat}(h:ρ r r')(hb:ρ c b)(hne:r≠c):r'≠b:=fun e=>hne (ρ.inj _ _ _ h (e▸hb))
theorem bI.cell_ch {ρ:Ren}{w w':Wj}(S:bI ρ w w'){a:Wu}{x:Wx}(hx:w.cell? a=some x):¬ρ.ch a.block:=fun hc=>by
 obtain ⟨o,h1,h2⟩:=S.chan _ hc;unfold World.cell? at hx;rw [h1] at hx;cases o<;>simp [Obj.isChan] at h2 hx
theorem qO (w:Wj)(a:Wu)(v:Wx){b:Nat}{o:Obj}(h:(w.setCell a v).heap[b]?=some o)(hc:o.isChan=true):w.heap[b]?=some o:=by
 by_cases hne:a.block=b
 .subst hne;unfold World.setCell at h;simp only [Array.getElem?_modify,if_true] at h;obtain ⟨x,h1,h2⟩:=Option.map_eq_some_iff.1 h;rw [h1];cases x<;>first|exact congrArg some h2|(subst h2;simp [Obj.isChan] at hc)
 .rw [cM _ _ _ hne] at h;exact h
theorem qP (w:Wj)(a:Wu)(n:Nat){b:Nat}{o:Obj}(h:(w.freeze a n).heap[b]?=some o)(hc:o.isChan=true):w.heap[b]?=some o:=by
 by_cases hne:a.block=b
 .subst hne;unfold World.freeze at h;split at h
  .exact h
  .simp only [Array.getElem?_modify,if_true] at h;obtain ⟨x,h1,h2⟩:=Option.map_eq_some_iff.1 h;rw [h1];cases x<;>first|exact congrArg some h2|(subst h2;simp [Obj.isChan] at hc)
 .rw [cJ _ _ _ hne] at h;exact h
theorem bI.chs_set {ρ:Ren}{w w':Wj}(S:bI ρ w w'){a a':Wu}{v v' x:Wx}(hx:w.cell? a=some x)(h:RA ρ a a'):Chs ρ w w' (w.setCell a v) (w'.setCell a' v'):=⟨fun c b hc hb=>by
 have hne:a.block≠c:=fun e=>S.cell_ch hx (e▸hc)
 exact .inl ⟨cM _ _ _ hne,cM _ _ _ (S.ne_chan h.1 hb hne)⟩,fun _ b o ho hc=>.inl (qO w a v ho hc)⟩
theorem bI.chs_push {ρ:Ren}{w w':Wj}(S:bI ρ w w')(o o':Obj)(hs:o.isChan=true->ρ.F lp=true):Chs ρ w w' {w with heap:=w.heap.push o} {w' with heap:=w'.heap.push o'}:=⟨fun c b hc hb=>by
 obtain ⟨h1,h2⟩:=S.lt hb;refine .inl ⟨?_,?_⟩
 .simp only [gP,if_neg (show ¬c=w.heap.size by omega)]
 .simp only [gP,if_neg (show ¬b=w'.heap.size by omega)],fun hS b x hx hc=>by
 simp only [gP] at hx;split at hx
 .cases hx;rw [hs hc] at hS;cases hS
 .exact .inl hx⟩
theorem mU (w:Wj)(a:Wu)(n:Nat){o:Obj}(h:w.heap[a.block]?=some o)(hc:o.isChan=true):(w.freeze a n).heap[a.block]?=w.heap[a.block]?:=by
 unfold World.freeze;split
 .rfl
 .simp only [Array.getElem?_modify,h,if_true,Option.map_some];cases o<;>first|rfl|simp [Obj.isChan] at hc
theorem bI.chs_freeze {ρ:Ren}{w w':Wj}(S:bI ρ w w'){a a':Wu}(h:RA ρ a a')(n:Nat):Chs ρ w w' (w.freeze a n) (w'.freeze a' n):=⟨fun c b hc hb=>by
 by_cases hne:a.block=c
 .subst hne;obtain ⟨o,h1,h2⟩:=S.chan _ hc;obtain ⟨x,x',k1,k2,k3⟩:=S.obj _ _ h.1;rw [h1] at k1;cases k1;have h3:x'.isChan=true:=by cases k3<;>simp [Obj.isChan] at h2 ⊢
  obtain rfl:a'.block=b:=ρ.fn _ _ _ h.1 hb;exact .inl ⟨mU w a n h1 h2,mU w' a' n k2 h3⟩
 .exact .inl ⟨cJ _ _ _ hne,cJ _ _ _ (S.ne_chan h.1 hb hne)⟩,fun _ b o ho hc=>.inl (qP w a n ho hc)⟩
theorem bI.chs_put {ρ:Ren}{w w':Wj}(S:bI ρ w w'){r r':Nat}(h:ρ r r'){o o':Obj}(hch:ρ.ch r->ρ.F fK=true/\∃n b s q tm,o=.chan n b true s q tm)(hs:o.isChan=true->ρ.F fK=true/\∃n b s q tm,o=.chan n b true s q tm):Chs ρ w w' {w with heap:=w.heap.setIfInBounds r o} {w' with heap:=w'.heap.setIfInBounds r' o'}:=⟨fun c b hc hb=>by
 by_cases hne:r=c
 .subst hne;obtain ⟨h1,n,q,s,t,tm,rfl⟩:=hch hc;refine .inr ⟨h1,n,q,s,t,tm,?_⟩;simp [(S.lt h).1]
 .exact .inl ⟨by simp [hne],by simp [S.ne_chan h hb hne]⟩,fun hS b x hx hc=>by
 by_cases hne:r=b
 .subst hne;have hx0:=hx;simp [(S.lt h).1] at hx;subst hx;obtain ⟨h1,n,q,s,t,tm,rfl⟩:=hs hc;exact .inr ⟨h1,n,q,s,t,tm,hx0⟩
 .exact .inl (by simpa [hne] using hx)⟩
def B5 {α:Type}(r:Result α):Prop:=∃h w,r=.halt h w/\eu h=true
def Out {α β:Type}(Q:Ren->α->β->Prop)(ρ:Ren)(w w':Wj)(es':Array Event)(r:Result α)(r':Result β×Array Event):Prop:=
 ∃ρ',ρ.le ρ'/\bI ρ' r.w r'.1.w/\RR Q ρ' r r'.1/\Keep ρ w' r'.1.w/\(∀a b,ρ' a b->ρ a b\/(w.heap.size<=a/\w'.heap.size<=b))/\r'.1.w.drawn+w.drawn=w'.drawn+r.w.drawn/\eC ρ' es' r'.2/\w.heap.size<=r.w.heap.size/\Chs ρ w w' r.w r'.1.w
def Draws (w w' u:Wj):Prop:=∀i,w.drawn+i<u.drawn->w'.tape (w'.drawn+i)=w.tape (w.drawn+i)
theorem Out.after {α β:Type}{Q:Ren->α->β->Prop}{ρ d:Ren}{w w' w1 w1':Wj}{es' c:Array Event}{r:Result α}{r':Result β×Array Event}(h:Out Q d w1 w1' c r r')(hle:ρ.le d)(hk:Keep ρ w' w1')(hs:w.heap.size<=w1.heap.size)(hn:∀a b,d a b->ρ a b\/(w.heap.size<=a/\w'.heap.size<=b))(hd:w1'.drawn+w.drawn=w'.drawn+w1.drawn)(he:eC d es' c)(hc:Chs ρ w w' w1 w1':=by exact Chs.refl _ _ _):Out Q ρ w w' es' r r':=by
 obtain ⟨ρ',l,S,R,K,N,D,E,G,C⟩:=h;refine ⟨ρ',Ren.le_trans hle l,S,R,hk.trans K hle.old (fun a b h=>(hn a b h).imp id (·.2)),fun a b h=>?_,by omega,(he.mono l).trans E,lT hs G,hc.trans hle C⟩;rcases N a b h with h1|⟨h1,h2⟩
 .exact hn a b h1
 .have:=hk.size;exact .inr ⟨by omega,by omega⟩
theorem zb (w:Wj)(c:Sys):w.drawn<=(w.sys c).2.drawn:=by
 unfold World.sys;obtain ⟨-,h2,-,-⟩:=F0 (Kernel.perform c w.os) w;split
 .exact lR _
 .rename_i r os u _ a;rw [a] at h2;exact h2
theorem zd {α:Type}(P:Wv)(s:Sem α):∀ (w:Wj)(es:Array Event),w.drawn<=(s.runT P w es).1.w.drawn:=by
  induction s with
  |pure a=>intro w es;exact lR _
  |load m a k ih=>
    intro w es;simp only [Sem.runT];split
    . exact ih _ w _
    . split
      . exact ih _ w _
      . exact lR _
  |store m a v k ih=>
    intro w es;by_cases ho:gV v=true
    . have e : (Sem.store m a v k).runT P w es = match w.cell? a with
          | some _ => if w.frozen? a then (.halt (.unsupported (.unsafePointer "a write to bytes that a string shares")) w, es) else k.runT P (w.setCell a v) (es.push ⟨.cell a, true, m == .atomic⟩)
          |none=>match w.farStore P a v (m == .atomic) with
            | .ok (u,touched)=>k.runT P u (es++touched.toArray.map (⟨.cell ·,true,m == .atomic⟩))
            | .error h=>(.halt h w,es):=by cases v<;>first|rfl|simp [gV] at ho
      rw [e];split
      . split
        . exact lR _
        . exact ih (w.setCell a v) _
      . split
        . rename_i u l hu
          rw [<-(px hu).2];exact ih u _
        . exact lR _
    . have e : (Sem.store m a v k).runT P w es = (.halt (.stuck "store: not the value of one cell") w, es) := by cases v <;> first | rfl | simp [gV] at ho
      rw [e];exact lR _
  |new o k ih=>intro w es;exact ih _ {w with heap:=w.heap.push o} es
  |shape r k ih=>intro w es;exact ih _ w es
  |freeze a n k ih=>intro w es;have:=ih (w.freeze a n) es;rw [(cy w a n).2] at this;exact this
  |frozen a k ih=>intro w es;exact ih _ w es
  |getObj r k ih=>
    intro w es;simp only [Sem.runT];split
    . exact lR _
    . exact ih _ w _
    . exact lR _
  |setObj r o k ih=>
    intro w es;simp only [Sem.runT];split
    . exact lR _
    . exact ih {w with heap:=w.heap.setIfInBounds r o} _
    . exact lR _
  |choose q k ih=>
    intro w es;simp only [Sem.runT];split
    . exact ih _ w es
    . have:=ih (q.cut (w.tape w.drawn q)) {w with drawn:=w.drawn+1} es
      simp only at this;omega
  |sys c k ih=>intro w es;exact lT (zb w c) (ih _ _ _)
  |program k ih=>intro w es;exact ih P w es
  |mark m k ih=>intro w es;exact ih w _
  |halt h=>intro w es;exact lR _
theorem cZ.run {P:Wv} [Two P]{α:Type}{s:Sem α}(h:cZ P s)(p:Wv)(hp:p.toTables=P.toTables):∀ (w:Wj)(es:Array Event),Mir p s w es/\B5 (s.runT p w es).1:=by
 induction h with
 |halt hn=>intro w es;exact ⟨vk _,_,w,rfl,hn⟩
 |mark m _ ih=>intro w es;exact ⟨vo (ih w _).1,(ih w _).2⟩
 |shape r _ ih=>intro w es;exact ⟨qL (ih _ w _).1,(ih _ w _).2⟩
 |frozen a _ ih=>intro w es;exact ⟨ke (ih _ w _).1,(ih _ w _).2⟩
 |program _ ih=>intro w es;exact ⟨mS (ih p hp w _).1,(ih p hp w _).2⟩
structure Fine (P:Wv) [Two P]{α β:Type}(Q:Ren->α->β->Prop)(ρ:Ren)(s:Sem α)(s':Sem β)(w w':Wj)(es es':Array Event):Prop where
 mir:Mir P s w es
 out:(B5 (s.runT P w es).1/\B5 (s.runT P.alt w es).1)\/(s.runT P.alt w es=s.runT P w es/\Out Q ρ w w' es' (s.runT P w es).1 (s'.runT P w' es'))
theorem Fine.lost {P:Wv} [Two P]{α β:Type}{Q:Ren->α->β->Prop}{ρ:Ren}{s:Sem α}{s':Sem β}{w w':Wj}{es es':Array Event}(h1:Mir P s w es)(h2:∀p:Wv,B5 (s.runT p w es).1):Fine P Q ρ s s' w w' es es':=⟨h1,.inl ⟨h2 P,h2 P.alt⟩⟩
theorem pz {P:Wv} [Two P]{α β:Type}{Q:Ren->α->β->Prop}{ρ:Ren}{s:Sem α}{s':Sem β}(h:RS P Q ρ s s'):∀ (w w':Wj)(es es':Array Event),bI ρ w w'->Draws w w' (s.runT P w es).1.w->Fine P Q ρ s s' w w' es es':=by
 induction h with
 |pure h=>intro w w' es es' S _;exact ⟨B3 _,.inr ⟨rfl,_,Ren.le_refl _,S,.ok w w' h,Keep.refl _ _,fun a b h=>.inl h,by simp only [Sem.runT,Result.w],eC.refl _ _,lR _,Chs.refl _ _ _⟩⟩
 | @load ρ m a a' k k' h _ ih=>
  intro w w' es es' S hd;rcases S.cell h with c1|⟨v,v',c1,c2,hv⟩
  .obtain ⟨e,f1,f3⟩:=S.farLoad h (m == .atomic);have f2:∀p:Wv,w.farLoad p a (m == .atomic)=.error e:=fun p=>f1 p w.tape w.drawn
   exact .lost (tE c1 (f1 P)) (fun p=>⟨e,w,by simp only [Sem.runT,c1,f2],f3⟩)
  .simp only [Sem.runT,c1] at hd;obtain ⟨t1,t2⟩:=ih v v' hv w w' _ (es'.push ⟨.cell a',false,m == .atomic⟩) S hd;refine ⟨B4 c1 t1,?_⟩;simp only [Sem.runT,c1,c2];exact t2.imp id (fun ⟨ha,ho⟩=>⟨ha,ho.after (Ren.le_refl _) (Keep.refl _ _) (lR _) (fun a b h=>.inl h) rfl (eC.push ⟨a.block,h.1,(fun h=>by cases h),S.cell_ch c1⟩)⟩)
 | @store ρ m a a' v v' k k' h hv _ ih=>
  intro w w' es es' S hd;by_cases ho:gV v=true
  .have ho':gV v'=true:=by cases hv<;>first|rfl|simp [gV] at ho
   have e:=fun p:Wv=>fL p m a v k ho
   have e':=fun p:Wv=>fL p m a' v' k' ho'
   rcases S.cell h with c1|⟨x,x',c1,c2,-⟩
   .obtain ⟨y,f1,f3⟩:=S.farStore h v (m == .atomic);have f2:∀p:Wv,w.farStore p a v (m == .atomic)=.error y:=fun p=>f1 p w.tape w.drawn
    exact .lost (qK ho c1 (f1 P)) (fun p=>⟨y,w,by rw [e,c1];simp only [f2],f3⟩)
   .cases hz:w.frozen? a with
    | true => exact .lost (mR ho c1 hz) (fun p => ⟨.unsupported (.unsafePointer "a write to bytes that a string shares"), w, by rw [e, c1]; simp only [hz, if_true], rfl⟩)
    |false=>
     have hz':w'.frozen? a'=false:=by
      rcases S.frozenEq h with k|⟨k,-⟩
      .rw [k];exact hz
      .rw [k] at hz;cases hz
     have hold:¬ρ.old a.block:=fun ho=>by
      obtain ⟨o,h1,h2⟩:=S.fix _ ho;unfold World.cell? at c1;unfold World.frozen? at hz;rw [h1] at c1 hz;cases o with
      |cells c e z=>
       obtain ⟨lo,hi⟩:=z;obtain ⟨z1,z2⟩:=h2;simp only at z1 z2 c1 hz;subst z1;split at c1
       .cases c1
       .have:=(eS c1).1;simp at hz;omega
      |_=>simp at c1
     rw [e] at hd;simp only [c1,hz,Bool.false_eq_true,if_false] at hd;obtain ⟨t1,t2⟩:=ih (w.setCell a v) (w'.setCell a' v') _ (es'.push ⟨.cell a',true,m == .atomic⟩) (S.set h hv hold ho) hd;refine ⟨yZ ho c1 hz t1,?_⟩;rw [e,e,e'];simp only [c1,c2,hz,hz',Bool.false_eq_true,if_false];refine t2.imp id (fun ⟨ha,hout⟩=>⟨ha,hout.after (Ren.le_refl _) ⟨rfl,rfl,rfl,by simp [World.setCell],fun b hb hno=>?_⟩ (by simp [World.setCell]) (fun a b h=>.inl h) (by simp [World.setCell]) (eC.push ⟨a.block,h.1,(fun _=>hold),S.cell_ch c1⟩) (S.chs_set c1 h)⟩);exact cM w' a' v' (fun e=>hold (hno a.block (e▸h.1)))
  .have e : ∀ (p : Wv) (u : Wj), (Sem.store m a v k).runT p u es = (.halt (.stuck "store: not the value of one cell") u, es) := fun p u => by cases v <;> first | rfl | simp [gV] at ho
   exact .lost (tF ho) (fun p=>⟨_,w,by rw [e],rfl⟩)
 | @new ρ o o' k k' h _ hs ih=>
  intro w w' es es' S hd;simp only [Sem.runT] at hd;obtain ⟨t1,t2⟩:=ih w.heap.size w'.heap.size S.freshL S.freshR S.freshO {w with heap:=w.heap.push o} {w' with heap:=w'.heap.push o'} es es' (S.push h) hd;refine ⟨Et t1,?_⟩;simp only [Sem.runT];exact t2.imp id (fun ⟨ha,ho⟩=>⟨ha,ho.after (qJ _ _ _ _ _) ⟨rfl,rfl,rfl,by simp,fun b hb _=>by simp only [gP,if_neg (show ¬b=w'.heap.size by omega)]⟩ (by simp) (fun a b h=>h.imp id (fun h=>⟨by omega,by omega⟩)) (by simp) (eC.refl _ _) (S.chs_push _ _ hs)⟩)
 | @shape ρ r r' k k' h _ ih=>
  intro w w' es es' S hd;simp only [Sem.runT] at hd;obtain ⟨t1,t2⟩:=ih _ w w' es es' S hd;refine ⟨qL t1,?_⟩;simp only [Sem.runT,S.shapeEq h];exact t2
 | @frozen ρ a a' k k' h _ _ ih ih'=>
  intro w w' es es' S hd;simp only [Sem.runT] at hd;rcases S.frozenEq h with z|⟨z,hzf⟩
  .obtain ⟨t1,t2⟩:=ih _ w w' es es' S hd;refine ⟨ke t1,?_⟩;simp only [Sem.runT,z];exact t2
  .rw [z] at hd;obtain ⟨t1,t2⟩:=ih' hzf (w'.frozen? a') w w' es es' S hd;refine ⟨ke (by rw [z];exact t1),?_⟩;simp only [Sem.runT,z];exact t2
 | @freeze ρ a a' n k k' h ho _ ih=>
  intro w w' es es' S hd;simp only [Sem.runT] at hd;have hd':Draws (w.freeze a n) (w'.freeze a' n) (k.runT P (w.freeze a n) es).1.w:=by
   unfold Draws;rw [(cy w a n).1,(cy w a n).2,(cy w' a' n).1,(cy w' a' n).2];exact hd
  obtain ⟨t1,t2⟩:=ih (w.freeze a n) (w'.freeze a' n) es es' (S.freeze h n ho) hd';refine ⟨wK t1,?_⟩;simp only [Sem.runT];refine t2.imp id (fun ⟨ha,hout⟩=>⟨ha,hout.after (Ren.le_refl _) ⟨?_,?_,(cy w' a' n).1,by rw [mT];exact lR _,fun b hb hno=>?_⟩ (by rw [mT];exact lR _) (fun a b h=>.inl h) (by rw [(cy w a n).2,(cy w' a' n).2]) (eC.refl _ _) (S.chs_freeze h n)⟩)
  .unfold World.freeze;split<;>rfl
  .unfold World.freeze;split<;>rfl
  .exact cJ w' a' n (fun e=>ho (hno a.block (e▸h.1)))
 | @getObj ρ r r' k k' h _ ih=>
  intro w w' es es' S hd;obtain ⟨o,o',h1,h2,ho⟩:=S.obj r r' h;by_cases hcell:∃c e z,o=.cells c e z
  .obtain ⟨c,e,z,rfl⟩:=hcell
   exact .lost (qM h1) (fun p => ⟨.stuck "getObj: a row of cells", w, by simp only [Sem.runT, h1], rfl⟩)
  have hold:ρ.old r->F1 o:=fun hr=>by
   obtain ⟨x,k1,k2⟩:=S.fix r hr;rw [h1] at k1;cases k1;cases o with
   |cells c e z=>exact absurd ⟨c,e,z,rfl⟩ hcell
   |coro p=>cases p with
    |none=>exact .coro
    |some _=>exact absurd k2 (fun h=>h)
   |number a l=>exact .number a l
   |_=>exact absurd k2 (fun h=>h)
  have hch:ρ.ch r->o.isChan=true:=fun e=>by
   obtain ⟨x,k1,k2⟩:=S.chan r e;rw [h1] at k1;cases k1;exact k2
  have hch':o'.isChan=false->¬ρ.ch r:=fun e1 e2=>by
   have:=hch e2;cases ho<;>simp [Obj.isChan] at this e1
  have r1:∀ (p:Wv) es1,(Sem.getObj r k).runT p w es1=(k o).runT p w (es1.push ⟨.obj r,false,o.isChan⟩):=fun p es1=>by
   cases o<;>first|exact absurd ⟨_,_,_,rfl⟩ hcell|simp only [Sem.runT,h1]
  have r2:(Sem.getObj r' k').runT P w' es'=(k' o').runT P w' (es'.push ⟨.obj r',false,o'.isChan⟩):=by
   cases ho with
   |cells e hz hc=>exact absurd ⟨_,_,_,rfl⟩ hcell
   |dead _ hd=>cases o'<;>first|(simp [py] at hd;done)|simp only [Sem.runT,h2]
   |_=>simp only [Sem.runT,h2]
  rw [r1] at hd;obtain ⟨t1,t2⟩:=ih o o' ho hold hch w w' _ (es'.push ⟨.obj r',false,o'.isChan⟩) S hd;refine ⟨wL h1 hcell t1,?_⟩;rw [r1,r1,r2];exact t2.imp id (fun ⟨ha,hout⟩=>⟨ha,hout.after (Ren.le_refl _) (Keep.refl _ _) (lR _) (fun a b h=>.inl h) rfl (eC.push ⟨r,h,(fun h=>by cases h),hch'⟩)⟩)
 | @setObj ρ r r' o o' k k' h ho hn hch _ hs ih=>
  intro w w' es es' S hd;obtain ⟨x,x',h1,h2,hx⟩:=S.obj r r' h;by_cases hcell:∃c e z,x=.cells c e z
  .obtain ⟨c,e,z,rfl⟩:=hcell
   exact .lost (qN h1) (fun p => ⟨.stuck "setObj: a row of cells", w, by simp only [Sem.runT, h1], rfl⟩)
  have hch':o'.isChan=false->¬ρ.ch r:=fun e1 e2=>by
   have:=hch e2;obtain ⟨-,_,_,_,_,_,rfl⟩:=this;cases ho;simp [Obj.isChan] at e1
  have r1:∀ (p:Wv) es1,(Sem.setObj r o k).runT p w es1=k.runT p {w with heap:=w.heap.setIfInBounds r o} (es1.push ⟨.obj r,true,o.isChan⟩):=fun p es1=>by
   cases x<;>first|exact absurd ⟨_,_,_,rfl⟩ hcell|simp only [Sem.runT,h1]
  have r2:(Sem.setObj r' o' k').runT P w' es'=k'.runT P {w' with heap:=w'.heap.setIfInBounds r' o'} (es'.push ⟨.obj r',true,o'.isChan⟩):=by
   cases hx with
   |cells e hz hc=>exact absurd ⟨_,_,_,rfl⟩ hcell
   |dead _ hd=>cases x'<;>first|(simp [py] at hd;done)|simp only [Sem.runT,h2]
   |_=>simp only [Sem.runT,h2]
  rw [r1] at hd;obtain ⟨t1,t2⟩:=ih {w with heap:=w.heap.setIfInBounds r o} {w' with heap:=w'.heap.setIfInBounds r' o'} _ (es'.push ⟨.obj r',true,o'.isChan⟩) (S.put h ho hn (fun k=>by obtain ⟨-,_,_,_,_,_,rfl⟩:=hch k;rfl) (fun c e z k=>hcell ⟨c,e,z,by rw [h1] at k;exact oJ k⟩)) hd;refine ⟨wM h1 hcell t1,?_⟩;rw [r1,r1,r2];refine t2.imp id (fun ⟨ha,hout⟩=>⟨ha,hout.after (Ren.le_refl _) ⟨rfl,rfl,rfl,by simp,fun b hb hno=>?_⟩ (by simp) (fun a b h=>.inl h) (by simp) (eC.push ⟨r,h,fun _=>hn,hch'⟩) (S.chs_put h hch hs)⟩);have hne:r'≠b:=fun e=>hn (hno r (e▸h))
  simp [hne]
 | @choose ρ q k k' _ ih=>
  intro w w' es es' S hd;by_cases hf:q.forced=true
  .simp only [Sem.runT,hf,if_true] at hd;obtain ⟨t1,t2⟩:=ih 0 w w' es es' S hd;refine ⟨me hf t1,?_⟩;simp only [Sem.runT,hf,if_true];exact t2
  .have e:∀ (p:Wv) (u:Wj),(Sem.choose q k).runT p u es=(k (q.cut (u.tape u.drawn q))).runT p {u with drawn:=u.drawn+1} es:=fun p u=>by simp only [Sem.runT,hf];rfl
   have e':∀ (u:Wj),(Sem.choose q k').runT P u es'=(k' (q.cut (u.tape u.drawn q))).runT P {u with drawn:=u.drawn+1} es':=fun u=>by simp only [Sem.runT,hf];rfl
   rw [e] at hd;have S1:bI ρ {w with drawn:=w.drawn+1} {w' with drawn:=w'.drawn+1}:=⟨S.obj,S.fix,S.chan,S.os,S.pin⟩;have hlow:w.drawn+1<=((k (q.cut (w.tape w.drawn q))).runT P {w with drawn:=w.drawn+1} es).1.w.drawn:=zd P (k (q.cut (w.tape w.drawn q))) {w with drawn:=w.drawn+1} es;have h0:w'.tape w'.drawn=w.tape w.drawn:=by have:=hd 0 (by omega);simpa using this
   obtain ⟨t1,t2⟩:=ih (q.cut (w.tape w.drawn q)) {w with drawn:=w.drawn+1} {w' with drawn:=w'.drawn+1} es es' S1 (fun i hi=>by
    have:=hd (i+1) (by simp only at hi;omega);simp only;rw [show w'.drawn+1+i=w'.drawn+(i+1) by omega,show w.drawn+1+i=w.drawn+(i+1) by omega];exact this)
   refine ⟨wN hf t1,?_⟩;rw [e,e,e',h0];exact t2.imp id (fun ⟨ha,hout⟩=>⟨ha,hout.after (Ren.le_refl _) ⟨rfl,rfl,rfl,lR _,fun b hb _=>rfl⟩ (lR _) (fun a b h=>.inl h) (by simp only;omega) (eC.refl _ _) ⟨fun _ _ _ _=>.inl ⟨rfl,rfl⟩,fun _ _ _ h _=>.inl h⟩⟩)
 |program h1 _ ih=>
  intro w w' es es' S hd;obtain ⟨t1,t2⟩:=ih w w' es es' S hd;refine ⟨mS t1,?_⟩;simp only [Sem.runT];rw [h1];exact t2
 | @mark ρ m k k' h _ ih=>
  intro w w' es es' S hd;simp only [Sem.runT] at hd;obtain ⟨t1,t2⟩:=ih w w' _ (es'.push ⟨.mark m,false,true⟩) S hd;refine ⟨vo t1,?_⟩;simp only [Sem.runT];exact t2.imp id (fun ⟨ha,hout⟩=>⟨ha,hout.after (Ren.le_refl _) (Keep.refl _ _) (lR _) (fun a b h=>.inl h) rfl (eC.push h)⟩)
 |halt hh=>intro w w' es es' S _;exact ⟨vk _,.inr ⟨rfl,_,Ren.le_refl _,S,.halt w w' hh,Keep.refl _ _,fun a b h=>.inl h,by simp only [Sem.runT,Result.w],eC.refl _ _,lR _,Chs.refl _ _ _⟩⟩
 | @env ρ k k' _ ih=>
  intro w w' es es' S hd;have e:∀u:Wj,u.sys .env=(.strings u.os.env,u):=fun u=>rfl
  have e1:∀ (p:Wv),(Sem.sys .env k).runT p w es=(k (.strings w.os.env)).runT p w (es.push ⟨.output,true,false⟩):=fun p=>rfl
  have e2:(Sem.sys .env k').runT P w' es'=(k' (.strings w.os.env)).runT P w' (es'.push ⟨.output,true,false⟩):=by
   rw [<-S.os];rfl
  rw [e1] at hd;obtain ⟨t1,t2⟩:=ih (.strings w.os.env) w w' _ (es'.push ⟨.output,true,false⟩) S hd;refine ⟨gF P _ (k (.strings w.os.env)) w w es _ (e1 P) rfl rfl (fun τ d=>rfl) t1,?_⟩;rw [e1,e1,e2];exact t2.imp id (fun ⟨ha,hout⟩=>⟨ha,hout.after (Ren.le_refl _) (Keep.refl _ _) (lR _) (fun a b h=>.inl h) rfl (eC.push trivial)⟩)
 |lost h s'=>intro w w' es es' S _;exact ⟨(h.run P rfl w es).1,.inl ⟨(h.run P rfl w es).2,(h.run P.alt rfl w es).2⟩⟩
def QE {α:Type}:Ren->α->α->Prop:=fun _ a b=>a=b
def QV:Ren->Wx->Wx->Prop:=fun ρ v v'=>RV ρ v v'
def QA:Ren->Wu->Wu->Prop:=fun ρ a a'=>RA ρ a a'
def QVs:Ren->Array Wx->Array Wx->Prop:=fun ρ c c'=>RVs ρ c c'
def QU:Ren->Unit->Unit->Prop:=fun _ _ _=>True
def bM (P:Wv):Prop:=∀t i z,P.info? t=some i->i.zero=some z->∀ρ,RV ρ z z
section
variable {P:Wv} [Two P] {ρ:Ren}
theorem ae {α β:Type}{Q:Ren->α->β->Prop}(s:String){x':Sem β}:RS P Q ρ (stuck s) x':=.lost (.halt rfl) _
theorem aj {α β:Type}{Q:Ren->α->β->Prop}(u:Unsupported)(hn:eu (.unsupported u)=true:=by rfl){x':Sem β}:RS P Q ρ (unsupported u) x':=.lost (.halt hn) _
theorem aa {α β:Type}{Q:Ren->α->β->Prop}{a:α}{b:β}(h:Q ρ a b):RS P Q ρ (Pure.pure a) (Pure.pure b):=.pure h
theorem ah {α β γ δ:Type}{Q:Ren->α->β->Prop}{Q':Ren->γ->δ->Prop}{x:Sem α}{x':Sem β}{f:α->Sem γ}{f':β->Sem δ}(h:RS P Q ρ x x')(hf:∀ρ',ρ.le ρ'->∀a b,Q ρ' a b->RS P Q' ρ' (f a) (f' b)):RS P Q' ρ (x >>= f) (x' >>= f'):=RS.bind h hf
theorem ag {α γ δ:Type}{Q':Ren->γ->δ->Prop}{x x':Sem α}{f:α->Sem γ}{f':α->Sem δ}(h:RS P QE ρ x x')(hf:∀ρ',ρ.le ρ'->∀a,RS P Q' ρ' (f a) (f' a)):RS P Q' ρ (x >>= f) (x' >>= f'):=RS.bind h (fun ρ' hl a b (e:a=b)=>e▸hf ρ' hl a)
theorem aY {γ δ:Type}{Q':Ren->γ->δ->Prop}{f:Wv->Sem γ}{f':Wv->Sem δ}(h:RS P Q' ρ (f P) (f' P))(h1:f P.alt=f P:=by rfl):RS P Q' ρ (program >>= f) (program >>= f'):=.program h1 h
theorem aH (t:Ww):RS P (fun _ a b=>a=b/\P.info? t=some a) ρ (typeInfo t) (typeInfo t):=by
 unfold typeInfo;refine .program rfl ?_
 show RS P _ ρ (match P.info? t with | some i => Pure.pure i | none => stuck "no such type") (match P.info? t with | some i => Pure.pure i | none => stuck "no such type")
 cases P.info? t with
 |none=>exact ae _
 |some i=>exact aa ⟨rfl,rfl⟩
theorem ao (t:Ww):RS P QE ρ (underlying t) (underlying t):=by
 unfold underlying;refine .program rfl ?_
 show RS P _ ρ (match P.underlying t with | some i => Pure.pure i | none => stuck "no such type") (match P.underlying t with | some i => Pure.pure i | none => stuck "no such type")
 cases P.underlying t with
 |none=>exact ae _
 |some i=>exact aa rfl
theorem aT (t:Ww):RS P (fun _ a b=>a=b/\P.underlying t=some a) ρ (underlying t) (underlying t):=by
 unfold underlying;refine .program rfl ?_
 show RS P _ ρ (match P.underlying t with | some i => Pure.pure i | none => stuck "no such type") (match P.underlying t with | some i => Pure.pure i | none => stuck "no such type")
 cases P.underlying t with
 |none=>exact ae _
 |some i=>exact aa ⟨rfl,rfl⟩
theorem bz (c:bM P)(t:Ww):RS P QV ρ (zeroValue t) (zeroValue t):=by
 unfold zeroValue;refine ah (aH t) (fun ρ' _ a b h=>?_);obtain ⟨rfl,d⟩:=h;cases hz:a.zero with
 |none=>exact aj _
 |some z=>exact aa (c t a z d hz ρ')
theorem bm (t:Ww):RS P QE ρ (sizeOf t) (sizeOf t):=by
 unfold sizeOf;exact ah (aH t) (fun ρ' _ a b h=>by obtain ⟨rfl,-⟩:=h;exact aa rfl)
theorem vp (t:Ww):RS P QE ρ (isAgg t) (isAgg t):=by
 unfold isAgg;refine ag (ao t) (fun ρ' _ a=>?_);split<;>exact aa rfl
theorem mV {a a':Wu}(h:RA ρ a a')(m:Mode):RS P QV ρ (load a m) (load a' m):=.load m h (fun _ _ hv=>.pure hv)
theorem B6 {a a':Wu}(h:RA ρ a a'){v v':Wx}(hv:RV ρ v v')(m:Mode):RS P QU ρ (store a v m) (store a' v' m):=.store m h hv (.pure trivial)
theorem RA.add {a a':Wu}(h:RA ρ a a')(n:Nat):RA ρ (a.add n) (a'.add n):=by
 unfold Addr.add;split
 .exact h
 .exact ⟨h.1,by simp [h.2.1],rfl⟩
theorem RVs.push {c c':Array Wx}(h:RVs ρ c c'){v v':Wx}(hv:RV ρ v v'):RVs ρ (c.push v) (c'.push v'):=by
 refine ⟨by simp [h.size],fun i x x' h1 h2=>?_⟩;rw [gP] at h1 h2;rw [<-h.size] at h2;by_cases a:i=c.size
 .simp only [a,if_true,oI] at h1 h2;subst h1;subst h2;exact hv
 .simp only [a,if_false] at h1 h2;exact h.at_ i x x' h1 h2
theorem RVs.nil:RVs ρ #[] #[]:=⟨rfl,fun i v v' h=>by simp at h⟩
theorem mf:∀ (n i:Nat){ρ:Ren}{a a':Wu}{c c':Array Wx},RA ρ a a'->RVs ρ c c'->RS P QVs ρ (loadCellsFrom a i n c) (loadCellsFrom a' i n c'):=by
 intro n;induction n with
 |zero=>intro i ρ a a' c c' _ hc;exact aa hc
 |succ n ih=>
  intro i ρ a a' c c' h hc;unfold loadCellsFrom;exact ah (mV (h.add i) _) (fun ρ' hl v v' hv=>ih (i+1) (h.mono hl) ((hc.mono hl).push hv))
theorem fk {a a':Wu}(h:RA ρ a a')(n:Nat):RS P QVs ρ (loadCells a n) (loadCells a' n):=mf n 0 h RVs.nil
theorem oe (t:Ww){a a':Wu}(h:RA ρ a a'):RS P QV ρ (loadVar t a) (loadVar t a'):=by
 unfold loadVar;refine ag (vp t) (fun ρ1 l1 b=>?_);cases b with
 |true=>
  refine ag (bm t) (fun ρ2 l2 n=>?_);refine ah (fk ((h.mono l1).mono l2) n) (fun ρ3 _ c c' hc=>aa (.agg hc.size hc.at_))
 |false=>exact mV (h.mono l1) _
theorem RV.cellsRel {v v':Wx}(h:RV ρ v v'):RVs ρ v.cells v'.cells:=by
 have a:RVs ρ #[v] #[v']:=RVs.nil.push h;cases h with
 |agg hc h=>exact ⟨hc,h⟩
 |dead v' h=>cases v'<;>first|exact a|simp [gQ] at h
 |_=>exact a
theorem cj:∀ (c b:List Wx)(i:Nat){ρ:Ren}{a a':Wu},RA ρ a a'->c.length=b.length->(∀ (j:Nat) v v',c[j]?=some v->b[j]?=some v'->RV ρ v v')->RS P QU ρ (storeCells a c i) (storeCells a' b i):=by
 intro c;induction c with
 |nil=>intro b i ρ a a' _ hl _;cases b with
  |nil=>exact aa trivial
  |cons=>simp at hl
 |cons v c ih=>
  intro b i ρ a a' h hl hv;cases b with
  |nil=>simp at hl
  |cons v' b=>
   unfold storeCells;exact ah (B6 (h.add i) (hv 0 v v' rfl rfl) _) (fun ρ' l _ _ _=>ih b (i+1) (h.mono l) (by simpa using hl) (fun j x x' h1 h2=>(hv (j+1) x x' h1 h2).mono l))
theorem tG (t:Ww){a a':Wu}(h:RA ρ a a'){v v':Wx}(hv:RV ρ v v'):RS P QU ρ (storeVar t a v) (storeVar t a' v'):=by
 have hc:=hv.cellsRel;unfold storeVar;refine ag (bm t) (fun b l1 n=>?_);have hc1:=hc.mono l1;have fin:RS P QU b (storeCells a v.cells.toList) (storeCells a' v'.cells.toList):=cj _ _ 0 (h.mono l1) (by simpa using hc1.size) (fun j x x' h1 h2=>hc1.at_ j x x' (by simpa using h1) (by simpa using h2));rw [<-hc.size];split
 .exact ah (Q:=QU) (ae _) (fun ρ2 l2 _ _ _=>cj _ _ 0 ((h.mono l1).mono l2) (by simpa using hc1.size) (fun j x x' h1 h2=>(hc1.at_ j x x' (by simpa using h1) (by simpa using h2)).mono l2))
 .exact fin
theorem dO (e:Ww){c c':Array Wx}(h:RVs ρ c c'):RS P QA ρ (newRow e c) (newRow e c'):=by
 unfold newRow;exact .new (.cells e (.inl rfl) h) (fun r r' _ _ _=>.pure ⟨.inr ⟨rfl,rfl⟩,rfl,rfl⟩)
theorem mW (t:Ww){v v':Wx}(hv:RV ρ v v'):RS P QA ρ (newVar t v) (newVar t v'):=dO t hv.cellsRel
theorem eR {α β:Type}{Q:Ren->α->β->Prop}:RS P Q ρ (runtimePanic .nilDeref) (runtimePanic .nilDeref):=.program rfl (.halt (.panic (.iface _ (.string _))))
theorem qQ {v v':Wx}(hv:RV ρ v v'):RS P QA ρ (asAddr v) (asAddr v'):=by
 cases hv with
 |pointer h=>
  cases h with
  |none=>exact eR
  |some h=>exact aa h
 |_=>exact ae _
theorem qR {v v':Wx}(hv:RV ρ v v'):RS P QE ρ (asBool v) (asBool v'):=by
 cases hv<;>first|exact aa rfl|exact ae _
theorem B7 {v v':Wx}(hv:RV ρ v v'):RS P QVs ρ (asAgg v) (asAgg v'):=by
 cases hv with
 |agg hc h=>exact aa ⟨hc,h⟩
 |_=>exact ae _
theorem eT {v v':Wx}(hv:RV ρ v v'):RS P QA ρ (Instr.sureAddr v) (Instr.sureAddr v'):=by
 cases hv with
 |pointer h=>
  cases h with
  |none=>exact ae _
  |some h=>exact aa h
 |_=>exact ae _
theorem B8 (b:bM P)(t:Ww):RS P QV ρ (Instr.alloc t true (.tuple #[])) (Instr.alloc t true (.tuple #[])):=by
 unfold Instr.alloc;refine ah (bz b t) (fun ρ1 _ z z' hz=>?_);exact ah (mW t hz) (fun ρ2 _ a a' ha=>aa (.pointer (.some ha)))
theorem F2 (t:Ww){v v':Wx}(hv:RV ρ v v'):RS P QV ρ (Instr.box t v) (Instr.box t v'):=by
 unfold Instr.box;exact ah (mW t hv) (fun ρ2 _ a a' ha=>aa (.pointer (.some ha)))
theorem ze (t:Ww){v v':Wx}(hv:RV ρ v v'):RS P QV ρ (Instr.loadAt t v) (Instr.loadAt t v'):=by
 unfold Instr.loadAt;exact ah (eT hv) (fun ρ1 _ a a' ha=>oe t ha)
theorem wO (t:Ww){v v' x x':Wx}(hv:RV ρ v v')(hx:RV ρ x x'):RS P QU ρ (Instr.storeAt t v x) (Instr.storeAt t v' x'):=by
 unfold Instr.storeAt;exact ah (eT hv) (fun ρ1 l a a' ha=>tG t ha (hx.mono l))
theorem wP {v v':Wx}(hv:RV ρ v v')(i:Nat):RS P QV ρ (Instr.extract v i) (Instr.extract v' i):=by
 unfold Instr.extract;cases hv with
 |tuple hc h=>
  rcases RVs.get ⟨hc,h⟩ i with ⟨h1,h2⟩|⟨x,x',h1,h2,hx⟩
  .simp only [h1,h2];exact ae _
  .simp only [h1,h2];exact aa hx
 |_=>exact ae _
theorem tH {f f':Fn}(hf:RFn ρ f f'){a a' c c':Array Wx}(ha:RVs ρ a a')(hc:RVs ρ c c'):RS P QV ρ (Instr.makeFunc f a c) (Instr.makeFunc f' a' c'):=by
 unfold Instr.makeFunc;exact aa (.func hf ha.size hc.size ha.at_ hc.at_)
theorem RVs.extract {c c':Array Wx}(h:RVs ρ c c')(i j:Nat):RVs ρ (c.extract i j) (c'.extract i j):=by
 refine ⟨by simp [h.size],fun k v v' h1 h2=>?_⟩;rw [Array.getElem?_extract] at h1 h2;rw [<-h.size] at h2;split at h1
 .rename_i hk;rw [if_pos hk] at h2;exact h.at_ _ v v' h1 h2
 .cases h1
theorem gW (t:Ww){c c':Array Wx}(h:RVs ρ c c')(o:Nat):RS P QV ρ (Go.part t c o) (Go.part t c' o):=by
 unfold Go.part;refine ag (vp t) (fun ρ1 l1 b=>?_);cases b with
 |true=>exact ag (bm t) (fun ρ2 l2 n=>aa (by have:=((h.mono l1).mono l2).extract o (o+n);exact .agg this.size this.at_))
 |false=>
  rcases (h.mono l1).get o with ⟨h1,h2⟩|⟨x,x',h1,h2,hx⟩
  .simp only [h1,h2];exact ae _
  .simp only [h1,h2];exact aa hx
theorem B9 (t:Ww){v v':Wx}(hv:RV ρ v v')(f:Nat):RS P QV ρ (Instr.field t v f) (Instr.field t v' f):=by
 unfold Instr.field;refine ag (ao t) (fun ρ1 l1 d=>?_);split
 .split
  .exact ah (B7 (hv.mono l1)) (fun ρ2 l2 c c' hc=>gW _ hc _)
  .exact ae _
 .exact ae _
theorem iG {v v':Wx}(hv:RV ρ v v'):RS P QE ρ (asIntOf v) (asIntOf v'):=by
 cases hv with
 |int k n=>exact aa rfl
 |pointer h=>
  cases h with
  |none=>exact ae _
  |some h=>exact aj _
 |_=>exact ae _
theorem cz {α β:Type}{Q:Ren->α->β->Prop}(k:IntKind)(x y:Int)(c:BoundsCode):RS P Q ρ (boundsPanic k x y c) (boundsPanic k x y c):=by
 have fin:∀ (a:Ren) (s:Bool),RS P Q a (runtimePanic (.bounds (IntKind.i64.wrap x) y s c)) (runtimePanic (.bounds (IntKind.i64.wrap x) y s c)):=by
  intro a s;refine .program rfl (.halt (.panic (.iface _ (.agg rfl (fun i v v' h1 h2=>?_)))));rw [h1] at h2;cases h2;have hb:∀u∈#[Value.int .i64 (IntKind.i64.wrap x),.int .i64 y,.bool s,.int .u8 c.toNat],RV a u u:=by
   intro u b;simp at b;rcases b with rfl|rfl|rfl|rfl
   .exact .int _ _
   .exact .int _ _
   .exact .bool _
   .exact .int _ _
  exact hb v (Array.mem_of_getElem? h1)
 unfold boundsPanic;simp only;split
 .exact .choose _ (fun n=>fin ρ _)
 .exact fin ρ _
theorem Ca (t:Ww){v v' i i':Wx}(hv:RV ρ v v')(c:RV ρ i i'):RS P QV ρ (Instr.index t v i) (Instr.index t v' i'):=by
 unfold Instr.index;refine ag (iG c) (fun ρ1 l1 b=>?_);obtain ⟨k,n⟩:=b;refine ag (ao t) (fun ρ2 l2 d=>?_);have hv2:=(hv.mono l1).mono l2;cases hv2 with
 |agg hc h=>
  cases d with
  |array len a=>
   simp only;split
   .exact ag (bm a) (fun ρ3 l3 m=>gW _ (RVs.mono l3 ⟨hc,h⟩) _)
   .exact cz _ _ _ _
  |_=>exact ae _
 |string s=>
  cases d with
  |string=>
   simp only;split
   .exact aa (.int _ _)
   .exact cz _ _ _ _
  |_=>exact ae _
 |_=>cases d<;>exact ae _
theorem cN {v v':Wx}(hv:RV ρ v v')(y:Nat)(c:BoundsCode):RS P QE ρ (Instr.sliceBound v y c) (Instr.sliceBound v' y c):=by
 unfold Instr.sliceBound;refine ag (iG hv) (fun ρ1 l1 a=>?_);obtain ⟨k,n⟩:=a;simp only;split
 .exact aa rfl
 .exact cz _ _ _ _
theorem eh (f:Bool)(len cap:Nat){d a e b i c:Option Wx}(h1:∀v v',d=some v->a=some v'->RV ρ v v')(h2:∀v v',e=some v->b=some v'->RV ρ v v')(h3:∀v v',i=some v->c=some v'->RV ρ v v')
  (e1:d.isSome=a.isSome) (e2:e.isSome=b.isSome) (e3:i.isSome=c.isSome):RS P QE ρ (Instr.sliceBounds f len cap d e i) (Instr.sliceBounds f len cap a b c):=by
 unfold Instr.sliceBounds;cases i<;>cases c<;>first|(simp at e3;done)|skip
 .refine ag (aa rfl) (fun k l1 m=>?_);cases e<;>cases b<;>first|(simp at e2;done)|skip
  .refine ag (aa rfl) (fun j l2 h=>?_);cases d<;>cases a<;>first|(simp at e1;done)|skip
   .exact ag (aa rfl) (fun _ _ _=>aa rfl)
   .exact ag (cN (((h1 _ _ rfl rfl).mono l1).mono l2) _ _) (fun _ _ _=>aa rfl)
  .refine ag (cN ((h2 _ _ rfl rfl).mono l1) _ _) (fun j l2 h=>?_);cases d<;>cases a<;>first|(simp at e1;done)|skip
   .exact ag (aa rfl) (fun _ _ _=>aa rfl)
   .exact ag (cN (((h1 _ _ rfl rfl).mono l1).mono l2) _ _) (fun _ _ _=>aa rfl)
 .refine ag (cN (h3 _ _ rfl rfl) _ _) (fun k l1 m=>?_);cases e<;>cases b<;>first|(simp at e2;done)|skip
  .refine ag (ae _) (fun j l2 h=>?_);cases d<;>cases a<;>first|(simp at e1;done)|skip
   .exact ag (aa rfl) (fun _ _ _=>aa rfl)
   .exact ag (cN (((h1 _ _ rfl rfl).mono l1).mono l2) _ _) (fun _ _ _=>aa rfl)
  .refine ag (cN ((h2 _ _ rfl rfl).mono l1) _ _) (fun j l2 h=>?_);cases d<;>cases a<;>first|(simp at e1;done)|skip
   .exact ag (aa rfl) (fun _ _ _=>aa rfl)
   .exact ag (cN (((h1 _ _ rfl rfl).mono l1).mono l2) _ _) (fun _ _ _=>aa rfl)
theorem RAo.addAll {a a':Option Wu}(h:RAo ρ a a')(n:Nat):RAo ρ (a.map (·.add n)) (a'.map (·.add n)):=by
 cases h with
 |none=>exact .none
 |some h=>exact .some (h.add n)
theorem wQ (t:Ww){v v' i i':Wx}(hv:RV ρ v v')(q:RV ρ i i'):RS P QV ρ (Instr.indexAt t v i) (Instr.indexAt t v' i'):=by
 unfold Instr.indexAt;refine ag (iG q) (fun ρ1 l1 u=>?_);obtain ⟨k,n⟩:=u;refine ag (ao t) (fun ρ2 l2 d=>?_);have hv2:=(hv.mono l1).mono l2;cases d with
 |array len f=>
  refine ah (eT hv2) (fun ρ3 l3 a a' ha=>?_);refine ah (Q:=fun ρ (x y:Option Wu×Nat×Ww)=>RAo ρ x.1 y.1/\x.2=y.2) (aa ⟨.some ha,rfl⟩) (fun p l4 x y h=>?_);obtain ⟨b,len,f⟩:=x;obtain ⟨b',l,j⟩:=y;obtain ⟨hb,e⟩:=h;simp only [Prod.mk.injEq] at e;obtain ⟨rfl,rfl⟩:=e;simp only at hb ⊢;refine ag (ao t) (fun r l5 d=>?_);cases hb with
  |none=>exact cz _ _ _ _
  |some ha=>
   simp only;split
   .exact ag (bm _) (fun s o m=>aa (.pointer (.some (((ha.mono l5).mono o).add _))))
   .repeat' split
    all_goals first
     |exact aj _
     |exact cz _ _ _ _
 |slice f=>
  cases hv2 with
  |slice m c hs=>
   refine ah (Q:=fun ρ (x y:Option Wu×Nat×Ww)=>RAo ρ x.1 y.1/\x.2=y.2) (aa ⟨hs,rfl⟩) (fun p l4 x y h=>?_);obtain ⟨b,len,f⟩:=x;obtain ⟨b',l,j⟩:=y;obtain ⟨hb,e⟩:=h;simp only [Prod.mk.injEq] at e;obtain ⟨rfl,rfl⟩:=e;simp only at hb ⊢;refine ag (ao t) (fun r l5 d=>?_);cases hb with
   |none=>exact cz _ _ _ _
   |some ha=>
    simp only;split
    .exact ag (bm _) (fun s o m=>aa (.pointer (.some (((ha.mono l5).mono o).add _))))
    .repeat' split
     all_goals first
      |exact aj _
      |exact cz _ _ _ _
  |_=>exact ae _
 |_=>exact ae _
theorem Cb (t:Ww){v v':Wx}(hv:RV ρ v v'){q f o i r j:Option Wx}(h1:∀v v',q=some v->f=some v'->RV ρ v v')(h2:∀v v',o=some v->i=some v'->RV ρ v v')(h3:∀v v',r=some v->j=some v'->RV ρ v v')
  (e1:q.isSome=f.isSome) (e2:o.isSome=i.isSome) (e3:r.isSome=j.isSome):RS P QV ρ (Instr.slice t v q o r) (Instr.slice t v' f i j):=by
 unfold Instr.slice;refine ag (ao t) (fun p l1 d=>?_);have hv1:=hv.mono l1;have g1:∀v v',q=some v->f=some v'->RV p v v':=fun v v' a b=>(h1 v v' a b).mono l1
 have g2:∀v v',o=some v->i=some v'->RV p v v':=fun v v' a b=>(h2 v v' a b).mono l1
 have g3:∀v v',r=some v->j=some v'->RV p v v':=fun v v' a b=>(h3 v v' a b).mono l1
 cases d with
 |string=>
  cases hv1 with
  |string s=>
   simp only;have fin:∀k,p.le k->RS P QV k (do let (l,h,_) <-Instr.sliceBounds false s.size s.size q o none;pure (.string (s.extract l h)):Sem Wx) (do let (l,h,_) <-Instr.sliceBounds false s.size s.size f i none;pure (.string (s.extract l h))):=fun k l2=>
    ag (eh false _ _ (fun v v' a b=>(g1 v v' a b).mono l2) (fun v v' a b=>(g2 v v' a b).mono l2) (fun v v' a _=>by cases a) e1 e2 rfl) (fun y _ x=>aa (.string _))
   rw [<-e3];split
   .exact ah (Q:=QU) (ae _) (fun k l2 _ _ _=>fin k l2)
   .exact fin p (Ren.le_refl _)
  |_=>exact ae _
 |slice e=>
  cases hv1 with
  |slice n c ha=>
   refine ag (eh true _ _ g1 g2 g3 e1 e2 e3) (fun k l2 x=>?_);obtain ⟨l,h,m⟩:=x;refine ag (bm e) (fun y l3 z=>?_);refine aa (.slice _ _ ?_);have ha3:=(ha.mono l2).mono l3;split
   .exact ha3
   .exact ha3.addAll _
  |_=>exact ae _
 |pointer u=>
  refine ah (qQ hv1) (fun k l2 a a' ha=>?_);refine ag (ao u) (fun y l3 d=>?_);cases d with
  |array n e=>
   refine ag (eh false _ _ (fun v v' a b=>((g1 v v' a b).mono l2).mono l3) (fun v v' a b=>((g2 v v' a b).mono l2).mono l3) (fun v v' a b=>((g3 v v' a b).mono l2).mono l3) e1 e2 e3) (fun ρ4 l4 x=>?_);obtain ⟨l,h,m⟩:=x;refine ag (bm e) (fun ρ5 l5 z=>?_);refine aa (.slice _ _ (.some ?_));have ha5:=((ha.mono l3).mono l4).mono l5;split
   .exact ha5
   .exact ha5.add _
  |_=>exact ae _
 |_=>exact ae _
end
