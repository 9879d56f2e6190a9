/- A part. -/
import Derived.Test.YteidaiooccmmmaaGreatDoorRows
import Derived.WalkKit
import Derived.WalkSpells
import Derived.WalkLawsBesides
import Derived.Calls
import Derived.Laws.Sem
import Derived.RunT
import Derived.Lone
import Derived.RangeFuncRecord
set_option maxHeartbeats 4000000
set_option maxRecDepth 100000
open Go renaming World->Wj,Value->Wx,Goroutine->Wk,Program->Wv,TypeId->Ww,Frame->Wy,Addr->Wu,undef->Wo
namespace Go.Proofs
open Option renaming none->N,some->J
open Bool renaming true->Y,false->Z
open Value renaming int->I,string->U,slice->M,pointer->O,bool->C
open IntKind renaming i64->K
open Obj renaming cells->E
variable {d i r:Nat}{cs' l l':List Wy}{c c':Array Wx}{a':Wu}{o':Obj}{h β:Type}{d':Deferred}{x':GStep}{R:(Nat->Question->Nat)->Nat->Ending->Wj->Prop}{L f' fr fr':Wy}
section
open Go Go.RowKit
theorem eS{α:Type _}  {b:α} {a:Array α} (h:a[i]?=J b):∃h,a[i]=b:=Array.getElem?_eq_some_iff.mp h
theorem eG{α:Type _} {a:Array α}  (h:i<a.size):a[i]?=J a[i]:=@Array.getElem?_eq_getElem _ a i h
theorem sN{α:Type _} {b:Array α}  (h:i≠r) {a:α}:(b.setIfInBounds i a)[r]?=b[r]?:=@Array.getElem?_setIfInBounds_ne _ b i r h a
theorem cB{w w':Wj} {a:Wu} (h:w'.heap[a.block]?=w.heap[a.block]?):w'.cell? a=w.cell? a:=@World.cell?_of_block w w' a h
theorem oI{α:Type _} (a b:α):(J a=J b)=(a=b):=@Option.some.injEq _ a b
theorem gZ{α:Type _} {a:α} {l:List α}:(a::l)[0]?=J a:=rfl
theorem gS{α:Type _} {a:α}  {l:List α}:(a::l)[i+1]?=l[i]?:=rfl
theorem gA{α:Type _} {a:List α} :a.toArray[i]?=a[i]?:=@List.getElem?_toArray _ a i
theorem lR(n:Nat):n<=n:=@Nat.le_refl n
theorem zA(n:Nat):0+n=n:=@Nat.zero_add n
theorem sL{α:Type} {l:List α}  {a:α} (h:l[i]?=J a):∃h,l[i]=a:=List.getElem?_eq_some_iff.mp h
theorem cO:type_of% @World.cell?_setCell_other:=@World.cell?_setCell_other
theorem cS:type_of% @World.cell?_setCell_same':=@World.cell?_setCell_same'
theorem cA:type_of% @World.cell?_alloc_at:=@World.cell?_alloc_at
theorem aN:type_of% @World.alloc_heap_new:=@World.alloc_heap_new
theorem bC:type_of% @World.block_lt_of_cell?:=@World.block_lt_of_cell?
theorem fB:type_of% @World.frozen?_of_block:=@World.frozen?_of_block
theorem pO:type_of% @World.putObj_heap_other:=@World.putObj_heap_other
theorem lL:type_of% @Nat.lt_of_lt_of_le:=@Nat.lt_of_lt_of_le
theorem lT:type_of% @Nat.le_trans:=@Nat.le_trans
theorem bT:type_of% @Bool.and_eq_true:=@Bool.and_eq_true
theorem bS:type_of% @Below.heap_setCell:=@Below.heap_setCell
theorem bA:type_of% @Below.heap_alloc:=@Below.heap_alloc
theorem bR:type_of% @Below.refl:=@Below.refl
theorem lP{α:Type}:type_of% (@List.length_append α):=@List.length_append α
theorem lC{α:Type}:type_of% (@List.length_cons α):=@List.length_cons α
theorem lN{α:Type}:type_of% (@List.length_nil α):=@List.length_nil α
theorem tL{α:Type}:type_of% (@List.length_take α):=@List.length_take α
theorem eL{α:Type}:type_of% (@List.getElem?_eq_getElem α):=@List.getElem?_eq_getElem α
theorem gD{α:Type}:type_of% (@Array.getD_eq_getD_getElem? α):=@Array.getD_eq_getD_getElem? α
theorem sS{α:Type}:type_of% (@Array.getElem?_setIfInBounds_self_of_lt α):=@Array.getElem?_setIfInBounds_self_of_lt α
theorem lM{α:Type}:type_of% (@List.length_map α):=@List.length_map α
theorem tS{α:Type}:type_of% (@List.take_succ_eq_append_getElem α):=@List.take_succ_eq_append_getElem α
theorem aR{α:Type}:type_of% (@List.getElem?_append_right α):=@List.getElem?_append_right α
theorem aL{α:Type}:type_of% (@List.getElem?_append_left α):=@List.getElem?_append_left α
theorem gP{α:Type}:type_of% (@Array.getElem?_push α):=@Array.getElem?_push α
theorem lD{α:Type}:type_of% (@List.length_drop α):=@List.length_drop α
theorem oJ{α:Type}:type_of% (@Option.some.inj α):=@Option.some.inj α
theorem lY{α:Type}:type_of% (@Array.length_toList α):=@Array.length_toList α
theorem lZ{α:Type}:type_of% (@List.size_toArray α):=@List.size_toArray α
theorem tO{α:Type}:type_of% (@List.take_of_length_le α):=@List.take_of_length_le α
theorem lS{α:Type}:type_of% (@List.length_singleton α):=@List.length_singleton α
theorem pA{α:Type}:type_of% (@List.append_assoc α):=@List.append_assoc α
theorem gM{α:Type}:type_of% (@List.getElem_of_mem α):=@List.getElem_of_mem α
theorem gT{α:Type}:type_of% (@Array.getElem?_toList α):=@Array.getElem?_toList α
end
end Go.Proofs
namespace Go.Proofs
open Option renaming none->N,some->J
open Bool renaming true->Y,false->Z
open Value renaming int->I,string->U,slice->M,pointer->O,bool->C
open IntKind renaming i64->K
open Obj renaming cells->E
variable {d i r:Nat}{cs' l l':List Wy}{c c':Array Wx}{a':Wu}{o':Obj}{h β:Type}{d':Deferred}{x':GStep}{R:(Nat->Question->Nat)->Nat->Ending->Wj->Prop}{L f' fr fr':Wy}
section
open Go
noncomputable section
def Sw.prog(P:Wv)(p q:FuncId)(a b:Func):Wv:=⟨P.toTables,(P.funcs.setIfInBounds p a).setIfInBounds q b⟩
section
variable {P:Wv} {p q:FuncId} {a b:Func}
theorem Sw.ne{x:Option Func}(c:p≠i)(d:q≠i)(h:P.funcs[i]?=x):(Sw.prog P p q a b).funcs[i]?=x:=by
 unfold Sw.prog;rw[sN d,sN c];exact h
theorem Sw.at_p{f:Func}(c:q≠p)(h:P.funcs[p]?=J f):(Sw.prog P p q a b).funcs[p]?=J a:=by
 unfold Sw.prog;rw[sN c,sS (eS h).1]
theorem Sw.at_q{f:Func}(h:P.funcs[q]?=J f):(Sw.prog P p q a b).funcs[q]?=J b:=by
 unfold Sw.prog;rw[sS (by rw[Array.size_setIfInBounds];exact(eS h).1)]
theorem Sw.run_call{Q : Wv} {i : Nat} {fn : Func} (h : Q.funcs[i]? = J fn) (hn : (fn.name == "runtime.NumGoroutine") = Z) (hb : fn.body.isNone = Z) (args : Array Wx) (w : Wj) : Sem.run Q (callFunc i args) w = .ok (.enter i args) w := by
 show Sem.run Q (match Q.funcs[i]? with|none=>_|some fn=>_) w=_;rw[h];simp only[hn,hb];rfl
theorem Sw.tables:(Sw.prog P p q a b).toTables=P.toTables:=rfl
theorem Sw.und(t:Ww):(Sw.prog P p q a b).underlying t=P.underlying t:=rfl
theorem Sw.depth:(Sw.prog P p q a b).depth=P.depth:=rfl
theorem Sw.guard(d:Nat)(t:Ww):(Sw.prog P p q a b).eqGuardType d t=P.eqGuardType d t:=by
 induction d generalizing t with
 |zero=>rfl
 |succ d ih=>unfold Program.eqGuardType;simp only[Sw.und,ih]
theorem Sw.typeInfo_eq(Q : Wv) (i : Ww) (w : Wj) : Sem.run Q (typeInfo i) w = (match Q.info? i with | some x => .ok x w | none => .halt (.stuck "no such type") w) := by
 show Sem.run Q (match Q.info? i with | some x => pure x | none => stuck "no such type") w = _
 cases Q.info? i<;>rfl
theorem Sw.underlying_eq(Q : Wv) (i : Ww) (w : Wj) : Sem.run Q (underlying i) w = (match Q.underlying i with | some x => .ok x w | none => .halt (.stuck "no such type") w) := by
 show Sem.run Q (match Q.underlying i with | some x => pure x | none => stuck "no such type") w = _
 cases Q.underlying i<;>rfl
theorem Sw.run_typeInfo(i:Ww)(w:Wj):Sem.run (Sw.prog P p q a b) (typeInfo i) w=Sem.run P (typeInfo i) w:=by
 rw[Sw.typeInfo_eq,Sw.typeInfo_eq];rfl
theorem Sw.run_underlying(i:Ww)(w:Wj):Sem.run (Sw.prog P p q a b) (underlying i) w=Sem.run P (underlying i) w:=by
 rw[Sw.underlying_eq,Sw.underlying_eq];rfl
theorem Sw.run_sizeOf(i:Ww)(w:Wj):Sem.run (Sw.prog P p q a b) (sizeOf i) w=Sem.run P (sizeOf i) w:=by
 have h : ∀ Q : Wv, Sem.run Q (sizeOf i) w = (match Q.info? i with | some x => .ok x.size w | none => .halt (.stuck "no such type") w) := fun Q => by
  show Sem.run Q (Sem.bind (match Q.info? i with | some x => pure x | none => stuck "no such type") fun x => pure x.size) w = _
  cases Q.info? i<;>rfl
 rw[h,h];rfl
theorem Sw.run_zeroValue(i:Ww)(w:Wj):Sem.run (Sw.prog P p q a b) (zeroValue i) w=Sem.run P (zeroValue i) w:=by
 have h : ∀ Q : Wv, Sem.run Q (zeroValue i) w = (match Q.info? i with | some x => (match x.zero with | some v => .ok v w | none => .halt (.unsupported (.resourceLimit "a value of more than 2^22 cells")) w) | none => .halt (.stuck "no such type") w) := fun Q => by
  show Sem.run Q (Sem.bind (match Q.info? i with | some x => pure x | none => stuck "no such type") fun x => match x.zero with | some v => pure v | none => unsupported (.resourceLimit "a value of more than 2^22 cells")) w = _
  cases Q.info? i with
  |none=>rfl
  |some x=>
   show Sem.run Q (match x.zero with | some v => pure v | none => unsupported (.resourceLimit "a value of more than 2^22 cells")) w = _
   dsimp only;cases x.zero<;>rfl
 rw[h,h];rfl
theorem Sw.run_isAgg(i:Ww)(w:Wj):Sem.run (Sw.prog P p q a b) (isAgg i) w=Sem.run P (isAgg i) w:=by
 have h : ∀ Q : Wv, Sem.run Q (isAgg i) w = (match Q.underlying i with | some (.struct _) => .ok Y w | some (.array _ _) => .ok Y w | some _ => .ok Z w | none => .halt (.stuck "no such type") w) := fun Q => by
  show Sem.run Q (Sem.bind (match Q.underlying i with | some x => pure x | none => stuck "no such type") fun x => match x with | .struct _ | .array _ _ => pure Y | _ => pure Z) w = _
  cases Q.underlying i with
  |none=>rfl
  |some x=>cases x<;>rfl
 rw[h,h];rfl
end
def Yq.stopOps : Array Oper := #[{ dst := J 10, op := .makeFunc (.func 44) #[.tmp 0, .tmp 1] #[], type := 0, pos := "", after := #[], guard := N }, { dst := J 11, op := .makeInterface 3 (.tmp 10), type := 0, pos := "", after := #[], guard := N }, { dst := N, op := .panic (.tmp 11), type := 0, pos := "", after := #[], guard := N }]
def Yq.drawOps : Array Oper := #[{ dst := J 9, op := .move (.const (C Z)), type := 4, pos := "", after := #[], guard := N }, { dst := J 9, op := .move (.const (C Y)), type := 4, pos := "", after := #[], guard := N }]
def Yq.backOps : Array Oper := #[{ dst := J 9, op := .move (.const Wo), type := 4, pos := "", after := #[], guard := N }]
def Yq.magic:Code:=.seq (.region 100 Yq.drawOps Y) (.seq (.cond (.tmp 9) (.region 101 Yq.stopOps Z) .skip) (.region 102 Yq.backOps Z))
noncomputable abbrev Yq.b44:Code:=Tryz.f44.body.getD .skip
noncomputable abbrev Yq.f44:Func:={Tryz.f44 with body:=J (.seq Yq.magic Yq.b44)}
def Yq.itemsOps0 : Array Oper := #[{ dst := J 2, op := .box 74 (.tmp 0), type := 0, pos := "", after := #[], guard := N }, { dst := J 3, op := .box 33 (.tmp 1), type := 0, pos := "", after := #[], guard := N }, { dst := J 4, op := .assign (.const (.chan N)), type := 151, pos := "", after := #[], guard := N }]
def Yq.itemsOps1 : Array Oper := #[{ dst := J 6, op := .makeChan 180 (.const (I K 1000)), type := 180, pos := "", after := #[], guard := N }, { dst := J 5, op := .alloc 180, type := 0, pos := "", after := #[], guard := N }, { dst := N, op := .store 180 (.tmp 5) (.tmp 6), type := 0, pos := "", after := #[], guard := N }]
def Yq.itemsOps2 : Array Oper := #[{ dst := J 7, op := .makeFunc (.func 94) #[] #[.tmp 5, .tmp 2, .tmp 3], type := 1, pos := "", after := #[], guard := N }, { dst := N, op := .call { callee := .value (.tmp 7), args := #[], argTypes := #[] }, type := 0, pos := "", after := #[], guard := N }, { dst := J 7, op := .move (.const Wo), type := 0, pos := "", after := #[], guard := N }]
def Yq.itemsOps3 : Array Oper := #[{ dst := J 8, op := .load 180 (.tmp 5), type := 180, pos := "items.go:26", after := #[], guard := N }, { dst := J 4, op := .assign (.tmp 8), type := 151, pos := "items.go:26", after := #[{ on := 0, ground := .data }, { on := 0, ground := .phase }], guard := N }]
def Yq.b72:Code:=.seq (.region 0 Yq.itemsOps0 Z) (.seq (.region 1 Yq.itemsOps1 Z) (.seq (.region 2 Yq.itemsOps2 Z) (.seq (.region 3 Yq.itemsOps3 Z) .ret)))
noncomputable abbrev Yq.f72:Func:={Tryz.f72 with body:=J Yq.b72}
noncomputable def Yq.prog:Wv:=Sw.prog Tryz.prog 44 72 Yq.f44 Yq.f72
@[simp] theorem Yq.func44:Yq.prog.funcs[44]?=J Yq.f44:=Sw.at_p (by decide) Tryz.func44
@[simp] theorem Yq.func72:Yq.prog.funcs[72]?=J Yq.f72:=Sw.at_q Tryz.func72
theorem Yq.nq  {x:Option Func} (h:Tryz.prog.funcs[i]?=x) (a:44≠i:=by decide) (b:72≠i:=by decide):Yq.prog.funcs[i]?=x:=Sw.ne a b h
@[simp] theorem Yq.fns(i:Nat) (h1:44≠i) (h2:72≠i):Yq.prog.funcs[i]?=Tryz.prog.funcs[i]?:=Sw.ne h1 h2 rfl
def Sw.good(Q:Wv)(i:Nat):Bool:=match Q.funcs[i]? with
 | some fn => !(fn.name == "runtime.NumGoroutine") && !fn.body.isNone
 |none=>Z
theorem Sw.run_good{Q:Wv}(h:Sw.good Q i=Y)(a:Array Wx)(w:Wj):Sem.run Q (callFunc i a) w=.ok (.enter i a) w:=by
 unfold Sw.good at h;cases b:Q.funcs[i]? with
 |none=>rw[b]at h;cases h
 |some fn=>
  rw[b]at h;simp only[bT,Bool.not_eq_true']at h;exact Sw.run_call b h.1 h.2 a w
theorem Sw.all_good:(List.range 181).all (λi=>[0,1,111,148,155,159,160,161,162,163,164,165,166,167,168,169,170,171,172,173,174,175,176,177,178,179].contains i||Sw.good Tryz.prog i)=true:=by kernel_rfl
@[simp] theorem Yq.calls(i:Nat) (args:Array Wx) (w:Wj) (h:i<181) (h1:¬i∈[0,1,111,148,155,159,160,161,162,163,164,165,166,167,168,169,170,171,172,173,174,175,176,177,178,179]):Sem.run Yq.prog (callFunc i args) w=.ok (.enter i args) w:=by
 by_cases c:44=i
 .subst c;exact Sw.run_call Yq.func44 rfl rfl args w
 by_cases b:72=i
 .subst b;exact Sw.run_call Yq.func72 rfl rfl args w
 refine Sw.run_good ?_ args w;have a:=List.all_eq_true.1 Sw.all_good i (List.mem_range.2 h);unfold Sw.good at a ⊢;rw[Yq.fns i c b];simpa[h1]using a
theorem Yq.tables:Yq.prog.toTables=Tryz.prog.toTables:=Sw.tables
@[simp] theorem Yq.und_eq(t:Ww):Yq.prog.underlying t=Tryz.prog.underlying t:=Sw.und t
theorem Yq.u{t:Ww}{d:Option TypeDesc}(h:Tryz.prog.underlying t=d):Yq.prog.underlying t=d:=(Yq.und_eq t).trans h
theorem Yq.g{t:Ww}{d:Bool}(h:Tryz.prog.eqGuardType Tryz.prog.depth t=d):Yq.prog.eqGuardType Yq.prog.depth t=d:=by
 have e:Yq.prog.depth=Tryz.prog.depth:=Sw.depth;have a:Yq.prog.eqGuardType Tryz.prog.depth t=Tryz.prog.eqGuardType Tryz.prog.depth t:=Sw.guard _ t;rw[e,a];exact h
theorem Yq.s{t:Ww}{w:Wj}{r:Result Nat}(h:Sem.run Tryz.prog (sizeOf t) w=r):Sem.run Yq.prog (sizeOf t) w=r:=(Sw.run_sizeOf t w).trans h
theorem Yq.a{t:Ww}{w:Wj}{r:Result Bool}(h:Sem.run Tryz.prog (isAgg t) w=r):Sem.run Yq.prog (isAgg t) w=r:=(Sw.run_isAgg t w).trans h
theorem Yq.z{t:Ww}{w:Wj}{r:Result Wx}(h:Sem.run Tryz.prog (zeroValue t) w=r):Sem.run Yq.prog (zeroValue t) w=r:=(Sw.run_zeroValue t w).trans h
@[simp] theorem Yq.rS(t:Ww) (w:Wj):Sem.run Yq.prog (sizeOf t) w=Sem.run Tryz.prog (sizeOf t) w:=Sw.run_sizeOf t w
@[simp] theorem Yq.rI(t:Ww) (w:Wj):Sem.run Yq.prog (typeInfo t) w=Sem.run Tryz.prog (typeInfo t) w:=Sw.run_typeInfo t w
@[simp] theorem Yq.rU(t:Ww) (w:Wj):Sem.run Yq.prog (underlying t) w=Sem.run Tryz.prog (underlying t) w:=Sw.run_underlying t w
@[simp] theorem Yq.rA(t:Ww) (w:Wj):Sem.run Yq.prog (isAgg t) w=Sem.run Tryz.prog (isAgg t) w:=Sw.run_isAgg t w
@[simp] theorem Yq.rZ(t:Ww) (w:Wj):Sem.run Yq.prog (zeroValue t) w=Sem.run Tryz.prog (zeroValue t) w:=Sw.run_zeroValue t w
@[simp] theorem Yq.rG(t:Ww):Yq.prog.eqGuardType Yq.prog.depth t=Tryz.prog.eqGuardType Tryz.prog.depth t:=Yq.g rfl
@[simp] theorem Yq.rt_eq:Yq.prog.rt=Tryz.prog.rt:=by rw[Yq.tables]
@[simp] theorem Yq.globals_size:Yq.prog.globals.size=Tryz.prog.globals.size:=by rw[Yq.tables]
end
end
end Go.Proofs
namespace Go.Proofs.Qw
open Option renaming none->N,some->J
open Bool renaming true->Y,false->Z
open Value renaming int->I,string->U,slice->M,pointer->O,bool->C
open IntKind renaming i64->K
open Obj renaming cells->E
variable {d i r:Nat}{cs' l l':List Wy}{c c':Array Wx}{a':Wu}{o':Obj}{h β:Type}{d':Deferred}{x':GStep}{R:(Nat->Question->Nat)->Nat->Ending->Wj->Prop}{L f' fr fr':Wy}
section
open Go.RowKit
theorem qr{k:IntKind}{a b:Int}(h:a=b):Ending.returned (I k a)=.returned (I k b):=by rw[h]
def mW(x y:Int):Int:=if x<y then -1 else if y<x then 1 else 0
theorem Dn(x:Int)(w:Wj):Calls Yq.prog 128 #[I .u8 x] w λe w'=>e=.returned (C Z)/\w'=w:=by
 go_enter (Yq.nq Tryz.func128),Tryz.ntmps128;go_wp2;go_ret;exact⟨by simp,rfl⟩
theorem Do(x:Int)(w:Wj):Calls Yq.prog 101 #[I K x] w λe w'=>e=.returned (C Z)/\w'=w:=by
 go_enter (Yq.nq Tryz.func101),Tryz.ntmps101;go_wp2;go_ret;exact⟨by simp,rfl⟩
theorem Dp(x y:Int)(w:Wj):Calls Yq.prog 110 #[I .u8 x,I .u8 y] w λe w'=>e=.returned (I K (mW x y))/\w'=w:=by
 go_enter (Yq.nq Tryz.func110),Tryz.ntmps110;go_wp2_with (go_at_call 128;refine(Dn _ _).mono ?_;rintro e w' ⟨rfl,rfl⟩)
 all_goals(go_ret;exact⟨qr (by unfold mW;(repeat' split)<;>omega),rfl⟩)
theorem Dq(x y:Int)(w:Wj):Calls Yq.prog 79 #[I K x,I K y] w λe w'=>e=.returned (I K (mW x y))/\w'=w:=by
 go_enter (Yq.nq Tryz.func79),Tryz.ntmps79;go_wp2_with (go_at_call 101;refine(Do _ _).mono ?_;rintro e w' ⟨rfl,rfl⟩)
 all_goals(go_ret;exact⟨qr (by unfold mW;(repeat' split)<;>omega),rfl⟩)
theorem qt(l:Int)(p:Option Wu)(b:Int)(w:Wj):Calls Yq.prog 109 #[.agg #[I .u8 l,O p],I .u8 b] w λe w'=>e=.returned (I K (mW l b))/\w'=w.alloc (E #[I .u8 l,O p] 177):=by
 go_enter (Yq.nq Tryz.func109),Tryz.ntmps109;go_wp2_with (go_at_call 110;refine(Dp _ _ _).mono ?_;rintro e w' ⟨rfl,rfl⟩)
 go_ret;exact⟨rfl,rfl⟩
theorem qu(n:Int)(s:ByteArray)(m:Bool)(b:Int)(w:Wj):Calls Yq.prog 88 #[.agg #[I K n,U s,C m],I K b] w λe w'=>e=.returned (I K (mW n b))/\w'=w.alloc (E #[I K n,U s,C m] 62):=by
 go_enter (Yq.nq Tryz.func88),Tryz.ntmps88;go_wp2_with (go_at_call 79;refine(Dq _ _ _).mono ?_;rintro e w' ⟨rfl,rfl⟩)
 go_ret;exact⟨rfl,rfl⟩
end
def _root_.Go.World.on(w:Wj)(a:Nat->Question->Nat)(d:Nat):Wj:={w with tape:=a,drawn:=d}
theorem rO(p:Wv)(w:Wj)(c:Nat->Question->Nat)(d:Nat)(x:Wu)(u:Ww)(a:Wu)(v:Wx)(b:Bool):(w.on c d).viewStore p x u a v b=(w.viewStore p x u a v b).map (λx=>(x.1.on c d,x.2)):=by
 unfold World.viewStore;have e:(w.on c d).seen p x u a b=w.seen p x u a b:=rfl;rw[e];simp only[bind,Except.bind,pure,Except.pure,Except.map]
 repeat' split
 all_goals first|rfl|simp_all
theorem uL(p:Wv)(w:Wj)(c:Nat->Question->Nat)(d:Nat)(a:Wu)(v:Wx)(b:Bool):(w.on c d).farStore p a v b=(w.farStore p a v b).map (λx=>(x.1.on c d,x.2)):=by
 unfold World.farStore;have e:(w.on c d).heap=w.heap:=rfl;rw[e];cases w.heap[a.block]? with
 |none=>rfl
 |some o=>
  cases o with
  |view x u=>
   simp only;rw[rO];cases w.viewStore p x u a v b<;>rfl
  |_=>rfl
theorem qv{p:Wv}{w w':Wj}{a:Wu}{v:Wx}{b:Bool}{l:List Wu}(h:w.farStore p a v b=.ok (w',l)):w'.tape=w.tape/\w'.drawn=w.drawn:=by
 have c:=uL p w w.tape w.drawn a v b;have e:w.on w.tape w.drawn=w:=rfl;rw[e,h]at c;simp only[Except.map,Except.ok.injEq,Prod.mk.injEq]at c;have:=c.1;constructor
 .rw [this];rfl
 .rw [this];rfl
def Like(w w':Wj)(a:Nat->Question->Nat)(d:Nat):Prop:=∀i,w.drawn+i<w'.drawn->a (d+i)=w.tape (w.drawn+i)
theorem HU{α:Type}(x:Ask α):∀ (w:Wj),(w.ask x).2.tape=w.tape/\w.drawn<=(w.ask x).2.drawn/\(w.ask x).2={w with drawn:=(w.ask x).2.drawn} /\
  ∀f d,Like w (w.ask x).2 f d->(w.on f d).ask x=((w.ask x).1,(w.ask x).2.on f (d+((w.ask x).2.drawn-w.drawn))):=by
 induction x with
 |done a=>intro w;exact⟨rfl,lR _,rfl,λf d _=>by simp[World.ask]⟩
 |ask c b k ih=>
  intro w;by_cases o:(Question.extern c b).forced=Y
  .have e:∀u:Wj,u.ask (.ask c b k)=u.ask (k 0):=λu=>by rw[World.ask];simp[o]
   rw[e w];have⟨l,n,m,j⟩:=ih 0 w;exact⟨l,n,m,λf d h=>by rw[e];exact j f d h⟩
  .have e:∀u:Wj,u.ask (.ask c b k)=World.ask {u with drawn:=u.drawn+1} (k ((Question.extern c b).cut (u.tape u.drawn (Question.extern c b)))):=λu=>by rw[World.ask];simp[o]
   rw[e w];have⟨l,n,m,j⟩:=ih ((Question.extern c b).cut (w.tape w.drawn (Question.extern c b))) {w with drawn:=w.drawn+1};simp only at l n m j;refine⟨l,by omega,m,λf d h=>?_⟩;rw[e];have r:f d=w.tape w.drawn:=by have:=h 0 (by omega);simpa using this
   have s:(w.on f d).tape (w.on f d).drawn=w.tape w.drawn:=r;rw[s];have p:({w.on f d with drawn:=(w.on f d).drawn+1}:Wj)=({w with drawn:=w.drawn+1}:Wj).on f (d+1):=rfl;rw[p,j f (d+1) (λi q=>by
    have:=h (i+1) (by simp only at q;omega);rw[show d+1+i=d+(i+1)by omega,show w.drawn+1+i=w.drawn+(i+1)by omega];exact this)]
   congr 2;omega
def _root_.Go.Result.w{α:Type}:Result α->Wj
 | .ok _ w=>w
 | .halt _ w=>w
def _root_.Go.Result.on{α:Type}(b:Nat->Question->Nat)(d n:Nat):Result α->Result α
 | .ok a w=>.ok a (w.on b (d+(w.drawn-n)))
 | .halt h w=>.halt h (w.on b (d+(w.drawn-n)))
def Mir{α:Type}(p:Wv)(s:Sem α)(w:Wj)(es:Array Event):Prop:=
 (s.runT p w es).1.w.tape=w.tape/\w.drawn<=(s.runT p w es).1.w.drawn/\∀a d,Like w (s.runT p w es).1.w a d->s.runT p (w.on a d) es=((s.runT p w es).1.on a d w.drawn,(s.runT p w es).2)
theorem iE{α:Type}(p:Wv)(s:Sem α)(w:Wj)(es:Array Event)(r:Wj->Result α)(e:∀u,(r u).w=u)(b:∀u a d n,(r u).on a d n=r (u.on a (d+(u.drawn-n))))(h:∀a d,s.runT p (w.on a d) es=(r (w.on a d),es)):Mir p s w es:=by
 have c:s.runT p w es=(r w,es):=h w.tape w.drawn;refine⟨?_,?_,λa d _=>?_⟩
 .rw [c,e]
 .rw [c,e];exact lR _
 .rw [c,b,h a d];simp
theorem iu{α:Type}(p:Wv)(s e:Sem α)(w w':Wj)(es a:Array Event)(h:s.runT p w es=e.runT p w' a)(j:w'.tape=w.tape)(b:w'.drawn=w.drawn)(o:∀c d,s.runT p (w.on c d) es=e.runT p (w'.on c d) a)(k:Mir p e w' a):Mir p s w es:=by
 obtain⟨m,l,n⟩:=k;refine⟨?_,?_,λc d f=>?_⟩
 .rw [h,m,j]
 .rw [h,<-b];exact l
 .rw [o,h];rw[h]at f;rw[n c d (λi q=>by have:=f i (by rw[<-b];exact q);rw[j,b];exact this),b]
theorem Az(w:Wj)(b:Nat->Question->Nat)(d:Nat)(a:Wu)(n:Nat):(w.on b d).freeze a n=(w.freeze a n).on b d:=by
 unfold World.freeze;have c:(w.on b d).heap=w.heap:=rfl;rw[c];split<;>rfl
theorem cM(w:Wj)(a:Wu)(n:Nat):(w.freeze a n).tape=w.tape/\(w.freeze a n).drawn=w.drawn:=by
 unfold World.freeze;split<;>exact⟨rfl,rfl⟩
def iF:Wx->Bool
 | .agg _=>Z
 | .tuple _=>Z
 |_=>Y
def okB:Builtin->Bool
 | .append| .cap| .clear| .copy| .len| .min=>Y
 |_=>Z
def F1(P:Wv)(b:Builtin)(a:Array Ww):Bool:=
 match b with
 | .len| .cap=>match a[0]? with
  |some t=>match P.underlying t with
   |some (.chan _ _)=>Z
   |_=>Y
  |none=>Y
 |_=>Y
def mX:Wx->Bool
 | C _| I _ _| U _| O N| M N _ _| .map N| .chan N| .nilFunc| .nilIface=>Y
 |_=>Z
def nH:Wx->Bool
 | .agg c=>c.all mX
 | .tuple c=>c.all mX
 | .iface _ v=>mX v
 |v=>mX v
def Di:Wx->Bool
 | O N| M N _ _| .map N| .chan N| .nilFunc| .nilIface=>Y
 |_=>Z
def F2:Operand->Bool
 | .const v=>Di v
 |_=>Z
def okX(P:Wv)(F:FuncId->Bool):Operand->Bool
 | .const v=>nH v
 | .global g=>decide (g<P.globals.size)
 | .func f=>F f
 |_=>Y
def my:FuncId:=1000000
def Hx:FuncId:=1000001
def gq:FuncId:=1000002
def mz:FuncId:=1000003
def Dr(F:FuncId->Bool)(b:Builtin):Bool:=okB b||(match b with| .unsafeString=>F my| .close=>F gq|_=>Z)
def Mk(F:FuncId->Bool)(f:FuncId):Bool:=F (2000000+f)
def ke(P:Wv)(F:FuncId->Bool)(c:Call):Bool:=
 (match c.callee with| .builtin b=>Dr F b&&F1 P b c.argTypes| .value f=>okX P F f| .invoke _ _=>Z)&&c.args.all (okX P F)
def lm(P:Wv)(F:FuncId->Bool)(c:Call):Bool:=
 ke P F c||(match c.callee with| .value (.func f)=>Mk F f&&c.args.size==2|_=>Z)&&c.args.all (okX P F)
theorem yg{P:Wv}{F:FuncId->Bool}{c:Call}(h:lm P F c=Y):ke P F c=Y\/∃f,c.callee=.value (.func f)/\Mk F f=Y/\c.args.all (okX P F)=Y/\c.args.size=2:=by
 unfold lm at h;rw[Bool.or_eq_true,bT]at h;rcases h with h|⟨a,b⟩
 .exact .inl h
 .split at a
  .rename_i f d;rw[bT,beq_iff_eq]at a;exact .inr ⟨f,d,a.1,b,a.2⟩
  .cases a
def AA(P:Wv)(src dst:Ww):Bool:=
 match P.underlying src,P.underlying dst with
 |some (.int _),J (.int _)=>Y
 |some .string,J .string=>Y
 |some .string,J (.slice _)=>Y
 |some (.slice _),J .string=>Y
 |_,_=>Z
def iw:Option TypeDesc->Bool
 |some .bool|some .string|some (.int _)=>Y
 |_=>Z
def uM(P:Wv):Nat->Ww->Bool
 | 0,_=>Z
 |n+1,t=>match P.underlying t with
  |some .bool|some .string|some (.int _)=>Y
  |some (.struct fs)=>fs.all (λf=>uM P n f.type)
  |_=>Z
def yh(P:Wv)(t:Ww):Bool:=
 match P.underlying t with
 |some (.map k _)=>match P.underlying k with
  |some .string=>Y
  |_=>Z
 |_=>Z
def Jh(P:Wv)(op:BinOp)(t:Ww)(x y:Operand):Bool:=
 match op with
 | .eql| .neq=>iw (P.underlying t)||F2 x||F2 y||uM P 6 t
 |_=>Y
def gm(P:Wv)(F:FuncId->Bool):Op->Bool
 | .move x| .assign x| .box _ x| .load _ x| .nilCheck x| .unOp _ _ x| .makeInterface _ x| .fieldAddr _ x _| .field _ x _| .extract x _=>okX P F x
 | .recv _ x _=>F Hx&&okX P F x
 | .makeChan _ x=>F mz&&okX P F x
 | .send a x=>F gq&&okX P F a&&okX P F x
 | .alloc _=>Y
 | .pick c a b=>okX P F c&&okX P F a&&okX P F b
 | .build _ ps| .buildSlice _ _ ps=>ps.all (λp=>okX P F p.2)
 | .binOp h t a x _=>okX P F a&&okX P F x&&Jh P h t a x
 | .store _ a x| .makeSlice _ a x| .indexAddr _ a x| .index _ a x=>okX P F a&&okX P F x
 | .convert s d x=>AA P s d&&okX P F x
 | .makeFunc (.func f) a c=>F f&&a.all (okX P F)&&c.all (okX P F)
 | .slice _ x l j e=>okX P F x&&l.all (okX P F)&&j.all (okX P F)&&e.all (okX P F)
 | .call c=>lm P F c
 | .go c=>F mz&&ke P F c
 | .defer c=>(F gq||F mz)&&ke P F c
 | .lookup t x i _=>yh P t&&okX P F x&&okX P F i
 | .mapUpdate t m k x=>yh P t&&okX P F m&&okX P F k&&okX P F x
 | .makeMap _ N=>Y
 | .panic x=>okX P F x
 |_=>Z
def aI(P:Wv)(F:FuncId->Bool):Code->Bool
 | .region _ d _=>d.all (λo=>gm P F o.op)
 | .seq a b=>aI P F a&&aI P F b
 | .cond c a b=>okX P F c&&aI P F a&&aI P F b
 | .block _ a=>aI P F a
 | .loop a=>aI P F a
 | .scope a=>aI P F a
 | .rangeFunc f _ a b=>okX P F f&&aI P F a&&aI P F b
 | .refuse _=>Y
 | .skip| .exit _| .label _| .goto _| .ret=>Y
def NoM(P : Wv) (n : Ww) : Prop := (P.info? n).all (fun i => (i.methods.find? (fun m => m.name == "")).isNone) = Y
def iD:Wx->Bool
 | O (J _)| M (J _) _ _| .map (J _)| .chan (J _)| .iface _ _| .float _ _| .complex _ _ _| .tuple _=>Y
 | .func (.method _) _ _=>Z
 | .func _ _ _=>Y
 |_=>Z
def qw:Obj->Bool
 | E _ _ _| .pending _ _| .view _ _| .number _ _=>Z
 |_=>Y
structure Ren where
 rel:Nat->Nat->Prop
 fn:∀a b b',rel a b->rel a b'->b=b'
 inj:∀a a' b,rel a b->rel a' b->a=a'
 prog:Wv
 F:FuncId->Bool
 old:Nat->Prop
 ch:Nat->Prop
 loose:Bool
 wide:Bool
 tight:F gq=Y->wide=Z
 pin:Nat->Option (Array Wx)
 bad:Ww
 noM:NoM prog bad
instance:CoeFun Ren (λ_=>Nat->Nat->Prop):=⟨Ren.rel⟩
structure Ren.le (ρ ρ':Ren):Prop where
 sub:∀a b,ρ a b->ρ' a b
 prog:ρ'.prog=ρ.prog
 F:ρ'.F=ρ.F
 old:ρ'.old=ρ.old
 ch:ρ'.ch=ρ.ch
 loose:ρ'.loose=ρ.loose
 wide:ρ'.wide=ρ.wide
 pin:ρ'.pin=ρ.pin
 bad:ρ'.bad=ρ.bad
instance (ρ ρ':Ren):CoeFun (Ren.le ρ ρ') (λ_=>∀a b,ρ a b->ρ' a b):=⟨Ren.le.sub⟩
theorem Ren.le_refl(ρ:Ren):ρ.le ρ:=⟨λ_ _ h=>h,rfl,rfl,rfl,rfl,rfl,rfl,rfl,rfl⟩
theorem Ren.le_trans{a b c:Ren}(h:a.le b)(d:b.le c):a.le c:=⟨λx y k=>d x y (h x y k),d.prog.trans h.prog,d.F.trans h.F,d.old.trans h.old,d.ch.trans h.ch,d.loose.trans h.loose,d.wide.trans h.wide,d.pin.trans h.pin,d.bad.trans h.bad⟩
def RA(ρ:Ren)(a a':Wu):Prop:=ρ a.block a'.block/\a.off=a'.off/\a.spot=a'.spot
inductive RAo (ρ:Ren):Option Wu->Option Wu->Prop
 |none:RAo ρ N N
 |some {a a':Wu} (h:RA ρ a a'):RAo ρ (J a) (J a')
inductive RNo (ρ:Ren):Option Nat->Option Nat->Prop
 |none:RNo ρ N N
 |some {a a':Nat} (h:ρ a a'):RNo ρ (J a) (J a')
inductive RFn (ρ:Ren):Fn->Fn->Prop
 |func (f:FuncId) (h:ρ.F f=Y):RFn ρ (.func f) (.func f)
 |yield {l l':Nat} (h:ρ l l'):RFn ρ (.yield l) (.yield l')
inductive RV (ρ:Ren):Wx->Wx->Prop
 |bool (b:Bool):RV ρ (C b) (C b)
 |int (k:IntKind) (n:Int):RV ρ (I k n) (I k n)
 |string (s:ByteArray):RV ρ (U s) (U s)
 |pointer {a a':Option Wu} (h:RAo ρ a a'):RV ρ (O a) (O a')
 |slice {a a':Option Wu} (n c:Nat) (h:RAo ρ a a'):RV ρ (M a n c) (M a' n c)
 |map {r r':Option Nat} (h:RNo ρ r r'):RV ρ (.map r) (.map r')
 |chan {r r':Option Nat} (h:RNo ρ r r'):RV ρ (.chan r) (.chan r')
 |func {f f':Fn} {a a' c c':Array Wx} (hf:RFn ρ f f') (ha:a.size=a'.size) (hc:c.size=c'.size) (h1:∀ (i:Nat) v v',a[i]?=J v->a'[i]?=J v'->RV ρ v v') (h2:∀ (i:Nat) v v',c[i]?=J v->c'[i]?=J v'->RV ρ v v'):RV ρ (.func f a c) (.func f' a' c')
 |nilFunc:RV ρ .nilFunc .nilFunc
 |iface (t:Ww) {v v':Wx} (h:RV ρ v v'):RV ρ (.iface t v) (.iface t v')
 |nilIface:RV ρ .nilIface .nilIface
 |agg {c c':Array Wx} (hc:c.size=c'.size) (h:∀ (i:Nat) v v',c[i]?=J v->c'[i]?=J v'->RV ρ v v'):RV ρ (.agg c) (.agg c')
 |tuple {c c':Array Wx} (hc:c.size=c'.size) (h:∀ (i:Nat) v v',c[i]?=J v->c'[i]?=J v'->RV ρ v v'):RV ρ (.tuple c) (.tuple c')
 |dead (v':Wx) (h:iD v'=Y):RV ρ (.tuple #[]) v'
 | odd (n : Nat) (s : String) (a c : Array Wx) (hn : n = ρ.bad) : RV ρ (.func (.method "") #[.iface n (.func (.method s) a c)] #[]) (.func (.method s) a c)
structure RVs (ρ:Ren)(c c':Array Wx):Prop where
 size:c.size=c'.size
 at_:∀ (i:Nat) v v',c[i]?=J v->c'[i]?=J v'->RV ρ v v'
inductive RT (ρ:Ren):Target->Target->Prop
 |fn {f f':Fn} {c c':Array Wx} (hf:RFn ρ f f') (hc:RVs ρ c c'):RT ρ (.fn f c) (.fn f' c')
 |nil:RT ρ .nil .nil
 |builtin (b:Builtin) (hb:Dr ρ.F b=Y) (a:Array Ww) (ha:F1 ρ.prog b a=Y) (t:Ww) (cs:Array Bool):RT ρ (.builtin b a t cs) (.builtin b a t cs)
 |collected {r r':Nat} (h:ρ r r'):RT ρ (.collected r) (.collected r')
inductive RD (ρ:Ren):Deferred->Deferred->Prop
 |mk {d d':Deferred} (target:RT ρ d.target d'.target) (args:RVs ρ d.args d'.args):RD ρ d d'
 | odd (n : Nat) (v : Wx) (a : Array Wx) (s : String) (c a' : Array Wx) (hn : n = ρ.bad) : RD ρ ⟨.fn (.method "") #[], #[.iface n v] ++ a⟩ ⟨.fn (.method s) c, a'⟩
inductive RDs (ρ:Ren):List Deferred->List Deferred->Prop
 |nil:RDs ρ [] []
 |cons {d d':Deferred} {l l':List Deferred} (h:RD ρ d d') (hl:RDs ρ l l') (hS:(∃r,d.target=.collected r)\/(ρ.F gq||ρ.F mz)=Y):RDs ρ (d::l) (d'::l')
structure RL (ρ:Ren)(l l':Loop):Prop where
 state:l.state=l'.state
 pending:l.pending=l'.pending
 fn:l.fn=l'.fn
 tmps:RVs ρ l.tmps l'.tmps
 params:l.params=l'.params
 assign:l.assign=l'.assign
 body:l.body=l'.body
 defers:ρ l.defers l'.defers
 okA:aI ρ.prog ρ.F l.assign=Y
 okBo:aI ρ.prog ρ.F l.body=Y
 okP:∀c,l.pending=J c->aI ρ.prog ρ.F c=Y
def Zr(f:Bool)(n:Nat)(z a:Nat×Nat):Prop:=z=a\/(f=Z/\z.1=0/\0<z.2/\n<=z.2/\a.2<=z.2)
inductive RMs (ρ:Ren):List MapEntry->List MapEntry->Prop
 |nil:RMs ρ [] []
 |cons (b:Nat) {k k' v v':Wx} {l l':List MapEntry} (hk:RV ρ k k') (h:RV ρ v v') (hl:RMs ρ l l'):RMs ρ (⟨k,v,b⟩::l) (⟨k',v',b⟩::l')
inductive RO (ρ:Ren):Obj->Obj->Prop
 |cells {c c':Array Wx} (e:Ww) {z z':Nat×Nat} (hz:Zr (ρ.F my) c.size z z') (h:RVs ρ c c'):RO ρ (E c e z) (E c' e z')
 |chan (cap cap':Nat) {b b':Array Wx} (cl cl':Bool) (s r s' r':Nat) (tm:Bool) (hb:ρ.loose=Y\/RVs ρ b b') (hc:ρ.wide=Y\/cl=cl'):RO ρ (.chan cap b cl s r tm) (.chan cap' b' cl' s' r' tm)
 |map {es es':Array MapEntry} (c:Nat) (h:RMs ρ es.toList es'.toList):RO ρ (.map es c) (.map es' c)
 |stringIter (s:ByteArray) (n:Nat):RO ρ (.stringIter s n) (.stringIter s n)
 |loop {l l':Loop} (h:RL ρ l l'):RO ρ (.loop l) (.loop l')
 |deferred {l l':List Deferred} (h:RDs ρ l l'):RO ρ (.deferred (J l)) (.deferred (J l'))
 |taken:RO ρ (.deferred N) (.deferred N)
 |number {a a':Wu} (lost:Bool) (h:RA ρ a a'):RO ρ (.number a lost) (.number a' lost)
 |dead (o':Obj) (h:qw o'=Y):RO ρ (.coro N) o'
section
variable {ρ ρ':Ren} (hle:ρ.le ρ')
include hle
theorem RA.mono{a:Wu}(h:RA ρ a a'):RA ρ' a a':=⟨hle _ _ h.1,h.2⟩
theorem RAo.mono{a a':Option Wu}(h:RAo ρ a a'):RAo ρ' a a':=by
 cases h with
 |none=>exact .none
 |some h=>exact .some (RA.mono hle h)
theorem RNo.mono{a a':Option Nat}(h:RNo ρ a a'):RNo ρ' a a':=by
 cases h with
 |none=>exact .none
 |some h=>exact .some (hle _ _ h)
theorem RFn.mono{a a':Fn}(h:RFn ρ a a'):RFn ρ' a a':=by
 cases h with
 |func f h=>exact .func f (by rw[hle.F];exact h)
 |yield h=>exact .yield (hle _ _ h)
theorem RV.mono{v v':Wx}(h:RV ρ v v'):RV ρ' v v':=by
 induction h with
 |bool b=>exact .bool b
 |int k n=>exact .int k n
 |string s=>exact .string s
 |pointer h=>exact .pointer (RAo.mono hle h)
 |slice n c h=>exact .slice n c (RAo.mono hle h)
 |map h=>exact .map (RNo.mono hle h)
 |chan h=>exact .chan (RNo.mono hle h)
 |func i j d _ _ e f=>exact .func (RFn.mono hle i) j d e f
 |nilFunc=>exact .nilFunc
 |iface t _ ih=>exact .iface t ih
 |nilIface=>exact .nilIface
 |agg d _ ih=>exact .agg d ih
 |tuple d _ ih=>exact .tuple d ih
 |dead v' h=>exact .dead v' h
 |odd n s a c l=>exact .odd n s a c (l.trans hle.bad.symm)
theorem RVs.mono{f:Array Wx}(h:RVs ρ f c'):RVs ρ' f c':=⟨h.size,λi v b a d=>RV.mono hle (h.at_ i v b a d)⟩
theorem RT.mono{a a':Target}(h:RT ρ a a'):RT ρ' a a':=by
 cases h with
 |fn d e=>exact .fn (RFn.mono hle d) (RVs.mono hle e)
 |nil=>exact .nil
 |builtin b f a c t cs=>exact .builtin b (by rw[hle.F];exact f) a (by rw[hle.prog];exact c) t cs
 |collected h=>exact .collected (hle _ _ h)
theorem RD.mono{a a':Deferred}(h:RD ρ a a'):RD ρ' a a':=by
 cases h with
 |mk b d=>exact .mk (RT.mono hle b) (RVs.mono hle d)
 |odd n v a s c a' e=>exact .odd n v a s c a' (e.trans hle.bad.symm)
theorem RDs.mono{a a':List Deferred}(h:RDs ρ a a'):RDs ρ' a a':=by
 induction h with
 |nil=>exact .nil
 |cons h _ b ih=>exact .cons (RD.mono hle h) ih (by rw[hle.F];exact b)
theorem RL.mono{a a':Loop}(h:RL ρ a a'):RL ρ' a a':=⟨h.state,h.pending,h.fn,RVs.mono hle h.tmps,h.params,h.assign,h.body,hle _ _ h.defers,by rw[hle.prog,hle.F];exact h.okA,by rw[hle.prog,hle.F];exact h.okBo,by rw[hle.prog,hle.F];exact h.okP⟩
theorem RMs.mono{a a':List MapEntry}(h:RMs ρ a a'):RMs ρ' a a':=by
 induction h with
 |nil=>exact .nil
 |cons b c h _ ih=>exact .cons b (RV.mono hle c) (RV.mono hle h) ih
theorem RO.mono{a a':Obj}(h:RO ρ a a'):RO ρ' a a':=by
 cases h with
 |cells e q h=>exact .cells e (by rw[hle.F];exact q) (RVs.mono hle h)
 |chan f d k i s r j m l o p=>exact .chan f d k i s r j m l (o.imp (λh=>hle.loose.trans h) (RVs.mono hle)) (p.imp (λh=>hle.wide.trans h) id)
 |map c h=>exact .map c (RMs.mono hle h)
 |stringIter s n=>exact .stringIter s n
 |loop h=>exact .loop (RL.mono hle h)
 |deferred h=>exact .deferred (RDs.mono hle h)
 |taken=>exact .taken
 |number b h=>exact .number b (RA.mono hle h)
 |dead _ h=>exact .dead _ h
end
def Fixed:Obj->Prop
 | E c _ z=>z.1=0/\c.size<=z.2
 | .coro N=>True
 | .number _ _=>True
 |_=>False
inductive H0:Obj->Prop
 |coro:H0 (.coro N)
 |number (a:Wu) (l:Bool):H0 (.number a l)
def uN(w w':Wj)(c0:Array Wx)(a b:Nat):Prop:=∃c e z d f,w.heap[a]?=J (E c e z)/\w'.heap[b]?=J (E d e f)/\∀ (i:Nat) x,c[i]?=J x->iF x=Z->d[i]?=c0[i]?
theorem uN.same{w w' u u':Wj}{f:Array Wx}{a b:Nat}(h:uN w w' f a b)(d:u.heap[a]?=w.heap[a]?)(e:u'.heap[b]?=w'.heap[b]?):uN u u' f a b:=by
 unfold uN;rw[d,e];exact h
structure bN (ρ:Ren)(w w':Wj):Prop where
 obj:∀a b,ρ a b->∃o o',w.heap[a]?=J o/\w'.heap[b]?=J o'/\RO ρ o o'
 fix:∀a,ρ.old a->∃o,w.heap[a]?=J o/\Fixed o
 chan:∀c,ρ.ch c->∃o,w.heap[c]?=J o/\o.isChan=Y
 os:w'.os=w.os
 pin:ρ.F my=Y->∀a c0,ρ.pin a=J c0->∃b,ρ a b/\uN w w' c0 a b
def ext(ρ:Ren)(r r':Nat)(h:∀b,¬ρ r b)(h':∀a,¬ρ a r'):Ren where
 rel:=λa b=>ρ a b\/(a=r/\b=r')
 fn:=λa b b' h1 h2=>by
  rcases h1 with h1|⟨rfl,rfl⟩<;>rcases h2 with h2|⟨h2,h3⟩
  .exact ρ.fn _ _ _ h1 h2
  .subst h2;exact absurd h1 (h _)
  .exact absurd h2 (h _)
  .exact h3.symm
 inj:=λa a' b h1 h2=>by
  rcases h1 with h1|⟨rfl,rfl⟩<;>rcases h2 with h2|⟨h2,h3⟩
  .exact ρ.inj _ _ _ h1 h2
  .subst h3;exact absurd h1 (h' _)
  .exact absurd h2 (h' _)
  .exact h2.symm
 prog:=ρ.prog
 F:=ρ.F
 old:=ρ.old
 ch:=ρ.ch
 loose:=ρ.loose
 wide:=ρ.wide
 tight:=ρ.tight
 pin:=ρ.pin
 bad:=ρ.bad
 noM:=ρ.noM
theorem rP(ρ:Ren)(r c:Nat)(h:∀b,¬ρ r b)(d:∀a,¬ρ a c):ρ.le (ext ρ r c h d):=⟨λ_ _ k=>.inl k,rfl,rfl,rfl,rfl,rfl,rfl,rfl,rfl⟩
def eO:Halt->Bool
 | .stuck _=>Y
 | .unsupported (.initOrder _)=>Z
 | .unsupported _=>Y
 | .throw _=>Y
 |_=>Z
inductive RH (ρ:Ren):Halt->Halt->Prop
 |panic {v v':Wx} (h:RV ρ v v'):RH ρ (.panic v) (.panic v')
inductive RMk:Mark->Prop
 |extern (f:FuncId):RMk (.extern f)
 |noRoom:RMk .noRoom
class Two (P:Wv) where
 fs:Array Func
def _root_.Go.Program.alt(P:Wv) [Two P]:Wv:=⟨P.toTables,Two.fs P⟩
inductive dq (P:Wv) [Two P]{α:Type}:Sem α->Prop
 |halt {h:Halt} (hn:eO h=Y):dq P (.halt h)
 |mark (m:Mark) {k:Sem α} (hk:dq P k):dq P (.mark m k)
 |shape (r:Nat) {k:Option (Ww×Nat)->Sem α} (hk:∀s,dq P (k s)):dq P (.shape r k)
 |frozen (a:Wu) {k:Bool->Sem α} (hk:∀s,dq P (k s)):dq P (.frozen a k)
 |program {k:Wv->Sem α} (hk:∀p:Wv,p.toTables=P.toTables->dq P (k p)):dq P (.program k)
inductive Calm {α:Type}:Sem α->Prop
 |pure (a:α):Calm (.pure a)
 |shape (r:Nat) {k:Option (Ww×Nat)->Sem α} (hk:∀s,Calm (k s)):Calm (.shape r k)
 |frozen (a:Wu) {k:Bool->Sem α} (hk:∀s,Calm (k s)):Calm (.frozen a k)
theorem dq.bind{P:Wv} [Two P]{α b:Type}{s:Sem α}(h:dq P s)(f:α->Sem b):dq P (s.bind f):=by
 induction h with
 |halt c=>exact .halt c
 |mark m _ ih=>exact .mark m ih
 |shape r _ ih=>exact .shape r ih
 |frozen a _ ih=>exact .frozen a ih
 |program _ ih=>exact .program ih
theorem Calm.bind{α b:Type}{s:Sem α}(h:Calm s){f:α->Sem b}(c:∀a,Calm (f a)):Calm (s.bind f):=by
 induction h with
 |pure a=>exact c a
 |shape r _ ih=>exact .shape r ih
 |frozen a _ ih=>exact .frozen a ih
theorem Calm.lost{P:Wv} [Two P]{α b:Type}{s:Sem α}(h:Calm s){f:α->Sem b}(c:∀a,dq P (f a)):dq P (s.bind f):=by
 induction h with
 |pure a=>exact c a
 |shape r _ ih=>exact .shape r ih
 |frozen a _ ih=>exact .frozen a ih
inductive RS (P:Wv) [Two P]{α β:Type}(Q:Ren->α->β->Prop):Ren->Sem α->Sem β->Prop
 |pure {ρ:Ren} {a:α} {b:β} (h:Q ρ a b):RS P Q ρ (.pure a) (.pure b)
 |load {ρ:Ren} (m:Mode) {a a':Wu} {k:Wx->Sem α} {k':Wx->Sem β} (h:RA ρ a a') (hk:∀v v',RV ρ v v'->RS P Q ρ (k v) (k' v')):RS P Q ρ (.load m a k) (.load m a' k')
 |store {ρ:Ren} (m:Mode) {a a':Wu} {v v':Wx} {k:Sem α} {k':Sem β} (h:RA ρ a a') (hv:RV ρ v v') (hk:RS P Q ρ k k'):RS P Q ρ (.store m a v k) (.store m a' v' k')
 |new {ρ:Ren} {o o':Obj} {k:Nat->Sem α} {k':Nat->Sem β} (h:RO ρ o o') (hk:∀r r' hr hr',¬ρ.old r->RS P Q (ext ρ r r' hr hr') (k r) (k' r')) (hs:o.isChan=Y->ρ.F mz=true:=by exactλh=>nomatch h):RS P Q ρ (.new o k) (.new o' k')
 |shape {ρ:Ren} {r r':Nat} {k:Option (Ww×Nat)->Sem α} {k':Option (Ww×Nat)->Sem β} (h:ρ r r') (hk:∀s,RS P Q ρ (k s) (k' s)):RS P Q ρ (.shape r k) (.shape r' k')
 |frozen {ρ:Ren} {a a':Wu} {k:Bool->Sem α} {k':Bool->Sem β} (h:RA ρ a a') (hk:∀s,RS P Q ρ (k s) (k' s)) (hk':ρ.F my=Z->∀s,RS P Q ρ (k Y) (k' s)):RS P Q ρ (.frozen a k) (.frozen a' k')
 |freeze {ρ:Ren} {a a':Wu} (n:Nat) {k:Sem α} {k':Sem β} (h:RA ρ a a') (ho:¬ρ.old a.block) (hk:RS P Q ρ k k'):RS P Q ρ (.freeze a n k) (.freeze a' n k')
 |getObj {ρ:Ren} {r r':Nat} {k:Obj->Sem α} {k':Obj->Sem β} (h:ρ r r') (hk:∀o o',RO ρ o o'->(ρ.old r->H0 o)->(ρ.ch r->o.isChan=Y)->RS P Q ρ (k o) (k' o')):RS P Q ρ (.getObj r k) (.getObj r' k')
 |setObj {ρ:Ren} {r r':Nat} {o o':Obj} {k:Sem α} {k':Sem β} (h:ρ r r') (ho:RO ρ o o') (hn:¬ρ.old r) (hch:ρ.ch r->ρ.F gq=Y/\∃n b s q tm,o=.chan n b Y s q tm) (hk:RS P Q ρ k k') (hs:o.isChan=Y->ρ.F gq=Y/\∃n b s q tm,o=.chan n b Y s q tm:=by exactλh=>nomatch h):RS P Q ρ (.setObj r o k) (.setObj r' o' k')
 |choose {ρ:Ren} (q:Question) {k:Nat->Sem α} {k':Nat->Sem β} (hk:∀n,RS P Q ρ (k n) (k' n)):RS P Q ρ (.choose q k) (.choose q k')
 |program {ρ:Ren} {k:Wv->Sem α} {k':Wv->Sem β} (h1:k P.alt=k P) (hk:RS P Q ρ (k P) (k' P)):RS P Q ρ (.program k) (.program k')
 |mark {ρ:Ren} {m:Mark} {k:Sem α} {k':Sem β} (h:RMk m) (hk:RS P Q ρ k k'):RS P Q ρ (.mark m k) (.mark m k')
 |halt {ρ:Ren} {h h':Halt} (hh:RH ρ h h'):RS P Q ρ (.halt h) (.halt h')
 |env {ρ:Ren} {k:SysRet->Sem α} {k':SysRet->Sem β} (hk:∀r,RS P Q ρ (k r) (k' r)):RS P Q ρ (.sys .env k) (.sys .env k')
 |lost {ρ:Ren} {s:Sem α} (h:dq P s) (s':Sem β):RS P Q ρ s s'
theorem RS.bind{P:Wv} [Two P]{α l G D:Type}{Q:Ren->α->l->Prop}{Q':Ren->G->D->Prop}{ρ:Ren}{x:Sem α}{F:Sem l}{f:α->Sem G}{B:l->Sem D}(h:RS P Q ρ x F):
  (∀ρ',ρ.le ρ'->∀a b,Q ρ' a b->RS P Q' ρ' (f a) (B b))->RS P Q' ρ (x.bind f) (F.bind B):=by
 induction h with
 |pure h=>intro c;exact c _ (Ren.le_refl _) _ _ h
 |load m h _ ih=>intro c;exact .load m h (λv H p=>ih v H p c)
 |store m h p _ ih=>intro c;exact .store m h p (ih c)
 |new h _ j ih=>intro c;exact .new h (λr z A i k=>ih r z A i k (λρ' R=>c ρ' (Ren.le_trans (rP _ r z A i) R))) j
 |shape h _ ih=>intro c;exact .shape h (λs=>ih s c)
 |frozen h _ _ ih u=>intro c;exact .frozen h (λs=>ih s c) (λe s=>u e s c)
 |freeze n h d _ ih=>intro c;exact .freeze n h d (ih c)
 |getObj h _ ih=>intro c;exact .getObj h (λo T d t L=>ih o T d t L c)
 |setObj h d k y _ j ih=>intro c;exact .setObj h d k y (ih c) j
 |choose q _ ih=>intro c;exact .choose q (λn=>ih n c)
 |program t _ ih=>intro c;exact .program (by show Sem.bind _ _=Sem.bind _ _;rw[t]) (ih c)
 |mark h _ ih=>intro c;exact .mark h (ih c)
 |halt S=>intro _;exact .halt S
 |env _ ih=>intro c;exact .env (λr=>ih r c)
 |lost h s'=>intro _;exact .lost (h.bind _) _
theorem RS.imp{P:Wv} [Two P]{α i:Type}{Q Q':Ren->α->i->Prop}{ρ:Ren}{x:Sem α}{x':Sem i}(h:RS P Q ρ x x')(j:∀ρ a b,Q ρ a b->Q' ρ a b):RS P Q' ρ x x':=by
 induction h with
 |pure h=>exact .pure (j _ _ _ h)
 |load m h _ ih=>exact .load m h ih
 |store m h k _ ih=>exact .store m h k ih
 |new h _ f ih=>exact .new h ih f
 |shape h _ ih=>exact .shape h ih
 |frozen h _ _ ih e=>exact .frozen h ih e
 |freeze n h c _ ih=>exact .freeze n h c ih
 |getObj h _ ih=>exact .getObj h ih
 |setObj h c p d _ f ih=>exact .setObj h c p d ih f
 |choose q _ ih=>exact .choose q ih
 |program o _ ih=>exact .program o ih
 |mark h _ ih=>exact .mark h ih
 |halt l=>exact .halt l
 |env _ ih=>exact .env ih
 |lost h s'=>exact .lost h _
inductive RR {α β:Type}(Q:Ren->α->β->Prop)(ρ:Ren):Result α->Result β->Prop
 |ok {a:α} {b:β} (w w':Wj) (h:Q ρ a b):RR Q ρ (.ok a w) (.ok b w')
 |halt {a b:Halt} (w w':Wj) (h:RH ρ a b):RR Q ρ (.halt a w) (.halt b w')
structure Keep (ρ:Ren)(w w':Wj):Prop where
 os:w'.os=w.os
 output:w'.output=w.output
 tape:w'.tape=w.tape
 size:w.heap.size<=w'.heap.size
 block:∀b,b<w.heap.size->(∀a,ρ a b->ρ.old a)->w'.heap[b]?=w.heap[b]?
def AB(w:Wj)(c:Nat):Prop:=∃n b s q a,w.heap[c]?=J (.chan n b Y s q a)
structure Chs (ρ:Ren)(w w' u u':Wj):Prop where
 row:∀c b,ρ.ch c->ρ c b->(u.heap[c]?=w.heap[c]?/\u'.heap[b]?=w'.heap[b]?)\/(ρ.F gq=Y/\AB u c)
 only:ρ.F mz=Z->∀ (a:Nat) o,u.heap[a]?=J o->o.isChan=Y->w.heap[a]?=J o\/(ρ.F gq=Y/\AB u a)
theorem Chs.refl(ρ:Ren)(w w':Wj):Chs ρ w w' w w':=⟨λ_ _ _ _=>.inl ⟨rfl,rfl⟩,λ_ _ _ h _=>.inl h⟩
theorem Chs.trans{ρ f:Ren}{w w' u z u' v':Wj}(l:ρ.le f)(h:Chs ρ w w' u z)(k:Chs f u z u' v'):Chs ρ w w' u' v':=⟨λc b i p=>by
 rcases k.row c b (by rw[l.ch];exact i) (l _ _ p)with⟨k1,k2⟩|⟨k1,k2⟩
 .rcases h.row c b i p with⟨e,d⟩|⟨e,d⟩
  .exact .inl ⟨k1.trans e,k2.trans d⟩
  .refine .inr ⟨e,?_⟩;unfold AB;rw[k1];exact d
 .exact .inr ⟨by rw[<-l.F];exact k1,k2⟩,λm a o j i=>by
 rcases k.only (by rw[l.F];exact m) a o j i with k1|⟨k1,k2⟩
 .rcases h.only m a o k1 i with e|⟨e,d⟩
  .exact .inl e
  .obtain ⟨n,b,s,q,tm,d⟩:=d;rw[k1]at d;cases d;exact .inr ⟨e,_,_,_,_,_,j⟩
 .exact .inr ⟨by rw[<-l.F];exact k1,k2⟩⟩
theorem Keep.refl(ρ:Ren)(w:Wj):Keep ρ w w:=⟨rfl,rfl,rfl,lR _,λ_ _ _=>rfl⟩
theorem Keep.trans{ρ c:Ren}{w u w2:Wj}(h:Keep ρ w u)(e:Keep c u w2)(j:c.old=ρ.old)(m:∀a b,c a b->ρ a b\/w.heap.size<=b):Keep ρ w w2:=
 ⟨e.os.trans h.os,e.output.trans h.output,e.tape.trans h.tape,lT h.size e.size,λb i d=>(e.block b (lL i h.size) (λa l=>by
  rw[j];rcases m a b l with k|k
  .exact d a k
  .omega)).trans (h.block b i d)⟩
def jg(ρ:Ren)(e:Event):Prop:=
 match e.loc with
 | .cell a=>∃x,ρ x a.block/\(e.write=Y->¬ρ.old x)/\¬ρ.ch x
 | .obj r=>∃x,ρ x r/\(e.write=Y->¬ρ.old x)/\(e.sync=Z->¬ρ.ch x)
 | .mark m=>RMk m
 | .output=>True
 |_=>False
theorem jg.mono{ρ ρ':Ren}(l:ρ.le ρ'){e:Event}(h:jg ρ e):jg ρ' e:=by
 obtain⟨f,wr,sy⟩:=e;cases f with
 |cell a=>obtain⟨x,b,c,d⟩:=h;exact⟨x,l _ _ b,by rw[l.old];exact c,by rw[l.ch];exact d⟩
 |obj r=>obtain⟨x,b,c,d⟩:=h;exact⟨x,l _ _ b,by rw[l.old];exact c,by rw[l.ch];exact d⟩
 |mark m=>exact h
 |output=>exact h
 |goroutines=>exact h
def eX(ρ:Ren)(es es1:Array Event):Prop:=∃a,es1=es++a/\∀e∈a,jg ρ e
theorem eX.refl(ρ:Ren)(es:Array Event):eX ρ es es:=⟨#[],by simp,λe h=>by simp at h⟩
theorem eX.push{ρ:Ren}{es:Array Event}{e:Event}(h:jg ρ e):eX ρ es (es.push e):=⟨#[e],by simp,λx a=>by simp at a;exact a▸h⟩
theorem eX.mono{ρ ρ':Ren}(l:ρ.le ρ'){es es1:Array Event}(h:eX ρ es es1):eX ρ' es es1:=by
 obtain⟨a,b,d⟩:=h;exact⟨a,b,λe c=>(d e c).mono l⟩
theorem eX.trans{ρ:Ren}{es b es2:Array Event}(h:eX ρ es b)(d:eX ρ b es2):eX ρ es es2:=by
 obtain⟨a,rfl,i⟩:=h;obtain⟨E',rfl,c⟩:=d;exact⟨a++E',by simp,λe f=>by
  rcases Array.mem_append.1 f with h|h
  .exact i e h
  .exact c e h⟩
theorem RVs.get{ρ:Ren}{f a:Array Wx}(h:RVs ρ f a)(i:Nat):(f[i]?=N/\a[i]?=N)\/∃v e,f[i]?=J v/\a[i]?=J e/\RV ρ v e:=by
 by_cases d:i<f.size
 .have b:i<a.size:=by rw[<-h.size];exact d
  exact .inr ⟨f[i],a[i],eG d,eG b,h.at_ i _ _ (eG d) (eG b)⟩
 .exact .inl ⟨Array.getElem?_eq_none (by omega),Array.getElem?_eq_none (by rw[<-h.size];omega)⟩
theorem bN.cell{ρ:Ren}{w w':Wj}(S:bN ρ w w'){a a':Wu}(h:RA ρ a a'):w.cell? a=N\/∃v b,w.cell? a=J v/\w'.cell? a'=J b/\RV ρ v b:=by
 obtain⟨o,o',c,i,d⟩:=S.obj _ _ h.1;unfold World.cell?;rw[c,i];cases d with
 |cells e hz f=>
  simp only[<-h.2.1,<-h.2.2];split
  .exact .inl rfl
  .rcases f.get a.off with⟨k,-⟩|k
   .exact .inl k
   .exact .inr k
 |_=>exact .inl rfl
theorem bN.frozenEq{ρ:Ren}{w w':Wj}(S:bN ρ w w'){a:Wu}(h:RA ρ a a'):w'.frozen? a'=w.frozen? a\/(w.frozen? a=Y/\ρ.F my=Z):=by
 obtain⟨o,j,q,p,n⟩:=S.obj _ _ h.1;unfold World.frozen?;rw[q,p];cases n with
 | @cells c c' e z s d hc=>
  obtain⟨lo,r⟩:=z;obtain⟨lo',b⟩:=s;simp only[<-h.2.1];rcases d with d|⟨u,i,l,t,m⟩
  .cases d;exact .inl rfl
  .simp only at i l t m;subst i;by_cases k:a.off<r
   .exact .inr ⟨by simp[k],u⟩
   .exact .inl (by
     have:¬a.off<b:=by omega
     simp[k,this])
 |dead j h=>cases j<;>first|exact .inl rfl|simp[qw]at h
 |_=>exact .inl rfl
theorem bN.shapeEq{ρ:Ren}{w w':Wj}(S:bN ρ w w'){a:Nat}(h:ρ r a):w'.shape? a=w.shape? r:=by
 obtain⟨o,b,c,i,d⟩:=S.obj _ _ h;unfold World.shape?;rw[c,i];cases d with
 |cells e z f=>simp only[f.size]
 |dead b h=>cases b<;>first|rfl|simp[qw]at h
 |_=>rfl
theorem bN.farLoad{ρ:Ren}{w w':Wj}(S:bN ρ w w'){a:Wu}(h:RA ρ a a')(b:Bool):∃e,(∀ (P:Wv) τ d,(w.on τ d).farLoad P a b=.error e)/\eO e=true:=by
 obtain⟨o,o',h1,h2,ho⟩:=S.obj _ _ h.1;have hh:∀τ d,(w.on τ d).heap[a.block]?=J o:=λ_ _=>h1
 cases ho <;> exact⟨.stuck "load: no such cell", fun P τ d => by unfold World.farLoad World.noCell; rw[hh], rfl⟩
theorem bN.farStore{ρ:Ren}{w w':Wj}(S:bN ρ w w'){a:Wu}(h:RA ρ a a')(v:Wx)(b:Bool):∃e,(∀ (P:Wv) τ d,(w.on τ d).farStore P a v b=.error e)/\eO e=true:=by
 obtain⟨o,o',h1,h2,ho⟩:=S.obj _ _ h.1;have hh:∀τ d,(w.on τ d).heap[a.block]?=J o:=λ_ _=>h1
 cases ho <;> exact⟨.stuck "store: no such cell", fun P τ d => by unfold World.farStore World.noCell; rw[hh], rfl⟩
section
variable {α:Type} {p:Wv} {w:Wj} {es:Array Event}
theorem Ds(a:α):Mir p (.pure a) w es:=iE p _ w es (.ok a) (λ_=>rfl) (λ_ _ _ _=>rfl) (λ_ _=>rfl)
theorem wQ(h:Halt):Mir p (.halt h:Sem α) w es:=iE p _ w es (.halt h) (λ_=>rfl) (λ_ _ _ _=>rfl) (λ_ _=>rfl)
theorem Dt{m:Mode}{a:Wu}{k:Wx->Sem α}{v:Wx}(b:w.cell? a=J v)(h:Mir p (k v) w (es.push ⟨.cell a,Z,m == .atomic⟩)):Mir p (.load m a k) w es:=
 iu p _ (k v) w w es (es.push ⟨.cell a,Z,m == .atomic⟩) (by simp only[Sem.runT,b]) rfl rfl (λc d=>by have:(w.on c d).cell? a=J v:=b;simp only[Sem.runT,this]) h
theorem uO{m:Mode}{a:Wu}{k:Wx->Sem α}{e:Halt}(f:w.cell? a=N)(h:∀b d,(w.on b d).farLoad p a (m == .atomic)=.error e):Mir p (.load m a k) w es:=
 iE p _ w es (.halt e) (λ_=>rfl) (λ_ _ _ _=>rfl) (λb d=>by
  have c:(w.on b d).cell? a=none:=f;simp only[Sem.runT,c,h])
theorem gr (p : Wv) (m : Mode) (a : Wu) (v : Wx) (k : Sem α) (hv : iF v = true) (u : Wj) (es : Array Event) : (Sem.store m a v k).runT p u es = match u.cell? a with
      | some _ => if u.frozen? a then(.halt (.unsupported (.unsafePointer "a write to bytes that a string shares")) u, es)else k.runT p (u.setCell a v) (es.push ⟨.cell a, Y, m == .atomic⟩)
      |none=>match u.farStore p a v (m == .atomic)with
        | .ok (u,touched)=>k.runT p u (es++touched.toArray.map (⟨.cell ·,Y,m == .atomic⟩))
        | .error h=>(.halt h u,es):=by cases v<;>first|rfl|simp[iF]at hv
theorem AC{m:Mode}{a:Wu}{v x:Wx}{k:Sem α}(c:iF v=Y)(e:w.cell? a=J x)(f:w.frozen? a=Z)(h:Mir p k (w.setCell a v) (es.push ⟨.cell a,Y,m == .atomic⟩)):Mir p (.store m a v k) w es:=
 iu p _ k w (w.setCell a v) es (es.push ⟨.cell a,Y,m == .atomic⟩) (by rw[gr p m a v k c,e];simp only[f];rfl) rfl rfl (λb d=>by
  have i:(w.on b d).cell? a=J x:=e;have j:(w.on b d).frozen? a=w.frozen? a:=rfl;rw[gr p m a v k c,i];simp only[j,f];rfl) h
theorem nI{m:Mode}{a:Wu}{v x:Wx}{k:Sem α}(hv:iF v=Y)(hc:w.cell? a=J x)(hz:w.frozen? a=Y):Mir p (.store m a v k) w es:=
 iE p _ w es (.halt (.unsupported (.unsafePointer "a write to bytes that a string shares"))) (fun _ => rfl) (fun _ _ _ _ => rfl) (fun τ d => by
  have h1:(w.on τ d).cell? a=J x:=hc;have h2:(w.on τ d).frozen? a=true:=hz;rw[gr p m a v k hv,h1];simp only[h2,if_true])
theorem rQ{m:Mode}{a:Wu}{v:Wx}{k:Sem α}{e:Halt}(f:iF v=Y)(i:w.cell? a=N)(h:∀b d,(w.on b d).farStore p a v (m == .atomic)=.error e):Mir p (.store m a v k) w es:=
 iE p _ w es (.halt e) (λ_=>rfl) (λ_ _ _ _=>rfl) (λb d=>by
  have c:(w.on b d).cell? a=none:=i;rw[gr p m a v k f,c];simp only[h])
theorem uP{m:Mode}{a:Wu}{v:Wx}{k:Sem α}(hv:¬iF v=Y):Mir p (.store m a v k) w es:=
 iE p _ w es (.halt (.stuck "store: not the value of one cell")) (fun _ => rfl) (fun _ _ _ _ => rfl) (fun τ d => by
  cases v<;>first|rfl|simp[iF]at hv)
theorem F3{k:Nat->Sem α}(h:Mir p (k w.heap.size) {w with heap:=w.heap.push o'} es):Mir p (.new o' k) w es:=iu p _ (k w.heap.size) w {w with heap:=w.heap.push o'} es es rfl rfl rfl (λ_ _=>rfl) h
theorem rR{k:Option (Ww×Nat)->Sem α}(h:Mir p (k (w.shape? r)) w es):Mir p (.shape r k) w es:=iu p _ (k (w.shape? r)) w w es es rfl rfl rfl (λ_ _=>rfl) h
theorem yi{a:Wu}{k:Sem α}(h:Mir p k (w.freeze a i) es):Mir p (.freeze a i k) w es:=
 iu p (.freeze a i k) k w (w.freeze a i) es es rfl (cM w a i).1 (cM w a i).2 (λb d=>by
  show k.runT p ((w.on b d).freeze a i) es=k.runT p ((w.freeze a i).on b d) es;rw[Az]) h
theorem lp{a:Wu}{k:Bool->Sem α}(h:Mir p (k (w.frozen? a)) w es):Mir p (.frozen a k) w es:=iu p _ (k (w.frozen? a)) w w es es rfl rfl rfl (λ_ _=>rfl) h
theorem yj{k:Obj->Sem α}(b:w.heap[r]?=J o')(a:¬∃c e z,o'=E c e z)(h:Mir p (k o') w (es.push ⟨.obj r,Z,o'.isChan⟩)):Mir p (.getObj r k) w es:=by
 have e:∀u:Wj,u.heap[r]?=J o'->(Sem.getObj r k).runT p u es=(k o').runT p u (es.push ⟨.obj r,Z,o'.isChan⟩):=λu i=>by
  simp only[Sem.runT,i];cases o'<;>first|rfl|exact absurd ⟨_,_,_,rfl⟩ a
 exact iu p _ (k o') w w es _ (e w b) rfl rfl (λf d=>e (w.on f d) b) h
theorem rT{k:Obj->Sem α}{e:Ww}{z:Nat×Nat}(ho:w.heap[r]?=J (E c e z)):Mir p (.getObj r k) w es:=
 iE p _ w es (.halt (.stuck "getObj: a row of cells")) (fun _ => rfl) (fun _ _ _ _ => rfl) (fun τ d => by
  have h1:(w.on τ d).heap[r]?=J (E c e z):=ho;simp only[Sem.runT,h1])
theorem yl{a:Obj}{k:Sem α}(f:w.heap[r]?=J a)(b:¬∃c e z,a=E c e z)(h:Mir p k {w with heap:=w.heap.setIfInBounds r o'} (es.push ⟨.obj r,Y,o'.isChan⟩)):Mir p (.setObj r o' k) w es:=by
 have e:∀u:Wj,u.heap[r]?=J a->(Sem.setObj r o' k).runT p u es=k.runT p {u with heap:=u.heap.setIfInBounds r o'} (es.push ⟨.obj r,Y,o'.isChan⟩):=λu j=>by
  simp only[Sem.runT,j];cases a<;>first|rfl|exact absurd ⟨_,_,_,rfl⟩ b
 exact iu p _ k w {w with heap:=w.heap.setIfInBounds r o'} es _ (e w f) rfl rfl (λi d=>e (w.on i d) f) h
theorem rV{o:Obj}{k:Sem α}{e:Ww}{z:Nat×Nat}(ho:w.heap[r]?=J (E c e z)):Mir p (.setObj r o k) w es:=
 iE p _ w es (.halt (.stuck "setObj: a row of cells")) (fun _ => rfl) (fun _ _ _ _ => rfl) (fun τ d => by
  have h1:(w.on τ d).heap[r]?=J (E c e z):=ho;simp only[Sem.runT,h1])
theorem mY{q:Question}{k:Nat->Sem α}(a:q.forced=Y)(h:Mir p (k 0) w es):Mir p (.choose q k) w es:=
 iu p _ (k 0) w w es es (by simp only[Sem.runT,a,if_true]) rfl rfl (λτ d=>by simp only[Sem.runT,a,if_true]) h
theorem ym{q:Question}{k:Nat->Sem α}(l:¬q.forced=Y)(h:Mir p (k (q.cut (w.tape w.drawn q))) {w with drawn:=w.drawn+1} es):Mir p (.choose q k) w es:=by
 have e:∀u:Wj,(Sem.choose q k).runT p u es=(k (q.cut (u.tape u.drawn q))).runT p {u with drawn:=u.drawn+1} es:=λu=>by simp only[Sem.runT,l];rfl
 obtain⟨f,c,j⟩:=h;simp only at f c j;refine⟨by rw[e];exact f,by rw[e];omega,λa d b=>?_⟩;rw[e w]at b;rw[e,e w];have o:a d=w.tape w.drawn:=by have:=b 0 (by omega);simpa using this
 have s:(w.on a d).tape (w.on a d).drawn=w.tape w.drawn:=o;rw[s];have m:({w.on a d with drawn:=(w.on a d).drawn+1}:Wj)=({w with drawn:=w.drawn+1}:Wj).on a (d+1):=rfl;rw[m,j a (d+1) (λi n=>by
  have:=b (i+1) (by simp only at n;omega);rw[show d+1+i=d+(i+1)by omega];simp only;rw[show w.drawn+1+i=w.drawn+(i+1)by omega];exact this)]
 congr 1;generalize hr:((k (q.cut (w.tape w.drawn q))).runT p {w with drawn:=w.drawn+1} es).1=r at *;cases r<;>simp only[Result.on,Result.w]at c ⊢ <;> congr 2<;>omega
theorem nJ{k:Wv->Sem α}(h:Mir p (k p) w es):Mir p (.program k) w es:=iu p _ (k p) w w es es rfl rfl rfl (λ_ _=>rfl) h
theorem wR{m:Mark}{k:Sem α}(h:Mir p k w (es.push ⟨.mark m,Z,Y⟩)):Mir p (.mark m k) w es:=iu p _ k w w es (es.push ⟨.mark m,Z,Y⟩) rfl rfl rfl (λ_ _=>rfl) h
end
theorem RVs.set{ρ:Ren}{f:Array Wx}(h:RVs ρ c f)(i:Nat){v l:Wx}(m:RV ρ v l):RVs ρ (c.setIfInBounds i v) (f.setIfInBounds i l):=by
 refine⟨by simp[h.size],λj x n a b=>?_⟩;rw[Array.getElem?_setIfInBounds]at a b;by_cases d:i=j
 .subst d;by_cases k:i<c.size
  .have e:i<f.size:=by rw[<-h.size];exact k
   simp[k,e]at a b;subst a;subst b;exact m
  .simp [k]at a
 .simp only[d,if_false]at a b;exact h.at_ j x n a b
theorem bN.lt{ρ:Ren}{w w':Wj}(S:bN ρ w w'){a b:Nat}(h:ρ a b):a<w.heap.size/\b<w'.heap.size:=by
 obtain⟨o,o',c,d,-⟩:=S.obj a b h;exact⟨(eS c).1,(eS d).1⟩
theorem bN.oldLt{ρ:Ren}{w w':Wj}(S:bN ρ w w'){a:Nat}(h:ρ.old a):a<w.heap.size:=by
 obtain⟨o,b,-⟩:=S.fix a h;exact(eS b).1
theorem bN.put{ρ:Ren}{w w':Wj}(S:bN ρ w w')(h:ρ r i){o:Obj}(v:RO ρ o o')(D:¬ρ.old r)(n:ρ.ch r->o.isChan=Y)(m:∀c e z,w.heap[r]?≠J (E c e z)):bN ρ {w with heap:=w.heap.setIfInBounds r o} {w' with heap:=w'.heap.setIfInBounds i o'}:=by
 refine⟨λa b d=>?_,λa p=>?_,λc s=>?_,S.os,λA a P u=>?_⟩
 rotate_left 3
 .have ⟨b,d,q⟩:=S.pin A a P u;have e:r≠a:=λe=>by
   obtain⟨c,t,z,_,_,l,-⟩:=q;exact m c t z (e▸l)
  have f:i≠b:=λf=>e (ρ.inj _ _ _ h (f▸d))
  exact⟨b,d,q.same (by simp[e]) (by simp[f])⟩
 .have ⟨x,L,k,j,B⟩:=S.obj a b d;obtain⟨y,y',l,F,-⟩:=S.obj r i h;by_cases e:r=a
  .subst e;have:=ρ.fn _ _ _ h d;subst this;have G:=(eS l).1;have H:=(eS F).1;exact⟨o,o',by simp[G],by simp[H],v⟩
  .have f:i≠b:=λf=>e (ρ.inj _ _ _ h (f▸d))
   exact⟨x,L,by simp[e,k],by simp[f,j],B⟩
 .have ⟨x,k,j⟩:=S.fix a p;have e:r≠a:=λe=>D (e▸p)
  exact⟨x,by simp[e,k],j⟩
 .have ⟨x,k,j⟩:=S.chan c s;by_cases e:r=c
  .exact ⟨o,by rw[<-e];simp[(S.lt h).1],n (e▸s)⟩
  .exact ⟨x,by simp[e,k],j⟩
theorem di(w:Wj)(a:Wu)(v:Wx){b:Nat}(h:a.block≠b):(w.setCell a v).heap[b]?=w.heap[b]?:=by
 unfold World.setCell;simp only[Array.getElem?_modify,h,if_false]
theorem bN.set{ρ:Ren}{w w':Wj}(S:bN ρ w w'){a m:Wu}(h:RA ρ a m){v A:Wx}(hv:RV ρ v A)(hn:¬ρ.old a.block)(D:iF v=Y):bN ρ (w.setCell a v) (w'.setCell m A):=by
 refine⟨λx y d=>?_,λx f=>?_,λc k=>?_,S.os,λB x c0 hp=>?_⟩
 rotate_left 3
 .have ⟨y,d,V⟩:=S.pin B x c0 hp;refine⟨y,d,?_⟩;by_cases e:a.block=x
  .have j:m.block=y:=by rw[<-e]at d;exact ρ.fn _ _ _ h.1 d
   obtain⟨c,t,z,c',z',X,k2,L⟩:=V;unfold uN World.setCell;simp only[Array.getElem?_modify,e,j,if_true,X,k2,Option.map_some,<-h.2.1,<-h.2.2];refine⟨_,t,z,_,z',rfl,rfl,λi x f u=>?_⟩;by_cases R:a.spot.isSome=Y
   .simp only[R,if_true]at f ⊢;exact L i x f u
   .simp only[R,Bool.false_eq_true,if_false]at f ⊢;rw[Array.getElem?_setIfInBounds]at f ⊢;by_cases T:a.off=i
    .subst T;by_cases k:a.off<c.size
     .simp only[if_true,k]at f;cases f;rw[D]at u;cases u
     .simp [k]at f
    .simp only[T,if_false]at f ⊢;exact L i x f u
  .have j:m.block≠y:=λj=>e (ρ.inj _ _ _ h.1 (j▸d))
   exact V.same (di w a v e) (di w' m A j)
 .have ⟨o,G,p,l,Q⟩:=S.obj x y d;unfold World.setCell;simp only[Array.getElem?_modify];by_cases e:a.block=x
  .have j:m.block=y:=by rw[<-e]at d;exact ρ.fn _ _ _ h.1 d
   simp only[e,j,if_true,p,l,Option.map_some];refine⟨_,_,rfl,rfl,?_⟩;cases Q with
   |cells t P k=>
    simp only[<-h.2.1,<-h.2.2];split
    .exact .cells t P k
    .exact .cells t (by simpa using P) (k.set _ hv)
   |chan F q cl H s r s' r' tm B k=>exact .chan F q cl H s r s' r' tm B k
   |map c h=>exact .map c h
   |stringIter s n=>exact .stringIter s n
   |loop hl=>exact .loop hl
   |deferred hd=>exact .deferred hd
   |taken=>exact .taken
   |number b h=>exact .number b h
   |dead G h=>cases G<;>first|exact .dead _ h|simp[qw]at h
  .have j:m.block≠y:=λj=>e (ρ.inj _ _ _ h.1 (j▸d))
   simp only[e,j,if_false];exact⟨o,G,p,l,Q⟩
 .have ⟨o,p,l⟩:=S.fix x f;exact⟨o,by rw[di w a v (λe=>hn (e▸f))];exact p,l⟩
 .have ⟨o,p,l⟩:=S.chan c k;unfold World.setCell;simp only[Array.getElem?_modify];by_cases e:a.block=c
  .simp only[e,if_true,p,Option.map_some];refine⟨_,rfl,?_⟩;cases o<;>first|exact l|simp[Obj.isChan]at l
  .simp only[e,if_false];exact⟨o,p,l⟩
theorem Zr.freeze{f:Bool}{n d c a b:Nat}(h:Zr f n (d,c) (a,b))(o m:Nat):Zr f n (if d==c then(o,o+m)else(min d o,max c (o+m))) (if a==b then(o,o+m)else(min a o,max b (o+m))):=by
 rcases h with h|⟨l,i,j,p,k⟩
 .cases h;exact .inl rfl
 .simp only at i j p k;subst i;have e:(0==c)=false:=by simp;omega
  simp only[e,Bool.false_eq_true,if_false];refine .inr ⟨l,by simp,by simp only;omega,by simp only;omega,?_⟩;split<;>(simp only;omega)
theorem de(w:Wj)(a:Wu)(n:Nat){b:Nat}(h:a.block≠b):(w.freeze a n).heap[b]?=w.heap[b]?:=by
 unfold World.freeze;split
 .rfl
 .simp only[Array.getElem?_modify,h,if_false]
theorem bN.freeze{ρ:Ren}{w w':Wj}(S:bN ρ w w'){a k:Wu}(h:RA ρ a k)(n:Nat)(hn:¬ρ.old a.block):bN ρ (w.freeze a n) (w'.freeze k n):=by
 refine⟨λx y d=>?_,λx G=>?_,λc m=>?_,by unfold World.freeze;split<;>exact S.os,λv x c0 R=>?_⟩
 rotate_left 3
 .have ⟨y,d,P⟩:=S.pin v x c0 R;refine⟨y,d,?_⟩;by_cases e:a.block=x
  .have f:k.block=y:=by rw[<-e]at d;exact ρ.fn _ _ _ h.1 d
   obtain⟨c,t,z,u,A,F,H,L⟩:=P;unfold uN World.freeze;split
   .exact ⟨c,t,z,u,A,F,H,L⟩
   .simp only[Array.getElem?_modify,e,f,if_true,F,H,Option.map_some];exact⟨c,t,_,u,_,rfl,rfl,L⟩
  .have f:k.block≠y:=λf=>e (ρ.inj _ _ _ h.1 (f▸d))
   exact P.same (de w a n e) (de w' k n f)
 .have ⟨o,p,j,i,q⟩:=S.obj x y d;unfold World.freeze;split
  .exact ⟨o,p,j,i,q⟩
  simp only[Array.getElem?_modify];by_cases e:a.block=x
  .have f:k.block=y:=by rw[<-e]at d;exact ρ.fn _ _ _ h.1 d
   simp only[e,f,if_true,j,i,Option.map_some];refine⟨_,_,rfl,rfl,?_⟩;cases q with
   | @cells c u t z A hz m=>
    obtain⟨lo,hi⟩:=z;obtain⟨lo',hi'⟩:=A;simp only[<-h.2.1];exact .cells t (hz.freeze _ _) m
   |chan D l cl B s r T V tm v m=>exact .chan D l cl B s r T V tm v m
   |map c h=>exact .map c h
   |stringIter s n=>exact .stringIter s n
   |loop X=>exact .loop X
   |deferred Q=>exact .deferred Q
   |taken=>exact .taken
   |number b h=>exact .number b h
   |dead p h=>cases p<;>first|exact .dead _ h|simp[qw]at h
  .have f:k.block≠y:=λf=>e (ρ.inj _ _ _ h.1 (f▸d))
   simp only[e,f,if_false];exact⟨o,p,j,i,q⟩
 .have ⟨o,j,i⟩:=S.fix x G;exact⟨o,by rw[de w a n (λe=>hn (e▸G))];exact j,i⟩
 .have ⟨o,j,i⟩:=S.chan c m;by_cases e:a.block=c
  .unfold World.freeze;split
   .exact ⟨o,j,i⟩
   simp only[Array.getElem?_modify,e,if_true,j,Option.map_some];refine⟨_,rfl,?_⟩;cases o<;>first|exact i|simp[Obj.isChan]at i
  .exact ⟨o,by rw[de w a n e];exact j,i⟩
theorem nK(w:Wj)(a:Wu)(n:Nat):(w.freeze a n).heap.size=w.heap.size:=by
 unfold World.freeze;split<;>simp
theorem bN.freshL{ρ:Ren}{w w':Wj}(S:bN ρ w w'):∀b,¬ρ w.heap.size b:=λb h=>by have:=(S.lt h).1;omega
theorem bN.freshR{ρ:Ren}{w w':Wj}(S:bN ρ w w'):∀a,¬ρ a w'.heap.size:=λa h=>by have:=(S.lt h).2;omega
theorem bN.freshO{ρ:Ren}{w w':Wj}(S:bN ρ w w'):¬ρ.old w.heap.size:=λh=>by have:=S.oldLt h;omega
theorem nk{α:Type}(x:Array α)(v:α){o:α}(h:x[i]?=J o):(x.push v)[i]?=J o:=by
 have:=(eS h).1;rw[gP,if_neg (by omega)];exact h
theorem bN.push{ρ:Ren}{w w':Wj}(S:bN ρ w w'){i:Obj}(k:RO ρ o' i):bN (ext ρ w.heap.size w'.heap.size S.freshL S.freshR) {w with heap:=w.heap.push o'} {w' with heap:=w'.heap.push i}:=by
 refine⟨λa b h=>?_,λa l=>?_,λc r=>?_,S.os,λn a q j=>?_⟩
 rotate_left 3
 .have ⟨b,f,m⟩:=S.pin n a q j;have⟨l1,l2⟩:=S.lt f;exact⟨b,.inl f,m.same (by simp only[gP,if_neg (show¬a=w.heap.size by omega)]) (by simp only[gP,if_neg (show¬b=w'.heap.size by omega)])⟩
 .rcases h with h|⟨rfl,rfl⟩
  .have ⟨x,p,e,d,s⟩:=S.obj a b h;exact⟨x,p,nk _ _ e,nk _ _ d,s.mono (rP _ _ _ _ _)⟩
  .exact ⟨o',i,by simp,by simp,k.mono (rP _ _ _ _ _)⟩
 .have ⟨x,e,d⟩:=S.fix a l;exact⟨x,nk _ _ e,d⟩
 .have ⟨x,e,d⟩:=S.chan c r;exact⟨x,nk _ _ e,d⟩
theorem bN.ne_chan{ρ:Ren}{w w':Wj}(_S:bN ρ w w'){c b:Nat}(h:ρ r i)(f:ρ c b)(a:r≠c):i≠b:=λe=>a (ρ.inj _ _ _ h (e▸f))
theorem bN.cell_ch{ρ:Ren}{w w':Wj}(S:bN ρ w w'){a:Wu}{x:Wx}(b:w.cell? a=J x):¬ρ.ch a.block:=λd=>by
 obtain⟨o,c,e⟩:=S.chan _ d;unfold World.cell? at b;rw[c]at b;cases o<;>simp[Obj.isChan]at e b
theorem rW(w:Wj)(a:Wu)(v:Wx){b:Nat}{o:Obj}(h:(w.setCell a v).heap[b]?=J o)(f:o.isChan=Y):w.heap[b]?=J o:=by
 by_cases c:a.block=b
 .subst c;unfold World.setCell at h;simp only[Array.getElem?_modify,if_true]at h;have⟨x,e,d⟩:=Option.map_eq_some_iff.1 h;rw[e];cases x<;>first|exact congrArg J d|(subst d;simp[Obj.isChan]at f)
 .rw [di _ _ _ c]at h;exact h
theorem rX(w:Wj)(a:Wu)(n:Nat){b:Nat}{o:Obj}(h:(w.freeze a n).heap[b]?=J o)(f:o.isChan=Y):w.heap[b]?=J o:=by
 by_cases c:a.block=b
 .subst c;unfold World.freeze at h;split at h
  .exact h
  .simp only[Array.getElem?_modify,if_true]at h;have⟨x,e,d⟩:=Option.map_eq_some_iff.1 h;rw[e];cases x<;>first|exact congrArg J d|(subst d;simp[Obj.isChan]at f)
 .rw [de _ _ _ c]at h;exact h
theorem bN.chs_set{ρ:Ren}{w w':Wj}(S:bN ρ w w'){a:Wu}{v l x:Wx}(m:w.cell? a=J x)(h:RA ρ a a'):Chs ρ w w' (w.setCell a v) (w'.setCell a' l):=⟨λc b f k=>by
 have d:a.block≠c:=λe=>S.cell_ch m (e▸f)
 exact .inl ⟨di _ _ _ d,di _ _ _ (S.ne_chan h.1 k d)⟩,λ_ b o j f=>.inl (rW w a v j f)⟩
theorem bN.chs_push{ρ:Ren}{w w':Wj}(S:bN ρ w w')(o i:Obj)(h:o.isChan=Y->ρ.F mz=Y):Chs ρ w w' {w with heap:=w.heap.push o} {w' with heap:=w'.heap.push i}:=⟨λc b d f=>by
 have⟨h1,h2⟩:=S.lt f;refine .inl ⟨?_,?_⟩
 .simp only[gP,if_neg (show¬c=w.heap.size by omega)]
 .simp only[gP,if_neg (show¬b=w'.heap.size by omega)],λe b x a d=>by
 simp only[gP]at a;split at a
 .cases a;rw[h d]at e;cases e
 .exact .inl a⟩
theorem nL(w:Wj)(a:Wu)(n:Nat)(h:w.heap[a.block]?=J o')(b:o'.isChan=Y):(w.freeze a n).heap[a.block]?=w.heap[a.block]?:=by
 unfold World.freeze;split
 .rfl
 .simp only[Array.getElem?_modify,h,if_true,Option.map_some];cases o'<;>first|rfl|simp[Obj.isChan]at b
theorem bN.chs_freeze{ρ:Ren}{w w':Wj}(S:bN ρ w w'){a:Wu}(h:RA ρ a a')(n:Nat):Chs ρ w w' (w.freeze a n) (w'.freeze a' n):=⟨λc b f l=>by
 by_cases d:a.block=c
 .subst d;obtain⟨o,k,j⟩:=S.chan _ f;obtain⟨x,s,i,m,q⟩:=S.obj _ _ h.1;rw[k]at i;cases i;have r:s.isChan=true:=by cases q<;>simp[Obj.isChan]at j ⊢
  obtain rfl:a'.block=b:=ρ.fn _ _ _ h.1 l;exact .inl ⟨nL w a n k j,nL w' a' n m r⟩
 .exact .inl ⟨de _ _ _ d,de _ _ _ (S.ne_chan h.1 l d)⟩,λ_ b o p f=>.inl (rX w a n p f)⟩
theorem bN.chs_put{ρ:Ren}{w w':Wj}(S:bN ρ w w'){l:Nat}(h:ρ r l){u:Obj}(k:ρ.ch r->ρ.F gq=Y/\∃n b s q d,o'=.chan n b Y s q d)(p:o'.isChan=Y->ρ.F gq=Y/\∃n b s q d,o'=.chan n b Y s q d):Chs ρ w w' {w with heap:=w.heap.setIfInBounds r o'} {w' with heap:=w'.heap.setIfInBounds l u}:=⟨λc b j m=>by
 by_cases a:r=c
 .subst a;obtain⟨i,n,q,s,t,d,rfl⟩:=k j;refine .inr ⟨i,n,q,s,t,d,?_⟩;simp[(S.lt h).1]
 .exact .inl ⟨by simp[a],by simp[S.ne_chan h m a]⟩,λhS b x e j=>by
 by_cases a:r=b
 .subst a;have f:=e;simp[(S.lt h).1]at e;subst e;obtain⟨i,n,q,s,t,d,rfl⟩:=p j;exact .inr ⟨i,n,q,s,t,d,f⟩
 .exact .inl (by simpa[a]using e)⟩
def Du{α:Type}(r:Result α):Prop:=∃h w,r=.halt h w/\eO h=Y
def Out{α β:Type}(Q:Ren->α->β->Prop)(ρ:Ren)(w w':Wj)(es':Array Event)(r:Result α)(r':Result β×Array Event):Prop:=
 ∃ρ',ρ.le ρ'/\bN ρ' r.w r'.1.w/\RR Q ρ' r r'.1/\Keep ρ w' r'.1.w/\(∀a b,ρ' a b->ρ a b\/(w.heap.size<=a/\w'.heap.size<=b))/\r'.1.w.drawn+w.drawn=w'.drawn+r.w.drawn/\eX ρ' es' r'.2/\w.heap.size<=r.w.heap.size/\Chs ρ w w' r.w r'.1.w
def Draws(w w' u:Wj):Prop:=∀i,w.drawn+i<u.drawn->w'.tape (w'.drawn+i)=w.tape (w.drawn+i)
theorem Out.after{α:Type}{Q:Ren->α->β->Prop}{ρ j:Ren}{w w' z u':Wj}{E' k:Array Event}{r:Result α}{r':Result β×Array Event}(h:Out Q j z u' k r r')(hle:ρ.le j)(p:Keep ρ w' u')(u:w.heap.size<=z.heap.size)(s:∀a b,j a b->ρ a b\/(w.heap.size<=a/\w'.heap.size<=b))(hd:u'.drawn+w.drawn=w'.drawn+z.drawn)(t:eX j E' k)(v:Chs ρ w w' z u':=by exact Chs.refl _ _ _):Out Q ρ w w' E' r r':=by
 obtain⟨ρ',l,S,R,f,e,D,c,G,d⟩:=h;refine⟨ρ',Ren.le_trans hle l,S,R,p.trans f hle.old (λa b h=>(s a b h).imp id (·.2)),λa b h=>?_,by omega,(t.mono l).trans c,lT u G,v.trans hle d⟩;rcases e a b h with q|⟨q,h2⟩
 .exact s a b q
 .have:=p.size;exact .inr ⟨by omega,by omega⟩
theorem AD(w:Wj)(c:Sys):w.drawn<=(w.sys c).2.drawn:=by
 unfold World.sys;obtain⟨-,a,-,-⟩:=HU (Kernel.perform c w.os) w;split
 .exact lR _
 .rename_i r os u _ b;rw[b]at a;exact a
theorem AE{α:Type}(P:Wv)(s:Sem α):∀ (w:Wj)(es:Array Event),w.drawn<=(s.runT P w es).1.w.drawn:=by
  induction s with
  |pure a=>intro w es;exact lR _
  |load m a k ih=>
    intro w es;simp only[Sem.runT];split
    . exact ih _ w _
    . split
      . exact ih _ w _
      . exact lR _
  |store m a v k ih=>
    intro w es;by_cases ho:iF v=Y
    . have e : (Sem.store m a v k).runT P w es = match w.cell? a with
          | some _ => if w.frozen? a then(.halt (.unsupported (.unsafePointer "a write to bytes that a string shares")) w, es)else k.runT P (w.setCell a v) (es.push ⟨.cell a, Y, m == .atomic⟩)
          |none=>match w.farStore P a v (m == .atomic)with
            | .ok (u,touched)=>k.runT P u (es++touched.toArray.map (⟨.cell ·,Y,m == .atomic⟩))
            | .error h=>(.halt h w,es):=by cases v<;>first|rfl|simp[iF]at ho
      rw[e];split
      . split
        . exact lR _
        . exact ih (w.setCell a v) _
      . split
        . rename_i u l hu
          rw[<-(qv hu).2];exact ih u _
        . exact lR _
    . have e : (Sem.store m a v k).runT P w es = (.halt (.stuck "store: not the value of one cell") w, es) := by cases v <;> first | rfl | simp[iF]at ho
      rw[e];exact lR _
  |new o k ih=>intro w es;exact ih _ {w with heap:=w.heap.push o} es
  |shape r k ih=>intro w es;exact ih _ w es
  |freeze a n k ih=>intro w es;have:=ih (w.freeze a n) es;rw[(cM w a n).2]at this;exact this
  |frozen a k ih=>intro w es;exact ih _ w es
  |getObj r k ih=>
    intro w es;simp only[Sem.runT];split
    . exact lR _
    . exact ih _ w _
    . exact lR _
  |setObj r o k ih=>
    intro w es;simp only[Sem.runT];split
    . exact lR _
    . exact ih {w with heap:=w.heap.setIfInBounds r o} _
    . exact lR _
  |choose q k ih=>
    intro w es;simp only[Sem.runT];split
    . exact ih _ w es
    . have:=ih (q.cut (w.tape w.drawn q)) {w with drawn:=w.drawn+1} es
      simp only at this;omega
  |sys c k ih=>intro w es;exact lT (AD w c) (ih _ _ _)
  |program k ih=>intro w es;exact ih P w es
  |mark m k ih=>intro w es;exact ih w _
  |halt h=>intro w es;exact lR _
theorem dq.run{P:Wv} [Two P]{α:Type}{s:Sem α}(h:dq P s)(p:Wv)(b:p.toTables=P.toTables):∀ (w:Wj)(es:Array Event),Mir p s w es/\Du (s.runT p w es).1:=by
 induction h with
 |halt c=>intro w es;exact⟨wQ _,_,w,rfl,c⟩
 |mark m _ ih=>intro w es;exact⟨wR (ih w _).1,(ih w _).2⟩
 |shape r _ ih=>intro w es;exact⟨rR (ih _ w _).1,(ih _ w _).2⟩
 |frozen a _ ih=>intro w es;exact⟨lp (ih _ w _).1,(ih _ w _).2⟩
 |program _ ih=>intro w es;exact⟨nJ (ih p b w _).1,(ih p b w _).2⟩
structure Fine (P:Wv) [Two P]{α β:Type}(Q:Ren->α->β->Prop)(ρ:Ren)(s:Sem α)(s':Sem β)(w w':Wj)(es es':Array Event):Prop where
 mir:Mir P s w es
 out:(Du (s.runT P w es).1/\Du (s.runT P.alt w es).1)\/(s.runT P.alt w es=s.runT P w es/\Out Q ρ w w' es' (s.runT P w es).1 (s'.runT P w' es'))
theorem Fine.lost{P:Wv} [Two P]{α b:Type}{Q:Ren->α->b->Prop}{ρ:Ren}{s:Sem α}{c:Sem b}{w w':Wj}{es es':Array Event}(d:Mir P s w es)(a:∀p:Wv,Du (s.runT p w es).1):Fine P Q ρ s c w w' es es':=⟨d,.inl ⟨a P,a P.alt⟩⟩
theorem qx{P:Wv} [Two P]{α β:Type}{Q:Ren->α->β->Prop}{ρ:Ren}{s:Sem α}{s':Sem β}(h:RS P Q ρ s s'):∀ (w w':Wj)(es es':Array Event),bN ρ w w'->Draws w w' (s.runT P w es).1.w->Fine P Q ρ s s' w w' es es':=by
 induction h with
 |pure h=>intro w w' es es' S _;exact⟨Ds _,.inr ⟨rfl,_,Ren.le_refl _,S,.ok w w' h,Keep.refl _ _,λa b h=>.inl h,by simp only[Sem.runT,Result.w],eX.refl _ _,lR _,Chs.refl _ _ _⟩⟩
 | @load ρ m a a' k k' h _ ih=>
  intro w w' es es' S hd;rcases S.cell h with c1|⟨v,v',c1,c2,hv⟩
  .have ⟨e,f1,f3⟩:=S.farLoad h (m == .atomic);have f2:∀p:Wv,w.farLoad p a (m == .atomic)=.error e:=λp=>f1 p w.tape w.drawn
   exact .lost (uO c1 (f1 P)) (λp=>⟨e,w,by simp only[Sem.runT,c1,f2],f3⟩)
  .simp only[Sem.runT,c1]at hd;obtain⟨t1,t2⟩:=ih v v' hv w w' _ (es'.push ⟨.cell a',Z,m == .atomic⟩) S hd;refine⟨Dt c1 t1,?_⟩;simp only[Sem.runT,c1,c2];exact t2.imp id (λ⟨ha,ho⟩=>⟨ha,ho.after (Ren.le_refl _) (Keep.refl _ _) (lR _) (λa b h=>.inl h) rfl (eX.push ⟨a.block,h.1,(λh=>by cases h),S.cell_ch c1⟩)⟩)
 | @store ρ m a a' v v' k k' h hv _ ih=>
  intro w w' es es' S hd;by_cases ho:iF v=Y
  .have ho':iF v'=true:=by cases hv<;>first|rfl|simp[iF]at ho
   have e:=λp:Wv=>gr p m a v k ho
   have e':=λp:Wv=>gr p m a' v' k' ho'
   rcases S.cell h with c1|⟨x,x',c1,c2,-⟩
   .have ⟨y,f1,f3⟩:=S.farStore h v (m == .atomic);have f2:∀p:Wv,w.farStore p a v (m == .atomic)=.error y:=λp=>f1 p w.tape w.drawn
    exact .lost (rQ ho c1 (f1 P)) (λp=>⟨y,w,by rw[e,c1];simp only[f2],f3⟩)
   .cases hz:w.frozen? a with
    | true => exact .lost (nI ho c1 hz) (fun p => ⟨.unsupported (.unsafePointer "a write to bytes that a string shares"), w, by rw[e, c1]; simp only[hz, if_true], rfl⟩)
    |false=>
     have hz':w'.frozen? a'=false:=by
      rcases S.frozenEq h with k|⟨k,-⟩
      .rw [k];exact hz
      .rw [k]at hz;cases hz
     have hold:¬ρ.old a.block:=λho=>by
      obtain⟨o,h1,h2⟩:=S.fix _ ho;unfold World.cell? at c1;unfold World.frozen? at hz;rw[h1]at c1 hz;cases o with
      |cells c e z=>
       obtain⟨lo,hi⟩:=z;obtain⟨z1,z2⟩:=h2;simp only at z1 z2 c1 hz;subst z1;split at c1
       .cases c1
       .have:=(eS c1).1;simp at hz;omega
      |_=>simp at c1
     rw[e]at hd;simp only[c1,hz,Bool.false_eq_true,if_false]at hd;obtain⟨t1,t2⟩:=ih (w.setCell a v) (w'.setCell a' v') _ (es'.push ⟨.cell a',Y,m == .atomic⟩) (S.set h hv hold ho) hd;refine⟨AC ho c1 hz t1,?_⟩;rw[e,e,e'];simp only[c1,c2,hz,hz',Bool.false_eq_true,if_false];refine t2.imp id (λ⟨ha,hout⟩=>⟨ha,hout.after (Ren.le_refl _) ⟨rfl,rfl,rfl,by simp[World.setCell],λb hb hno=>?_⟩ (by simp[World.setCell]) (λa b h=>.inl h) (by simp[World.setCell]) (eX.push ⟨a.block,h.1,(λ_=>hold),S.cell_ch c1⟩) (S.chs_set c1 h)⟩);exact di w' a' v' (λe=>hold (hno a.block (e▸h.1)))
  .have e : ∀ (p : Wv) (u : Wj), (Sem.store m a v k).runT p u es = (.halt (.stuck "store: not the value of one cell") u, es) := fun p u => by cases v <;> first | rfl | simp[iF]at ho
   exact .lost (uP ho) (λp=>⟨_,w,by rw[e],rfl⟩)
 | @new ρ o o' k k' h _ hs ih=>
  intro w w' es es' S hd;simp only[Sem.runT]at hd;have⟨t1,t2⟩:=ih w.heap.size w'.heap.size S.freshL S.freshR S.freshO {w with heap:=w.heap.push o} {w' with heap:=w'.heap.push o'} es es' (S.push h) hd;refine⟨F3 t1,?_⟩;simp only[Sem.runT];exact t2.imp id (λ⟨ha,ho⟩=>⟨ha,ho.after (rP _ _ _ _ _) ⟨rfl,rfl,rfl,by simp,λb hb _=>by simp only[gP,if_neg (show¬b=w'.heap.size by omega)]⟩ (by simp) (λa b h=>h.imp id (λh=>⟨by omega,by omega⟩)) (by simp) (eX.refl _ _) (S.chs_push _ _ hs)⟩)
 | @shape ρ r r' k k' h _ ih=>
  intro w w' es es' S hd;simp only[Sem.runT]at hd;obtain⟨t1,t2⟩:=ih _ w w' es es' S hd;refine⟨rR t1,?_⟩;simp only[Sem.runT,S.shapeEq h];exact t2
 | @frozen ρ a a' k k' h _ _ ih ih'=>
  intro w w' es es' S hd;simp only[Sem.runT]at hd;rcases S.frozenEq h with z|⟨z,hzf⟩
  .obtain ⟨t1,t2⟩:=ih _ w w' es es' S hd;refine⟨lp t1,?_⟩;simp only[Sem.runT,z];exact t2
  .rw [z]at hd;have⟨t1,t2⟩:=ih' hzf (w'.frozen? a') w w' es es' S hd;refine⟨lp (by rw[z];exact t1),?_⟩;simp only[Sem.runT,z];exact t2
 | @freeze ρ a a' n k k' h ho _ ih=>
  intro w w' es es' S hd;simp only[Sem.runT]at hd;have hd':Draws (w.freeze a n) (w'.freeze a' n) (k.runT P (w.freeze a n) es).1.w:=by
   unfold Draws;rw[(cM w a n).1,(cM w a n).2,(cM w' a' n).1,(cM w' a' n).2];exact hd
  have⟨t1,t2⟩:=ih (w.freeze a n) (w'.freeze a' n) es es' (S.freeze h n ho) hd';refine⟨yi t1,?_⟩;simp only[Sem.runT];refine t2.imp id (λ⟨ha,hout⟩=>⟨ha,hout.after (Ren.le_refl _) ⟨?_,?_,(cM w' a' n).1,by rw[nK];exact lR _,λb hb hno=>?_⟩ (by rw[nK];exact lR _) (λa b h=>.inl h) (by rw[(cM w a n).2,(cM w' a' n).2]) (eX.refl _ _) (S.chs_freeze h n)⟩)
  .unfold World.freeze;split<;>rfl
  .unfold World.freeze;split<;>rfl
  .exact de w' a' n (λe=>ho (hno a.block (e▸h.1)))
 | @getObj ρ r r' k k' h _ ih=>
  intro w w' es es' S hd;have⟨o,o',h1,h2,ho⟩:=S.obj r r' h;by_cases hcell:∃c e z,o=E c e z
  .obtain ⟨c,e,z,rfl⟩:=hcell
   exact .lost (rT h1) (fun p => ⟨.stuck "getObj: a row of cells", w, by simp only[Sem.runT, h1], rfl⟩)
  have hold:ρ.old r->H0 o:=λhr=>by
   have⟨x,k1,k2⟩:=S.fix r hr;rw[h1]at k1;cases k1;cases o with
   |cells c e z=>exact absurd ⟨c,e,z,rfl⟩ hcell
   |coro p=>cases p with
    |none=>exact .coro
    |some _=>exact absurd k2 (λh=>h)
   |number a l=>exact .number a l
   |_=>exact absurd k2 (λh=>h)
  have hch:ρ.ch r->o.isChan=true:=λe=>by
   have⟨x,k1,k2⟩:=S.chan r e;rw[h1]at k1;cases k1;exact k2
  have hch':o'.isChan=Z->¬ρ.ch r:=λe1 e2=>by
   have:=hch e2;cases ho<;>simp[Obj.isChan]at this e1
  have r1:∀ (p:Wv) es1,(Sem.getObj r k).runT p w es1=(k o).runT p w (es1.push ⟨.obj r,Z,o.isChan⟩):=λp es1=>by
   cases o<;>first|exact absurd ⟨_,_,_,rfl⟩ hcell|simp only[Sem.runT,h1]
  have r2:(Sem.getObj r' k').runT P w' es'=(k' o').runT P w' (es'.push ⟨.obj r',Z,o'.isChan⟩):=by
   cases ho with
   |cells e hz hc=>exact absurd ⟨_,_,_,rfl⟩ hcell
   |dead _ hd=>cases o'<;>first|(simp[qw]at hd;done)|simp only[Sem.runT,h2]
   |_=>simp only[Sem.runT,h2]
  rw[r1]at hd;obtain⟨t1,t2⟩:=ih o o' ho hold hch w w' _ (es'.push ⟨.obj r',Z,o'.isChan⟩) S hd;refine⟨yj h1 hcell t1,?_⟩;rw[r1,r1,r2];exact t2.imp id (λ⟨ha,hout⟩=>⟨ha,hout.after (Ren.le_refl _) (Keep.refl _ _) (lR _) (λa b h=>.inl h) rfl (eX.push ⟨r,h,(λh=>by cases h),hch'⟩)⟩)
 | @setObj ρ r r' o o' k k' h ho hn hch _ hs ih=>
  intro w w' es es' S hd;have⟨x,x',h1,h2,hx⟩:=S.obj r r' h;by_cases hcell:∃c e z,x=E c e z
  .obtain ⟨c,e,z,rfl⟩:=hcell
   exact .lost (rV h1) (fun p => ⟨.stuck "setObj: a row of cells", w, by simp only[Sem.runT, h1], rfl⟩)
  have hch':o'.isChan=Z->¬ρ.ch r:=λe1 e2=>by
   have:=hch e2;obtain⟨-,_,_,_,_,_,rfl⟩:=this;cases ho;simp[Obj.isChan]at e1
  have r1:∀ (p:Wv) es1,(Sem.setObj r o k).runT p w es1=k.runT p {w with heap:=w.heap.setIfInBounds r o} (es1.push ⟨.obj r,Y,o.isChan⟩):=λp es1=>by
   cases x<;>first|exact absurd ⟨_,_,_,rfl⟩ hcell|simp only[Sem.runT,h1]
  have r2:(Sem.setObj r' o' k').runT P w' es'=k'.runT P {w' with heap:=w'.heap.setIfInBounds r' o'} (es'.push ⟨.obj r',Y,o'.isChan⟩):=by
   cases hx with
   |cells e hz hc=>exact absurd ⟨_,_,_,rfl⟩ hcell
   |dead _ hd=>cases x'<;>first|(simp[qw]at hd;done)|simp only[Sem.runT,h2]
   |_=>simp only[Sem.runT,h2]
  rw[r1]at hd;obtain⟨t1,t2⟩:=ih {w with heap:=w.heap.setIfInBounds r o} {w' with heap:=w'.heap.setIfInBounds r' o'} _ (es'.push ⟨.obj r',Y,o'.isChan⟩) (S.put h ho hn (λk=>by obtain⟨-,_,_,_,_,_,rfl⟩:=hch k;rfl) (λc e z k=>hcell ⟨c,e,z,by rw[h1]at k;exact oJ k⟩)) hd;refine⟨yl h1 hcell t1,?_⟩;rw[r1,r1,r2];refine t2.imp id (λ⟨ha,hout⟩=>⟨ha,hout.after (Ren.le_refl _) ⟨rfl,rfl,rfl,by simp,λb hb hno=>?_⟩ (by simp) (λa b h=>.inl h) (by simp) (eX.push ⟨r,h,λ_=>hn,hch'⟩) (S.chs_put h hch hs)⟩);have hne:r'≠b:=λe=>hn (hno r (e▸h))
  simp[hne]
 | @choose ρ q k k' _ ih=>
  intro w w' es es' S hd;by_cases hf:q.forced=Y
  .simp only[Sem.runT,hf,if_true]at hd;have⟨t1,t2⟩:=ih 0 w w' es es' S hd;refine⟨mY hf t1,?_⟩;simp only[Sem.runT,hf,if_true];exact t2
  .have e:∀ (p:Wv) (u:Wj),(Sem.choose q k).runT p u es=(k (q.cut (u.tape u.drawn q))).runT p {u with drawn:=u.drawn+1} es:=λp u=>by simp only[Sem.runT,hf];rfl
   have e':∀ (u:Wj),(Sem.choose q k').runT P u es'=(k' (q.cut (u.tape u.drawn q))).runT P {u with drawn:=u.drawn+1} es':=λu=>by simp only[Sem.runT,hf];rfl
   rw[e]at hd;have S1:bN ρ {w with drawn:=w.drawn+1} {w' with drawn:=w'.drawn+1}:=⟨S.obj,S.fix,S.chan,S.os,S.pin⟩;have hlow:w.drawn+1<=((k (q.cut (w.tape w.drawn q))).runT P {w with drawn:=w.drawn+1} es).1.w.drawn:=AE P (k (q.cut (w.tape w.drawn q))) {w with drawn:=w.drawn+1} es;have h0:w'.tape w'.drawn=w.tape w.drawn:=by have:=hd 0 (by omega);simpa using this
   have⟨t1,t2⟩:=ih (q.cut (w.tape w.drawn q)) {w with drawn:=w.drawn+1} {w' with drawn:=w'.drawn+1} es es' S1 (λi hi=>by
    have:=hd (i+1) (by simp only at hi;omega);simp only;rw[show w'.drawn+1+i=w'.drawn+(i+1)by omega,show w.drawn+1+i=w.drawn+(i+1)by omega];exact this)
   refine⟨ym hf t1,?_⟩;rw[e,e,e',h0];exact t2.imp id (λ⟨ha,hout⟩=>⟨ha,hout.after (Ren.le_refl _) ⟨rfl,rfl,rfl,lR _,λb hb _=>rfl⟩ (lR _) (λa b h=>.inl h) (by simp only;omega) (eX.refl _ _) ⟨λ_ _ _ _=>.inl ⟨rfl,rfl⟩,λ_ _ _ h _=>.inl h⟩⟩)
 |program h1 _ ih=>
  intro w w' es es' S hd;have⟨t1,t2⟩:=ih w w' es es' S hd;refine⟨nJ t1,?_⟩;simp only[Sem.runT];rw[h1];exact t2
 | @mark ρ m k k' h _ ih=>
  intro w w' es es' S hd;simp only[Sem.runT]at hd;obtain⟨t1,t2⟩:=ih w w' _ (es'.push ⟨.mark m,Z,Y⟩) S hd;refine⟨wR t1,?_⟩;simp only[Sem.runT];exact t2.imp id (λ⟨ha,hout⟩=>⟨ha,hout.after (Ren.le_refl _) (Keep.refl _ _) (lR _) (λa b h=>.inl h) rfl (eX.push h)⟩)
 |halt hh=>intro w w' es es' S _;exact⟨wQ _,.inr ⟨rfl,_,Ren.le_refl _,S,.halt w w' hh,Keep.refl _ _,λa b h=>.inl h,by simp only[Sem.runT,Result.w],eX.refl _ _,lR _,Chs.refl _ _ _⟩⟩
 | @env ρ k k' _ ih=>
  intro w w' es es' S hd;have e:∀u:Wj,u.sys .env=(.strings u.os.env,u):=λu=>rfl
  have e1:∀ (p:Wv),(Sem.sys .env k).runT p w es=(k (.strings w.os.env)).runT p w (es.push ⟨.output,Y,Z⟩):=λp=>rfl
  have e2:(Sem.sys .env k').runT P w' es'=(k' (.strings w.os.env)).runT P w' (es'.push ⟨.output,Y,Z⟩):=by
   rw[<-S.os];rfl
  rw[e1]at hd;obtain⟨t1,t2⟩:=ih (.strings w.os.env) w w' _ (es'.push ⟨.output,Y,Z⟩) S hd;refine⟨iu P _ (k (.strings w.os.env)) w w es _ (e1 P) rfl rfl (λτ d=>rfl) t1,?_⟩;rw[e1,e1,e2];exact t2.imp id (λ⟨ha,hout⟩=>⟨ha,hout.after (Ren.le_refl _) (Keep.refl _ _) (lR _) (λa b h=>.inl h) rfl (eX.push trivial)⟩)
 |lost h s'=>intro w w' es es' S _;exact⟨(h.run P rfl w es).1,.inl ⟨(h.run P rfl w es).2,(h.run P.alt rfl w es).2⟩⟩
def QE{α:Type}:Ren->α->α->Prop:=λ_ a b=>a=b
def QV:Ren->Wx->Wx->Prop:=λρ v a=>RV ρ v a
def QA:Ren->Wu->Wu->Prop:=λρ a b=>RA ρ a b
def QVs:Ren->Array Wx->Array Wx->Prop:=λρ c a=>RVs ρ c a
def QU:Ren->Unit->Unit->Prop:=λ_ _ _=>True
def bU(P:Wv):Prop:=∀t i z,P.info? t=J i->i.zero=J z->∀ρ,RV ρ z z
section
variable {P:Wv} [Two P] {ρ:Ren}
theorem ag{α a:Type}{Q:Ren->α->a->Prop}(s:String){x':Sem a}:RS P Q ρ (stuck s) x':=.lost (.halt rfl) _
theorem ak{α a:Type}{Q:Ren->α->a->Prop}(u:Unsupported)(b:eO (.unsupported u)=true:=by rfl){x':Sem a}:RS P Q ρ (unsupported u) x':=.lost (.halt b) _
theorem ae{α j:Type}{Q:Ren->α->j->Prop}{a:α}{b:j}(h:Q ρ a b):RS P Q ρ (Pure.pure a) (Pure.pure b):=.pure h
theorem aj{α j d:Type}{Q:Ren->α->β->Prop}{Q':Ren->j->d->Prop}{x:Sem α}{i:Sem β}{f:α->Sem j}{e:β->Sem d}(h:RS P Q ρ x i)(k:∀ρ',ρ.le ρ'->∀a b,Q ρ' a b->RS P Q' ρ' (f a) (e b)):RS P Q' ρ (x >>= f) (i >>= e):=RS.bind h k
theorem ai{α j:Type}{Q':Ren->j->β->Prop}{x i:Sem α}{f:α->Sem j}{d:α->Sem β}(h:RS P QE ρ x i)(k:∀ρ',ρ.le ρ'->∀a,RS P Q' ρ' (f a) (d a)):RS P Q' ρ (x >>= f) (i >>= d):=RS.bind h (λρ' l a b (e:a=b)=>e▸k ρ' l a)
theorem bh{b a:Type}{Q':Ren->b->a->Prop}{f:Wv->Sem b}{c:Wv->Sem a}(h:RS P Q' ρ (f P) (c P))(d:f P.alt=f P:=by rfl):RS P Q' ρ (program >>= f) (program >>= c):=.program d h
theorem cn(t:Ww):RS P (λ_ a b=>a=b/\P.info? t=J a) ρ (typeInfo t) (typeInfo t):=by
 unfold typeInfo;refine .program rfl ?_
 show RS P _ ρ (match P.info? t with | some i => Pure.pure i | none => stuck "no such type") (match P.info? t with | some i => Pure.pure i | none => stuck "no such type")
 cases P.info? t with
 |none=>exact ag _
 |some i=>exact ae ⟨rfl,rfl⟩
theorem ay(t:Ww):RS P QE ρ (underlying t) (underlying t):=by
 unfold underlying;refine .program rfl ?_
 show RS P _ ρ (match P.underlying t with | some i => Pure.pure i | none => stuck "no such type") (match P.underlying t with | some i => Pure.pure i | none => stuck "no such type")
 cases P.underlying t with
 |none=>exact ag _
 |some i=>exact ae rfl
theorem aY(t:Ww):RS P (λ_ a b=>a=b/\P.underlying t=J a) ρ (underlying t) (underlying t):=by
 unfold underlying;refine .program rfl ?_
 show RS P _ ρ (match P.underlying t with | some i => Pure.pure i | none => stuck "no such type") (match P.underlying t with | some i => Pure.pure i | none => stuck "no such type")
 cases P.underlying t with
 |none=>exact ag _
 |some i=>exact ae ⟨rfl,rfl⟩
theorem dg(c:bU P)(t:Ww):RS P QV ρ (zeroValue t) (zeroValue t):=by
 unfold zeroValue;refine aj (cn t) (λρ' _ a b h=>?_);obtain⟨rfl,d⟩:=h;cases e:a.zero with
 |none=>exact ak _
 |some z=>exact ae (c t a z d e ρ')
theorem bF(t:Ww):RS P QE ρ (sizeOf t) (sizeOf t):=by
 unfold sizeOf;exact aj (cn t) (λρ' _ a b h=>by obtain⟨rfl,-⟩:=h;exact ae rfl)
theorem wS(t:Ww):RS P QE ρ (isAgg t) (isAgg t):=by
 unfold isAgg;refine ai (ay t) (λρ' _ a=>?_);split<;>exact ae rfl
theorem nM{a b:Wu}(h:RA ρ a b)(m:Mode):RS P QV ρ (load a m) (load b m):=.load m h (λ_ _ c=>.pure c)
theorem Dv{a:Wu}(h:RA ρ a a'){v b:Wx}(d:RV ρ v b)(m:Mode):RS P QU ρ (store a v m) (store a' b m):=.store m h d (.pure trivial)
theorem RA.add{a b:Wu}(h:RA ρ a b)(n:Nat):RA ρ (a.add n) (b.add n):=by
 unfold Addr.add;split
 .exact h
 .exact ⟨h.1,by simp[h.2.1],rfl⟩
theorem RVs.push{f:Array Wx}(h:RVs ρ c f){v e:Wx}(k:RV ρ v e):RVs ρ (c.push v) (f.push e):=by
 refine⟨by simp[h.size],λi x j b a=>?_⟩;rw[gP]at b a;rw[<-h.size]at a;by_cases d:i=c.size
 .simp only[d,if_true,oI]at b a;subst b;subst a;exact k
 .simp only[d,if_false]at b a;exact h.at_ i x j b a
theorem RVs.nil:RVs ρ #[] #[]:=⟨rfl,λi v v' h=>by simp at h⟩
theorem mZ:∀ (n i:Nat){ρ:Ren}{a b:Wu}{c d:Array Wx},RA ρ a b->RVs ρ c d->RS P QVs ρ (loadCellsFrom a i n c) (loadCellsFrom b i n d):=by
 intro n;induction n with
 |zero=>intro i ρ a b c d _ e;exact ae e
 |succ n ih=>
  intro i ρ a b c d h e;unfold loadCellsFrom;exact aj (nM (h.add i) _) (λρ' f v v' j=>ih (i+1) (h.mono f) ((e.mono f).push j))
theorem fJ{a b:Wu}(h:RA ρ a b)(n:Nat):RS P QVs ρ (loadCells a n) (loadCells b n):=mZ n 0 h RVs.nil
theorem pi(t:Ww){a:Wu}(h:RA ρ a a'):RS P QV ρ (loadVar t a) (loadVar t a'):=by
 unfold loadVar;refine ai (wS t) (λρ1 e b=>?_);cases b with
 |true=>
  refine ai (bF t) (λρ2 i n=>?_);refine aj (fJ ((h.mono e).mono i) n) (λρ3 _ c c' d=>ae (.agg d.size d.at_))
 |false=>exact nM (h.mono e) _
theorem RV.cellsRel{v b:Wx}(h:RV ρ v b):RVs ρ v.cells b.cells:=by
 have a:RVs ρ #[v] #[b]:=RVs.nil.push h;cases h with
 |agg c h=>exact⟨c,h⟩
 |dead b h=>cases b<;>first|exact a|simp[iD]at h
 |_=>exact a
theorem eb:∀ (c b:List Wx)(i:Nat){ρ:Ren}{a e:Wu},RA ρ a e->c.length=b.length->(∀ (j:Nat) v d,c[j]?=J v->b[j]?=J d->RV ρ v d)->RS P QU ρ (storeCells a c i) (storeCells e b i):=by
 intro c;induction c with
 |nil=>intro b i ρ a e _ f _;cases b with
  |nil=>exact ae trivial
  |cons=>simp at f
 |cons v c ih=>
  intro b i ρ a e h f k;cases b with
  |nil=>simp at f
  |cons d b=>
   unfold storeCells;exact aj (Dv (h.add i) (k 0 v d rfl rfl) _) (λρ' l _ _ _=>ih b (i+1) (h.mono l) (by simpa using f) (λj x o n m=>(k (j+1) x o n m).mono l))
theorem uQ(t:Ww){a:Wu}(h:RA ρ a a'){v c:Wx}(q:RV ρ v c):RS P QU ρ (storeVar t a v) (storeVar t a' c):=by
 have p:=q.cellsRel;unfold storeVar;refine ai (bF t) (λi f n=>?_);have b:=p.mono f;have l:RS P QU i (storeCells a v.cells.toList) (storeCells a' c.cells.toList):=eb _ _ 0 (h.mono f) (by simpa using b.size) (λj x m k d=>b.at_ j x m (by simpa using k) (by simpa using d));rw[<-p.size];split
 .exact aj (Q:=QU) (ag _) (λρ2 o _ _ _=>eb _ _ 0 ((h.mono f).mono o) (by simpa using b.size) (λj x m k d=>(b.at_ j x m (by simpa using k) (by simpa using d)).mono o))
 .exact l
theorem gt(e:Ww){f a:Array Wx}(h:RVs ρ f a):RS P QA ρ (newRow e f) (newRow e a):=by
 unfold newRow;exact .new (.cells e (.inl rfl) h) (λr r' _ _ _=>.pure ⟨.inr ⟨rfl,rfl⟩,rfl,rfl⟩)
theorem nN(t:Ww){v a:Wx}(b:RV ρ v a):RS P QA ρ (newVar t v) (newVar t a):=gt t b.cellsRel
theorem fp{α a:Type}{Q:Ren->α->a->Prop}:RS P Q ρ (runtimePanic .nilDeref) (runtimePanic .nilDeref):=.program rfl (.halt (.panic (.iface _ (.string _))))
theorem rY{v a:Wx}(b:RV ρ v a):RS P QA ρ (asAddr v) (asAddr a):=by
 cases b with
 |pointer h=>
  cases h with
  |none=>exact fp
  |some h=>exact ae h
 |_=>exact ag _
theorem r4{v a:Wx}(b:RV ρ v a):RS P QE ρ (asBool v) (asBool a):=by
 cases b<;>first|exact ae rfl|exact ag _
theorem Dw{v a:Wx}(b:RV ρ v a):RS P QVs ρ (asAgg v) (asAgg a):=by
 cases b with
 |agg c h=>exact ae ⟨c,h⟩
 |_=>exact ag _
theorem fq{v a:Wx}(b:RV ρ v a):RS P QA ρ (Instr.sureAddr v) (Instr.sureAddr a):=by
 cases b with
 |pointer h=>
  cases h with
  |none=>exact ag _
  |some h=>exact ae h
 |_=>exact ag _
theorem Dx(b:bU P)(t:Ww):RS P QV ρ (Instr.alloc t Y (.tuple #[])) (Instr.alloc t Y (.tuple #[])):=by
 unfold Instr.alloc;refine aj (dg b t) (λρ1 _ z z' d=>?_);exact aj (nN t d) (λρ2 _ a a' c=>ae (.pointer (.some c)))
theorem H4(t:Ww){v b:Wx}(c:RV ρ v b):RS P QV ρ (Instr.box t v) (Instr.box t b):=by
 unfold Instr.box;exact aj (nN t c) (λρ2 _ a a' d=>ae (.pointer (.some d)))
theorem AF(t:Ww){v b:Wx}(c:RV ρ v b):RS P QV ρ (Instr.loadAt t v) (Instr.loadAt t b):=by
 unfold Instr.loadAt;exact aj (fq c) (λρ1 _ a a' d=>pi t d)
theorem yn(t:Ww){v c x b:Wx}(d:RV ρ v c)(e:RV ρ x b):RS P QU ρ (Instr.storeAt t v x) (Instr.storeAt t c b):=by
 unfold Instr.storeAt;exact aj (fq d) (λρ1 l a a' f=>uQ t f (e.mono l))
theorem yo{v c:Wx}(e:RV ρ v c)(i:Nat):RS P QV ρ (Instr.extract v i) (Instr.extract c i):=by
 unfold Instr.extract;cases e with
 |tuple d h=>
  rcases RVs.get ⟨d,h⟩ i with⟨a,b⟩|⟨x,x',a,b,f⟩
  .simp only[a,b];exact ag _
  .simp only[a,b];exact ae f
 |_=>exact ag _
theorem uR{f b:Fn}(j:RFn ρ f b){a h i:Array Wx}(e:RVs ρ a h)(d:RVs ρ c i):RS P QV ρ (Instr.makeFunc f a c) (Instr.makeFunc b h i):=by
 unfold Instr.makeFunc;exact ae (.func j e.size d.size e.at_ d.at_)
theorem RVs.extract{d:Array Wx}(h:RVs ρ c d)(i j:Nat):RVs ρ (c.extract i j) (d.extract i j):=by
 refine⟨by simp[h.size],λk v f a b=>?_⟩;rw[Array.getElem?_extract]at a b;rw[<-h.size]at b;split at a
 .rename_i e;rw[if_pos e]at b;exact h.at_ _ v f a b
 .cases a
theorem iG(t:Ww){f:Array Wx}(h:RVs ρ c f)(o:Nat):RS P QV ρ (Go.part t c o) (Go.part t f o):=by
 unfold Go.part;refine ai (wS t) (λρ1 e b=>?_);cases b with
 |true=>exact ai (bF t) (λρ2 j n=>ae (by have:=((h.mono e).mono j).extract o (o+n);exact .agg this.size this.at_))
 |false=>
  rcases(h.mono e).get o with⟨d,a⟩|⟨x,x',d,a,i⟩
  .simp only[d,a];exact ag _
  .simp only[d,a];exact ae i
theorem Dy(t:Ww){v a:Wx}(b:RV ρ v a)(f:Nat):RS P QV ρ (Instr.field t v f) (Instr.field t a f):=by
 unfold Instr.field;refine ai (ay t) (λρ1 e d=>?_);split
 .split
  .exact aj (Dw (b.mono e)) (λρ2 l2 c c' h=>iG _ h _)
  .exact ag _
 .exact ag _
theorem jh{v a:Wx}(b:RV ρ v a):RS P QE ρ (asIntOf v) (asIntOf a):=by
 cases b with
 |int k n=>exact ae rfl
 |pointer h=>
  cases h with
  |none=>exact ag _
  |some h=>exact ak _
 |_=>exact ag _
theorem cN{α:Type}{Q:Ren->α->h->Prop}(k:IntKind)(x y:Int)(c:BoundsCode):RS P Q ρ (boundsPanic k x y c) (boundsPanic k x y c):=by
 have b:∀ (a:Ren) (s:Bool),RS P Q a (runtimePanic (.bounds (IntKind.i64.wrap x) y s c)) (runtimePanic (.bounds (IntKind.i64.wrap x) y s c)):=by
  intro a s;refine .program rfl (.halt (.panic (.iface _ (.agg rfl (λi v v' d f=>?_)))));rw[d]at f;cases f;have j:∀u∈#[Value.int .i64 (IntKind.i64.wrap x),.int .i64 y,.bool s,.int .u8 c.toNat],RV a u u:=by
   intro u e;simp at e;rcases e with rfl|rfl|rfl|rfl
   .exact .int _ _
   .exact .int _ _
   .exact .bool _
   .exact .int _ _
  exact j v (Array.mem_of_getElem? d)
 unfold boundsPanic;simp only;split
 .exact .choose _ (λn=>b ρ _)
 .exact b ρ _
theorem Dz(t:Ww){v c x e:Wx}(f:RV ρ v c)(q:RV ρ x e):RS P QV ρ (Instr.index t v x) (Instr.index t c e):=by
 unfold Instr.index;refine ai (jh q) (λρ1 j o=>?_);obtain⟨k,n⟩:=o;refine ai (ay t) (λρ2 l d=>?_);have b:=(f.mono j).mono l;cases b with
 |agg p h=>
  cases d with
  |array len a=>
   simp only;split
   .exact ai (bF a) (λρ3 r m=>iG _ (RVs.mono r ⟨p,h⟩) _)
   .exact cN _ _ _ _
  |_=>exact ag _
 |string s=>
  cases d with
  |string=>
   simp only;split
   .exact ae (.int _ _)
   .exact cN _ _ _ _
  |_=>exact ag _
 |_=>cases d<;>exact ag _
theorem dj{v a:Wx}(b:RV ρ v a)(y:Nat)(c:BoundsCode):RS P QE ρ (Instr.sliceBound v y c) (Instr.sliceBound a y c):=by
 unfold Instr.sliceBound;refine ai (jh b) (λρ1 l1 d=>?_);obtain⟨k,n⟩:=d;simp only;split
 .exact ae rfl
 .exact cN _ _ _ _
theorem eH(n:Bool)(o l:Nat){F a k b H B:Option Wx}(q:∀v d,F=J v->a=J d->RV ρ v d)(t:∀v d,k=J v->b=J d->RV ρ v d)(x:∀v d,H=J v->B=J d->RV ρ v d)
  (p:F.isSome=a.isSome) (u:k.isSome=b.isSome) (y:H.isSome=B.isSome):RS P QE ρ (Instr.sliceBounds n o l F k H) (Instr.sliceBounds n o l a b B):=by
 unfold Instr.sliceBounds;cases H<;>cases B<;>first|(simp at y;done)|skip
 .refine ai (ae rfl) (λs i m=>?_);cases k<;>cases b<;>first|(simp at u;done)|skip
  .refine ai (ae rfl) (λe j h=>?_);cases F<;>cases a<;>first|(simp at p;done)|skip
   .exact ai (ae rfl) (λ_ _ _=>ae rfl)
   .exact ai (dj (((q _ _ rfl rfl).mono i).mono j) _ _) (λ_ _ _=>ae rfl)
  .refine ai (dj ((t _ _ rfl rfl).mono i) _ _) (λe j h=>?_);cases F<;>cases a<;>first|(simp at p;done)|skip
   .exact ai (ae rfl) (λ_ _ _=>ae rfl)
   .exact ai (dj (((q _ _ rfl rfl).mono i).mono j) _ _) (λ_ _ _=>ae rfl)
 .refine ai (dj (x _ _ rfl rfl) _ _) (λs i m=>?_);cases k<;>cases b<;>first|(simp at u;done)|skip
  .refine ai (ag _) (λe j h=>?_);cases F<;>cases a<;>first|(simp at p;done)|skip
   .exact ai (ae rfl) (λ_ _ _=>ae rfl)
   .exact ai (dj (((q _ _ rfl rfl).mono i).mono j) _ _) (λ_ _ _=>ae rfl)
  .refine ai (dj ((t _ _ rfl rfl).mono i) _ _) (λe j h=>?_);cases F<;>cases a<;>first|(simp at p;done)|skip
   .exact ai (ae rfl) (λ_ _ _=>ae rfl)
   .exact ai (dj (((q _ _ rfl rfl).mono i).mono j) _ _) (λ_ _ _=>ae rfl)
theorem RAo.addAll{a b:Option Wu}(h:RAo ρ a b)(n:Nat):RAo ρ (a.map (·.add n)) (b.map (·.add n)):=by
 cases h with
 |none=>exact .none
 |some h=>exact .some (h.add n)
theorem yp(t:Ww){v D i F:Wx}(S:RV ρ v D)(R:RV ρ i F):RS P QV ρ (Instr.indexAt t v i) (Instr.indexAt t D F):=by
 unfold Instr.indexAt;refine ai (jh R) (λρ1 T X=>?_);obtain⟨k,n⟩:=X;refine ai (ay t) (λρ2 V d=>?_);have o:=(S.mono T).mono V;cases d with
 |array r f=>
  refine aj (fq o) (λρ3 l3 a a' p=>?_);refine aj (Q:=λρ (x y:Option Wu×Nat×Ww)=>RAo ρ x.1 y.1/\x.2=y.2) (ae ⟨.some p,rfl⟩) (λB G x y h=>?_);obtain⟨b,r,f⟩:=x;obtain⟨H,q,j⟩:=y;obtain⟨l,e⟩:=h;simp only[Prod.mk.injEq]at e;obtain⟨rfl,rfl⟩:=e;simp only at l ⊢;refine ai (ay t) (λu s d=>?_);cases l with
  |none=>exact cN _ _ _ _
  |some p=>
   simp only;split
   .exact ai (bF _) (λz A m=>ae (.pointer (.some (((p.mono s).mono A).add _))))
   .repeat' split
    all_goals first
     |exact ak _
     |exact cN _ _ _ _
 |slice f=>
  cases o with
  |slice m c L=>
   refine aj (Q:=λρ (x y:Option Wu×Nat×Ww)=>RAo ρ x.1 y.1/\x.2=y.2) (ae ⟨L,rfl⟩) (λB G x y h=>?_);obtain⟨b,r,f⟩:=x;obtain⟨H,q,j⟩:=y;obtain⟨l,e⟩:=h;simp only[Prod.mk.injEq]at e;obtain⟨rfl,rfl⟩:=e;simp only at l ⊢;refine ai (ay t) (λu s d=>?_);cases l with
   |none=>exact cN _ _ _ _
   |some p=>
    simp only;split
    .exact ai (bF _) (λz A m=>ae (.pointer (.some (((p.mono s).mono A).add _))))
    .repeat' split
     all_goals first
      |exact ak _
      |exact cN _ _ _ _
  |_=>exact ag _
 |_=>exact ag _
theorem DA(t:Ww){v e:Wx}(hv:RV ρ v e){G o F i H q:Option Wx}(h1:∀v e,G=J v->o=J e->RV ρ v e)(h2:∀v e,F=J v->i=J e->RV ρ v e)(h3:∀v e,H=J v->q=J e->RV ρ v e)
  (X:G.isSome=o.isSome) (S:F.isSome=i.isSome) (e3:H.isSome=q.isSome):RS P QV ρ (Instr.slice t v G F H) (Instr.slice t e o i q):=by
 unfold Instr.slice;refine ai (ay t) (λj L d=>?_);have r:=hv.mono L;have T:∀v e,G=J v->o=J e->RV j v e:=λv e a b=>(h1 v e a b).mono L
 have R:∀v e,F=J v->i=J e->RV j v e:=λv e a b=>(h2 v e a b).mono L
 have g3:∀v e,H=J v->q=J e->RV j v e:=λv e a b=>(h3 v e a b).mono L
 cases d with
 |string=>
  cases r with
  |string s=>
   simp only;have A:∀f,j.le f->RS P QV f (do let(l,h,_) <-Instr.sliceBounds Z s.size s.size G F N;pure (.string (s.extract l h)):Sem Wx) (do let(l,h,_) <-Instr.sliceBounds Z s.size s.size o i N;pure (.string (s.extract l h))):=λf p=>
    ai (eH Z _ _ (λv e a b=>(T v e a b).mono p) (λv e a b=>(R v e a b).mono p) (λv e a _=>by cases a) X S rfl) (λB _ x=>ae (.string _))
   rw[<-e3];split
   .exact aj (Q:=QU) (ag _) (λf p _ _ _=>A f p)
   .exact A j (Ren.le_refl _)
  |_=>exact ag _
 |slice k=>
  cases r with
  |slice n c ha=>
   refine ai (eH Y _ _ T R g3 X S e3) (λf p x=>?_);obtain⟨l,h,m⟩:=x;refine ai (bF k) (λB u z=>?_);refine ae (.slice _ _ ?_);have y:=(ha.mono p).mono u;split
   .exact y
   .exact y.addAll _
  |_=>exact ag _
 |pointer V=>
  refine aj (rY r) (λf p a a' ha=>?_);refine ai (ay V) (λB u d=>?_);cases d with
  |array n k=>
   refine ai (eH Z _ _ (λv e a b=>((T v e a b).mono p).mono u) (λv e a b=>((R v e a b).mono p).mono u) (λv e a b=>((g3 v e a b).mono p).mono u) X S e3) (λρ4 l4 x=>?_);obtain⟨l,h,m⟩:=x;refine ai (bF k) (λρ5 l5 z=>?_);refine ae (.slice _ _ (.some ?_));have D:=((ha.mono u).mono l4).mono l5;split
   .exact D
   .exact D.add _
  |_=>exact ag _
 |_=>exact ag _
inductive RPs (ρ:Ren):List (Nat×Wx)->List (Nat×Wx)->Prop
 |nil:RPs ρ [] []
 |cons (i:Nat) {v v':Wx} {l l':List (Nat×Wx)} (h:RV ρ v v') (hl:RPs ρ l l'):RPs ρ ((i,v)::l) ((i,v')::l')
theorem RPs.mono{ρ':Ren}(hle:ρ.le ρ'){l l':List (Nat×Wx)}(h:RPs ρ l l'):RPs ρ' l l':=by
 induction h with
 |nil=>exact .nil
 |cons i h _ ih=>exact .cons i (h.mono hle) ih
theorem F4(b:Nat):∀ (l a:List Wx)(k:Nat)(c f:Array Wx),l.length=a.length->(∀ (j:Nat) v d,l[j]?=J v->a[j]?=J d->RV ρ v d)->RVs ρ c f ->
  RVs ρ ((l.zipIdx k).foldl (λcs (x:Wx×Nat)=>cs.setIfInBounds (b+x.2) x.1) c) ((a.zipIdx k).foldl (λcs (x:Wx×Nat)=>cs.setIfInBounds (b+x.2) x.1) f):=by
 intro l;induction l with
 |nil=>intro a k c f e _ h;cases a with
  |nil=>exact h
  |cons=>simp at e
 |cons v l ih=>
  intro a k c f e i h;cases a with
  |nil=>simp at e
  |cons d a=>
   simp only[List.zipIdx_cons,List.foldl_cons];exact ih a (k+1) _ _ (by simpa using e) (λj x o n m=>i (j+1) x o n m) (h.set _ (i 0 v d rfl rfl))
theorem qy(a:Nat->Option (Nat×Nat)){l f:List (Nat×Wx)}(h:RPs ρ l f):∀ {c b:Array Wx},RVs ρ c b ->
  (Instr.fill a c l=N/\Instr.fill a b f=N)\/∃d n,Instr.fill a c l=J d/\Instr.fill a b f=J n/\RVs ρ d n:=by
 induction h with
 |nil=>intro c b k;exact .inr ⟨c,b,rfl,rfl,k⟩
 | @cons i v o l f q _ ih=>
  intro c b k;unfold Instr.fill;cases a i with
  |none=>exact .inl ⟨rfl,rfl⟩
  |some x=>
   obtain⟨m,size⟩:=x;have e:=q.cellsRel;simp only[<-e.size,<-k.size];split
   .exact .inl ⟨rfl,rfl⟩
   .refine ih ?_;have:=F4 (ρ:=ρ) m v.cells.toList o.cells.toList 0 c b (by simpa using e.size) (λj x s r p=>e.at_ j x s (by simpa using r) (by simpa using p)) k;rw[<-Array.toList_zipIdx,<-Array.toList_zipIdx,Array.foldl_toList,Array.foldl_toList]at this;exact this
theorem RVs.cyc{z b:Array Wx}(h:RVs ρ z b)(n:Nat):RVs ρ ((Array.range n).map (λi=>z[i%z.size]!)) ((Array.range n).map (λi=>b[i%b.size]!)):=by
 refine⟨by simp,λi v v' a c=>?_⟩;simp only[Array.getElem?_map,Array.getElem?_range]at a c;split at a
 .rename_i l;simp only[l,if_true,Option.map_some,oI]at a c;by_cases f:0<z.size
  rotate_left
  .have j:z=#[]:=Array.eq_empty_of_size_eq_zero (by omega);have k:b=#[]:=Array.eq_empty_of_size_eq_zero (by rw[<-h.size];omega);subst j;subst k;subst a;subst c;exact .bool _
  have d:i%z.size<z.size:=Nat.mod_lt _ f;have e:i%b.size<b.size:=by rw[<-h.size];exact d
  rw[getElem!_pos z _ d]at a;rw[getElem!_pos b _ e]at c;subst a;subst c;refine h.at_ (i%z.size) _ _ (eG d) ?_;rw[eG (by rw[<-h.size];exact d)];simp only[h.size]
 .cases a
theorem qz(hZ:bU P)(t:Ww)(len:Nat){a a':Array (Nat×Wx)}(h:RPs ρ a.toList a'.toList):RS P QV ρ (Instr.buildSlice t len a) (Instr.buildSlice t len a'):=by
 unfold Instr.buildSlice;refine ai (ay t) (λρ1 l1 d=>?_);cases d with
 |slice elem=>
  refine ai (bF elem) (λρ2 l2 size=>?_);have fin:∀ (ρ3:Ren),ρ2.le ρ3->∀z z',RVs ρ3 z z'->RS P QV ρ3 (match Instr.fill (λi=>J (i*size,size)) ((Array.range (len*size)).map (λx=>z[x%z.size]!)) a.toList with
    |some cells=>do let r <-newRow elem cells;pure (.slice (J r) len len)
    | _ => stuck "buildSlice: a part of the wrong size") (match Instr.fill (fun i => J (i*size, size)) ((Array.range (len*size)).map (fun x => z'[x%z'.size]!)) a'.toList with
    |some cells=>do let r <-newRow elem cells;pure (.slice (J r) len len)
    | _ => stuck "buildSlice: a part of the wrong size") := by
   intro ρ3 l3 z z' hz;rcases qy (λi=>J (i*size,size)) (((h.mono l1).mono l2).mono l3) (hz.cyc (len*size))with⟨h1,h2⟩|⟨c,c',h1,h2,hc⟩
   .rw [h1,h2];exact ag _
   .rw [h1,h2];exact aj (gt elem hc) (λρ4 _ r r' hr=>ae (.slice _ _ (.some hr)))
  simp only;split
  .exact ak _
  .split
   .exact fin ρ2 (Ren.le_refl _) _ _ RVs.nil
   .exact aj (dg hZ elem) (λρ3 l3 z z' hz=>fin ρ3 l3 _ _ (RV.cellsRel hz))
 |_=>exact ag _
theorem dA{α a:Type}{Q:Ren->α->a->Prop}(m:String):RS P Q ρ (runtimePanic (.error m)) (runtimePanic (.error m)):=.program rfl (.halt (.panic (.iface _ (.string _))))
theorem nl{α a:Type}{Q:Ren->α->a->Prop}(m:String):RS P Q ρ (runtimePanic (.plain m)) (runtimePanic (.plain m)):=.program rfl (.halt (.panic (.iface _ (.string _))))
theorem pj(n:Nat):RS P QU ρ (askRoom n) (askRoom n):=by
 unfold askRoom;split
 .exact .mark .noRoom (.pure trivial)
 .exact ae trivial
theorem gR{v a:Wx}(b:RV ρ v a):RS P QE ρ (asInt v) (asInt a):=by
 unfold asInt;exact ai (jh b) (λρ1 _ x=>ae rfl)
theorem wT{v a:Wx}(b:RV ρ v a):RS P QE ρ (Builtin.lenOf v) (Builtin.lenOf a):=by
 cases b<;>first|exact ae rfl|exact ag _
theorem gU(a n:Nat){v e:Wx}(j:RV ρ v e):RS P QVs ρ (Builtin.firstCells a n v) (Builtin.firstCells a n e):=by
 cases j with
 |slice m c h=>
  cases h with
  |none=>exact ae RVs.nil
  |some h=>exact fJ h _
 |string s=>
  refine ae ⟨rfl,λi v e d f=>?_⟩;rw[d]at f;cases f;simp only[Array.getElem?_map]at d;obtain⟨b,-,rfl⟩:=Option.map_eq_some_iff.1 d;exact .int _ _
 |_=>exact ag _
theorem RVs.append{a l b f:Array Wx}(h:RVs ρ a l)(k:RVs ρ b f):RVs ρ (a++b) (l++f):=by
 refine⟨by simp[h.size,k.size],λi v j d c=>?_⟩;rw[Array.getElem?_append]at d c;rw[<-h.size]at c;split at d
 .rename_i e;rw[if_pos e]at c;exact h.at_ i v j d c
 .rename_i e;rw[if_neg e]at c;exact k.at_ _ v j d c
theorem RVs.zeros{f a:Array Wx}(h:RVs ρ f a)(n:Nat):RVs ρ (Builtin.zeroCells f n) (Builtin.zeroCells a n):=by
 unfold Builtin.zeroCells;rw[<-h.size];have:=h.cyc (n*f.size);rw[<-h.size]at this;exact this
theorem DC{a b:Wu}(h:RA ρ a b)(n:Nat):RS P QE ρ (Builtin.holdsCells a n) (Builtin.holdsCells b n):=by
 unfold Builtin.holdsCells;refine .shape h.1 (λs=>?_);show RS P QE ρ (match s with|some (_,m)=>pure (a.spot.isNone&&a.off+n<=m)|none=>pure Z) (match s with|some (_,m)=>pure (b.spot.isNone&&b.off+n<=m)|none=>pure Z);rw[h.2.1,h.2.2];split<;>exact ae rfl
theorem F5(at_:Array Ww)(t:Ww){a r:Array Wx}(h:RVs ρ a r):RS P QV ρ (Builtin.copy_ at_ t a) (Builtin.copy_ at_ t r):=by
 unfold Builtin.copy_;rcases h.get 0 with⟨f,e⟩|⟨d,d',f,e,A⟩
 .rw [f,e];cases at_[0]?<;>exact ag _
 rcases h.get 1 with⟨i,l⟩|⟨s,s',i,l,q⟩
 .rw [f,e,i,l];cases at_[0]?<;>exact ag _
 rw[f,e,i,l];cases at_[0]? with
 |none=>exact ag _
 |some S=>
  refine ai (ay S) (λρ1 p G=>?_);cases G with
  |slice b=>
   have k:=A.mono p;cases k with
   |slice n c F=>
    refine ai (wT (q.mono p)) (λρ2 u m=>?_);refine ai (bF b) (λρ3 y z=>?_);refine aj (gU z _ (((q.mono p).mono u).mono y)) (λρ4 B c D v=>?_);have o:=((F.mono u).mono y).mono B;cases o with
    |none=>exact ae (.int _ _)
    |some L=>exact aj (eb c.toList D.toList 0 L (by simpa using v.size) (λj x Q H R=>v.at_ j x Q (by simpa using H) (by simpa using R))) (λρ5 _ _ _ _=>ae (.int _ _))
   |_=>exact ag _
  |_=>exact ag _
theorem uS(k:ρ.F mz=Y)(t:Ww){v c:Wx}(h:RV ρ v c):RS P QV ρ (Instr.makeChan t v) (Instr.makeChan t c):=by
 unfold Instr.makeChan;refine ai (gR h) (λρ1 j n=>?_);refine ai (ay t) (λρ2 f d=>?_);cases d with
 |chan a b=>
  refine aj (cn b) (λρ3 l i i' e=>?_);obtain⟨rfl,-⟩:=e;simp only;split
  .exact nl _
  .exact .new (.chan _ _ _ _ _ _ _ _ _ (.inr RVs.nil) (.inr rfl)) (λr r' _ _ _=>.pure (.chan (.some (.inr ⟨rfl,rfl⟩)))) (λ_=>by rw[l.F,f.F,j.F];exact k)
 |_=>exact ag _
def QO(r:Nat):Ren->Obj->Obj->Prop:=λρ o a=>RO ρ o a/\(ρ.old r->H0 o)/\(ρ.ch r->o.isChan=Y)
theorem dJ{a:Nat}(h:ρ r a):RS P (QO r) ρ (getObj r) (getObj a):=.getObj h (λ_o _o' d b c=>.pure ⟨d,b,c⟩)
theorem DD(A:ρ.F gq=Y)(at_:Array Ww)(t:Ww){r n:Option Nat}(h:RNo ρ r n):RS P QV ρ (Builtin.close_ at_ t #[.chan r]) (Builtin.close_ at_ t #[.chan n]):=by
 unfold Builtin.close_;cases h with
 |none=>exact nl _
 |some h=>
  refine aj (dJ h) (λd u o o' j=>?_);obtain⟨j,f,hch⟩:=j;cases j with
  |chan m c p l s q x B z y a=>
   have b:d.F gq=true:=by rw[u.F];exact A
   have a:p=l:=a.resolve_left (by rw[d.tight b];exactλh=>by cases h);subst a;cases p with
   |true=>exact nl _
   |false=>exact aj (Q:=QU) (.setObj (u _ _ h) (.chan m c Y Y s q x B z y (.inr rfl)) (λk=>by cases f k) (λ_=>⟨b,_,_,_,_,_,rfl⟩) (.pure trivial) (λ_=>⟨b,_,_,_,_,_,rfl⟩)) (λρ2 _ _ _ _=>ae (.tuple rfl (λi v v' e=>by simp at e)))
  |_=>exact ag _
def QN{α β:Type}:Ren->α->β->Prop:=λ_ _ _=>False
theorem bX{α b j a:Type}{Q':Ren->j->a->Prop}{x:Sem α}{c:Sem b}{f:α->Sem j}{i:b->Sem a}(h:RS P QN ρ x c):RS P Q' ρ (x >>= f) (c >>= i):=aj h (λ_ _ _ _ e=>e.elim)
theorem gu{ρ:Ren}{a e:Nat}(b:ρ a r)(f:ρ d e):(a==d)=(r==e):=by
 by_cases h:a=d
 .subst h;have:=ρ.fn _ _ _ b f;subst this;exact(beq_self_eq_true a).trans (beq_self_eq_true r).symm
 .have i:¬r=e:=λj=>h (ρ.inj _ _ _ b (j▸f))
  exact(beq_eq_false_iff_ne.2 h).trans (beq_eq_false_iff_ne.2 i).symm
theorem iH(a:Wu)(n:Nat):Calm (Builtin.holdsCells a n):=by
 unfold Builtin.holdsCells;refine .shape _ (λs=>?_);show Calm (match s with|some (_,m)=>pure (a.spot.isNone&&a.off+n<=m)|none=>pure Z);split<;>exact .pure _
theorem qA(e n m:Nat)(b:Option Wu)(x:Wx):Calm (Builtin.mayShare e n m b x):=by
 have f:∀d:Bool,Calm
   (if(!d)=true then pure true else match(generalizing:=false) x with
    | .slice (some c) _ _=>do
     let u <-Builtin.holdsCells c (m*e)
     pure (!u||b.any (λy=>y.block==c.block))
    |_=>pure false):=λd=>by
  split
  .exact .pure _
  cases x with
  |slice a k c=>
   cases a with
   |none=>exact .pure _
   |some a=>exact(iH a _).bind (λu=>.pure _)
  |_=>exact .pure _
 unfold Builtin.mayShare;cases b with
 |none=>exact Calm.bind (.pure true) (λt=>f t)
 |some a=>exact(iH a _).bind (λt=>Calm.bind (.frozen _ (λu=>.pure u)) (λu=>Calm.bind (.pure _) (λt=>f t)))
theorem aJ{j a:Type}{Q:Ren->j->a->Prop}{c:Prop} [Decidable c]{x y:Sem j}{d b:Sem a}(f:c->RS P Q ρ x d)(h:¬c->RS P Q ρ y b):RS P Q ρ (if c then x else y) (if c then d else b):=by
 split
 .exact f (by assumption)
 .exact h (by assumption)
theorem ft(q:Question):RS P QE ρ (choose q) (choose q):=.choose _ (λ_=>.pure rfl)
theorem AG(hZ:bU P)(at_:Array Ww)(t:Ww){a a':Array Wx}(h:RVs ρ a a'):RS P QV ρ (Builtin.append_ at_ t a) (Builtin.append_ at_ t a'):=by
 unfold Builtin.append_;rcases h.get 0 with⟨v,q⟩|⟨s,s',v,q,hs⟩
 .rw [v,q];cases at_[0]?<;>exact ag _
 rcases h.get 1 with⟨G,L⟩|⟨x,x',G,L,hx⟩
 .rw [v,q,G,L];cases at_[0]?<;>exact ag _
 rw[v,q,G,L];cases at_[0]? with
 |none=>exact ag _
 |some st=>
  refine ai (ay st) (λρ1 l1 ty=>?_);cases ty with
  |slice d=>
   have ac:=hs.mono l1;cases ac with
   | @slice b b' n c hb=>
    refine ai (bF d) (λQ l2 f=>?_);have o:=(hx.mono l1).mono l2;have A:=hb.mono l2;clear hb hs hx l1 l2 h v q G L;have k:∀ (p:Ren) (e:Bool) (m:Nat),Q.le p->RS P QVs p
      (if(!e)=Y then Builtin.firstCells f m x else if m*f=0 then pure #[]else do let z <-zeroValue d;pure (Builtin.zeroCells z.cells m))
      (if(!e)=Y then Builtin.firstCells f m x' else if m*f=0 then pure #[]else do let z <-zeroValue d;pure (Builtin.zeroCells z.cells m)):=by
     intro p e m lz;refine aJ (λ_=>gU f m (o.mono lz)) (λ_=>aJ (λ_=>ae RVs.nil) (λ_=>?_));exact aj (dg hZ d) (λρy _ z z' hz=>ae ((RV.cellsRel hz).zeros m))
    cases at_[1]?;all_goals
     first
      |(refine ai (ay _) (λρ30 ar ty=>?_);refine ai (ae rfl) (λV ad e=>?_);have y:=Ren.le_trans ar ad)
      |refine ai (ae rfl) (λV y e=>?_)
     refine aJ (λ_=>?_) (λ_=>?_);all_goals
      first
       |(refine ai (wT (o.mono y)) (λB l4 m=>?_);have H:=Ren.le_trans y l4)
       |(refine ai (gR (o.mono y)) (λρ4 l4 li=>?_);refine aJ (λ_=>bX (dA _)) (λ_=>?_);refine aj (cn d) (λρ5 l5 i0 i0' av=>?_);obtain⟨rfl,-⟩:=av;refine aJ (λ_=>ai (ft _) (λρ6 l6 made=>bX (dA _))) (λ_=>?_);refine ai (ae rfl) (λB l6 m=>?_);have H:=Ren.le_trans y (Ren.le_trans l4 (Ren.le_trans l5 l6)))
      refine aJ (λ_=>?_) (λ_=>?_)
      .refine aj (k B e m H) (λaf la D l i=>?_);have S:=(A.mono H).mono la;cases S with
       |none=>exact ae (.slice _ _ .none)
       |some ha=>exact aj (eb D.toList l.toList 0 (ha.add _) (by simpa using i.size) (λj x x' e1 e2=>i.at_ j x x' (by simpa using e1) (by simpa using e2))) (λR lb _ _ _=>ae (.slice _ _ (.some (ha.mono lb))))
      .refine aj (cn d) (λaf la ia ia' al=>?_);obtain⟨rfl,-⟩:=al;have aa:=Ren.le_trans H la;refine aJ (λ_=>bX (dA _)) (λ_=>?_);refine aj (cn d) (λR lb ib ib' T=>?_);obtain⟨rfl,-⟩:=T;have ap:=Ren.le_trans aa lb;refine aJ (λ_=>bX (aJ (λ_=>dA _) (λ_=>?_))) (λ_=>?_)
       .exact .lost ((qA f n m _ _).lost (λsh=>by cases sh<;>first|exact .mark _ (.halt rfl)|exact .halt rfl)) _
       .refine ai (ft _) (λρ9 l9 newCap=>?_);refine aj (cn d) (λρc lc ic ic' X=>?_);obtain⟨rfl,-⟩:=X;refine aj (pj _) (λρd ld _ _ _=>?_);have F:=Ren.le_trans ap (Ren.le_trans l9 (Ren.le_trans lc ld));refine aj (gU f n (.slice n c (A.mono F))) (λab le old old' u=>?_);refine aj (k ab e m (Ren.le_trans F le)) (λρf lf D l i=>?_);refine aj (dg hZ d) (λρg lg z z' hz=>?_);exact aj (gt d ((((u.mono lf).mono lg).append (i.mono lg)).append ((RV.cellsRel hz).zeros _))) (λρh _ r r' hr=>ae (.slice _ _ (.some hr)))
   |_=>exact ag _
  |_=>exact ag _
theorem m0(t:Ww){v a:Wx}(b:RV ρ v a):RS P QV ρ (Instr.makeInterface t v) (Instr.makeInterface t a):=by
 unfold Instr.makeInterface;refine ai (ay t) (λρ1 c d=>?_);cases d with
 |interface _=>exact ag _
 |_=>exact ae (.iface t (b.mono c))
theorem r6(s:bU P)(t:Ww){n k c l:Wx}(y:RV ρ n k)(B:RV ρ c l):RS P QV ρ (Instr.makeSlice t n c) (Instr.makeSlice t k l):=by
 unfold Instr.makeSlice;refine ai (ay t) (λρ1 p d=>?_);cases d with
 |slice a=>
  refine ai (gR (y.mono p)) (λρ2 A len=>?_);refine ai (gR ((B.mono p).mono A)) (λρ3 l3 cap=>?_);refine aj (cn a) (λρ4 l4 i i' u=>?_);obtain⟨rfl,-⟩:=u;refine aJ (λ_=>?_) (λ_=>?_)
  .refine aJ (λ_=>bX (dA _)) (λ_=>aJ (λ_=>bX (dA _)) (λ_=>?_));exact ai (ft _) (λj v x=>bX (dA _))
  .refine aj (pj _) (λj v _ _ _=>?_);refine ai (bF a) (λρ6 l6 z=>?_);refine aJ (λ_=>?_) (λ_=>?_)
   .refine aj (Q:=QVs) (ae RVs.nil) (λb m z o e=>?_);exact aj (gt a (e.cyc _)) (λf _ r q h=>ae (.slice _ _ (.some h)))
   .refine aj (dg s a) (λb m z o e=>?_);refine aj (Q:=QVs) (ae (RV.cellsRel e)) (λb m z o e=>?_);exact aj (gt a (e.cyc _)) (λf _ r q h=>ae (.slice _ _ (.some h)))
 |_=>exact ag _
theorem H5(at_:Array Ww)(H:F1 P .len at_=Y)(t:Ww){a A:Array Wx}(h:RVs ρ a A):RS P QV ρ (Builtin.len_ at_ t a) (Builtin.len_ at_ t A):=by
 unfold Builtin.len_;rcases h.get 0 with⟨y,p⟩|⟨x,x',y,p,B⟩
 .rw [y,p];cases at_[0]?<;>exact ag _
 rw[y,p];cases q:at_[0]? with
 |none=>exact ag _
 |some u=>
  refine aj (aY u) (λρ1 F d d' j=>?_);obtain⟨rfl,j⟩:=j;have i:=B.mono F;cases d with
  |pointer s=>
   refine ai (ay s) (λf G d=>?_);cases d with
   |array n e=>exact ae (.int _ _)
   |_=>exact ag _
  |chan d e=>simp[F1,q,j]at H
  |map k e=>
   cases i with
   |map r=>
    cases r with
    |none=>exact ae (.int _ _)
    |some r=>
     refine aj (dJ r) (λf G o o' m=>?_);obtain⟨m,-,-⟩:=m;cases m with
     |map c D=>
      have:∀ (l v:List MapEntry),RMs f l v->l.length=v.length:=λl v h=>by
       induction h with
       |nil=>rfl
       |cons b hk h _ ih=>simp[ih]
      have z:=this _ _ D;simp only[lY]at z;simp only[z];exact ae (.int _ _)
     |_=>exact ag _
   |_=>exact ag _
  |_=>cases i<;>first|exact ag _|exact ae (.int _ _)
theorem H6(at_:Array Ww)(o:F1 P .cap at_=Y)(t:Ww){a l:Array Wx}(h:RVs ρ a l):RS P QV ρ (Builtin.cap_ at_ t a) (Builtin.cap_ at_ t l):=by
 unfold Builtin.cap_;rcases h.get 0 with⟨i,c⟩|⟨x,x',i,c,p⟩
 .rw [i,c];cases at_[0]?<;>exact ag _
 rw[i,c];cases f:at_[0]? with
 |none=>exact ag _
 |some u=>
  refine aj (aY u) (λρ1 m d d' b=>?_);obtain⟨rfl,b⟩:=b;have j:=p.mono m;cases d with
  |pointer k=>
   refine ai (ay k) (λρ2 l2 d=>?_);cases d with
   |array n e=>exact ae (.int _ _)
   |_=>exact ag _
  |chan d e=>simp[F1,f,b]at o
  |_=>cases j<;>first|exact ag _|exact ae (.int _ _)
theorem nO(a:BinOp)(k:IntKind)(x y:Int):RS P QV ρ (Op.intArith a k x y) (Op.intArith a k x y):=by
 unfold Op.intArith;split<;>first|exact ag _|exact ae (.int _ _)
theorem AH(a:BinOp)(k:IntKind)(x y:Int):RS P QV ρ (Op.intDiv a k x y) (Op.intDiv a k x y):=by
 unfold Op.intDiv;refine aJ (λ_=>dA _) (λ_=>?_);split<;>first|exact ag _|exact ae (.int _ _)
theorem pk(a:BinOp)(k:IntKind)(x y:Int):RS P QV ρ (Op.intBits a k x y) (Op.intBits a k x y):=by
 unfold Op.intBits;cases a<;>first|exact ag _|exact ae (.int _ _)
theorem DE(a:BinOp)(k:IntKind)(x:Int)(b:IntKind)(y:Int):RS P QV ρ (Op.shift a k x b y) (Op.shift a k x b y):=by
 unfold Op.shift;refine aJ (λ_=>dA _) (λ_=>?_);cases a<;>first|exact ag _|exact ae (.int _ _)
theorem AI(a:BinOp)(x y:Int):RS P QV ρ (Op.intCmp a x y) (Op.intCmp a x y):=by
 unfold Op.intCmp;cases a<;>first|exact ag _|exact ae (.bool _)
theorem nP(a:BinOp)(x y:ByteArray):RS P QV ρ (Op.stringOp a x y) (Op.stringOp a x y):=by
 unfold Op.stringOp;cases a with
 |add=>exact aJ (λ_=>ak _) (λ_=>ae (.string _))
 |_=>first|exact ag _|exact ae (.bool _)
theorem DF(a:UnOp){v c:Wx}(d:RV ρ v c):RS P QV ρ (Op.unary a v) (Op.unary a c):=by
 unfold Op.unary;cases d with
 |bool b=>cases a<;>first|exact ag _|exact ae (.bool _)
 |int k n=>cases a<;>first|exact ag _|exact nO _ _ _ _|exact pk _ _ _ _
 |pointer e=>cases a<;>cases e<;>first|exact ag _|exact ak _
 |_=>cases a<;>exact ag _
theorem DG(S:bU P)(at_:Array Ww)(t:Ww){a G:Array Wx}(h:RVs ρ a G):RS P QV ρ (Builtin.clear_ at_ t a) (Builtin.clear_ at_ t G):=by
 unfold Builtin.clear_;have b:∀f:Ren,RS P QV f (pure (.tuple #[]):Sem Wx) (pure (.tuple #[])):=λf=>ae (.tuple rfl (λi v v' e=>by simp at e))
 rcases h.get 0 with⟨D,s⟩|⟨x,H,D,s,T⟩
 .rw [D,s];cases at_[0]?<;>exact ag _
 rw[D,s];cases at_[0]? with
 |none=>exact ag _
 |some u=>
  refine ai (ay u) (λf l1 d=>?_);have F:=T.mono l1;cases F with
  |map q=>
   cases q with
   |none=>cases d<;>exact b f
   |some q=>
    cases d<;>exact aj (dJ q) (λy B o o' r=>by
     obtain⟨r,L,V⟩:=r;cases r with
     |map c hm=>exact aj (Q:=QU) (.setObj (B _ _ q) (.map c .nil) (λk=>by cases L k) (λk=>by have:=V k;simp[Obj.isChan]at this) (.pure trivial)) (λl l3 _ _ _=>b l)
     |_=>exact ag _)
  |slice n c A=>
   cases A with
   |none=>cases d<;>exact b f
   |some A=>
    cases n with
    |zero=>cases d<;>exact b f
    |succ n=>
     cases d with
     |slice p=>
      refine aj (dg S p) (λy B z z' hz=>?_);have m:=(RV.cellsRel hz).zeros (n+1);exact aj (eb _ _ 0 (A.mono B) (by simpa using m.size) (λj x H X R=>m.at_ j x H (by simpa using X) (by simpa using R))) (λl _ _ _ _=>b l)
     |_=>exact ag _
  |_=>cases d<;>exact ag _
theorem eY{a:Nat}(h:ρ r a):RS P QE ρ (shape r) (shape a):=.shape h (λ_=>.pure rfl)
theorem r7(h:ρ r d):RS P (λ_ a b=>a=N/\b=N) ρ (viewAt r) (viewAt d):=by
 unfold viewAt;refine ai (eY h) (λρ1 f s=>aJ (λ_=>ae ⟨rfl,rfl⟩) (λ_=>?_));refine aj (dJ (f _ _ h)) (λρ2 l2 o i c=>?_);obtain⟨c,-,-⟩:=c;cases c with
 |dead _ e=>cases i<;>first|exact ae ⟨rfl,rfl⟩|simp[qw]at e
 |_=>exact ae ⟨rfl,rfl⟩
inductive IT (ρ:Ren):Option (Wu×Bool)->Option (Wu×Bool)->Prop
 |none:IT ρ N N
 |some {a a':Wu} (b:Bool) (h:RA ρ a a'):IT ρ (J (a,b)) (J (a',b))
theorem nQ(h:ρ r i):RS P IT ρ (numberAt r) (numberAt i):=by
 unfold numberAt;refine ai (eY h) (λρ1 e s=>aJ (λ_=>ae .none) (λ_=>?_));refine aj (dJ (e _ _ h)) (λρ2 l2 o f a=>?_);obtain⟨a,-,-⟩:=a;cases a with
 |number b h=>exact ae (.some b h)
 |dead _ d=>cases f<;>first|exact ae .none|simp[qw]at d
 |_=>exact ae .none
theorem nR{a b:Wu}(h:RA ρ a b):RS P QU ρ (noView a) (noView b):=by
 unfold noView;refine aj (r7 h.1) (λρ1 l1 x y e=>?_);obtain⟨rfl,rfl⟩:=e;exact ae trivial
theorem cP(t:Ww):P.alt.underlying t=P.underlying t:=rfl
theorem dV(t:Ww):P.alt.cellsOf t=P.cellsOf t:=rfl
theorem gV(t:Ww):P.alt.bytesOf t=P.bytesOf t:=rfl
theorem iI:P.alt.depth=P.depth:=rfl
theorem jz:∀ (d:Nat)(t:Ww)(o:Nat),byteOfCell P.alt d t o=byteOfCell P d t o:=by
 intro d;induction d with
 |zero=>intro t o;rfl
 |succ d ih=>
  intro t o;unfold byteOfCell;simp only[ih,cP,dV,gV];rfl
theorem fu{a:Wu}(h:RA ρ a a'):RS P QE ρ (byteOf a) (byteOf a'):=by
 unfold byteOf;rw[<-h.2.2];cases a.spot with
 |some s=>exact ae rfl
 |none=>
  refine bh ?_ ?_
  rotate_left
  .simp only[jz,dV,iI,gV]
  refine aj (nR h) (λρ2 d _ _ _=>?_);refine ai (eY (d _ _ h.1)) (λρ3 l3 s=>?_);rcases s with - |⟨e,z⟩
  .exact ag _
  refine aJ (λ_=>ae rfl) (λ_=>?_);rw[<-h.2.1];cases byteOfCell P P.depth e (a.off%P.cellsOf e)with
  |none=>exact ag _
  |some b=>exact ae rfl
theorem AJ{a:Wu}(h:RA ρ a a')(c b:Nat):RS P QA ρ (partAt a c b) (partAt a' c b):=by
 unfold partAt;refine ai (fu h) (λi k x=>?_);have d:RA i {block:=a.block,off:=a.off+c} {block:=a'.block,off:=a'.off+c}:=⟨k _ _ h.1,by rw[h.2.1],rfl⟩;refine ai (fu d) (λf j y=>ae ?_);show RA f _ _;split
 .exact d.mono j
 .exact ⟨j _ _ d.1,d.2.1,rfl⟩
theorem qB{a:Wu}(h:RA ρ a a')(f:Field):RS P QA ρ (fieldPlace a f) (fieldPlace a' f):=by
 unfold fieldPlace;refine ai (bF _) (λρ1 b x=>aJ (λ_=>AJ (h.mono b) _ _) (λ_=>ae ((h.mono b).add _)))
theorem yq(s:Ww){v e:Wx}(i:RV ρ v e)(f:Nat):RS P QV ρ (Instr.fieldAt s v f) (Instr.fieldAt s e f):=by
 unfold Instr.fieldAt;refine ai (ay s) (λρ1 j d=>?_);cases d with
 |struct c=>
  dsimp only;cases c[f]? with
  |none=>exact ag _
  |some x=>
   refine aj (fq (i.mono j)) (λρ2 l2 a a' k=>?_);exact aj (qB k x) (λρ3 l3 b b' h=>ae (.pointer (.some h)))
 |_=>exact ag _
theorem yr(t:Ww){v c:Wx}(T:RV ρ v c){u e q f s i:Option Wx}(X:∀v c,u=J v->e=J c->RV ρ v c)(Q:∀v c,q=J v->f=J c->RV ρ v c)(R:∀v c,s=J v->i=J c->RV ρ v c)
  (D:u.isSome=e.isSome) (G:q.isSome=f.isSome) (F:s.isSome=i.isSome):RS P QV ρ (Instr.sliceAt t v u q s) (Instr.sliceAt t c e f i):=by
 unfold Instr.sliceAt;refine ai (ay t) (λj r d=>?_);have k:=T.mono r;have A:∀v c,u=J v->e=J c->RV j v c:=λv c a b=>(X v c a b).mono r
 have B:∀v c,q=J v->f=J c->RV j v c:=λv c a b=>(Q v c a b).mono r
 have H:∀v c,s=J v->i=J c->RV j v c:=λv c a b=>(R v c a b).mono r
 cases d with
 |array n o=>
  refine aj (fq k) (λρ2 y a a' V=>?_);refine ai (eH Z _ _ (λv c a b=>(A v c a b).mono y) (λv c a b=>(B v c a b).mono y) (λv c a b=>(H v c a b).mono y) D G F) (λρ4 L x=>?_);obtain⟨l,h,m⟩:=x;refine ai (bF o) (λρ5 S z=>?_);refine ae (.slice _ _ (.some ?_));have p:=(V.mono L).mono S;split
  .exact p
  .exact p.add _
 |_=>exact DA t k A B H D G F
theorem DH{a b f:Wu}(h:RA ρ a a')(k:RA ρ b f):(a==b)=(a'==f):=by
 have e:a=b↔a'=f:=by
  obtain⟨r,o,s⟩:=a;obtain⟨r',o',s'⟩:=a';obtain⟨q,u,t⟩:=b;obtain⟨q',u',t'⟩:=f;obtain⟨j,n,p⟩:=h;obtain⟨i,l,m⟩:=k;simp only at j n p i l m;subst n;subst p;subst l;subst m;simp only[Addr.mk.injEq];constructor
  .rintro ⟨rfl,rfl,rfl⟩;exact⟨ρ.fn _ _ _ j i,rfl,rfl⟩
  .rintro ⟨rfl,rfl,rfl⟩;exact⟨ρ.inj _ _ _ j i,rfl,rfl⟩
 by_cases c:a=b
 .exact (beq_iff_eq.2 c).trans (beq_iff_eq.2 (e.1 c)).symm
 .exact (beq_eq_false_iff_ne.2 c).trans (beq_eq_false_iff_ne.2 (λx=>c (e.2 x))).symm
theorem m7{a b:Wu}(h:RA ρ a b)(c:¬ρ.old a.block):RS P QU ρ (markStringish a) (markStringish b):=by
 unfold markStringish;refine .shape h.1 (λs=>?_);rcases s with - |⟨e,z⟩
 .exact .pure trivial
 .exact .freeze 1 ⟨h.1,rfl,rfl⟩ c (.pure trivial)
def QAn:Ren->Wu->Wu->Prop:=λρ a b=>RA ρ a b/\¬ρ.old a.block
theorem yt(e:Ww){f a:Array Wx}(h:RVs ρ f a):RS P QAn ρ (newRow e f) (newRow e a):=by
 unfold newRow;exact .new (.cells e (.inl rfl) h) (λr r' _ _ b=>.pure ⟨⟨.inr ⟨rfl,rfl⟩,rfl,rfl⟩,b⟩)
theorem RVs.self(h:∀ (i:Nat) v,c[i]?=J v->RV ρ v v):RVs ρ c c:=⟨rfl,λi v v' e a=>by rw[e]at a;cases a;exact h i v e⟩
theorem m8(e:Ww)(s:ByteArray):RS P QV ρ (Conv.stringToBytes e s) (Conv.stringToBytes e s):=by
 unfold Conv.stringToBytes;refine ai (ft _) (λρ1 l1 cap=>?_);refine aj (yt e (RVs.append (RVs.self (λi v h=>?_)) (RVs.self (λi v h=>?_)))) (λρ2 l2 a a' b=>?_)
 .simp only[Array.getElem?_map,Option.map_eq_some_iff]at h;obtain⟨x,-,rfl⟩:=h;exact .int _ _
 .rw [Array.getElem?_replicate]at h;split at h
  .cases h;exact .int _ _
  .cases h
 exact aj (m7 b.1 b.2) (λρ3 c _ _ _=>ae (.slice _ _ (.some (b.1.mono c))))
end
section
variable {P:Wv} [Two P]
theorem fK{α:Type}:∀ (l:List α)(b:List β)(s:h){ρ:Ren}(R:Ren->α->β->Prop)(_hm:∀ρ ρ' a c,Ren.le ρ ρ'->R ρ a c->R ρ' a c)(f:α->h->Sem (ForInStep h))(e:β->h->Sem (ForInStep h)),
  l.length=b.length->(∀ (j:Nat) a c,l[j]?=J a->b[j]?=J c->R ρ a c)->(∀ρ',ρ.le ρ'->∀a c s,R ρ' a c->RS P QE ρ' (f a s) (e c s))->RS P QE ρ (forIn l s f) (forIn b s e):=by
 intro l;induction l with
 |nil=>
  intro b s ρ R k f e i _ _;cases b with
  |nil=>simp only[List.forIn_nil];exact ae rfl
  |cons _ _=>simp at i
 |cons x l ih=>
  intro b s ρ R k f e i o m;cases b with
  |nil=>simp at i
  |cons p b=>
   simp only[List.forIn_cons];refine ai (m ρ (Ren.le_refl _) x p s (o 0 x p rfl rfl)) (λρ1 n r=>?_);cases r with
   |done r=>exact ae rfl
   |yield r=>exact ih b r R k f e (by simpa using i) (λj a c t q=>k _ _ _ _ n (o (j+1) a c (by simpa using t) (by simpa using q))) (λρ' b=>m ρ' (Ren.le_trans n b))
theorem mA{α:Type}{ρ:Ren}(l:List α)(s:β)(f b:α->β->Sem (ForInStep β))(k:∀ρ',ρ.le ρ'->∀a s,RS P QE ρ' (f a s) (b a s)):RS P QE ρ (forIn l s f) (forIn l s b):=
 fK l l s (λ_ a d=>a=d) (λ_ _ _ _ _ h=>h) f b rfl (λj a d i e=>by rw[i]at e;exact oJ e) (λρ' l a d s h=>by subst h;exact k ρ' l a s)
variable {ρ:Ren}
theorem m9{v e:Wx}(i:RV ρ v e):RS P QV ρ (Conv.bytesToString v) (Conv.bytesToString e):=by
 unfold Conv.bytesToString;cases i with
 |slice n c d=>
  cases d with
  |none=>exact ae (.string _)
  |some d=>
   refine aj (fJ d n) (λρ1 l1 c o f=>?_);simp only[<-Array.forIn_toList];refine ai (fK c.toList o.toList _ (λρ a b=>RV ρ a b) (λ_ _ _ _ l h=>h.mono l) _ _ (by simpa using f.size) (λj a b p m=>f.at_ j a b (by simpa using p) (by simpa using m)) (λρ' l a b s h=>?_)) (λρ2 l2 s=>ae (.string _));cases h with
   |int k n=>cases k<;>first|exact ag _|exact ae rfl
   |_=>exact ag _
 |_=>exact ag _
theorem na{v e:Wx}(i:RV ρ v e):RS P QV ρ (Conv.runesToString v) (Conv.runesToString e):=by
 unfold Conv.runesToString;cases i with
 |slice n c d=>
  cases d with
  |none=>exact ae (.string _)
  |some d=>
   refine aj (fJ d n) (λρ1 l1 c o f=>?_);simp only[<-Array.forIn_toList];refine ai (fK c.toList o.toList _ (λρ a b=>RV ρ a b) (λ_ _ _ _ l h=>h.mono l) _ _ (by simpa using f.size) (λj a b p m=>f.at_ j a b (by simpa using p) (by simpa using m)) (λρ' l a b s h=>?_)) (λρ2 l2 s=>ae (.string _));cases h with
   |int k n=>cases k<;>first|exact ag _|exact ae rfl
   |_=>exact ag _
 |_=>exact ag _
end
def strip(fn:Func):Func:={fn with body:=fn.body.map (λ_=>.skip)}
structure GId (P:Wv) [Two P](ρ:Ren):Prop where
 glob:∀g,g<P.globals.size->ρ g g
 prog:ρ.prog=P
 code:∀ (f:FuncId) fn b,ρ.F f=Y->P.funcs[f]?=J fn->fn.body=J b->aI P ρ.F b=Y
 alt:∀f,ρ.F f=Y->P.alt.funcs[f]?=P.funcs[f]?
 free:ρ.F my=Y->∀a,¬ρ.old a
 same:∀f:Nat,(P.alt.funcs[f]?).map strip=(P.funcs[f]?).map strip
 size:P.alt.funcs.size=P.funcs.size
 apart:∀f,Mk ρ.F f=Y->∃a b,P.alt.funcs[f]?=J a/\P.funcs[f]?=J b/\a.body.isSome=Y/\b.body.isSome=Y/\a.name=b.name
theorem GId.mono{P:Wv} [Two P]{ρ ρ':Ren}(h:GId P ρ)(l:ρ.le ρ'):GId P ρ':=⟨λg a=>l _ _ (h.glob g a),l.prog.trans h.prog,by rw[l.F];exact h.code,by rw[l.F];exact h.alt,by rw[l.F,l.old];exact h.free,h.same,h.size,by rw[l.F];exact h.apart⟩
theorem GId.lt{P:Wv} [Two P]{ρ:Ren}(h:GId P ρ){a b:Nat}(k:ρ a b):(a<P.globals.size)↔(b<P.globals.size):=by
 constructor
 .intro e;rw[<-ρ.fn _ _ _ (h.glob a e) k];exact e
 .intro e;rw[ρ.inj _ _ _ k (h.glob b e)];exact e
section
variable {P:Wv} [Two P]
theorem bz{ρ:Ren}{a:Wu}(h:RA ρ a a'):RS P (λρ x y=>RA ρ x.1 y.1/\x.2=y.2) ρ (behindNumber a) (behindNumber a'):=by
 unfold behindNumber;refine aj (nQ h.1) (λρ1 d x y e=>?_);cases e with
 |none=>exact ae ⟨h.mono d,rfl⟩
 |some b h=>exact ae ⟨h,rfl⟩
theorem F6{ρ:Ren}{r a q b:Option Nat}(h:RNo ρ r a)(k:RNo ρ q b):(r==q)=(a==b):=by
 cases h with
 |none=>cases k<;>rfl
 |some h=>
  cases k with
  |none=>rfl
  |some k=>exact gu h k
theorem ji(d:Nat){ρ:Ren}(L:GId P ρ)(t:Ww){x F y D:Wx}(S:RV ρ x F)(Q:RV ρ y D)(q:iw (P.underlying t)=Y\/Di x=Y\/Di y=Y):RS P QE ρ (Op.equalIn d t x y) (Op.equalIn d t F D):=by
 cases d with
 |zero=>exact ak _
 |succ d=>
  unfold Op.equalIn;refine aj (aY t) (λs r R ty' o=>?_);obtain⟨rfl,o⟩:=o;have v:=L.mono r;have j:=S.mono r;have f:=Q.mono r;clear L S Q r;cases R with
  |bool=>cases j<;>first|exact ag _|(cases f<;>first|exact ag _|exact ae rfl)
  |string=>cases j<;>first|exact ag _|(cases f<;>first|exact ag _|exact ae rfl)
  |chan u e=>
   cases j with
   |chan h=>
    cases f with
    |chan k=>exact ae (F6 h k)
    |_=>exact ag _
   |_=>exact ag _
  |func a b c=>cases j<;>first|exact ag _|(cases f<;>first|exact ag _|exact ae rfl)
  |slice e=>
   cases j with
   |slice n c h=>
    cases f with
    |slice V c' k=>cases h<;>cases k<;>first|exact ag _|exact ae rfl
    |_=>cases h<;>exact ag _
   |_=>exact ag _
  |map u e=>
   cases j with
   |map h=>
    cases f with
    |map k=>cases h<;>cases k<;>first|exact ag _|exact ae rfl
    |_=>cases h<;>exact ag _
   |_=>exact ag _
  |pointer elem=>
   cases j with
   |pointer h=>
    cases f with
    |pointer k=>
     cases h with
     |none=>cases k<;>exact ae rfl
     |some h=>
      cases k with
      |none=>exact ae rfl
      |some k=>simp[o,iw,Di]at q
    |_=>cases h<;>exact ag _
   |_=>exact ag _
  |unsafePointer=>
   cases j with
   |pointer h=>
    cases f with
    |pointer k=>
     show RS P QE s (samePointer _ _) (samePointer _ _);unfold samePointer;cases h with
     |none=>cases k<;>exact ae rfl
     |some h=>
      cases k with
      |none=>exact ae rfl
      |some k=>simp[o,iw,Di]at q
    |_=>exact ag _
   |_=>exact ag _
  |interface ms=>
   cases j with
   |nilIface=>cases f<;>first|exact ag _|exact ae rfl
   |iface tx hv=>
    cases f with
    |nilIface=>exact ae rfl
    |iface R hw=>simp[o,iw,Di]at q
    |_=>exact ag _
   |_=>exact ag _
  |int kk=>
   cases j with
   |int k n=>
    cases f with
    |int k' V=>exact aJ (λ_=>ae rfl) (λ_=>ag _)
    |pointer h=>cases h<;>rcases n with(_|m)|m<;>first|exact ae rfl|exact ak _
    |_=>exact ag _
   |pointer h=>
    cases f with
    |int k n=>cases h<;>rcases n with(_|m)|m<;>first|exact ae rfl|exact ak _
    |pointer k=>
     cases h with
     |none=>cases k<;>exact ak _
     |some h=>
      cases k with
      |none=>exact ak _
      |some k=>
       refine aj (bz h) (λρ2 T a B ha=>?_);refine aj (bz (k.mono T)) (λρ3 G b X hb=>?_);have l:=ha.1.mono G;have p:=hb.1;refine bh ?_;have A:=(v.mono T).mono G;have e1:(a.1.block==b.1.block)=(B.1.block==X.1.block):=gu l.1 p.1;have e2:decide (a.1.block<P.globals.size)=decide (B.1.block<P.globals.size):=decide_eq_decide.2 (A.lt l.1);rw[e1,e2,DH l p];refine aJ (λ_=>?_) (λ_=>?_)
       .refine ai (fu l) (λz H x=>?_);exact ai (fu (p.mono H)) (λρ5 l5 y=>ae rfl)
       .refine aj (cn t) (λz H i i' hi=>?_);obtain⟨rfl,-⟩:=hi;split
        .exact aJ (λ_=>ae rfl) (λ_=>ak _)
        .exact ak _
    |_=>cases h<;>exact ak _
   |_=>
    cases f<;>first|exact ag _|exact ak _
  |struct fs=>
   cases j with
   |agg hc hR=>
    cases f with
    |agg kc kR=>simp[o,iw,Di]at q
    |_=>exact ag _
   |_=>exact ag _
  |array n e=>
   cases j with
   |agg hc hR=>
    cases f with
    |agg kc kR=>simp[o,iw,Di]at q
    |_=>exact ag _
   |_=>exact ag _
  |float k=>cases j<;>exact ag _
  |complex k=>cases j<;>exact ag _
  |_=>exact ag _
theorem nS:∀ (d:Nat)(t:Ww),P.alt.eqGuardType d t=P.eqGuardType d t:=by
 intro d;induction d with
 |zero=>intro t;rfl
 |succ d ih=>
  intro t;unfold Program.eqGuardType;simp only[ih,cP]
theorem oX:∀ (d:Nat)(t:Ww)(o:Nat),cellOfByte P.alt d t o=cellOfByte P d t o:=by
 intro d;induction d with
 |zero=>intro t o;rfl
 |succ d ih=>
  intro t o;unfold cellOfByte;simp only[ih,cP,dV,gV];rfl
theorem nT(d:Nat)(e:Ww)(c o:Nat)(b:Int):cellAtBytes P.alt d e c o b=cellAtBytes P d e c o b:=by
 unfold cellAtBytes;simp only[oX,jz,dV,gV];rfl
theorem mB(d:Nat):∀ {ρ:Ren}(t:Ww){x m y k:Wx},RV ρ x m->RV ρ y k->RS P QE ρ (Op.eqGuardIn d t x y) (Op.eqGuardIn d t m k):=by
 induction d with
 |zero=>intro ρ t x m y k _ _;exact ak _
 |succ d ih=>
  intro ρ t x m y k X V;unfold Op.eqGuardIn;refine ai (ay t) (λa G ty=>?_);have p:=X.mono G;have c:=V.mono G;clear X V G;cases ty with
  |interface ms=>
   cases p with
   |nilIface=>
    cases c with
    |dead _ h=>cases k<;>first|exact ae rfl|simp[iD]at h
    |_=>exact ae rfl
   |dead _ h=>cases m<;>first|exact ae rfl|simp[iD]at h
   |_=>exact ae rfl
  |struct fs=>
   cases p with
   |agg Q H=>
    cases c with
    |agg F B=>
     have j:RVs a _ _:=⟨Q,H⟩;have o:RVs a _ _:=⟨F,B⟩;dsimp only;simp only[<-Array.forIn_toList];refine ai (mA fs.toList _ _ _ (λρ' l f s=>?_)) (λA l2 s=>?_)
     .refine aJ (λ_=>?_) (λ_=>ae rfl);refine aj (iG f.type (j.mono l) _) (λL S u u' v=>?_);refine aj (iG f.type ((o.mono l).mono S) _) (λR r w w' q=>?_);refine ai (ih f.type (v.mono r) q) (λD l5 b=>?_);exact aJ (λ_=>ae rfl) (λ_=>ae rfl)
     .obtain ⟨s,-⟩:=s;cases s<;>exact ae rfl
    |dead _ h=>cases k<;>first|exact ae rfl|simp[iD]at h
    |_=>exact ae rfl
   |dead _ h=>cases m<;>first|exact ae rfl|simp[iD]at h
   |_=>exact ae rfl
  |array n e=>
   cases p with
   |agg Q H=>
    cases c with
    |agg F B=>
     have j:RVs a _ _:=⟨Q,H⟩;have o:RVs a _ _:=⟨F,B⟩;refine ai (bF e) (λρ0 T z=>?_);dsimp only;simp only[Std.Legacy.Range.forIn_eq_forIn_range'];refine ai (mA _ _ _ _ (λρ' l i s=>?_)) (λA l2 s=>?_)
     .refine aj (iG e ((j.mono T).mono l) _) (λL S u u' v=>?_);refine aj (iG e (((o.mono T).mono l).mono S) _) (λR r w w' q=>?_);refine ai (ih e (v.mono r) q) (λD l5 b=>?_);exact aJ (λ_=>ae rfl) (λ_=>ae rfl)
     .obtain ⟨s,-⟩:=s;cases s<;>exact ae rfl
    |dead _ h=>cases k<;>first|exact ae rfl|simp[iD]at h
    |_=>exact ae rfl
   |dead _ h=>cases m<;>first|exact ae rfl|simp[iD]at h
   |_=>exact ae rfl
  |_=>exact ae rfl
variable {ρ:Ren}
theorem yu(f:BinOp)(t:Ww)(x y:Operand){a v b c:Wx}(k:RV ρ a v)(i:RV ρ b c):RS P QU ρ (eqGuard f t x y a b) (eqGuard f t x y v c):=by
 unfold eqGuard;refine aJ (λ_=>ae trivial) (λ_=>?_);cases k with
 |nilIface=>
  cases i with
  |nilIface=>
   refine aJ (λ_=>ae trivial) (λ_=>?_);exact ai (mB _ t .nilIface .nilIface) (λe l g=>aJ (λ_=>ak _) (λ_=>ae trivial))
  |dead _ h=>cases c<;>first|exact ae trivial|simp[iD]at h
  |_=>exact ae trivial
 |agg n m=>
  cases i with
  |agg j o=>
   refine bh (bh ?_) (by simp only[nS]);refine aJ (λ_=>ae trivial) (λ_=>?_);exact ai (mB _ t (.agg n m) (.agg j o)) (λe l g=>aJ (λ_=>ak _) (λ_=>ae trivial))
  |dead _ h=>cases c<;>first|exact ae trivial|simp[iD]at h
  |_=>exact ae trivial
 |dead _ h=>cases v<;>first|exact ae trivial|simp[iD]at h
 |_=>exact ae trivial
theorem mC(f:GId P ρ){a b m:Wu}(h:RA ρ a a')(k:RA ρ b m):RS P QE ρ (Op.twoPlaces a b) (Op.twoPlaces a' m):=by
 unfold Op.twoPlaces;have i:(a.block != b.block)=(a'.block != m.block):=congrArg (! ·) (gu h.1 k.1);have e:decide (a.block ≥ P.globals.size)=decide (a'.block ≥ P.globals.size):=decide_eq_decide.2 (by have:=f.lt h.1;omega);refine bh ?_;rw[i,e];refine aJ (λ_=>bX (ak _)) (λ_=>?_);refine ai (fu h) (λρ1 j x=>?_);exact ai (fu (k.mono j)) (λρ2 l2 y=>ae rfl)
theorem yv(f:GId P ρ)(e:IntKind){a b m:Wu}(h:RA ρ a a')(k:RA ρ b m):RS P QV ρ (Op.addrSub e a b) (Op.addrSub e a' m):=by
 unfold Op.addrSub;exact ai (mC f h k) (λρ1 l1 x=>ae (.int _ _))
theorem yw(f:GId P ρ)(c:BinOp){a b m:Wu}(h:RA ρ a a')(k:RA ρ b m):RS P QV ρ (Op.addrCmp c a b) (Op.addrCmp c a' m):=by
 unfold Op.addrCmp;exact ai (mC f h k) (λρ1 l1 x=>by cases c<;>first|exact ak _|exact ae (.bool _))
theorem pm(c:IntKind){a b:Wu}(h:RA ρ a b)(n:Int):RS P QV ρ (Op.addrMod c a n) (Op.addrMod c b n):=by
 unfold Op.addrMod;refine ai (eY h.1) (λρ1 f s=>?_);rcases s with - |⟨e,z⟩
 .exact ak _
 refine aj (cn e) (λρ2 j i i' d=>?_);obtain⟨rfl,-⟩:=d;refine aJ (λ_=>bX (ak _)) (λ_=>?_);exact ai (fu ((h.mono f).mono j)) (λρ3 l3 x=>ae (.int _ _))
def QP:Ren->Wx->Wx->Prop:=λρ v c=>∃a b,v=O a/\c=O b/\RAo ρ a b
theorem QP.val{ρ:Ren}{v v':Wx}(h:QP ρ v v'):RV ρ v v':=by
 obtain⟨a,a',rfl,rfl,h⟩:=h;exact .pointer h
theorem fL(at_:Array Ww)(t:Ww){b f:Option Wu}(l:RAo ρ b f){v i:Wx}(j:RV ρ v i):RS P QP ρ (Builtin.unsafeAdd_ at_ t #[O b,v]) (Builtin.unsafeAdd_ at_ t #[O f,i]):=by
 unfold Builtin.unsafeAdd_;refine ai (gR j) (λρ1 k n=>?_);have d:=l.mono k;refine aJ (λ_=>?_) (λ_=>?_)
 .cases d with
  |none=>exact ak _
  |some h=>
   refine aj (r7 h.1) (λa c x v e=>?_);obtain⟨rfl,rfl⟩:=e;exact ae ⟨_,_,rfl,rfl,.some (h.mono c)⟩
 .refine aJ (λ_=>bX (ak _)) (λ_=>?_);cases d with
  |none=>exact ak _
  |some h=>
   refine ai (eY h.1) (λa c s=>?_);rcases s with - |⟨e,z⟩
   .exact ak _
   refine bh ?_ ?_
   rotate_left
   .simp only[nT,dV,iI]
   rw[<-h.2.1];split
   .exact ae ⟨_,_,rfl,rfl,.some ⟨c _ _ h.1,rfl,h.2.2⟩⟩
   .exact ak _
theorem fX(t:Ww){x o y n:Wx}(z:RV ρ x o)(l:RV ρ y n)(p:∃a,x=.pointer a):RS P QV ρ (movedNumber t x y) (movedNumber t o n):=by
 obtain⟨a,rfl⟩:=p;unfold movedNumber;refine ai (ay t) (λρ1 i d=>aJ (λ_=>bX (ak _)) (λ_=>?_));cases z with
 |pointer h=>
  cases h with
  |none=>exact(fL #[] t .none (l.mono i)).imp (λ_ _ _ h=>h.val)
  |some h=>
   refine aj (bz (h.mono i)) (λρ2 u a m e=>?_);obtain⟨a,c⟩:=a;obtain⟨m,lost'⟩:=m;obtain⟨e,j⟩:=e;simp only at e j;subst j;refine aj (fL #[] t (.some e) ((l.mono i).mono u)) (λρ3 l3 v v' q=>?_);obtain⟨b,b',rfl,rfl,k⟩:=q;cases k with
   |none=>exact ae (.pointer .none)
   |some k=>
    unfold asNumber;exact aj (Q:=λρ r f=>ρ r f) (.new (.number c k) (λr f _ _ _=>.pure (.inr ⟨rfl,rfl⟩))) (λρ4 l4 r f s=>ae (.pointer (.some ⟨s,rfl,rfl⟩)))
theorem nU(t:Ww){x v y f:Wx}(l:RV ρ x v)(e:RV ρ y f)(i:∃a,x=O a):RS P QV ρ (movedPointer t x y) (movedPointer t v f):=by
 obtain⟨a,rfl⟩:=i;unfold movedPointer;cases l with
 |pointer h=>
  cases h with
  |none=>exact(fL #[] t .none e).imp (λ_ _ _ h=>h.val)
  |some h=>
   refine aj (nQ h.1) (λρ1 c u u' j=>?_);cases j with
   |none=>exact(fL #[] t (.some (h.mono c)) (e.mono c)).imp (λ_ _ _ h=>h.val)
   |some b k=>exact bX (ak _)
theorem uT(d:Nat)(t:Ww)(y:Wx):dq P (Op.equalIn d t (.tuple #[]) y):=by
 cases d with
 |zero=>exact .halt rfl
 |succ d=>
  unfold Op.equalIn;refine .program (λp _=>?_)
  show dq P (Sem.bind (match p.underlying t with | some i => Pure.pure i | none => stuck "no such type") _)
  cases p.underlying t with
  |none=>exact .halt rfl
  |some ty=>cases ty<;>cases y<;>exact .halt rfl
theorem nV(d:Nat)(t:Ww)(x:Wx):dq P (Op.equalIn d t x (.tuple #[])):=by
 cases d with
 |zero=>exact .halt rfl
 |succ d=>
  unfold Op.equalIn;refine .program (λp _=>?_)
  show dq P (Sem.bind (match p.underlying t with | some i => Pure.pure i | none => stuck "no such type") _)
  cases p.underlying t with
  |none=>exact .halt rfl
  |some ty=>
   cases x with
   |pointer a=>cases ty<;>cases a<;>exact .halt rfl
   |slice a n c=>cases ty<;>cases a<;>exact .halt rfl
   |map a=>cases ty<;>cases a<;>exact .halt rfl
   |int k n=>cases ty<;>rcases n with(_|m)|m<;>exact .halt rfl
   |_=>cases ty<;>exact .halt rfl
theorem uU(a:BinOp)(t:Ww)(y:Wx):dq P (binOp a t (.tuple #[]) y):=by
 unfold binOp;cases a<;>first
  |exact(uT _ t y).bind _
  |(cases y<;>exact .halt rfl)
theorem nW(b:BinOp)(t:Ww)(x:Wx):dq P (binOp b t x (.tuple #[])):=by
 unfold binOp;cases x with
 |pointer a=>cases a<;>cases b<;>first|exact(nV _ t _).bind _|exact .halt rfl
 |_=>cases b<;>first|exact(nV _ t _).bind _|exact .halt rfl
theorem DI(B:GId P ρ)(j:BinOp)(t:Ww){x s y r:Wx}(D:RV ρ x s)(u:RV ρ y r)(i:(j=.eql\/j=.neq)->RS P QE ρ (Op.equal t x y) (Op.equal t s r)):RS P QV ρ (binOp j t x y) (binOp j t s r):=by
 have c:RS P QE ρ (Op.equal t x y) (Op.equal t s r)->∀b:Bool,RS P QV ρ (do let e <-Op.equal t x y;pure (Value.bool (if b then !e else e))) (do let e <-Op.equal t s r;pure (Value.bool (if b then !e else e))):=λh b=>ai h (λl f e=>ae (.bool _))
 have m:=D;have p:=u;unfold binOp;cases D with
 |dead _ _=>exact .lost (uU j t y) _
 |pointer h=>
  cases u with
  |dead _ _=>exact .lost (nW j t _) _
  |pointer k=>cases h<;>cases k<;>cases j<;>first|exact ag _|exact ak _|exact c (i (.inl rfl)) Z|exact c (i (.inr rfl)) Y|(rename_i h _ _ k;first|exact aj (bz h) (λl f a A o=>aj (bz (k.mono f)) (λz q b F v=>yv ((B.mono f).mono q) _ (o.1.mono q) v.1))|exact aj (bz h) (λl f a A o=>aj (bz (k.mono f)) (λz q b F v=>yw ((B.mono f).mono q) _ (o.1.mono q) v.1)))
  |int k n=>cases j<;>first|exact ai (ay t) (λl f d=>aJ (λ_=>nU t (m.mono f) (p.mono f) ⟨_,rfl⟩) (λ_=>fX t (m.mono f) (p.mono f) ⟨_,rfl⟩))|exact fX t m (.int _ _) ⟨_,rfl⟩|(cases h<;>first|exact ak _|exact c (i (.inl rfl)) Z|exact c (i (.inr rfl)) Y|(rename_i h;exact aj (bz h) (λl f a A o=>pm _ o.1 _)))
  |_=>cases h<;>cases j<;>first|exact ak _|exact c (i (.inl rfl)) Z|exact c (i (.inr rfl)) Y
 |_=>
  cases u with
  |dead _ _=>exact .lost (nW j t _) _
  |pointer h=>cases j<;>first|exact fX t p m ⟨_,rfl⟩|exact ak _|exact c (i (.inl rfl)) Z|exact c (i (.inr rfl)) Y|(cases h<;>first|exact ak _|exact c (i (.inl rfl)) Z|exact c (i (.inr rfl)) Y|(rename_i h;exact aj (bz h) (λl f a A o=>pm _ o.1 _)))
  |_=>
   cases j<;>first
    |exact ag _
    |exact c (i (.inl rfl)) Z|exact c (i (.inr rfl)) Y
    |exact nP _ _ _
    |exact DE _ _ _ _ _
    |exact aJ (λ_=>ag _) (λ_=>nO _ _ _ _)
    |exact aJ (λ_=>ag _) (λ_=>AH _ _ _ _)
    |exact aJ (λ_=>ag _) (λ_=>pk _ _ _ _)
    |exact aJ (λ_=>ag _) (λ_=>AI _ _ _)
end
section
variable {P:Wv} [Two P] {ρ:Ren}
theorem F7{α j:Type}:∀ (l:List α){ρ:Ren}(f:α->Sem j),(∀ρ',ρ.le ρ'->∀a,RS P QE ρ' (f a) (f a))->RS P QE ρ (l.mapM f) (l.mapM f):=by
 intro l;induction l with
 |nil=>intro ρ f _;simp only[List.mapM_nil];exact ae rfl
 |cons x l ih=>
  intro ρ f c;simp only[List.mapM_cons];refine ai (c ρ (Ren.le_refl _) x) (λρ1 h b=>?_);exact ai (ih f (λρ' e=>c ρ' (Ren.le_trans h e))) (λρ2 l2 bs=>ae rfl)
theorem DJ(y:bU P)(t:Ww){a r:Array (Nat×Wx)}(h:RPs ρ a.toList r.toList):RS P QV ρ (Instr.build t a) (Instr.build t r):=by
 unfold Instr.build;refine aj (dg y t) (λρ1 u z z' A=>?_);refine ai (ay t) (λρ2 s d=>?_);have j:=RV.cellsRel (A.mono s);have b:=(h.mono u).mono s;cases d with
 |struct fields=>
  dsimp only;rw[Array.mapM_eq_mapM_toList];refine ai (ai (F7 _ _ (λρ' l f=>ai (bF f.type) (λp o n=>ae rfl))) (λρ' l x=>ae rfl)) (λp o e=>?_);rcases qy (λi=>e[i]?) (b.mono o) (j.mono o)with⟨m,b⟩|⟨c,v,m,b,j⟩
  .rw [m,b];exact ag _
  .rw [m,b];exact ae (.agg j.size j.at_)
 |array n q=>
  refine ai (bF q) (λp o k=>?_);rcases qy (λi=>J (i*k,k)) (b.mono o) (j.mono o)with⟨m,b⟩|⟨c,v,m,b,j⟩
  .rw [m,b];exact ag _
  .rw [m,b];exact ae (.agg j.size j.at_)
 |_=>exact ag _
theorem lq{α b:Type}{Q:Ren->α->b->Prop}{v a:Wx}(h:RV ρ v a):RS P Q ρ (goPanic v) (goPanic a):=.halt (.panic h)
theorem po{v x:Wx}(e:RV ρ v x){a i:Array Wx}(h:RVs ρ a i):RS P (λρ d o=>RD ρ d o) ρ (Deferred.ofValue v a) (Deferred.ofValue x i):=by
 unfold Deferred.ofValue;cases e with
 |func e p m k l=>exact ae (.mk (.fn e ⟨m,l⟩) (RVs.append ⟨p,k⟩ h))
 |nilFunc=>exact ae (.mk .nil h)
 |odd n s b c q=>exact ae (.odd n _ a s c _ q)
 |_=>exact ag _
def QL(l:Nat):Ren->Loop->Loop->Prop:=λρ r a=>RL ρ r a/\¬ρ.old l/\¬ρ.ch l
theorem fg{b:Nat}(h:ρ i b):RS P (QL i) ρ (Instr.getLoop i) (Instr.getLoop b):=by
 unfold Instr.getLoop;refine aj (dJ h) (λρ1 l1 o o' a=>?_);obtain⟨a,c,e⟩:=a;cases a with
 |loop d=>exact ae ⟨d,(λk=>by cases c k),(λk=>by have:=e k;simp[Obj.isChan]at this)⟩
 |_=>exact ag _
theorem iJ{a:Nat}(h:ρ r a){b:Obj}(c:RO ρ o' b)(i:¬ρ.old r)(f:¬ρ.ch r)(d:o'.isChan=false:=by rfl):RS P QU ρ (setObj r o') (setObj a b):=.setObj h c i (λe=>absurd e f) (.pure trivial) (λe=>by rw[d]at e;cases e)
theorem qC{b:Nat}(h:ρ i b):RS P QU ρ (Instr.beginRound i) (Instr.beginRound b):=by
 unfold Instr.beginRound;refine aj (fg h) (λρ1 f r d a=>?_);obtain⟨a,c,e⟩:=a;refine aj (iJ (f _ _ h) (.loop ⟨rfl,a.pending,a.fn,a.tmps,a.params,a.assign,a.body,a.defers,a.okA,a.okBo,a.okP⟩) c e) (λρ2 l2 _ _ _=>?_);rw[a.state];cases d.state<;>first|exact ae trivial|exact dA _
theorem uV{l:Nat}(h:ρ l d)(j:Option Code)(f:∀c,j=J c->aI ρ.prog ρ.F c=Y):RS P QV ρ (Instr.endRound l j) (Instr.endRound d j):=by
 unfold Instr.endRound;refine aj (fg h) (λρ1 b r r' a=>?_);obtain⟨a,e,i⟩:=a;exact aj (iJ (b _ _ h) (.loop ⟨rfl,rfl,a.fn,a.tmps,a.params,a.assign,a.body,a.defers,a.okA,a.okBo,by rw[b.prog,b.F];exact f⟩) e i) (λρ2 l2 _ _ _=>ae (.bool _))
theorem yx{l f:Nat}(h:ρ l f):RS P (λρ a b=>a=b/\∀c,a=J c->aI ρ.prog ρ.F c=Y) ρ (Instr.endLoop l) (Instr.endLoop f):=by
 unfold Instr.endLoop;refine aj (fg h) (λρ1 k r r' d=>?_);obtain⟨d,j,i⟩:=d;rw[d.state,<-d.pending];refine aJ (λ_=>bX (dA _)) (λ_=>?_);exact aj (iJ (k _ _ h) (.loop ⟨rfl,by simp only[d.pending],d.fn,d.tmps,d.params,d.assign,d.body,d.defers,d.okA,d.okBo,d.okP⟩) j i) (λρ2 e _ _ _=>ae ⟨rfl,by rw[e.prog,e.F];exact d.okP⟩)
def QEn:Ren->Nat×List Deferred->Nat×List Deferred->Prop:=λρ x y=>ρ x.1 y.1/\RDs ρ x.2 y.2
theorem r8(fn:FuncId){t u:Array Wx}(H:RVs ρ t u)(p:Array Tmp)(a b:Code)(S:aI ρ.prog ρ.F a=Y)(L:aI ρ.prog ρ.F b=Y){r z:Option Nat}(G:RNo ρ r z):RS P QEn ρ (Instr.enterLoop fn t p a b r) (Instr.enterLoop fn u p a b z):=by
 unfold Instr.enterLoop;have o:∀ (f:Ren),ρ.le f->∀ (d j:Nat) (m n:List Deferred),f d j->RDs f m n->RS P QEn f (do let l <-newObj (.loop {state:=.ready,pending:=N,fn,tmps:=t,params:=p,assign:=a,body:=b,defers:=d});pure (l,m)) (do let l <-newObj (.loop {state:=.ready,pending:=N,fn,tmps:=u,params:=p,assign:=a,body:=b,defers:=j});pure (l,n)):=λf i d j m n D R=>
  .new (.loop ⟨rfl,rfl,rfl,H.mono i,rfl,rfl,rfl,D,by rw[i.prog,i.F];exact S,by rw[i.prog,i.F];exact L,λc e=>by cases e⟩) (λx V B A _=>.pure ⟨.inr ⟨rfl,rfl⟩,R.mono (rP _ _ _ B A)⟩)
 cases G with
 |some h=>
  refine aj (fg h) (λf i q T s=>?_);exact aj (Q:=λρ (x y:Nat×List Deferred)=>ρ x.1 y.1/\RDs ρ x.2 y.2) (ae ⟨s.1.defers,.nil⟩) (λk v x y h=>by
   obtain⟨d,m⟩:=x;obtain⟨j,n⟩:=y;exact o k (Ren.le_trans i v) d j m n h.1 h.2)
 |none=>
  refine aj (Q:=λρ (x y:Nat)=>ρ x y) (.new (.deferred .nil) (λx V B A _=>.pure (.inr ⟨rfl,rfl⟩))) (λf i q T s=>?_);exact aj (Q:=λρ (x y:Nat×List Deferred)=>ρ x.1 y.1/\RDs ρ x.2 y.2) (ae ⟨s,.cons (.mk (.collected s) RVs.nil) .nil (.inl ⟨_,rfl⟩)⟩) (λk v x y h=>by
   obtain⟨d,m⟩:=x;obtain⟨j,n⟩:=y;exact o k (Ren.le_trans i v) d j m n h.1 h.2)
theorem nX{l e:Nat}(h:ρ l e){f:Deferred}(p:(ρ.F gq||ρ.F mz)=Y)(j:RD ρ d' f):RS P QU ρ (Instr.deferInRound l d') (Instr.deferInRound e f):=by
 unfold Instr.deferInRound;refine aj (fg h) (λρ1 c r r' i=>?_);refine aj (dJ i.1.defers) (λρ2 b o o' a=>?_);obtain⟨a,q,n⟩:=a;cases a with
 |deferred m=>exact iJ (b _ _ i.1.defers) (.deferred (.cons ((j.mono c).mono b) m (.inr (by rw[b.F,c.F];exact p)))) (λk=>by cases q k) (λk=>by have:=n k;simp[Obj.isChan]at this)
 |taken=>exact .lost (.halt rfl) _
 |_=>exact ag _
theorem nY(h:ρ r d):RS P (λρ a b=>RDs ρ a b) ρ (Instr.takeDeferred r) (Instr.takeDeferred d):=by
 unfold Instr.takeDeferred;refine aj (dJ h) (λρ2 j o o' c=>?_);obtain⟨c,e,i⟩:=c;cases c with
 |deferred f=>exact aj (iJ (j _ _ h) .taken (λk=>by cases e k) (λk=>by have:=i k;simp[Obj.isChan]at this)) (λρ3 m _ _ _=>ae (f.mono m))
 |_=>exact ag _
theorem RVs.zipSet(e:List Tmp):∀ (a d:List Wx){c h:Array Wx},a.length=d.length->(∀ (j:Nat) v f,a[j]?=J v->d[j]?=J f->RV ρ v f)->RVs ρ c h ->
  RVs ρ ((e.zip a).foldl (λb (x:Tmp×Wx)=>b.setIfInBounds x.1 x.2) c) ((e.zip d).foldl (λb (x:Tmp×Wx)=>b.setIfInBounds x.1 x.2) h):=by
 induction e with
 |nil=>intro a d c h _ _ i;exact i
 |cons p e ih=>
  intro a d c h k l i;cases a with
  |nil=>cases d with
   |nil=>exact i
   |cons _ _=>simp at k
  |cons x a=>
   cases d with
   |nil=>simp at k
   |cons o d=>
    simp only[List.zip_cons_cons,List.foldl_cons];exact ih a d (by simpa using k) (λj v f n m=>l (j+1) v f n m) (i.set _ (l 0 x o rfl rfl))
end
section
variable {P:Wv} [Two P]
theorem r9{ρ:Ren}(t:Ww):RS P QE ρ (elemOf t) (elemOf t):=by
 unfold elemOf;refine ai (ay t) (λρ1 l1 d=>?_);cases d<;>first|exact ae rfl|exact ag _
variable {ρ:Ren}
structure RC (ρ:Ren)(c c':CommCase):Prop where
 chan:RV ρ c.chan c'.chan
 send:(c.send=N/\c'.send=N)\/∃v v',c.send=J v/\c'.send=J v'/\RV ρ v v'
 zero:RV ρ c.zero c'.zero
def FC:Op->Bool
 | .send _ _| .recv _ _ _=>Y
 |_=>Z
inductive RX (ρ:Ren):Next->Next->Prop
 |value {v v':Wx} (h:RV ρ v v'):RX ρ (.value v) (.value v')
 |skip:RX ρ .skip .skip
 |enter (f:FuncId) (hf:ρ.F f=Y) {a a':Array Wx} (h:RVs ρ a a'):RX ρ (.enter f a) (.enter f a')
 |round {l l':Nat} (hl:ρ l l') (f:FuncId) {t t':Array Wx} (ht:RVs ρ t t') (a b:Code) (ha:aI ρ.prog ρ.F a=Y) (hb:aI ρ.prog ρ.F b=Y):RX ρ (.round l f t a b) (.round l' f t' a b)
 |defer (hS:(ρ.F gq||ρ.F mz)=Y) {d d':Deferred} (h:RD ρ d d'):RX ρ (.defer d) (.defer d')
 |spawn (hC:ρ.F mz=Y) {d d':Deferred} (h:RD ρ d d'):RX ρ (.spawn d) (.spawn d')
inductive RX1 (ρ:Ren):Next->Next->Prop
 |of {a b:Next} (h:RX ρ a b):RX1 ρ a b
 |mk (f:FuncId) (hM:Mk ρ.F f=Y) {a a':Array Wx} (h:RVs ρ a a') (hs:a.size=2):RX1 ρ (.enter f a) (.enter f a')
def fY(P:Wv) [Two P](F:FuncId->Bool):Prop:=∀f fn,F f=Y->P.funcs[f]?=J fn->fn.body=N->∀ρ a b,ρ.F=F->GId P ρ->RVs ρ a b->RS P RX ρ (callFunc f a) (callFunc f b)
theorem uW(hE : fY P ρ.F) (hI : GId P ρ) (f : FuncId) (hF : ρ.F f = Y) (hn : ∀ fn, P.funcs[f]? = J fn → fn.name ≠ "runtime.NumGoroutine") {a a' : Array Wx} (h : RVs ρ a a') : RS P RX ρ (callFunc f a) (callFunc f a') := by
 cases hf:P.funcs[f]? with
 |none=>
  unfold callFunc;refine bh ?_ (by simp only[hI.alt f hF]);rw[hf];exact ag _
 |some fn=>
  cases hb:fn.body with
  |none=>exact hE f fn hF hf hb ρ a a' rfl hI h
  |some b=>
   unfold callFunc;refine bh ?_ (by simp only[hI.alt f hF]);have h1:=hn fn hf;simp only[hf,hb]
   have e : (fn.name == "runtime.NumGoroutine") = Z := beq_eq_false_iff_ne.2 h1
   simp only[e];exact ae (.enter f hF h)
theorem AK(hI : GId P ρ) (f : FuncId) (hM : Mk ρ.F f = Y) (hn : ∀ fn, P.funcs[f]? = J fn → fn.name ≠ "runtime.NumGoroutine") {a a' : Array Wx} (h : RVs ρ a a') (hs : a.size = 2) : RS P RX1 ρ (callFunc f a) (callFunc f a') := by
 have⟨x,y,h1,h2,h3,h4,h5⟩:=hI.apart f hM
 have h6 : (y.name == "runtime.NumGoroutine") = Z := beq_eq_false_iff_ne.2 (hn y h2)
 have h7 : (x.name == "runtime.NumGoroutine") = Z := by rw[h5]; exact h6
 have h8:x.body.isNone=false:=by cases hx:x.body<;>simp[hx]at h3 ⊢
 have h9:y.body.isNone=false:=by cases hx:y.body<;>simp[hx]at h4 ⊢
 unfold callFunc;refine bh ?_ (by simp only[h1,h2,h6,h7,h8,h9,Bool.false_eq_true,if_false]);simp only[h2,h6,h9];exact ae (.mk f hM h hs)
theorem DK{l:Nat}(h:ρ l i){a d:Array Wx}(e:RVs ρ a d):RS P RX ρ (Instr.yield l a) (Instr.yield i d):=by
 unfold Instr.yield;refine aj (fg h) (λρ1 f r r' b=>?_);obtain⟨b,-,-⟩:=b;rw[<-e.size,<-b.params,<-b.fn,<-b.assign,<-b.body];refine aJ (λ_=>bX (ag _)) (λ_=>ae (.round (f _ _ h) _ ?_ _ _ b.okA b.okBo));have c:=e.mono f;have:=RVs.zipSet r.params.toList a.toList d.toList (by simpa using c.size) (λj v k m n=>c.at_ j v k (by simpa using m) (by simpa using n)) b.tmps;rw[<-Array.toList_zip,<-Array.toList_zip,Array.foldl_toList,Array.foldl_toList]at this;exact this
end
theorem H7{a b:ByteArray}(h:(a==b)=Y):a=b:=by
 obtain⟨x⟩:=a;obtain⟨y⟩:=b;have c:(x==y)=true:=h;rw[eq_of_beq c]
theorem F8(a:ByteArray):(a==a)=true:=by
 obtain⟨x⟩:=a;exact(beq_self_eq_true x:(x==x)=Y)
theorem wU{P:Wv}{t:Ww}(h:yh P t=Y):∃k e,P.underlying t=J (.map k e)/\P.underlying k=J .string:=by
 unfold yh at h;split at h
 .rename_i k e a;split at h
  .rename_i b;exact⟨k,e,a,b⟩
  .cases h
 .cases h
section
variable {P:Wv} [Two P]
theorem AL:∀ (n:Nat)(t u:Ww),P.alt.alikeButTags n t u=P.alikeButTags n t u:=by
 intro n;induction n with
 |zero=>intro t u;rfl
 |succ n ih=>
  intro t u;unfold Program.alikeButTags;simp only[ih];rfl
theorem ix(t:Ww):P.alt.underlyingId t=P.underlyingId t:=rfl
theorem qD(t:Ww):P.alt.stoodInAs t=P.stoodInAs t:=by
 unfold Program.stoodInAs;simp only[AL,iI,cP,ix];rfl
theorem fv(t:Ww):P.alt.stoodInHeld t=P.stoodInHeld t:=by
 unfold Program.stoodInHeld;simp only[qD];rfl
theorem oY:∀ (n:Nat)(t u:Ww),sameLayout P.alt n t u=sameLayout P n t u:=by
 intro n;induction n with
 |zero=>intro t u;rfl
 |succ n ih=>
  intro t u;unfold sameLayout;simp only[ih,fv,ix,cP]
theorem AM(f:Ww->Bool):∀ (d:Nat)(e:Ww)(c o n:Nat),rowAt P.alt f d e c o n=rowAt P f d e c o n:=by
 intro d;induction d with
 |zero=>intro e c o n;rfl
 |succ d ih=>
  intro e c o n;unfold rowAt;simp only[ih,fv,cP,dV];rfl
theorem yy:∀ (d:Nat)(e:Ww)(c o:Nat)(u:Ww)(n:Nat),liesAt P.alt d e c o u n=liesAt P d e c o u n:=by
 intro d;induction d with
 |zero=>intro e c o u n;rfl
 |succ d ih=>
  intro e c o u n;unfold liesAt;simp only[ih,AM,oY,iI,cP]
theorem uX{α:Type}{ρ:Ren}(l:List α)(s:β)(f b:α->β->Sem (ForInStep β))(m:∀ρ',ρ.le ρ'->∀a∈l,∀s,RS P QE ρ' (f a s) (b a s)):RS P QE ρ (forIn l s f) (forIn l s b):=
 fK l l s (λ_ a d=>a=d/\a∈l) (λ_ _ _ _ _ h=>h) f b rfl (λj a d e i=>by rw[e]at i;exact⟨oJ i,List.mem_of_getElem? e⟩) (λρ' l a d s h=>by obtain⟨rfl,k⟩:=h;exact m ρ' l a k s)
theorem AN(d:Nat):∀ (n:Nat){ρ:Ren},GId P ρ->∀ (t:Ww){x j y h:Wx},RV ρ x j->RV ρ y h->uM P n t=Y->RS P QE ρ (Op.equalIn d t x y) (Op.equalIn d t j h):=by
 induction d with
 |zero=>intro n ρ _ t x j y h _ _ _;exact ak _
 |succ d ih=>
  intro n ρ o t x j y h z p a;cases n with
  |zero=>simp[uM]at a
  |succ n=>
   unfold uM at a;by_cases c:iw (P.underlying t)=Y
   .exact ji (d+1) o t z p (.inl c)
   unfold Op.equalIn;refine aj (aY t) (λe A S ty' m=>?_);obtain⟨rfl,m⟩:=m;rw[m]at a c;have B:=o.mono A;have F:=z.mono A;have r:=p.mono A;clear z p o;cases S with
   |struct fs=>
    simp only at a;cases F with
    |agg hc hR=>
     cases r with
     |agg X V=>
      have v:RVs e _ _:=⟨hc,hR⟩;have D:RVs e _ _:=⟨X,V⟩;refine bh ?_ (by simp only[fv]);refine aJ (λ_=>bX (ak _)) (λ_=>?_);dsimp only;simp only[<-Array.forIn_toList];refine ai (uX fs.toList _ _ _ (λρ' l f Q s=>?_)) (λρ2 l2 s=>?_)
      .have q:uM P n f.type=true:=by
        obtain⟨i,T,rfl⟩:=List.mem_iff_getElem.1 Q;have:=Array.all_eq_true.1 a i (by simpa using T);simpa using this
       refine aJ (λ_=>?_) (λ_=>ae rfl);refine aj (iG f.type (v.mono l) _) (λρ3 H u u' R=>?_);refine aj (iG f.type ((D.mono l).mono H) _) (λρ4 G w w' L=>?_);refine ai (ih n (((B.mono l).mono H).mono G) f.type (R.mono G) L q) (λρ5 l5 b=>?_);exact aJ (λ_=>ae rfl) (λ_=>ae rfl)
      .obtain ⟨s,-⟩:=s;cases s<;>exact ae rfl
     |_=>exact ag _
    |_=>exact ag _
   |bool=>simp[iw]at c
   |string=>simp[iw]at c
   |int k=>simp[iw]at c
   |_=>simp at a
theorem uY(d:Nat){ρ:Ren}(t:Ww)(i:P.underlying t=J .string){x v y e:Wx}(k:RV ρ x v)(j:RV ρ y e):RS P (λ_ a b=>a=b/\(a=Y->∃s,x=.string s/\y=.string s)) ρ (Op.equalIn d t x y) (Op.equalIn d t v e):=by
 cases d with
 |zero=>exact ak _
 |succ d=>
  unfold Op.equalIn;refine aj (aY t) (λρ1 l1 ty ty' c=>?_);obtain⟨rfl,c⟩:=c;rw[i]at c;cases c;cases k with
  |string s=>
   cases j with
   |string s'=>exact ae ⟨rfl,λh=>⟨s,rfl,by rw[H7 h]⟩⟩
   |_=>exact ag _
  |_=>exact ag _
def QF(k:Wx)(l:List MapEntry)(i0:Nat):Ren->Option (Nat×Wx)->Option (Nat×Wx)->Prop:=λρ a b=>
 (a=N/\b=N)\/∃i v c s,a=J (i,v)/\b=J (i,c)/\RV ρ v c/\k=U s/\i0<=i/\∃e,l[i-i0]?=J e/\e.key=U s
theorem QF.tail{k:Wx}{e:MapEntry}{V:List MapEntry}{ρ:Ren}{a b:Option (Nat×Wx)}(h:QF k V (r+1) ρ a b):QF k (e::V) r ρ a b:=by
 rcases h with h|⟨i,v,f,s,n,j,p,m,h5,x,d,o⟩
 .exact .inl h
 .refine .inr ⟨i,v,f,s,n,j,p,m,by omega,x,?_,o⟩;rw[show i-r=(i-(r+1))+1 by omega];exact d
theorem qE(t:Ww)(y:P.underlying t=J .string){k m:Wx}:∀ {l c:List MapEntry}{ρ:Ren}(i:Nat),RV ρ k m->RMs ρ l c->RS P (QF k l i) ρ (Instr.findAsking t k l i) (Instr.findAsking t m c i):=by
 intro l;induction l with
 |nil=>intro c ρ i _ h;cases h;exact ae (.inl ⟨rfl,rfl⟩)
 |cons e l ih=>
  intro c ρ i j h;cases h with
  | @cons b q q' v p _ c n o u=>
   unfold Instr.findAsking;refine aj (uY _ t y j n) (λρ1 f a a' d=>?_);obtain⟨rfl,d⟩:=d;cases a with
   |true=>
    have⟨s,x,r⟩:=d rfl;exact ae (.inr ⟨i,v,p,s,rfl,rfl,o.mono f,x,lR _,⟨q,v,b⟩,by simp,r⟩)
   |false=>exact(ih (i+1) (j.mono f) (u.mono f)).imp (λ_ _ _ h=>h.tail)
theorem uZ{ρ:Ren}{k a q q':Wx}(b:RV ρ k a)(c:RV ρ q q'):Instr.sameNow .string k q=Instr.sameNow .string a q':=by
 cases b with
 |string s=>cases c with
  |string s'=>rfl
  |dead _ h=>cases q'<;>first|rfl|simp[iD]at h
  |_=>rfl
 |dead _ h=>cases a<;>first|rfl|simp[iD]at h
 |_=>rfl
theorem ve{k m:Wx}:∀ {l d:List MapEntry}{ρ:Ren}(i:Nat),RV ρ k m->RMs ρ l d->(Instr.findNow .string k l i=N/\Instr.findNow .string m d i=N)\/∃a b,Instr.findNow .string k l i=J a/\Instr.findNow .string m d i=J b/\QF k l i ρ a b:=by
 intro l;induction l with
 |nil=>intro d ρ i _ h;cases h;exact .inr ⟨N,N,rfl,rfl,.inl ⟨rfl,rfl⟩⟩
 |cons e l ih=>
  intro d ρ i n h;cases h with
  | @cons b q q' v t _ d p r u=>
   have y:=uZ n p;unfold Instr.findNow;simp only[<-y];cases o:Instr.sameNow .string k q with
   |none=>exact .inl ⟨rfl,rfl⟩
   |some c=>
    cases c with
    |true=>
     refine .inr ⟨_,_,rfl,rfl,.inr ?_⟩;have:∃s,k=.string s/\q=.string s:=by
      cases k<;>cases q<;>simp[Instr.sameNow]at o
      .exact ⟨_,rfl,by rw[H7 o]⟩
     obtain⟨s,j,f⟩:=this;exact⟨i,v,t,s,rfl,rfl,r,j,lR _,⟨q,v,b⟩,by simp,f⟩
    |false=>
     rcases ih (i+1) n u with h|⟨a,b,j,f,x⟩
     .exact .inl h
     .exact .inr ⟨a,b,j,f,x.tail⟩
theorem pq{ρ:Ren}(t:Ww)(m:P.underlying t=J .string){k v:Wx}(i:RV ρ k v){V W:List MapEntry}(h:RMs ρ V W):RS P (QF k V 0) ρ (Instr.findKey t k V) (Instr.findKey t v W):=by
 unfold Instr.findKey;refine aj (aY t) (λρ1 d ty ty' c=>?_);obtain⟨rfl,c⟩:=c;rw[m]at c;cases c;rcases ve 0 (i.mono d) (h.mono d)with⟨f,e⟩|⟨a,b,f,e,o⟩
 .rw [f,e];exact qE t m 0 (i.mono d) (h.mono d)
 .rw [f,e];exact ae o
theorem nZ{ρ:Ren}(e d:Bool)(n:Nat)(t:Ww)(c:P.underlying t=J .string)(k b:Wx):RS P QU ρ (Instr.checkKey e (n+1) t k) (Instr.checkKey d (n+1) t b):=by
 unfold Instr.checkKey;refine aj (aY t) (λρ1 l1 ty ty' a=>?_);obtain⟨rfl,a⟩:=a;rw[c]at a;cases a;exact ae trivial
variable {ρ:Ren}
theorem AO(hZ:bU P)(t:Ww)(ht:yh P t=Y){x x' i H:Wx}(hx:RV ρ x x')(hi:RV ρ i H)(n:Bool):RS P QV ρ (Instr.lookup t x i n) (Instr.lookup t x' H n):=by
 have⟨k,e,h1,h2⟩:=wU ht;unfold Instr.lookup;refine aj (aY t) (λT l1 ty ty' D=>?_);obtain⟨rfl,D⟩:=D;rw[h1]at D;cases D;have V:=hx.mono l1;have L:=hi.mono l1;have q:∀ (d:Ren),T.le d->∀ (es l:Array MapEntry),RMs d es.toList l.toList->RS P QV d (do
   Instr.checkKey es.isEmpty 10000 k i
   let(v,o) <-match <-Instr.findKey k i es.toList with
    |some (_,v)=>pure (v,Y)
    |none=>pure (<-zeroValue e,Z)
   pure (if n then .tuple #[v,.bool o]else v)) (do
   Instr.checkKey l.isEmpty 10000 k H
   let(v,o) <-match <-Instr.findKey k H l.toList with
    |some (_,v)=>pure (v,Y)
    |none=>pure (<-zeroValue e,Z)
   pure (if n then .tuple #[v,.bool o]else v)):=by
  intro d B es l aa;refine aj (nZ _ _ 9999 k h2 _ _) (λu F _ _ _=>?_);refine aj (pq k h2 ((L.mono B).mono F) (aa.mono F)) (λρ4 l4 a b S=>?_);have m:∀ (f:Ren) (v p:Wx) (o:Bool),RV f v p->RS P QV f (pure (if n then .tuple #[v,.bool o]else v):Sem Wx) (pure (if n then .tuple #[p,.bool o]else p)):=by
   intro f v p o G;cases n with
   |false=>exact ae G
   |true=>
    have:=(RVs.nil.push G).push (.bool o);exact ae (.tuple this.size this.at_)
  rcases S with⟨rfl,rfl⟩|⟨j,v,p,s,rfl,rfl,G,-⟩
  .refine aj (dg hZ e) (λρ6 l6 z z' hz=>?_);refine aj (Q:=λρ (x y:Wx×Bool)=>RV ρ x.1 y.1/\x.2=y.2) (ae ⟨hz,rfl⟩) (λf l5 a b h=>?_);obtain⟨a1,a2⟩:=a;obtain⟨R,b2⟩:=b;obtain⟨A,r⟩:=h;simp only at A r;subst r;exact m f a1 R a2 A
  .refine aj (Q:=λρ (x y:Wx×Bool)=>RV ρ x.1 y.1/\x.2=y.2) (ae ⟨G,rfl⟩) (λf l5 a b h=>?_);obtain⟨a1,a2⟩:=a;obtain⟨R,b2⟩:=b;obtain⟨A,r⟩:=h;simp only at A r;subst r;exact m f a1 R a2 A
 cases V with
 |map hr=>
  cases hr with
  |none=>exact aj (Q:=λρ (x y:Array MapEntry)=>RMs ρ x.toList y.toList) (ae .nil) (λd B a b h=>q d B a b h)
  |some hr=>
   refine aj (dJ hr) (λd B o o' X=>?_);obtain⟨X,-,-⟩:=X;cases X with
   |map c hm=>exact aj (Q:=λρ (x y:Array MapEntry)=>RMs ρ x.toList y.toList) (ae hm) (λu F a b h=>q u (Ren.le_trans B F) a b h)
   |_=>exact .lost (dq.bind (.halt rfl) _) _
 |_=>exact .lost (dq.bind (.halt rfl) _) _
theorem RMs.push{V W:List MapEntry}(h:RMs ρ V W)(b:Nat){k x v a:Wx}(f:RV ρ k x)(j:RV ρ v a):RMs ρ (V++[⟨k,v,b⟩]) (W++[⟨x,a,b⟩]):=by
 induction h with
 |nil=>exact .cons b f j .nil
 |cons c i h _ ih=>exact .cons c i h ih
theorem RMs.modify{V a:List MapEntry}(h:RMs ρ V a){k x v b:Wx}(f:RV ρ k x)(m:RV ρ v b):∀i,RMs ρ (V.modify i (λe=>{e with key:=k,val:=v})) (a.modify i (λe=>{e with key:=x,val:=b})):=by
 induction h with
 |nil=>intro i;cases i<;>exact .nil
 |cons c j h n ih=>
  intro i;cases i with
  |zero=>exact .cons c f m n
  |succ i=>exact .cons c j h (ih i)
theorem RMs.at_{V b:List MapEntry}(h:RMs ρ V b):∀ (i:Nat) e,V[i]?=J e->∃d,b[i]?=J d/\RV ρ e.key d.key:=by
 induction h with
 |nil=>intro i e h;simp at h
 |cons c f h hl ih=>
  intro i e a;cases i with
  |zero=>simp at a;subst a;exact⟨_,rfl,f⟩
  |succ i=>exact ih i e a
theorem sa(t:Ww)(ht:yh P t=Y){m m' k k' v v':Wx}(T:RV ρ m m')(hk:RV ρ k k')(hv:RV ρ v v'):RS P QU ρ (Instr.mapUpdate t m k v) (Instr.mapUpdate t m' k' v'):=by
 have⟨kt,e,h1,h2⟩:=wU ht;unfold Instr.mapUpdate;refine aj (aY t) (λρ1 l1 ty ty' R=>?_);obtain⟨rfl,R⟩:=R;rw[h1]at R;cases R;have X:=T.mono l1;cases X with
 |map S=>
  cases S with
  |none=>exact nl _
  | @some r r' S=>
   refine aj (dJ S) (λD l2 o o' ho=>?_);obtain⟨ho,k1,k2⟩:=ho;cases ho with
   | @map es aa c T=>
    have n1:¬D.old r:=λk=>by cases k1 k
    have n2:D.ch r->False:=λk=>by have:=k2 k;simp[Obj.isChan]at this
    refine aj (nZ _ _ 9999 kt h2 _ _) (λρ3 p _ _ _=>?_);have H:=((hk.mono l1).mono l2).mono p;refine aj (pq kt h2 H (T.mono p)) (λl u a b V=>?_);have G:=H.mono u;have B:=(((hv.mono l1).mono l2).mono p).mono u;have n:=(T.mono p).mono u;have y:l r r':=u _ _ (p _ _ (l2 _ _ S));have n3:¬l.old r:=by rw[u.old,p.old];exact n1
    have n4:l.ch r->False:=by rw[u.ch,p.ch];exact n2
    rcases V with⟨rfl,rfl⟩|⟨i,x,x',s,rfl,rfl,-,rfl,-,en,j,d⟩
    .refine .setObj y (.map (c+1) ?_) n3 (λh=>(n4 h).elim) (.pure trivial);simp only[Array.toList_push];exact n.push c G B
    .cases G;rw[Nat.sub_zero]at j;have⟨L,A,q⟩:=n.at_ i en j;rw[d]at q;have f:L.key=.string s:=by
      generalize L.key=z at q;cases q;rfl
     have e1:((es[i]?).map (·.key)).getD (.string s)=.string s:=by
      rw[<-gT,j];exact d
     have e2:((aa[i]?).map (·.key)).getD (.string s)=.string s:=by
      rw[<-gT,A];exact f
     dsimp only;rw[e1,e2];have e3:Instr.keyThatStays (.string s) (.string s)=pure (.string s):=by
      unfold Instr.keyThatStays;have:Instr.sameBits 10000 (.string s) (.string s)=true:=by simp only[Instr.sameBits];exact F8 s
      rw[this];rfl
     rw[e3];refine aj (ae (Q:=QV) (.string s)) (λρ5 F z z' hz=>?_);refine .setObj (F _ _ y) (.map c ?_) (by rw[F.old];exact n3) (by rw[F.ch];exactλh=>(n4 h).elim) (.pure trivial);simp only[Array.toList_modify];exact(n.mono F).modify hz (B.mono F) i
   |_=>exact ag _
 |_=>exact ag _
theorem yA(t:Ww):RS P QV ρ (Instr.makeMap t N) (Instr.makeMap t N):=by
 unfold Instr.makeMap;exact .new (.map 0 .nil) (λr r' _ _ _=>.pure (.map (.some (.inr ⟨rfl,rfl⟩))))
theorem se:∀ (n:Nat){ρ:Ren}{a d:Wu}(c:ByteArray),RA ρ a d->RS P QE ρ (loadBytes a c n) (loadBytes d c n):=by
 intro n;induction n with
 |zero=>intro ρ a d c _;exact ae rfl
 |succ n ih=>
  intro ρ a d c h;unfold loadBytes;refine aj (nM h _) (λρ1 f v v' e=>?_);cases e with
  |int k b=>cases k<;>first|exact ag _|exact ih _ ((h.mono f).add 1)
  |_=>exact ag _
theorem oZ{a b:Wu}(h:RA ρ a b)(u:Ww)(n:Nat):RS P QE ρ (variablesAt a u n) (variablesAt b u n):=by
 unfold variablesAt;refine bh ?_ (by simp only[yy,iI,dV]);refine ai (eY h.1) (λρ1 l1 s=>?_);rw[<-h.2.1];rcases s with - |⟨e,z⟩<;>exact ae rfl
theorem n7(e:∀a,¬ρ.old a)(at_:Array Ww)(t:Ww){a j:Array Wx}(h:RVs ρ a j):RS P QV ρ (Builtin.unsafeString_ at_ t a) (Builtin.unsafeString_ at_ t j):=by
 obtain⟨l⟩:=a;obtain⟨k⟩:=j;have r:l.length=k.length:=by simpa using h.size
 unfold Builtin.unsafeString_;rcases l with - |⟨x,- |⟨y,- |⟨z,l⟩⟩⟩<;>rcases k with - |⟨F,- |⟨D,- |⟨z',k⟩⟩⟩<;>(try(simp at r;done))
 .exact ag _
 .exact ag _
 .have v:=h.at_ 0 x F rfl rfl;have u:=h.at_ 1 y D rfl rfl;cases v with
  |pointer q=>
   refine ai (gR u) (λρ1 p n=>?_);cases at_[0]? with
   |none=>exact ag _
   |some A=>
    refine aJ (λ_=>bX (dA _)) (λ_=>?_);refine aJ (λ_=>bX (ak _)) (λ_=>?_);have f:=q.mono p;cases f with
    |none=>exact aJ (λ_=>ae (.string _)) (λ_=>dA _)
    | @some b b' i=>
     refine aJ (λ_=>ae (.string _)) (λ_=>?_);refine ai (r9 A) (λρ2 d B=>?_);refine ai (oZ (i.mono d) B n.toNat) (λρ3 m c=>?_);refine aJ (λ_=>?_) (λ_=>ak _);refine ai (se n.toNat _ ((i.mono d).mono m)) (λρ4 o s=>?_);refine .freeze _ (((i.mono d).mono m).mono o) (by rw[o.old,m.old,d.old,p.old];exact e _) (.pure (.string _))
  |_=>exact ag _
 .exact ag _
theorem F9{x d y c:Wx}(f:RV ρ x d)(a:RV ρ y c):RS P QV ρ (Builtin.min2 x y) (Builtin.min2 d c):=by
 cases f with
 |int k n=>
  cases a with
  |int k' n'=>exact ae (.int _ _)
  |pointer h=>cases h<;>first|exact ag _|exact ak _
  |_=>exact ag _
 |string s=>
  cases a with
  |string s'=>
   unfold Builtin.min2;refine aj (nP _ _ _) (λρ1 l1 v v' e=>?_);exact ai (r4 e) (λρ2 l2 b=>ae (.string _))
  |pointer h=>cases h<;>first|exact ag _|exact ak _
  |_=>exact ag _
 |pointer h=>
  cases h with
  |none=>
   cases a with
   |pointer k=>cases k<;>first|exact ag _|exact ak _
   |_=>exact ag _
  |some h=>exact ak _
 |_=>
  cases a with
  |pointer k=>cases k<;>first|exact ag _|exact ak _
  |_=>exact ag _
theorem yB:∀ (l b:List Wx){ρ:Ren}{x d:Wx},RV ρ x d->l.length=b.length->(∀ (j:Nat) v e,l[j]?=J v->b[j]?=J e->RV ρ v e)->RS P QV ρ (l.foldlM Builtin.min2 x) (b.foldlM Builtin.min2 d):=by
 intro l;induction l with
 |nil=>intro b ρ x d f c _;cases b with
  |nil=>exact ae f
  |cons _ _=>simp at c
 |cons y l ih=>
  intro b ρ x d f c h;cases b with
  |nil=>simp at c
  |cons p b=>
   simp only[List.foldlM_cons];exact aj (F9 f (h 0 y p rfl rfl)) (λρ1 n v e i=>ih b i (by simpa using c) (λj a m o k=>(h (j+1) a m o k).mono n))
theorem H8(at_:Array Ww)(t:Ww){a d:Array Wx}(h:RVs ρ a d):RS P QV ρ (Builtin.min_ at_ t a) (Builtin.min_ at_ t d):=by
 obtain⟨l⟩:=a;obtain⟨b⟩:=d;have c:l.length=b.length:=by simpa using h.size
 unfold Builtin.min_;cases l with
 |nil=>cases b with
  |nil=>exact ag _
  |cons _ _=>simp at c
 |cons x l=>cases b with
  |nil=>simp at c
  |cons f b=>exact yB l b (h.at_ 0 x f rfl rfl) (by simpa using c) (λj v k e i=>h.at_ (j+1) v k (by simpa using e) (by simpa using i))
theorem DL{x b:Wx}(d:RV ρ x b):RS P QV ρ (Instr.panic x) (Instr.panic b):=by
 unfold Instr.panic;cases d with
 |iface t h=>exact lq (.iface t h)
 |nilIface=>
  unfold Instr.panicnil;refine ai (ai (.env (λr=>.pure rfl)) (λa c r=>?_)) (λa c n=>?_)
  .cases r with
   |strings env=>exact bh (ae rfl)
   |_=>exact ag _
  .refine aJ (λ_=>lq .nilIface) (λ_=>?_);unfold runtimePanic;refine bh ?_;refine ai (r9 _) (λρ2 l2 t=>?_);refine aj (nN t (.agg rfl (λi v v' h=>by simp at h))) (λρ3 l3 r r' e=>?_);exact lq (.iface _ (.pointer (.some e)))
 |_=>exact ag _
end
section
variable {P:Wv} [Two P] {ρ:Ren}
theorem cC{s a:Sem Wx}(h:RS P QV ρ s a):RS P RX ρ (do let x <-s;pure (.value x)) (do let x <-a;pure (.value x)):=aj h (λ_ρ1 _ _v _v' b=>ae (.value b))
theorem AP{s a:Sem Unit}(h:RS P QU ρ s a):RS P RX ρ (do s;pure .skip) (do a;pure .skip):=aj h (λ_ρ1 _ _ _ _=>ae .skip)
theorem vg(j:ρ.F gq=Y)(at_:Array Ww)(t:Ww){a b:Array Wx}(h:RVs ρ a b):RS P QV ρ (Builtin.close_ at_ t a) (Builtin.close_ at_ t b):=by
 obtain⟨l⟩:=a;obtain⟨c⟩:=b;have i:l.length=c.length:=by simpa using h.size
 rcases l with - |⟨x,- |⟨y,l⟩⟩<;>rcases c with - |⟨f,- |⟨y',c⟩⟩<;>(try(simp at i;done))
 .exact ag _
 .have e:=h.at_ 0 x f rfl rfl;cases e with
  |chan d=>exact DD j at_ t d
  |_=>exact ag _
 .exact ag _
theorem yC(e:bU P)(i:GId P ρ)(b:Builtin)(c:Dr ρ.F b=Y)(at_:Array Ww)(d:F1 P b at_=Y)(t:Ww)(cs:Array Bool){a f:Array Wx}(h:RVs ρ a f):RS P RX ρ (builtin b at_ t cs a) (builtin b at_ t cs f):=by
 cases b<;>first
  |(exfalso;simp[Dr,okB]at c;done)
  |exact cC (AG e at_ t h)
  |exact cC (H6 at_ d t h)
  |exact cC (DG e at_ t h)
  |exact cC (vg (by simpa[Dr,okB]using c) at_ t h)
  |exact cC (F5 at_ t h)
  |exact cC (H5 at_ d t h)
  |exact cC (H8 at_ t h)
  |exact cC (n7 (i.free (by simpa[Dr,okB]using c)) at_ t h)
def cq(P : Wv) : Prop := ∀ (f : FuncId) fn, P.funcs[f]? = J fn → fn.name ≠ "runtime.NumGoroutine"
theorem AQ(o:bU P)(i:fY P ρ.F)(q:cq P)(c:GId P ρ){t e:Target}(m:RT ρ t e){a d:Array Wx}(h:RVs ρ a d):RS P RX ρ (invoke t a) (invoke e d):=by
 unfold invoke;cases m with
 |nil=>exact fp
 |builtin b n at_ l t cs=>exact yC o c b n at_ (by rw[<-c.prog];exact l) t cs h
 |fn j p=>
  cases j with
  |func f r=>exact uW i c f r (q f) (h.append p)
  |yield k=>exact DK k h
 |collected _=>exact ag _
theorem kg{α : Type} {n : Ww} (hn : NoM P n) {f : TypeInfo → Sem α} (h : ∀ i, i.methods.find? (fun m => m.name == "") = N → dq P (f i)) : dq P (typeInfo n >>= f) := by
 unfold typeInfo;refine .program (λp hp=>?_)
 show dq P (Sem.bind (match p.info? n with | some i => Pure.pure i | none => stuck "no such type") _)
 have e:p.info? n=P.info? n:=by
  obtain⟨t,fs⟩:=p;simp only at hp;subst hp;rfl
 rw[e];cases hi:P.info? n with
 |none=>exact .halt rfl
 |some i=>exact h i (by unfold NoM at hn;rw[hi]at hn;simpa using hn)
theorem vh{n : Ww} (hn : NoM P n) (fuel : Nat) (v : Wx) : dq P (method fuel n v "") := by
 cases fuel with
 |zero=>exact .halt rfl
 |succ fuel=>
  unfold method;exact kg hn (λi hi=>by simp only[hi];exact .halt rfl)
theorem qF{n : Ww} (hn : NoM P n) (fuel : Nat) (v : Wx) {α : Type} (f : Option Bool → Sem α) (h0 : dq P (f N)) : dq P (nilAhead fuel n v "" >>= f) := by
 cases fuel with
 |zero=>exact h0
 |succ fuel=>
  unfold nilAhead;exact(kg hn (λi hi=>by simp only[hi];exact .halt rfl)).bind f
theorem lr(o:bU P)(j:fY P ρ.F)(k:cq P)(f:GId P ρ){b:Deferred}(h:RD ρ d' b):RS P RX ρ (invoke d'.target d'.args) (invoke b.target b.args):=by
 cases h with
 |mk m l=>exact AQ o j k f m l
 |odd n v a s c a' q=>
  refine .lost ?_ _;have i:=ρ.noM;rw[f.prog,<-q]at i;have e:(#[Value.iface n v]++a)[0]?=J (.iface n v):=by
   rw[Array.getElem?_append_left (by simp)];rfl
  unfold invoke;simp only[e];exact .program (λp hp=>(vh i _ _).bind _)
theorem nb(e:Ww)(s:ByteArray):RS P QV ρ (Conv.stringToRunes e s) (Conv.stringToRunes e s):=by
 have d:∀ (b i:Nat) (c:Array Wx),RVs ρ c c->∀ρ',ρ.le ρ'->RVs ρ' (Conv.runesFrom s b i c) (Conv.runesFrom s b i c):=by
  intro b;induction b with
  |zero=>intro i c h ρ' l;exact h.mono l
  |succ b ih=>
   intro i c h ρ' l;unfold Conv.runesFrom;split
   .exact ih _ _ (h.push (.int _ _)) ρ' l
   .exact h.mono l
 unfold Conv.stringToRunes;refine ai (ft _) (λf k cap=>?_);refine aj (gt e (RVs.append (d _ _ _ RVs.nil f k) (RVs.self (λi v h=>?_)))) (λρ2 l2 a a' j=>ae (.slice _ _ (.some j)));rw[Array.getElem?_replicate]at h;split at h
 .cases h;exact .int _ _
 .cases h
theorem n9{α:Type}(t:Ww){f:TypeDesc->Sem α}(h:∀d,dq P (f d)):dq P (underlying t >>= f):=by
 unfold underlying;refine .program (λp _=>?_)
 show dq P (Sem.bind (match p.underlying t with | some i => Pure.pure i | none => stuck "no such type") _)
 cases p.underlying t with
 |none=>exact .halt rfl
 |some d=>exact h d
theorem yD(e b:Ww)(j:AA P e b=Y){x p:Wx}(v:RV ρ x p):RS P QV ρ (convert e b x) (convert e b p):=by
 unfold convert;refine aj (aY e) (λρ1 r u ds' l=>?_);obtain⟨rfl,l⟩:=l;refine aj (aY b) (λρ2 t q dd' i=>?_);obtain⟨rfl,i⟩:=i;unfold AA at j;rw[l,i]at j;have a:=(v.mono r).mono t;have f:=a;cases u<;>cases q<;>(try(exfalso;revert j;simp;done))
 .cases a with
  |int k n=>exact ae (.int _ _)
  |pointer h=>cases h<;>exact ak _
  |_=>exact ak _
 .cases a with
  |int k n=>exact ae (.string _)
  |string s=>exact ae (.string _)
  |_=>exact ak _
 .cases a with
  |string s=>
   refine ai (ay _) (λm o d=>?_);cases d with
   |int k=>cases k<;>first|exact ag _|exact m8 _ _|exact nb _ _
   |_=>exact ag _
  |slice n c h=>cases h<;>exact ak _
  |_=>exact ak _
 .cases a with
  |int k n=>exact ae (.string _)
  |string s=>exact ae (.string _)
  |dead _ _=>
   refine .lost (n9 _ (λd=>?_)) _;cases d with
   |int k=>cases k<;>exact .halt rfl
   |_=>exact .halt rfl
  |_=>
   refine ai (ay _) (λm o d=>?_);cases d with
   |int k=>cases k<;>first|exact ag _|exact m9 (P:=P) (f.mono o)|exact na (P:=P) (f.mono o)
   |_=>exact ag _
end
section
variable {P:Wv} {ρ:Ren}
theorem vk{v:Wx}(h:mX v=Y):RV ρ v v:=by
 cases v with
 |pointer a=>cases a with|none=>exact .pointer .none|some a=>simp[mX]at h
 |slice a n c=>cases a with|none=>exact .slice _ _ .none|some a=>simp[mX]at h
 |map a=>cases a with|none=>exact .map .none|some a=>simp[mX]at h
 |chan a=>cases a with|none=>exact .chan .none|some a=>simp[mX]at h
 |bool b=>exact .bool b
 |int k n=>exact .int k n
 |string s=>exact .string s
 |nilFunc=>exact .nilFunc
 |nilIface=>exact .nilIface
 |_=>simp[mX]at h
theorem AR(h:c.all mX=Y):RVs ρ c c:=RVs.self (λi v a=>vk (by
 have:=Array.all_eq_true.1 h;obtain⟨b,rfl⟩:=eS a;exact this i b))
theorem AS{v:Wx}(h:nH v=Y):RV ρ v v:=by
 cases v with
 |agg c=>exact .agg rfl (AR h).at_
 |tuple c=>exact .tuple rfl (AR h).at_
 |iface t v=>exact .iface t (vk h)
 |_=>exact vk h
def Dj(P:Wv)(ρ:Ren)(e e':Operand->Wx):Prop:=∀x,okX P ρ.F x=Y->RV ρ (e x) (e' x)
theorem Dj.all{e f:Operand->Wx}(h:Dj P ρ e f){a:Array Operand}(k:a.all (okX P ρ.F)=Y):RVs ρ (a.map e) (a.map f):=by
 refine⟨by simp,λi v v' b c=>?_⟩;rw[Array.getElem?_map]at b c;cases d:a[i]? with
 |none=>rw[d]at b;cases b
 |some x=>
  rw[d]at b c;cases b;cases c;obtain⟨j,rfl⟩:=eS d;exact h _ (Array.all_eq_true.1 k i j)
theorem Dj.parts{e b:Operand->Wx}(h:Dj P ρ e b):∀ (l:List (Nat×Operand)),(∀p∈l,okX P ρ.F p.2=Y)->RPs ρ (l.map (λp=>(p.1,e p.2))) (l.map (λp=>(p.1,b p.2))):=by
 intro l;induction l with
 |nil=>intro _;exact .nil
 |cons p l ih=>intro a;exact .cons p.1 (h _ (a p (List.mem_cons_self ..))) (ih (λq c=>a q (List.mem_cons_of_mem _ c)))
theorem Dj.partsA{e b:Operand->Wx}(h:Dj P ρ e b){a:Array (Nat×Operand)}(d:a.all (λp=>okX P ρ.F p.2)=Y):RPs ρ (a.map (λ(i,x)=>(i,e x))).toList (a.map (λ(i,x)=>(i,b x))).toList:=by
 simp only[Array.toList_map];refine h.parts a.toList (λp c=>?_);have:=Array.all_eq_true.1 d;obtain⟨i,f,rfl⟩:=List.mem_iff_getElem.1 c;simpa using this i (by simpa using f)
theorem vo{e b:Operand->Wx}(h:Dj P ρ e b){o:Option Operand}(f:o.all (okX P ρ.F)=Y):(∀v a,o.map e=J v->o.map b=J a->RV ρ v a)/\(o.map e).isSome=(o.map b).isSome:=by
 cases o with
 |none=>exact⟨λv a h=>by simp at h,rfl⟩
 |some x=>exact⟨λv a c d=>by simp at c d;subst c;subst d;exact h x f,rfl⟩
variable [Two P]
theorem jj(o:GId P ρ){e l:Operand->Wx}(j:Dj P ρ e l)(c:Call)(a:ke P ρ.F c=Y)(t:Ww):RS P (λρ d p=>RD ρ d p) ρ (resolve e c t) (resolve l c t):=by
 unfold resolve;unfold ke at a;rw[bT]at a;have k:=j.all a.2;cases h:c.callee with
 |builtin b=>
  rw[h]at a;have i:=a.1;rw[bT]at i;exact ae (.mk (.builtin _ i.1 _ (by rw[o.prog];exact i.2) _ _) k)
 |value f=>
  rw[h]at a;have m:=j f a.1;exact po m k
 |invoke r n=>rw[h]at a;simp at a
theorem AT(T:bU P)(hE:fY P ρ.F)(hN:cq P)(G:GId P ρ){e R:Operand->Wx}(A:Dj P ρ e R)(af:∀f,e (.func f)=.func (.func f) #[] #[])(ad:∀f,R (.func f)=.func (.func f) #[] #[])(hK:∀x,F2 x=Y->Di (e x)=Y)(o:Oper)(j:gm P ρ.F o.op=Y)(Q:FC o.op=Z):RS P RX1 ρ (execOp e o) (execOp R o):=by
 have l:∀ {x x':Sem Next},RS P RX ρ x x'->RS P RX1 ρ x x':=λh=>h.imp (λ_ _ _ k=>.of k)
 unfold execOp;cases z:o.op with
 |move x=>rw[z]at j;exact ae (.of <| .value (A x j))
 |assign x=>rw[z]at j;exact ae (.of <| .value (A x j))
 |pick c a b=>
  rw[z]at j;simp only[gm,bT]at j;refine ai (r4 (A c j.1.1)) (λL D x=>ae (.of <| .value ?_));cases x
  .exact (A b j.2).mono D
  .exact (A a j.1.2).mono D
 |alloc t=>exact l <|cC (Dx T t)
 |box t x=>rw[z]at j;exact l <|cC (H4 t (A x j))
 |build t ps=>rw[z]at j;exact l <|cC (DJ T t (A.partsA j))
 |buildSlice t n ps=>rw[z]at j;exact l <|cC (qz T t n (A.partsA j))
 |load t a=>rw[z]at j;exact l <|cC (AF t (A a j))
 |store t a x=>rw[z]at j;simp only[gm,bT]at j;exact l <|AP (yn t (A a j.1) (A x j.2))
 |nilCheck x=>
  rw[z]at j;have H:=A x j;have B:=H;simp only;generalize e x=v at H B;generalize R x=v' at H B;cases H with
  |pointer h=>cases h with|none=>exact fp|some h=>exact ae (.of <| .value B)
  |nilIface=>exact fp
  |nilFunc=>exact fp
  |func hf h1 X k1 k2=>cases hf<;>exact ae (.of <| .value B)
  |odd n s a c hn=>
   have hb:=ρ.noM;rw[G.prog,<-hn]at hb;exact .lost (.program (λp hp=>qF hb _ _ _ (.halt rfl))) _
  |dead _ h=>
   cases v' with
   |pointer a=>cases a<;>first|exact ae (.of <| .value B)|(simp[iD]at h;done)
   |func f a c=>cases f<;>first|exact ae (.of <| .value B)|(simp[iD]at h;done)
   |slice a n c=>exact ae (.of <| .value B)
   |map a=>exact ae (.of <| .value B)
   |chan a=>exact ae (.of <| .value B)
   |iface t v=>exact ae (.of <| .value B)
   |float k b=>exact ae (.of <| .value B)
   |complex k a b=>exact ae (.of <| .value B)
   |tuple a=>exact ae (.of <| .value B)
   |_=>simp[iD]at h
  |_=>exact ae (.of <| .value B)
 |binOp op t x y u=>
  rw[z]at j;simp only[gm,bT]at j;have H:=A x j.1.1;have S:=A y j.1.2;refine l <|cC (aj (yu op t x y H S) (λL D _ _ _=>?_))
  refine DI (G.mono D) op t (H.mono D) (S.mono D) (λaa=>?_);have ac:=j.2;have ab:iw (P.underlying t)=Y\/F2 x=Y\/F2 y=Y\/uM P 6 t=true:=by
   rcases aa with rfl|rfl<;>simpa[Jh,Bool.or_eq_true,or_assoc]using ac
  rcases ab with h|h|h|h
  .exact ji _ (G.mono D) t (H.mono D) (S.mono D) (.inl h)
  .refine ji _ (G.mono D) t (H.mono D) (S.mono D) (.inr (.inl ?_));exact hK x h
  .refine ji _ (G.mono D) t (H.mono D) (S.mono D) (.inr (.inr ?_));exact hK y h
  .exact AN _ 6 (G.mono D) t (H.mono D) (S.mono D) h
 |unOp op t x=>rw[z]at j;exact l <|cC (DF op (A x j))
 |convert s d x=>rw[z]at j;simp only[gm,bT]at j;exact l <|cC (yD s d j.1 (A x j.2))
 |makeInterface t x=>rw[z]at j;exact l <|cC (m0 t (A x j))
 |makeFunc f a c=>
  rw[z]at j;cases f with
  |func f=>simp only[gm,bT]at j;exact l <|cC (uR (.func f j.1.1) (A.all j.1.2) (A.all j.2))
  |_=>simp[gm]at j
 |makeChan t x=>rw[z]at j;simp only[gm,bT]at j;exact l <|cC (uS j.1 t (A x j.2))
 |makeSlice t a x=>rw[z]at j;simp only[gm,bT]at j;exact l <|cC (r6 T t (A a j.1) (A x j.2))
 |slice t x lo hi mx=>
  rw[z]at j;simp only[gm,bT]at j;have h1:=vo A j.1.1.2;have X:=vo A j.1.2;have h3:=vo A j.2;exact l <|cC (yr t (A x j.1.1.1) h1.1 X.1 h3.1 h1.2 X.2 h3.2)
 |fieldAddr s x f=>rw[z]at j;exact l <|cC (yq s (A x j) f)
 |field t x f=>rw[z]at j;exact l <|cC (Dy t (A x j) f)
 |indexAddr t x i=>rw[z]at j;simp only[gm,bT]at j;exact l <|cC (yp t (A x j.1) (A i j.2))
 |index t x i=>rw[z]at j;simp only[gm,bT]at j;exact l <|cC (Dz t (A x j.1) (A i j.2))
 |extract x i=>rw[z]at j;exact l <|cC (yo (A x j) i)
 |call c=>
  rw[z]at j;rcases yg j with hc|⟨f,hk,h1,X,h3⟩
  rotate_left
  .have r1:∀ (q:Operand->Wx),q (.func f)=.func (.func f) #[] #[]->(do let d <-resolve q c o.type;invoke d.target d.args:Sem Next)=callFunc f (c.args.map q):=λq hq=>by
    unfold resolve;simp only[hk,hq];show invoke (.fn (.func f) #[]) (#[]++c.args.map q)=_;unfold invoke;simp
   show RS P RX1 ρ (do let d <-resolve e c o.type;invoke d.target d.args) (do let d <-resolve R c o.type;invoke d.target d.args);rw[r1 e (af f),r1 R (ad f)];exact AK G f h1 (hN f) (A.all X) (by rw[Array.size_map];exact h3)
  refine l ?_;exact aj (jj G A c hc o.type) (λL D d d' V=>lr T (by rw[D.F];exact hE) hN (G.mono D) V)
 |go c=>
  rw[z]at j;simp only[gm,bT]at j;refine l ?_;exact aj (jj G A c j.2 o.type) (λL D d d' V=>ae (.spawn (by rw[D.F];exact j.1) V))
 |defer c=>
  rw[z]at j;simp only[gm]at j;rw[bT]at j;refine l ?_;exact aj (jj G A c j.2 o.type) (λL D d d' V=>ae (.defer (by rw[D.F];exact j.1) V))
 |send c x=>rw[z]at Q;cases Q
 |recv t c ok=>rw[z]at Q;cases Q
 |lookup t x i ok=>rw[z]at j;simp only[gm,bT]at j;exact l <|cC (AO T t j.1.1 (A x j.1.2) (A i j.2) ok)
 |mapUpdate t m k x=>rw[z]at j;simp only[gm,bT]at j;exact l <|AP (sa t j.1.1.1 (A m j.1.1.2) (A k j.1.2) (A x j.2))
 |makeMap t r=>
  rw[z]at j;cases r with
  |none=>exact l <|cC (yA t)
  |some _=>simp[gm]at j
 |panic x=>rw[z]at j;exact l <|cC (DL (A x j))
 |_=>rw[z]at j;simp[gm]at j
end
inductive RI (P:Wv)(ρ:Ren):Item->Item->Prop
 |code {c:Code} (h:aI P ρ.F c=Y):RI P ρ (.code c) (.code c)
 |inBlock (id:Nat):RI P ρ (.inBlock id) (.inBlock id)
 |inLoop {c:Code} (h:aI P ρ.F c=Y):RI P ρ (.inLoop c) (.inLoop c)
 |inScope {c:Code} (h:aI P ρ.F c=Y):RI P ρ (.inScope c) (.inScope c)
 |inRegion {ops:Array Oper} (l:List Nat) (h:ops.all (λo=>gm P ρ.F o.op)=Y):RI P ρ (.inRegion ops l) (.inRegion ops l)
 |regionEnd (ops ops':Array Oper):RI P ρ (.inRegion ops []) (.inRegion ops' [])
 |inRangeFunc {l l':Nat} (h:ρ l l'):RI P ρ (.inRangeFunc l) (.inRangeFunc l')
 |endRangeFunc {l l':Nat} (h:ρ l l'):RI P ρ (.endRangeFunc l) (.endRangeFunc l')
 |beginRound:RI P ρ .beginRound .beginRound
inductive RIs (P:Wv)(ρ:Ren):List Item->List Item->Prop
 |nil:RIs P ρ [] []
 |cons {i i':Item} {l l':List Item} (h:RI P ρ i i') (hl:RIs P ρ l l'):RIs P ρ (i::l) (i'::l')
inductive RPn (ρ:Ren):List PanicEntry->List PanicEntry->Prop
 |nil:RPn ρ [] []
 |cons {v v':Wx} (r g:Bool) {l l':List PanicEntry} (h:RV ρ v v') (hl:RPn ρ l l'):RPn ρ ({v,recovered:=r,goexit:=g} :: l) ({v:=v',recovered:=r,goexit:=g} :: l')
inductive RM (ρ:Ren):FrameMode->FrameMode->Prop
 |run:RM ρ .run .run
 |returning:RM ρ .returning .returning
 |panicking {l l':List PanicEntry} (h:RPn ρ l l'):RM ρ (.panicking l) (.panicking l')
structure RFr (P:Wv)(ρ:Ren)(fr fr':Wy):Prop where
 fn:fr.fn=fr'.fn
 tmps:RVs ρ fr.tmps fr'.tmps
 todo:RIs P ρ fr.todo fr'.todo
 defers:RDs ρ fr.defers fr'.defers
 mode:RM ρ fr.mode fr'.mode
 early:(fr.kind == .early)=Z/\(fr'.kind == .early)=Z/\fr'.kind≠.report
 round:RNo ρ fr.roundOf fr'.roundOf
def Kd(X:List Wy×List Wy)(fr fr':Wy)(a:List Wy):Prop:=(a≠X.2\/2<=X.1.length->fr.kind=fr'.kind)/\(a=X.2->fr.roundOf=N)
inductive RFs (P:Wv)(ρ:Ren)(X:List Wy×List Wy):List Wy->List Wy->Prop
 |base:RFs P ρ X X.1 X.2
 |cons {f f':Wy} {l l':List Wy} (h:RFr P ρ f f') (hk:Kd X f f' l') (hl:RFs P ρ X l l'):RFs P ρ X (f::l) (f'::l')
theorem dm{ρ:Ren}:RV ρ Wo Wo:=.tuple rfl (λi v v' e=>by simp at e)
section
variable {P:Wv} {ρ ρ':Ren}
theorem RI.mono(hle:ρ.le ρ'){i i':Item}(h:RI P ρ i i'):RI P ρ' i i':=by
 cases h with
 |code h=>exact .code (by rw[hle.F];exact h)
 |inBlock id=>exact .inBlock id
 |inLoop h=>exact .inLoop (by rw[hle.F];exact h)
 |inScope h=>exact .inScope (by rw[hle.F];exact h)
 |inRegion l h=>exact .inRegion l (by rw[hle.F];exact h)
 |regionEnd a b=>exact .regionEnd a b
 |inRangeFunc h=>exact .inRangeFunc (hle _ _ h)
 |endRangeFunc h=>exact .endRangeFunc (hle _ _ h)
 |beginRound=>exact .beginRound
theorem RIs.mono(hle:ρ.le ρ'){l l':List Item}(h:RIs P ρ l l'):RIs P ρ' l l':=by
 induction h with
 |nil=>exact .nil
 |cons h _ ih=>exact .cons (h.mono hle) ih
theorem RPn.mono(hle:ρ.le ρ'){R l':List PanicEntry}(h:RPn ρ R l'):RPn ρ' R l':=by
 induction h with
 |nil=>exact .nil
 |cons r g h _ ih=>exact .cons r g (h.mono hle) ih
theorem RM.mono(hle:ρ.le ρ'){m m':FrameMode}(h:RM ρ m m'):RM ρ' m m':=by
 cases h with
 |run=>exact .run
 |returning=>exact .returning
 |panicking h=>exact .panicking (h.mono hle)
theorem RFr.mono(hle:ρ.le ρ')(h:RFr P ρ L f'):RFr P ρ' L f':=⟨h.fn,h.tmps.mono hle,h.todo.mono hle,h.defers.mono hle,h.mode.mono hle,h.early,h.round.mono hle⟩
theorem RFs.mono{X:List Wy×List Wy}(hle:ρ.le ρ'){s:List Wy}(h:RFs P ρ X s l'):RFs P ρ' X s l':=by
 induction h with
 |base=>exact .base
 |cons h a _ ih=>exact .cons (h.mono hle) a ih
theorem RVs.getD{f d:Array Wx}(h:RVs ρ f d)(i:Nat):RV ρ (f.getD i Wo) (d.getD i Wo):=by
 rcases h.get i with⟨a,b⟩|⟨v,v',a,b,e⟩
 .simp only[gD,a,b,Option.getD_none];exact dm
 .simp only[gD,a,b,Option.getD_some];exact e
theorem RFr.finish{b:Wy}(h:RFr P ρ f' b){v x:Wx}(i:RV ρ v x):RFr P ρ (f'.finish v) (b.finish x):=by
 unfold Frame.finish;have c:=h.todo;generalize hx:f'.todo=td at c;generalize hx':b.todo=td' at c;cases c with
 |nil=>exact h
 |cons m a=>
  cases m with
  |inRegion l e=>
   cases l with
   |nil=>exact h
   |cons j l=>
    refine⟨h.fn,?_,.cons (.inRegion l e) a,h.defers,h.mode,h.early,h.round⟩;dsimp only;split
    .exact h.tmps.set _ i
    .exact h.tmps
  |inRangeFunc k=>exact⟨h.fn,h.tmps,.cons (.endRangeFunc k) a,h.defers,h.mode,h.early,h.round⟩
  |beginRound=>exact⟨h.fn,h.tmps,a,h.defers,h.mode,h.early,h.round⟩
  |_=>exact h
variable [Two P]
theorem RFr.env(d:GId P ρ){f b:Wy}(h:RFr P ρ f b):Dj P ρ f.eval b.eval:=by
 intro x a;cases x with
 |tmp t=>exact h.tmps.getD t
 |const v=>exact AS a
 |global g=>exact .pointer (.some ⟨d.glob g (of_decide_eq_true a),rfl,rfl⟩)
 |func f=>exact .func (.func f a) rfl rfl (λi v c e=>by simp at e) (λi v c e=>by simp at e)
theorem RFr.enter(n:GId P ρ)(f:FuncId)(o:ρ.F f=Y)(k:CallKind)(l:(k == .early)=Z)(d:k≠.report){a j:Array Wx}(h:RVs ρ a j):RFr P ρ (Frame.enter P f a k) (Frame.enter P f j k):=by
 refine⟨rfl,?_,.cons (.code ?_) .nil,.nil,.run,⟨l,l,d⟩,.none⟩
 .show RVs ρ (a++Array.replicate _ Wo) (j++Array.replicate _ Wo);rw[h.size];refine h.append (RVs.self (λi v e=>?_));rw[Array.getElem?_replicate]at e;split at e
  .cases e;exact dm
  .cases e
 .cases m:P.funcs[f]? with
  |none=>rfl
  |some fn=>
   cases c:fn.body with
   |none=>simp[c,aI]
   |some b=>simpa[c]using n.code f fn b o m c
theorem sg(b:GId P ρ)(f:FuncId)(c:ρ.F f=Y)(k:CallKind)(a:Array Wx):Frame.enter P.alt f a k=Frame.enter P f a k:=by
 unfold Frame.enter;rw[b.alt f c]
end
theorem RFs.len{P:Wv}{ρ:Ren}{X:List Wy×List Wy}{a:List Wy}(h:RFs P ρ X l' a):X.2.length<=a.length:=by
 induction h with
 |base=>exact lR _
 |cons _ _ _ ih=>simp only[lC];omega
theorem RFs.ne{P:Wv}{ρ:Ren}{X:List Wy×List Wy}{a:List Wy}{b:Wy}(h:RFs P ρ X l' a):b::a≠X.2:=λe=>by
 have:=h.len;rw[<-e]at this;simp at this;omega
theorem AU(a:Wy):∀x,F2 x=Y->Di (a.eval x)=true:=λx h=>by
 cases x with
 |const v=>exact h
 |_=>simp[F2]at h
inductive Shp where
 |go (g:Wk)
 |comm (g:Wk) (cs:Array CommCase) (b:Bool) (s:CommShape)
 |spawn (g k:Wk)
def Shp.mk:Shp->Wj->Array Event->GStep
 | .go g,w,es=>.go g w es
 | .comm g cs b s,w,es=>.comm g cs b s w es
 | .spawn g k,w,es=>.spawn g k w es
def Shp.ok:Shp->Prop
 | .go g=>g.dying=N
 |_=>True
theorem Shp.mk_inj{x y:Shp}{w w':Wj}{es a:Array Event}(h:x.mk w es=y.mk w' a):x=y/\w=w'/\es=a:=by
 cases x<;>cases y<;>simp[Shp.mk]at h<;>have⟨h1,h2⟩:=h<;>simp_all
theorem Shp.mk_after(x:Shp)(w:Wj)(a es:Array Event):GStep.after a (x.mk w es)=x.mk w (a++es):=by cases x<;>rfl
def uJ(w:Wj)(f:Wj->GStep):Prop:=
 ∀x w' es,Shp.ok x->f w=x.mk w' es->w'.tape=w.tape/\w.drawn<=w'.drawn/\∀a d,Like w w' a d->f (w.on a d)=x.mk (w'.on a (d+(w'.drawn-w.drawn))) es
theorem lu(w:Wj)(x:Shp)(es:Array Event):uJ w (λu=>x.mk u es):=by
 intro y w' es' _ h;obtain⟨rfl,rfl,rfl⟩:=Shp.mk_inj h;exact⟨rfl,lR _,λτ d _=>by simp⟩
theorem cT(w:Wj)(g:Wk)(es:Array Event):uJ w (λu=>.go g u es):=lu w (.go g) es
def noShp(x:GStep):Prop:=∀y w' es,Shp.ok y->x≠Shp.mk y w' es
theorem jH(w:Wj)(f:Wj->GStep)(h:noShp (f w)):uJ w f:=λx w' es a e=>absurd e (h x w' es a)
theorem AV{a:Array Event}{x:Shp}{w':Wj}{es:Array Event}(h:GStep.after a x'=x.mk w' es):∃b,x'=x.mk w' b/\es=a++b:=by
 cases x'<;>cases x<;>simp[GStep.after,Shp.mk]at h ⊢
 all_goals
  first
  |(obtain⟨rfl,rfl,rfl⟩:=h;exact⟨_,⟨rfl,rfl,rfl⟩,rfl⟩)
  |(obtain⟨rfl,rfl,rfl,rfl⟩:=h;exact⟨_,⟨rfl,rfl,rfl,rfl⟩,rfl⟩)
  |(obtain⟨rfl,rfl,rfl,rfl,rfl,rfl⟩:=h;exact⟨_,⟨rfl,rfl,rfl,rfl,rfl,rfl⟩,rfl⟩)
theorem aQ{w:Wj}{ga:Wj->GStep}(a:Array Event)(h:uJ w ga):uJ w (λu=>GStep.after a (ga u)):=by
 intro x w' es b e;obtain⟨es',l,rfl⟩:=AV e;obtain⟨c,i,j⟩:=h _ _ _ b l;exact⟨c,i,λm d k=>by simp only[j m d k,Shp.mk_after]⟩
theorem si{w u w':Wj}{a:Nat->Question->Nat}(b:Like w w' a d)(h:u.drawn<=w'.drawn):Like w u a d:=λi hi=>b i (by omega)
theorem pu{w u w':Wj}{a:Nat->Question->Nat}(c:Like w w' a r)(b:u.tape=w.tape)(h:w.drawn<=u.drawn):Like u w' a (r+(u.drawn-w.drawn)):=λi hi=>by
 have:=c (u.drawn-w.drawn+i) (by omega);rw[show r+(u.drawn-w.drawn)+i=r+(u.drawn-w.drawn+i)by omega,this,b,show w.drawn+(u.drawn-w.drawn+i)=u.drawn+i by omega]
theorem fM(p:Wv)(f:FuncId):seen p f #[]=#[]:=rfl
theorem cG(x:GStep):GStep.after #[] x=x:=by cases x<;>simp[GStep.after]
theorem DM{p:Wv}{b:List Wy}{c:Option Dying}{s':Sem Next}{w u:Wj}{a:Next}{es:Array Event}(h:s'.runT p w #[]=(.ok a u,es)):
  stepG.apply p Y f' b c s' w=GStep.after (seen p f'.fn (if f'.kind == .early then #[]else es)) (stepG.apply p Y f' b c (.pure a) u):=by
 unfold stepG.apply;simp only[if_true,h,Sem.runT];have e:seen p f'.fn (if f'.kind == .early then #[]else #[])=#[]:=by split<;>exact fM _ _
 rw[e,cG]
def sj(a:Halt)(es:Array Event):Array Event:=
 match a with
 | .blocked=>#[]
 | .waiting=>#[]
 | .unsupported (.initOrder _)=>#[]
 |_=>es
theorem yE{p:Wv}{b:List Wy}{c:Option Dying}{s':Sem Next}{w u:Wj}{a:Halt}{es:Array Event}(h:s'.runT p w #[]=(.halt a u,es)):
  stepG.apply p Y f' b c s' w=GStep.after (seen p f'.fn (if f'.kind == .early then #[]else sj a es)) (stepG.apply p Y f' b c (.halt a) u):=by
 have e:seen p f'.fn (if f'.kind == .early then #[]else #[])=#[]:=by split<;>exact fM _ _
 unfold stepG.apply;simp only[if_true,h,Sem.runT];cases a with
 |unsupported x=>cases x<;>simp only[sj,e,cG]
 |_=>simp only[sj,e,cG]
theorem ec{p:Wv}{f:FuncId}{es:Array Event}{e:Event}(h:e∈seen p f es):e∈es:=by
 unfold seen at h;simp only[<-Array.foldl_toList]at h;have b:∀ (l:List Event) (q:Bool) (a:Array Event),e∈(l.foldl (λ(x:Bool×Array Event) e=>match e.loc with
   | .mark (.extern f)=>((p.funcs[f]?).any (·.norace),x.2)
   |_=>(x.1,if x.1 && !e.sync then x.2 else x.2.push e)) (q,a)).2->e∈a\/e∈l:=by
  intro l;induction l with
  |nil=>intro q a h;exact .inl h
  |cons y l ih=>
   intro q a h;simp only[List.foldl_cons]at h;split at h
   .rcases ih _ _ h with h|h
    .exact .inl h
    .exact .inr (List.mem_cons_of_mem _ h)
   .rcases ih _ _ h with h|h
    .split at h
     .exact .inl h
     .rcases Array.mem_push.1 h with h|h
      .exact .inl h
      .exact .inr (h▸List.mem_cons_self ..)
    .exact .inr (List.mem_cons_of_mem _ h)
 rcases b _ _ _ h with h|h
 .simp at h
 .simpa using h
structure Reach (ρ ρ':Ren)(w w' u u':Wj):Prop where
 le:ρ.le ρ'
 chs:Chs ρ w w' u u'
 sim:bN ρ' u u'
 keep:Keep ρ w' u'
 new:∀a b,ρ' a b->ρ a b\/(w.heap.size<=a/\w'.heap.size<=b)
 drawn:u'.drawn+w.drawn=w'.drawn+u.drawn
 tape:u.tape=w.tape
 low:w.drawn<=u.drawn
 grow:w.heap.size<=u.heap.size
theorem Reach.trans{ρ ρ' c:Ren}{w w' u z u' v':Wj}(h:Reach ρ ρ' w w' u z)(k:Reach ρ' c u z u' v'):Reach ρ c w w' u' v':=by
 refine⟨Ren.le_trans h.le k.le,h.chs.trans h.le k.chs,k.sim,h.keep.trans k.keep h.le.old (λa b d=>(h.new a b d).imp id (·.2)),λa b d=>?_,by have:=h.drawn;have:=k.drawn;omega,k.tape.trans h.tape,lT h.low k.low,lT h.grow k.grow⟩;rcases k.new a b d with x|⟨x,y⟩
 .exact h.new a b x
 .have:=h.keep.size;have:=h.grow;exact .inr ⟨by omega,by omega⟩
structure RGo (P:Wv)(ρ:Ren)(X:List Wy×List Wy)(g g':Wk):Prop where
 frame:RFr P ρ g.frame g'.frame
 callers:RFs P ρ X g.callers g'.callers
 kind:Kd X g.frame g'.frame g'.callers
 status:g.status=.running/\g'.status=.running
 dying:g.dying=N/\g'.dying=N
 offers:g.offers=N/\g'.offers=N
def sk(g:Wk):Prop:=∃d f,g.dying=J d/\d.calling=Z/\d.fatal=J f
def Lost:GStep->Prop
 | .ended _ _ _=>True
 | .go g _ _=>sk g/\g.status=.running
 |_=>False
theorem Lost.noShp{x:GStep}(h:Lost x):noShp x:=λy w' es b e=>by
 subst e;cases y with
 |go g=>obtain⟨⟨d,f,a,-⟩,-⟩:=h;rw[show g.dying=N from b]at a;cases a
 |_=>exact h
theorem Lost.after{x:GStep}(h:Lost x)(a:Array Event):Lost (GStep.after a x):=by cases x<;>exact h
def AtC(P:Wv)(g:Wk)(c:CommCase)(s:CommShape):Prop:=∀m v,stepG P m g v=.comm g #[c] Y s v #[]
inductive dr (P:Wv) [Two P](ρ:Ren)(X:List Wy×List Wy)(w w':Wj):GStep->GStep->Prop
 |go {g g':Wk} {u u':Wj} (es:Array Event) {es':Array Event} (ρ':Ren) (R:Reach ρ ρ' w w' u u') (h:RGo P ρ' X g g') (he:∀e∈es',jg ρ' e):dr P ρ X w w' (.go g u es) (.go g' u' es')
 |comm {g g':Wk} {c c':CommCase} (hC:(c.send.isSome=Y->ρ.F gq=Y)/\(c.send=N->ρ.F Hx=Y)) (s:CommShape) (hs:(c.send.isSome=Y/\s=.send)\/(c.send=N/\∃ok,s=.recv ok)) (hrun:g.status=.running/\g'.status=.running) {u u':Wj} (es:Array Event) {es':Array Event} (ρ':Ren) (R:Reach ρ ρ' w w' u u') (h:RGo P ρ' X g g') (hc:RC ρ' c c') (he:∀e∈es',jg ρ' e) (ha:AtC P g c s/\AtC P.alt g c s/\AtC P g' c' s):dr P ρ X w w' (.comm g #[c] Y s u es) (.comm g' #[c'] Y s u' es')
 |spawn (hC:ρ.F mz=Y) {g g' k k':Wk} {u u':Wj} (es:Array Event) {es':Array Event} (ρ':Ren) (R:Reach ρ ρ' w w' u u') (h:RGo P ρ' X g g') (hk:RGo P ρ' ([],[]) k k') (he:∀e∈es',jg ρ' e):dr P ρ X w w' (.spawn g k u es) (.spawn g' k' u' es')
theorem dr.after{P:Wv} [Two P]{ρ:Ren}{X:List Wy×List Wy}{w w':Wj}{x k:GStep}(h:dr P ρ X w w' x k)(a:Array Event){E':Array Event}(m:∀ρ',ρ.le ρ'->∀e∈E',jg ρ' e):dr P ρ X w w' (GStep.after a x) (GStep.after E' k):=by
 have j:∀ (ρ':Ren),ρ.le ρ'->∀ (c:Array Event),(∀e∈c,jg ρ' e)->∀e∈E'++c,jg ρ' e:=λρ' l c h e b=>by
  rcases Array.mem_append.1 b with i|i
  .exact m ρ' l e i
  .exact h e i
 cases h with
 |go es ρ' R h b=>exact .go _ ρ' R h (j ρ' R.le _ b)
 |comm f s p d es ρ' R h q b o=>exact .comm f s p d _ ρ' R h q (j ρ' R.le _ b) o
 |spawn f es ρ' R h n b=>exact .spawn f _ ρ' R h n (j ρ' R.le _ b)
structure Apart (P:Wv) [Two P](ρ:Ren)(X:List Wy×List Wy)(w w':Wj)(f:FuncId)(ρ':Ren)(a a':Array Wx)(fr fr':Wy)(cs cs':List Wy)(u u':Wj)(es es':Array Event)(x xa x':GStep):Prop where
 mark:Mk ρ.F f=Y
 reach:Reach ρ ρ' w w' u u'
 args:RVs ρ' a a'/\a.size=2
 frame:RFr P ρ' fr fr'
 callers:RFs P ρ' X cs cs'
 kind:Kd X fr fr' cs'
 ev:∀e∈es',jg ρ' e
 here:x=.go {frame:=Frame.enter P f a .normal,callers:=fr::cs,status:=.running,dying:=N} u es
 other:xa=.go {frame:=Frame.enter P.alt f a .normal,callers:=fr::cs,status:=.running,dying:=N} u es
 there:x'=.go {frame:=Frame.enter P f a' .normal,callers:=fr'::cs',status:=.running,dying:=N} u' es'
def SR(P:Wv) [Two P](ρ:Ren)(X:List Wy×List Wy)(w w':Wj)(x b x':GStep):Prop:=(Lost x/\Lost b)\/(b=x/\dr P ρ X w w' x x')\/∃f ρ' a i j c cs d u h es e,Apart P ρ X w w' f ρ' a i j c cs d u h es e x b x'
structure SF (P:Wv) [Two P](ρ:Ren)(X:List Wy×List Wy)(w w':Wj)(f fa:Wj->GStep)(x':GStep):Prop where
 mir:uJ w f
 rel:SR P ρ X w w' (f w) (fa w) x'
theorem Reach.refl{ρ:Ren}{w w':Wj}(S:bN ρ w w'):Reach ρ ρ w w' w w':=⟨Ren.le_refl _,Chs.refl _ _ _,S,Keep.refl _ _,λ_a _b h=>.inl h,rfl,rfl,lR _,lR _⟩
def Same(w w':Wj):Prop:=∀i,w'.tape (w'.drawn+i)=w.tape (w.drawn+i)
theorem Same.draws{w w':Wj}(h:Same w w')(u:Wj):Draws w w' u:=λi _=>h i
theorem dr.trans{P:Wv} [Two P]{ρ ρ':Ren}{X:List Wy×List Wy}{w w' u e:Wj}(R:Reach ρ ρ' w w' u e){x x':GStep}(h:dr P ρ' X u e x x'):dr P ρ X w w' x x':=by
 cases h with
 |go es a R2 h c=>exact .go es a (R.trans R2) h c
 |comm d s j b es a R2 h k c i=>exact .comm (by rw[<-R.le.F];exact d) s j b es a (R.trans R2) h k c i
 |spawn d es a R2 h f c=>exact .spawn (by rw[<-R.le.F];exact d) es a (R.trans R2) h f c
theorem SR.trans{P:Wv} [Two P]{ρ ρ':Ren}{X:List Wy×List Wy}{w w' u j:Wj}(R:Reach ρ ρ' w w' u j){x i x':GStep}(h:SR P ρ' X u j x i x'):SR P ρ X w w' x i x':=by
 rcases h with h|⟨n,l⟩|⟨f,c,a,m,o,d,cs,b,v,k,es,e,A⟩
 .exact .inl h
 .exact .inr (.inl ⟨n,l.trans R⟩)
 .exact .inr (.inr ⟨f,c,a,m,o,d,cs,b,v,k,es,e,⟨by rw[<-R.le.F];exact A.mark,R.trans A.reach,A.args,A.frame,A.callers,A.kind,A.ev,A.here,A.other,A.there⟩⟩)
theorem SR.after{P:Wv} [Two P]{ρ:Ren}{X:List Wy×List Wy}{w w':Wj}{x n o:GStep}(h:SR P ρ X w w' x n o)(b:Array Event){E':Array Event}(m:∀ρ',ρ.le ρ'->∀e∈E',jg ρ' e):SR P ρ X w w' (GStep.after b x) (GStep.after b n) (GStep.after E' o):=by
 rcases h with⟨j,d⟩|⟨j,d⟩|⟨f,c,a,r,s,k,cs,i,v,q,es,l,A⟩
 .exact .inl ⟨j.after _,d.after _⟩
 .exact .inr (.inl ⟨by rw[j],d.after _ m⟩)
 .refine .inr (.inr ⟨f,c,a,r,s,k,cs,i,v,q,b++es,E'++l,⟨A.mark,A.reach,A.args,A.frame,A.callers,A.kind,λe p=>?_,by rw[A.here];rfl,by rw[A.other];rfl,by rw[A.there];rfl⟩⟩);rcases Array.mem_append.1 p with h|h
  .exact m c A.reach.le e h
  .exact A.ev e h
theorem Reach.same{ρ ρ':Ren}{w w' u u':Wj}(R:Reach ρ ρ' w w' u u')(h:Same w w'):Same u u':=λi=>by
 have a:=h (u.drawn-w.drawn+i);have h2:=R.drawn;have h3:=R.low;rw[R.keep.tape,R.tape,show u'.drawn+i=w'.drawn+(u.drawn-w.drawn+i)by omega,a,show w.drawn+(u.drawn-w.drawn+i)=u.drawn+i by omega]
section
variable {P:Wv} [Two P] {ρ:Ren} {X:List Wy×List Wy} {w w':Wj}
theorem DN{g g':Wk}(h:RGo P ρ X g g')(S:bN ρ w w'):SF P ρ X w w' (λu=>.go g u) (λu=>.go g u) (.go g' w'):=
 ⟨cT _ _ _,.inr (.inl ⟨rfl,.go _ ρ (Reach.refl S) h (λe a=>by simp at a)⟩)⟩
theorem jA{ga a:Wj->GStep}(h:Lost (ga w))(b:Lost (a w)):SF P ρ X w w' ga a x':=⟨jH _ _ h.noShp,.inl ⟨h,b⟩⟩
theorem gW{fa a g ga:Wj->GStep}{b:GStep}(h:SF P ρ X w w' g ga b)(e:∀u,fa u=g u)(d:∀u,a u=ga u)(c:x'=b):SF P ρ X w w' fa a x':=by
 have i:fa=g:=funext e;have j:a=ga:=funext d;subst i;subst j;subst c;exact h
theorem oa{α:Type}{Q:Ren->α->β->Prop}{s:Sem α}{L:Sem β}(hs:RS P Q ρ s L)(S:bN ρ w w')(hd:Same w w'){F Fa:Result α->Array Event->GStep}{F':Result β->Array Event->GStep}
  (m:∀h u es,eO h=Y->Lost (F (.halt h u) es)/\Lost (Fa (.halt h u) es))
  (al:∀ρ' u n a b es k,Reach ρ ρ' w w' u n->Q ρ' a b->(∀e∈k,jg ρ' e)->uJ u (λu=>F (.ok a u) es)/\SR P ρ X w w' (F (.ok a u) es) (Fa (.ok a u) es) (F' (.ok b n) k))
  (H:∀ρ' u n v v' es k,Reach ρ ρ' w w' u n->RV ρ' v v'->(∀e∈k,jg ρ' e)->uJ u (λu=>F (.halt (.panic v) u) es)/\SR P ρ X w w' (F (.halt (.panic v) u) es) (Fa (.halt (.panic v) u) es) (F' (.halt (.panic v') n) k)):
  SF P ρ X w w' (λu=>F (s.runT P u #[]).1 (s.runT P u #[]).2) (λu=>Fa (s.runT P.alt u #[]).1 (s.runT P.alt u #[]).2) (F' (L.runT P w' #[]).1 (L.runT P w' #[]).2):=by
 obtain⟨B,aa⟩:=qx hs w w' #[] #[] S (hd.draws _);rcases aa with⟨⟨h,u,o,hn⟩,⟨ha,ua,ad,ab⟩⟩|⟨halt,ρ',l,S',hR,f,i,D,j,G,c⟩
 .refine jA ?_ ?_
  .simp only[o];exact(m h u _ hn).1
  .simp only[ad];exact(m ha ua _ ab).2
 .obtain ⟨E0,af,ap⟩:=j;have p:∀e∈(L.runT P w' #[]).2,jg ρ' e:=λe he=>by rw[af]at he;exact ap e (by simpa using he)
  cases o:s.runT P w #[]with
  |mk r es=>
   cases ac:L.runT P w' #[]with
   |mk r' k=>
    rw[o]at hR S' D halt G c;rw[ac]at hR S' D f p c;simp only at hR S' D f p G c;have T:uJ w (λu=>F (s.runT P u #[]).1 (s.runT P u #[]).2)/\SR P ρ X w w' (F r es) (Fa r es) (F' r' k):=by
     cases hR with
     | @ok a b u n h=>
      have R:Reach ρ ρ' w w' u n:=⟨l,c,S',f,i,D,by have:=B.1;rw[o]at this;exact this,by have:=B.2.1;rw[o]at this;exact this,G⟩;have⟨k1,k2⟩:=al ρ' u n a b es k R h p;refine⟨?_,k2⟩;intro x v A hx e;replace e:F (s.runT P w #[]).1 (s.runT P w #[]).2=x.mk v A:=e;obtain⟨q,t,z⟩:=B;rw[o]at e q t z;simp only[Result.w,Result.on]at e q t z;obtain⟨q1,q2,q3⟩:=k1 _ _ _ hx e;refine⟨q1.trans q,by omega,λτ d V=>?_⟩;have y:=z τ d (si V q2);simp only[y];have:=q3 τ (d+(u.drawn-w.drawn)) (pu V q t);simp only at this;rw[this];congr 2;omega
     | @halt a b u n h=>
      have R:Reach ρ ρ' w w' u n:=⟨l,c,S',f,i,D,by have:=B.1;rw[o]at this;exact this,by have:=B.2.1;rw[o]at this;exact this,G⟩;cases h with
      |panic hv=>
       obtain⟨k1,k2⟩:=H ρ' u n _ _ es k R hv p;refine⟨?_,k2⟩;intro x v A hx e;replace e:F (s.runT P w #[]).1 (s.runT P w #[]).2=x.mk v A:=e;obtain⟨q,t,z⟩:=B;rw[o]at e q t z;simp only[Result.w,Result.on]at e q t z;obtain⟨q1,q2,q3⟩:=k1 _ _ _ hx e;refine⟨q1.trans q,by omega,λτ d V=>?_⟩;have y:=z τ d (si V q2);simp only[y];have:=q3 τ (d+(u.drawn-w.drawn)) (pu V q t);simp only at this;rw[this];congr 2;omega
    refine⟨T.1,?_⟩;simp only[o,halt];exact T.2
theorem Ga{α:Type}{Q:Ren->α->β->Prop}{s:Sem α}{L:Sem β}(hs:RS P Q ρ s L)(S:bN ρ w w')(hd:Same w w'){ga fa:Wj->GStep}
  (o:∀h u es,eO h=Y->(s.runT P w #[]=(.halt h u,es)->Lost (ga w))/\(s.runT P.alt w #[]=(.halt h u,es)->Lost (fa w)))
  (af:∀ρ' u p a b es m,Reach ρ ρ' w w' u p->Q ρ' a b->(∀e∈m,jg ρ' e)->L.runT P w' #[]=(.ok b p,m) ->
   ∃x c,(∀z v,s.runT P z #[]=(.ok a v,es)->ga z=Shp.mk x v c)/\(∀z v,s.runT P.alt z #[]=(.ok a v,es)->fa z=Shp.mk x v c)/\dr P ρ X w w' (Shp.mk x u c) x')
  (T:∀ρ' u p v v' es m,Reach ρ ρ' w w' u p->RV ρ' v v'->(∀e∈m,jg ρ' e)->L.runT P w' #[]=(.halt (.panic v') p,m) ->
   ∃x c,(∀z q,s.runT P z #[]=(.halt (.panic v) q,es)->ga z=Shp.mk x q c)/\(∀z q,s.runT P.alt z #[]=(.halt (.panic v) q,es)->fa z=Shp.mk x q c)/\dr P ρ X w w' (Shp.mk x u c) x'):
  SF P ρ X w w' ga fa x':=by
 obtain⟨H,aa⟩:=qx hs w w' #[] #[] S (hd.draws _);rcases aa with⟨⟨h,u,n,hn⟩,⟨ha,ua,ac,ab⟩⟩|⟨halt,ρ',l,S',hR,j,k,D,c,G,i⟩
 .refine jA ((o h u (s.runT P w #[]).2 hn).1 ?_) ((o ha ua (s.runT P.alt w #[]).2 ab).2 ?_)
  .rw [<-n]
  .rw [<-ac]
 .obtain ⟨E0,ad,al⟩:=c;have t:∀e∈(L.runT P w' #[]).2,jg ρ' e:=λe he=>by rw[ad]at he;exact al e (by simpa using he)
  cases n:s.runT P w #[]with
  |mk r es=>
   cases B:L.runT P w' #[]with
   |mk r' m=>
    rw[n]at hR S' D halt G i;rw[B]at hR S' D j t i;simp only at hR S' D j t G i;have V:∀ (x:Shp) (c:Array Event) (u:Wj),r.w=u->ga w=x.mk u c->(∀F d,Like w u F d->ga (w.on F d)=x.mk (u.on F (d+(u.drawn-w.drawn))) c)->uJ w ga:=by
     intro x c u hu h1 h2 y v es2 hy e;rw[h1]at e;obtain⟨rfl,rfl,rfl⟩:=Shp.mk_inj e;have k1:=H.1;have k2:=H.2.1;rw[n]at k1 k2;simp only[hu]at k1 k2;exact⟨k1,k2,h2⟩
    have m3:=H.2.2;rw[n]at m3;cases hR with
    | @ok a b u p h=>
     have R:Reach ρ ρ' w w' u p:=⟨l,i,S',j,k,D,by have:=H.1;rw[n]at this;exact this,by have:=H.2.1;rw[n]at this;exact this,G⟩;have⟨x,c,A,q2,q3⟩:=af ρ' u p a b es m R h t B;refine⟨V x c u rfl (A w u n) (λF d hl=>A _ _ (m3 F d hl)),.inr (.inl ⟨?_,?_⟩)⟩
     .rw [A w u n,q2 w u halt]
     .rw [A w u n];exact q3
    | @halt a b u p h=>
     have R:Reach ρ ρ' w w' u p:=⟨l,i,S',j,k,D,by have:=H.1;rw[n]at this;exact this,by have:=H.2.1;rw[n]at this;exact this,G⟩;cases h with
     |panic hv=>
      obtain⟨x,c,A,q2,q3⟩:=T ρ' u p _ _ es m R hv t B;refine⟨V x c u rfl (A w u n) (λF d hl=>A _ _ (m3 F d hl)),.inr (.inl ⟨?_,?_⟩)⟩
      .rw [A w u n,q2 w u halt]
      .rw [A w u n];exact q3
end
theorem oc(f:Wy)(v:Wx):(f.finish v).kind=f.kind:=by
 unfold Frame.finish;split<;>rfl
theorem pv(f:Wy)(c:List PanicEntry):(f.raise c).kind=f.kind:=by
 unfold Frame.raise;split<;>rfl
theorem sp(f:Wy)(v:Wx):(f.finish v).roundOf=f.roundOf:=by
 unfold Frame.finish;split<;>rfl
theorem vp(f:Wy)(c:List PanicEntry):(f.raise c).roundOf=f.roundOf:=by
 unfold Frame.raise;split<;>rfl
theorem Kd.finish{X:List Wy×List Wy}{a:Wy}(h:Kd X f' a l)(v b:Wx):Kd X (f'.finish v) (a.finish b) l:=⟨λk=>by rw[oc,oc];exact h.1 k,λk=>by rw[sp];exact h.2 k⟩
theorem Kd.raise{X:List Wy×List Wy}{a:Wy}(h:Kd X f' a l)(c b:List PanicEntry):Kd X (f'.raise c) (a.raise b) l:=⟨λk=>by rw[pv,pv];exact h.1 k,λk=>by rw[vp];exact h.2 k⟩
theorem Kd.push{P:Wv}{ρ:Ren}{X:List Wy×List Wy}{a g:Wy}{b:List Wy}(c:RFs P ρ X l' b)(h:f'.kind=a.kind):Kd X f' a (g::b):=⟨λ_=>h,λk=>absurd k c.ne⟩
section
variable {P:Wv} {ρ:Ren} {X:List Wy×List Wy} {w w':Wj}
theorem RPn.append{R b k a:List PanicEntry}(h:RPn ρ R b)(c:RPn ρ k a):RPn ρ (R++k) (b++a):=by
 induction h with
 |nil=>exact c
 |cons r g h _ ih=>exact .cons r g h ih
theorem RFr.raise{a:Wy}(h:RFr P ρ f' a){R S:List PanicEntry}(b:RPn ρ R S):RFr P ρ (f'.raise R) (a.raise S):=by
 unfold Frame.raise;have d:=h.mode;cases i:f'.mode<;>cases k:a.mode<;>rw[i,k]at d<;>cases d
 .exact ⟨h.fn,h.tmps,h.todo,h.defers,.panicking b,h.early,h.round⟩
 .exact ⟨h.fn,h.tmps,h.todo,h.defers,.panicking b,h.early,h.round⟩
 .rename_i j;exact⟨h.fn,h.tmps,h.todo,h.defers,.panicking (b.append j),h.early,h.round⟩
theorem RFr.raise1{a:Wy}(h:RFr P ρ f' a){v b:Wx}(c:RV ρ v b):RFr P ρ (f'.raise [{v,recovered:=Z}]) (a.raise [{v:=b,recovered:=Z}]):=h.raise (.cons _ _ c .nil)
theorem RIs.no_call{l a:List Item}(h:RIs P ρ l a):(∀d b r s k,l≠.call d b r s::k)/\(∀d b r s k,a≠.call d b r s::k):=by
 cases h with
 |nil=>exact⟨λ_ _ _ _ _ e=>by simp at e,λ_ _ _ _ _ e=>by simp at e⟩
 |cons h _=>cases h<;>exact⟨λ_ _ _ _ _ e=>by simp at e,λ_ _ _ _ _ e=>by simp at e⟩
theorem yF [Two P](c:GId P ρ)(f:FuncId):(P.alt.funcs[f]?).any (·.norace)=(P.funcs[f]?).any (·.norace):=by
 have h:=c.same f;generalize P.alt.funcs[f]?=a at h;generalize P.funcs[f]?=b at h;cases a<;>cases b<;>simp[strip]at h ⊢
 exact h.2.2.2.2.2.2.2.2.2.1
theorem dR [Two P](a:GId P ρ)(f:FuncId)(es:Array Event):seen P.alt f es=seen P f es:=by
 unfold seen;simp only[yF a]
theorem vq(h:RFr P ρ L f'):Frame.noResult P L=Frame.noResult P f':=by
 have a:=h.todo;unfold Frame.noResult Frame.oper?;generalize L.todo=td at a;generalize f'.todo=td' at a;cases a with
 |nil=>rfl
 |cons b hk=>
  cases b with
  |inRegion l h=>cases l<;>rfl
  |_=>rfl
def kj(p:Wv)(fr:Wy)(cs:List Wy):Result Next->Array Event->GStep
 | .ok a u,es=>GStep.after (seen p fr.fn es) (stepG.apply p Y fr cs N (.pure a) u)
 | .halt a u,es=>GStep.after (seen p fr.fn (sj a es)) (stepG.apply p Y fr cs N (.halt a) u)
theorem np(p:Wv)(b:Wy)(d:(b.kind == .early)=Z)(cs:List Wy)(s:Sem Next)(u:Wj):stepG.apply p Y b cs N s u=kj p b cs (s.runT p u #[]).1 (s.runT p u #[]).2:=by
 cases c:s.runT p u #[]with
 |mk r es=>
  cases r with
  |ok a v=>rw[DM c];simp only[d,kj];rfl
  |halt a v=>rw[yE c];simp only[d,kj];rfl
theorem gX(p:Wv)(c:Wy)(cs:List Wy)(f:FuncId)(a:Array Wx)(u:Wj)(h:∀d b r s k,c.todo≠.call d b r s::k):stepG.apply p Y c cs N (.pure (.enter f a)) u=.go {frame:=Frame.enter p f a .normal,callers:=c::cs,status:=.running,dying:=N} u:=by
 have i:∀ (p:Wv) (f:FuncId) (k:CallKind),seen p f (if k == .early then #[]else #[])=#[]:=λp f k=>by split<;>exact fM _ _
 simp only[stepG.apply,Sem.runT,if_true,i,cG];split
 .rename_i d r s k e;exact absurd e (h d Y r s k)
 .rfl
variable [Two P]
theorem qG(hI:GId P ρ){ρ':Ren}{u u':Wj}(R:Reach ρ ρ' w w' u u')(hf:RFr P ρ' fr fr'){cs:List Wy}(hc:RFs P ρ' X cs cs')(hkd:Kd X fr fr' cs'){a b:Next}(h:RX ρ' a b)(E:Array Event){E':Array Event}(hE:∀e∈E',jg ρ' e):
  uJ u (λu=>GStep.after E (stepG.apply P Y fr cs N (.pure a) u))/\SR P ρ X w w' (GStep.after E (stepG.apply P Y fr cs N (.pure a) u)) (GStep.after E (stepG.apply P.alt Y fr cs N (.pure a) u)) (GStep.after E' (stepG.apply P Y fr' cs' N (.pure b) u')):=by
 have hI':=hI.mono R.le;have ev:∀e∈E'++#[],jg ρ' e:=by simpa using hE
 have sn:∀ (p:Wv) (f:FuncId) (k:CallKind),seen p f (if k == .early then #[]else #[])=#[]:=λp f k=>by split<;>exact fM _ _
 cases h with
 |value hv=>
  simp only[stepG.apply,Sem.runT,if_true,sn,cG];exact⟨aQ _ (cT _ _ _),.inr (.inl ⟨rfl,.go _ ρ' R ⟨hf.finish hv,hc,hkd.finish _ _,⟨rfl,rfl⟩,⟨rfl,rfl⟩,rfl,rfl⟩ ev⟩)⟩
 |skip=>
  simp only[stepG.apply,Sem.runT,if_true,sn,cG];exact⟨aQ _ (cT _ _ _),.inr (.inl ⟨rfl,.go _ ρ' R ⟨hf.finish dm,hc,hkd.finish _ _,⟨rfl,rfl⟩,⟨rfl,rfl⟩,rfl,rfl⟩ ev⟩)⟩
 |enter f hF ha=>
  simp only[gX _ _ _ _ _ _ hf.todo.no_call.1,gX _ _ _ _ _ _ hf.todo.no_call.2];refine⟨aQ _ (cT _ _ _),.inr (.inl ⟨?_,.go _ ρ' R ⟨RFr.enter hI' f hF _ rfl (by simp) ha,.cons hf hkd hc,Kd.push hc rfl,⟨rfl,rfl⟩,⟨rfl,rfl⟩,rfl,rfl⟩ ev⟩)⟩;rw[sg hI' f hF]
 |round hl f ht a b ha hb=>
  simp only[stepG.apply,Sem.runT,if_true,sn,cG];refine⟨aQ _ (cT _ _ _),.inr (.inl ⟨rfl,.go _ ρ' R ⟨⟨rfl,ht,?_,.nil,.run,⟨rfl,rfl,by simp[Frame.round]⟩,.some hl⟩,.cons hf hkd hc,Kd.push hc rfl,⟨rfl,rfl⟩,⟨rfl,rfl⟩,rfl,rfl⟩ ev⟩)⟩;rw[hI'.prog]at ha hb;exact .cons (.code ha) (.cons .beginRound (.cons (.code hb) .nil))
 | @defer hS d d' hd=>
  simp only[stepG.apply,Sem.runT,if_true,sn,cG];have hf2:RFr P ρ' {fr with defers:=d::fr.defers} {fr' with defers:=d'::fr'.defers}:=⟨hf.fn,hf.tmps,hf.todo,.cons hd hf.defers (.inr hS),hf.mode,hf.early,hf.round⟩;exact⟨aQ _ (cT _ _ _),.inr (.inl ⟨rfl,.go _ ρ' R ⟨hf2.finish dm,hc,(show Kd X {fr with defers:=d::fr.defers} {fr' with defers:=d'::fr'.defers} cs' from hkd).finish _ _,⟨rfl,rfl⟩,⟨rfl,rfl⟩,rfl,rfl⟩ ev⟩)⟩
 | @spawn hC d d' hd=>
  simp only[stepG.apply,Sem.runT,if_true,sn,cG];have e2:Frame.noResult P fr=Frame.noResult P fr':=vq hf;have e3:Frame.noResult P.alt fr=Frame.noResult P fr:=rfl;have hk:RFr P ρ' {(default:Wy)with fn:=P.funcs.size,defers:=[d],mode:=.panicking [goexitEntry]} {(default:Wy)with fn:=P.funcs.size,defers:=[d'],mode:=.panicking [goexitEntry]}:=
   {fn:=rfl,tmps:=RVs.nil,todo:=.nil,defers:=RDs.cons hd RDs.nil (.inr (by rw[hC,Bool.or_true])),mode:=RM.panicking (RPn.cons _ _ dm RPn.nil),early:=⟨rfl,rfl,by simp[default,instInhabitedFrame.default,instInhabitedCallKind.default]⟩,round:=.none}
  have fin:SR P ρ X w w' (GStep.after E (.spawn {frame:=fr.finish Wo,callers:=cs,status:=.running,dying:=N} {frame:={(default:Wy)with fn:=P.funcs.size,defers:=[d],mode:=.panicking [goexitEntry]},callers:=[],status:=.running,dying:=N} u)) (GStep.after E (.spawn {frame:=fr.finish Wo,callers:=cs,status:=.running,dying:=N} {frame:={(default:Wy)with fn:=P.alt.funcs.size,defers:=[d],mode:=.panicking [goexitEntry]},callers:=[],status:=.running,dying:=N} u)) (GStep.after E' (.spawn {frame:=fr'.finish Wo,callers:=cs',status:=.running,dying:=N} {frame:={(default:Wy)with fn:=P.funcs.size,defers:=[d'],mode:=.panicking [goexitEntry]},callers:=[],status:=.running,dying:=N} u')):=
   .inr (.inl ⟨by rw[hI'.size],.spawn (by rw[<-R.le.F];exact hC) _ ρ' R ⟨hf.finish dm,hc,hkd.finish _ _,⟨rfl,rfl⟩,⟨rfl,rfl⟩,rfl,rfl⟩ ⟨hk,.base,⟨λ_=>rfl,λ_=>rfl⟩,⟨rfl,rfl⟩,⟨rfl,rfl⟩,rfl,rfl⟩ ev⟩)
  have lost : ∀ (fr : Wy) (u : Wj), Lost (endThrow fr "go of nil func value" u) := fun fr u => by unfold endThrow dieOf; exact⟨⟨_, _, rfl, rfl, rfl⟩, rfl⟩
  cases hd with
  |odd=>
   simp only[Bool.and_false,Bool.false_and,Bool.false_eq_true,if_false];exact⟨aQ _ (lu _ (.spawn _ _) _),fin⟩
  |mk ht ha=>
   have hs:=ha.size;obtain⟨t,a⟩:=d;obtain⟨t',a'⟩:=d';simp only at hs ht;have e1:a.isEmpty=a'.isEmpty:=by simp only[Array.isEmpty,hs]
   cases ht with
   |nil=>
    dsimp only;rw[<-e1,<-e2,e3];have ef:P.alt.follows .goNilFatal=P.follows .goNilFatal:=rfl;rw[ef];by_cases hx:(P.follows .goNilFatal&&Y&&a.isEmpty&&Frame.noResult P fr)=Y
    .simp only[hx,if_true];exact⟨jH _ _ ((lost _ _).after _).noShp,.inl ⟨(lost _ _).after _,(lost _ _).after _⟩⟩
    .simp only[hx];exact⟨aQ _ (lu _ (.spawn _ _) _),fin⟩
   |_=>
    simp only[Bool.and_false,Bool.false_and,Bool.false_eq_true,if_false];exact⟨aQ _ (lu _ (.spawn _ _) _),fin⟩
theorem o9(q:GId P ρ){ρ':Ren}{u z:Wj}(R:Reach ρ ρ' w w' u z)(l:RFr P ρ' f' L){cs:List Wy}(p:RFs P ρ' X cs l')(k:Kd X f' L l'){a b:Next}(h:RX1 ρ' a b)(c:Array Event){E':Array Event}(o:∀e∈E',jg ρ' e):
  uJ u (λu=>GStep.after c (stepG.apply P Y f' cs N (.pure a) u))/\SR P ρ X w w' (GStep.after c (stepG.apply P Y f' cs N (.pure a) u)) (GStep.after c (stepG.apply P.alt Y f' cs N (.pure a) u)) (GStep.after E' (stepG.apply P Y L l' N (.pure b) z)):=by
 cases h with
 |of h=>exact qG q R l p k h c o
 | @mk f t a s r m=>
  simp only[gX _ _ _ _ _ _ l.todo.no_call.1,gX _ _ _ _ _ _ l.todo.no_call.2];refine⟨aQ _ (cT _ _ _),.inr (.inr ⟨f,ρ',a,s,f',L,cs,l',u,z,c++#[],E'++#[],⟨by rw[<-R.le.F];exact t,R,⟨r,m⟩,l,p,k,by simpa using o,rfl,rfl,rfl⟩⟩)⟩
theorem jk(r:GId P ρ){d:Wy}(n:RFr P ρ f' d){cs:List Wy}(B:RFs P ρ X cs l')(o:Kd X f' d l'){s s':Sem Next}(L:RS P RX1 ρ s s')(S:bN ρ w w')(D:Same w w'):
  SF P ρ X w w' (λu=>stepG.apply P Y f' cs N s u) (λu=>stepG.apply P.alt Y f' cs N s u) (stepG.apply P Y d l' N s' w'):=by
 have t:(d.kind == .early)=false:=n.early.2.1;refine gW (oa L S D (F:=kj P f' cs) (Fa:=kj P.alt f' cs) (F':=kj P d l') ?_ ?_ ?_) (λu=>np P f' n.early.1 cs s u) (λu=>np P.alt f' n.early.1 cs s u) (np P d t l' s' w')
 .intro h u es A;have l:∀p:Wv,Lost (kj p f' cs (.halt h u) es):=λp=>by
   refine Lost.after ?_ _;unfold stepG.apply;simp only[Sem.runT,if_true];refine Lost.after ?_ _;cases h with
   |stuck s=>exact trivial
   |unsupported x=>cases x<;>first|exact trivial|simp[eO]at A
   |throw m=>show Lost (endThrow f' m u);unfold endThrow dieOf;exact⟨⟨_,_,rfl,rfl,rfl⟩,rfl⟩
   |_=>simp[eO]at A
  exact⟨l P,l P.alt⟩
 .intro ρ' u u' a b es q R T y;have⟨G,Q⟩:=o9 r R (n.mono R.le) (B.mono R.le) o T (seen P f'.fn es) (E':=seen P d.fn q) (λe h=>y e (ec h));refine⟨G,?_⟩;show SR P ρ X w w' _ (GStep.after (seen P.alt f'.fn es) (stepG.apply P.alt Y f' cs N (.pure a) u)) _;rw[dR r];exact Q
 .intro ρ' u u' v v' es q R hv y;have V:∀ (p:Wv) (f:Wy) (c:List Wy) (x:Wx) (z:Wj),stepG.apply p Y f c N (.halt (.panic x)) z=.go {frame:=f.raise [{v:=x,recovered:=Z}],callers:=c,status:=.running,dying:=N} z:=λp f c x z=>by
   have H:∀ (p:Wv) (f:FuncId) (k:CallKind),seen p f (if k == .early then #[]else #[])=#[]:=λp f k=>by split<;>exact fM _ _
   simp only[stepG.apply,Sem.runT,if_true,H,cG]
  simp only[kj,V,sj,dR r];exact⟨aQ _ (cT _ _ _),.inr (.inl ⟨rfl,.go _ ρ' R ⟨(n.mono R.le).raise1 hv,B.mono R.le,o.raise _ _,⟨rfl,rfl⟩,⟨rfl,rfl⟩,rfl,rfl⟩ (λe h=>y e (ec (by simpa using h)))⟩)⟩
theorem jI(S:bN ρ w w'){b:Wy}(c:RFr P ρ f' b){cs a:List Wy}(i:RFs P ρ X cs a)(e:Kd X f' b a){k f:List Item}(h:RIs P ρ k f):
  SF P ρ X w w' (λu=>.go {frame:={f' with todo:=k},callers:=cs,status:=.running,dying:=N} u) (λu=>.go {frame:={f' with todo:=k},callers:=cs,status:=.running,dying:=N} u) (.go {frame:={b with todo:=f},callers:=a,status:=.running,dying:=N} w'):=
 DN ⟨⟨c.fn,c.tmps,h,c.defers,c.mode,c.early,c.round⟩,i,e,⟨rfl,rfl⟩,⟨rfl,rfl⟩,rfl,rfl⟩ S
omit [Two P]in
theorem yG(id:Nat){k a:List Item}(h:RIs P ρ k a):(exitTo id k=N/\exitTo id a=N)\/∃t b,exitTo id k=J t/\exitTo id a=J b/\RIs P ρ t b:=by
 induction h with
 |nil=>exact .inl ⟨rfl,rfl⟩
 |cons d c ih=>
  cases d with
  |inBlock id'=>
   unfold exitTo;split
   .exact .inr ⟨_,_,rfl,rfl,c⟩
   .exact ih
  |_=>exact ih
omit [Two P]in
theorem ss(F:FuncId->Bool)(l:Nat):∀ (c d:Code),aI P F c=Y->findLabel c l=J d->aI P F d=true:=by
 intro c;induction c with
 |seq a b i j=>
  intro d h e;simp only[aI,bT]at h;unfold findLabel at e;split at e
  .rename_i f k;cases e;simp only[aI,bT];exact⟨i f h.1 k,h.2⟩
  .exact j d h.2 e
 |label l'=>
  intro d h e;unfold findLabel at e;split at e
  .cases e;rfl
  .cases e
 |_=>intro d h e;simp[findLabel]at e
omit [Two P]in
theorem yH(l:Nat){k c:List Item}(h:RIs P ρ k c):(gotoIn l k=N/\gotoIn l c=N)\/∃t d,gotoIn l k=J t/\gotoIn l c=J d/\RIs P ρ t d:=by
 induction h with
 |nil=>exact .inl ⟨rfl,rfl⟩
 |cons j f ih=>
  cases j with
  | @inScope a e=>
   unfold gotoIn;cases i:findLabel a l with
   |none=>exact ih
   |some b=>exact .inr ⟨_,_,rfl,rfl,.cons (.code (ss _ l a b e i)) (.cons (.inScope e) f)⟩
  |_=>exact ih
end
section
variable {P:Wv} {ρ:Ren} {X:List Wy×List Wy} {w w':Wj}
theorem px(h:RVs ρ c c')(a:Array Oper):yielded a c=yielded a c':=by
 funext j;unfold yielded;cases(a[j]?).bind (·.dst)with
 |none=>rfl
 |some d=>
  simp only[Option.bind_some];rcases h.get d with⟨b,e⟩|⟨v,f,b,e,i⟩
  .rw [b,e]
  .rw [b,e];cases i with
   |dead f h=>cases f<;>first|rfl|simp[iD]at h
   |_=>rfl
theorem RPn.drop{R a:List PanicEntry}(h:RPn ρ R a):RPn ρ (R.dropWhile (!·.goexit)) (a.dropWhile (!·.goexit)):=by
 induction h with
 |nil=>exact .nil
 |cons r g h b ih=>
  cases g with
  |true=>exact .cons r Y h b
  |false=>exact ih
theorem RDs.append{a d b c:List Deferred}(h:RDs ρ a d)(k:RDs ρ b c):RDs ρ (a++b) (d++c):=by
 induction h with
 |nil=>exact k
 |cons h _ e ih=>exact .cons h ih e
variable [Two P]
def Base(X:List Wy×List Wy)(fr:Wy)(a:List Wy):Prop:=a=X.2->fr.mode=.run\/fr.defers≠[]
theorem jJ(m:Bool){ρ':Ren}{u G:Wj}(R:Reach ρ ρ' w w' u G){n:Wy}(Q:RFr P ρ' f' n){cs f:List Wy}(V:RFs P ρ' X cs f)(y:Kd X f' n f)(p:f≠X.2){v z:Wx}(F:RV ρ' v z)(a:Array Event){E':Array Event}(H:∀e∈E',jg ρ' e):
  uJ u (λu=>GStep.after a (doReturn P m f' cs N v u))/\SR P ρ X w w' (GStep.after a (doReturn P m f' cs N v u)) (GStep.after a (doReturn P.alt m f' cs N v u)) (GStep.after E' (doReturn P m n f N z G)):=by
 have j:∀e∈E'++#[],jg ρ' e:=by simpa using H
 have q:=Q.early.1;unfold doReturn;rw[<-y.1 (.inl p)];cases V with
 | @cons c c' l l' b d i=>
  cases k:f'.kind with
  |normal=>exact⟨aQ _ (cT _ _ _),.inr (.inl ⟨rfl,.go _ ρ' R ⟨b.finish F,i,d.finish _ _,⟨rfl,rfl⟩,⟨rfl,rfl⟩,rfl,rfl⟩ j⟩)⟩
  |wrapped=>exact⟨aQ _ (cT _ _ _),.inr (.inl ⟨rfl,.go _ ρ' R ⟨b.finish F,i,d.finish _ _,⟨rfl,rfl⟩,⟨rfl,rfl⟩,rfl,rfl⟩ j⟩)⟩
  |early=>rw[k]at q;simp at q
  |_=>
   dsimp only;have D:=b.mode;cases T:Frame.mode _<;>cases S:Frame.mode _<;>rw[T,S]at D<;>cases D
   .exact ⟨aQ _ (cT _ _ _),.inr (.inl ⟨rfl,.go _ ρ' R ⟨b,i,d,⟨rfl,rfl⟩,⟨rfl,rfl⟩,rfl,rfl⟩ j⟩)⟩
   .exact ⟨aQ _ (cT _ _ _),.inr (.inl ⟨rfl,.go _ ρ' R ⟨b,i,d,⟨rfl,rfl⟩,⟨rfl,rfl⟩,rfl,rfl⟩ j⟩)⟩
   .rename_i L;cases L with
    |nil=>exact⟨aQ _ (cT _ _ _),.inr (.inl ⟨rfl,.go _ ρ' R ⟨b,i,d,⟨rfl,rfl⟩,⟨rfl,rfl⟩,rfl,rfl⟩ j⟩)⟩
    |cons r g hv2 x=>
     cases r with
     |false=>exact⟨aQ _ (cT _ _ _),.inr (.inl ⟨rfl,.go _ ρ' R ⟨b,i,d,⟨rfl,rfl⟩,⟨rfl,rfl⟩,rfl,rfl⟩ j⟩)⟩
     |true=>
      dsimp only;have s:=x.drop;generalize List.dropWhile _ _=A at s ⊢;generalize List.dropWhile _ _=B at s ⊢;cases s with
      |nil=>exact⟨aQ _ (cT _ _ _),.inr (.inl ⟨rfl,.go _ ρ' R ⟨⟨b.fn,b.tmps,b.todo,b.defers,.returning,b.early,b.round⟩,i,d,⟨rfl,rfl⟩,⟨rfl,rfl⟩,rfl,rfl⟩ j⟩)⟩
      |cons r g h t=>exact⟨aQ _ (cT _ _ _),.inr (.inl ⟨rfl,.go _ ρ' R ⟨⟨b.fn,b.tmps,b.todo,b.defers,.panicking (.cons r g h t),b.early,b.round⟩,i,d,⟨rfl,rfl⟩,⟨rfl,rfl⟩,rfl,rfl⟩ j⟩)⟩
 |base=>exact absurd rfl p
theorem nt (hI:GId P ρ)(m:Bool)(hf:RFr P ρ fr fr'){cs:List Wy}(hc:RFs P ρ X cs cs')(hkd:Kd X fr fr' cs')(hin:cs'≠X.2)(S:bN ρ w w')(hd:Same w w'){l l':Nat}(hl:ρ l l')(j:Option Code)(hj:∀c,j=some c->aI ρ.prog ρ.F c=true):
    SF P ρ X w w' (fun u=>GStep.after (seen P fr.fn ((Instr.endRound l j).runT P u #[]).2) (match ((Instr.endRound l j).runT P u #[]).1 with
        | .ok v w=>doReturn P m fr cs N v w
        | .halt _ w => .ended (.stuck "range over a function: no such loop" (fr.pos P)) w))
      (λu=>GStep.after (seen P.alt fr.fn ((Instr.endRound l j).runT P.alt u #[]).2) (match((Instr.endRound l j).runT P.alt u #[]).1 with
        | .ok v w=>doReturn P.alt m fr cs N v w
        | .halt _ w => .ended (.stuck "range over a function: no such loop" (fr.pos P.alt)) w))
      (GStep.after (seen P fr'.fn ((Instr.endRound l' j).runT P w' #[]).2) (match((Instr.endRound l' j).runT P w' #[]).1 with
        | .ok v w=>doReturn P m fr' cs' N v w
        | .halt _ w => .ended (.stuck "range over a function: no such loop" (fr'.pos P)) w)) := by
  refine oa (uV hl j hj) S hd (F := fun r es => GStep.after (seen P fr.fn es) (match r with
        | .ok v w=>doReturn P m fr cs N v w
        | .halt _ w => .ended (.stuck "range over a function: no such loop" (fr.pos P)) w)) (Fa := fun r es => GStep.after (seen P.alt fr.fn es) (match r with
        | .ok v w=>doReturn P.alt m fr cs N v w
        | .halt _ w => .ended (.stuck "range over a function: no such loop" (fr.pos P.alt)) w)) (F' := fun r es => GStep.after (seen P fr'.fn es) (match r with
        | .ok v w=>doReturn P m fr' cs' N v w
        | .halt _ w => .ended (.stuck "range over a function: no such loop" (fr'.pos P)) w)) ?_ ?_ ?_
  . intro h u es hn
    exact⟨trivial,trivial⟩
  . intro ρ' u u' a b es es' R hq he
    have:=jJ m R (hf.mono R.le) (hc.mono R.le) hkd hin hq (seen P fr.fn es) (E':=seen P fr'.fn es') (λe h=>he e (ec h));dsimp only;rw[dR hI];exact this
  . intro ρ' u u' v v' es es' R hv he
    exact⟨jH _ _ (Lost.noShp (Lost.after (x:=.ended _ _) trivial _)),.inl ⟨trivial,trivial⟩⟩
theorem py(p:Wv)(f:Wy)(l:List Wy)(cs:Array CommCase)(b:Bool)(s:CommShape)(u:Wj):stepG.apply p Y f l N (.pure (.comm cs b s)) u=.comm {frame:=f,callers:=l,status:=.running,dying:=N} cs b s u #[]:=by
 have a:∀ (p:Wv) (f:FuncId) (k:CallKind),seen p f (if k == .early then #[]else #[])=#[]:=λp f k=>by split<;>exact fM _ _
 simp only[stepG.apply,Sem.runT,if_true,a,cG]
theorem Gb(hZ:bU P)(hE:fY P ρ.F)(hN:cq P)(hI:GId P ρ)(hf:RFr P ρ fr fr'){cs:List Wy}(hc:RFs P ρ X cs cs')(hkd:Kd X fr fr' cs')(S:bN ρ w w')(hd:Same w w')
  (hmo:∀ (p:Wv) m v,stepG p m {frame:=fr,callers:=cs,status:=.running,dying:=N} v=stepG.oper p Y fr cs N v) (hmo':∀ (p:Wv) m v,stepG p m {frame:=fr',callers:=cs',status:=.running,dying:=N} v=stepG.oper p Y fr' cs' N v):
  SF P ρ X w w' (λu=>stepG.oper P Y fr cs N u) (λu=>stepG.oper P.alt Y fr cs N u) (stepG.oper P Y fr' cs' N w'):=by
 unfold stepG.oper;have ht:=hf.todo;have ho:fr.oper?=fr'.oper?/\∀o,fr.oper?=J o->gm P ρ.F o.op=true:=by
  unfold Frame.oper?;generalize fr.todo=td at ht;generalize fr'.todo=td' at ht;cases ht with
  |nil=>exact⟨rfl,λo h=>by simp at h⟩
  |cons hi hk=>
   cases hi with
   | @inRegion ops l hall=>
    cases l with
    |nil=>exact⟨rfl,λo h=>by simp at h⟩
    |cons i l=>exact⟨rfl,λo h=>by
      obtain⟨hlt,rfl⟩:=eS h;exact Array.all_eq_true.1 hall i hlt⟩
   |_=>exact⟨rfl,λo h=>by simp at h⟩
 obtain⟨ho1,ho2⟩:=ho;rw[<-ho1];cases hx:fr.oper? with
 |none=>exact jA trivial trivial
 |some o=>
  have hok:=ho2 o hx;by_cases hcm:FC o.op=Y
  .have hgo:RGo P ρ X {frame:=fr,callers:=cs,status:=.running,dying:=N} {frame:=fr',callers:=cs',status:=.running,dying:=N}:=⟨hf,hc,hkd,⟨rfl,rfl⟩,⟨rfl,rfl⟩,rfl,rfl⟩;have hx':fr'.oper?=J o:=by rw[<-ho1];exact hx
   have hxo:=hx';cases hop:o.op with
   |send c x=>
    rw[hop]at hok;simp only[gm,bT]at hok;have e1:∀ (p:Wv) (f:Wy) (l:List Wy) (u:Wj),f.oper?=J o->stepG.oper p Y f l N u=.comm {frame:=f,callers:=l,status:=.running,dying:=N} #[{chan:=f.eval c,send:=J (f.eval x),zero:=.tuple #[]}] Y .send u #[]:=λp f l u h=>by
     have e2:execOp f.eval o=.pure (.comm #[{chan:=f.eval c,send:=J (f.eval x),zero:=.tuple #[]}] Y .send):=by unfold execOp;rw[hop];rfl
     unfold stepG.oper;rw[h];simp only[hop,e2];cases f.roundOf<;>exact py p f l _ _ _ u
    have he:=hf.env hI;refine gW (g:=λu=>.comm {frame:=fr,callers:=cs,status:=.running,dying:=N} _ Y .send u #[]) (ga:=λu=>.comm {frame:=fr,callers:=cs,status:=.running,dying:=N} _ Y .send u #[]) ⟨lu _ (.comm _ _ _ _) _,.inr (.inl ⟨rfl,.comm ⟨λ_=>hok.1.1,λh=>by cases h⟩ .send (.inl ⟨rfl,rfl⟩) ⟨rfl,rfl⟩ _ ρ (Reach.refl S) hgo ⟨he c hok.1.2,.inr ⟨_,_,rfl,rfl,he x hok.2⟩,dm⟩ (λe h=>absurd h (Array.not_mem_empty e)) ⟨λm v=>(hmo P m v).trans (e1 P fr cs v hx),λm v=>(hmo P.alt m v).trans (e1 P.alt fr cs v hx),λm v=>(hmo' P m v).trans (e1 P fr' cs' v hx')⟩⟩)⟩ (λu=>?_) (λu=>?_) ?_
    .have:=e1 P fr cs u hx;unfold stepG.oper at this;rw[hx]at this;exact this
    .have:=e1 P.alt fr cs u hx;unfold stepG.oper at this;rw[hx]at this;exact this
    .have:=e1 P fr' cs' w' hx';unfold stepG.oper at this;rw[hx']at this;exact this
   |recv t c ok=>
    rw[hop]at hok;have hok0:=hok;simp only[gm,bT]at hok;have he:=hf.env hI;by_cases hz:∃dir elem i z,P.underlying t=J (.chan dir elem)/\P.info? elem=J i/\i.zero=J z
    .obtain ⟨dir,elem,i,z,hu,hi,hzz⟩:=hz;have e2:∀ (p:Wv) (f:Wy) (u:Wj),p.underlying t=P.underlying t->p.info? elem=P.info? elem->(execOp f.eval o).runT p u #[]=(.ok (.comm #[{chan:=f.eval c,send:=N,zero:=z}] Y (.recv ok)) u,#[]):=λp f u h1 h2=>by
      unfold execOp;rw[hop];have a1:∀ {α:Type} (k:TypeDesc->Sem α) (es:Array Event),(Sem.bind (underlying t) k).runT p u es=(k (.chan dir elem)).runT p u es:=λk es=>by
       have:p.underlying t=J (.chan dir elem):=h1.trans hu
       show Sem.runT p (Sem.bind (match p.underlying t with | some d => Pure.pure d | none => stuck "no such type") k) u es = _
       rw[this];rfl
      have a2:∀ {α:Type} (k:Wx->Sem α) (es:Array Event),(Sem.bind (zeroValue elem) k).runT p u es=(k z).runT p u es:=λk es=>by
       have:p.info? elem=J i:=h2.trans hi
       show Sem.runT p (Sem.bind (Sem.bind (match p.info? elem with | some i => Pure.pure i | none => stuck "no such type") (fun i => match i.zero with | some v => Pure.pure v | none => unsupported (.resourceLimit "a value of more than 2^22 cells"))) k) u es = _
       rw[this]
       show Sem.runT p (Sem.bind (match i.zero with | some v => Pure.pure v | none => unsupported (.resourceLimit "a value of more than 2^22 cells")) k) u es = _
       rw[hzz];rfl
      refine(a1 _ _).trans ?_;exact(a2 _ _).trans rfl
     have e1:∀ (p:Wv) (f:Wy) (l:List Wy) (u:Wj),p.underlying t=P.underlying t->p.info? elem=P.info? elem->(f.kind == .early)=Z->f.oper?=J o->stepG.oper p Y f l N u=.comm {frame:=f,callers:=l,status:=.running,dying:=N} #[{chan:=f.eval c,send:=N,zero:=z}] Y (.recv ok) u #[]:=λp f l u h1 h2 hk h=>by
      unfold stepG.oper;rw[h];simp only[hop];have e3:stepG.apply p Y f l N (execOp f.eval o) u=.comm {frame:=f,callers:=l,status:=.running,dying:=N} #[{chan:=f.eval c,send:=N,zero:=z}] Y (.recv ok) u #[]:=by
       rw[np p f hk l (execOp f.eval o) u,e2 p f u h1 h2];simp only[kj,fM,cG];exact py p f l _ _ _ u
      cases f.roundOf<;>exact e3
     have hzv:RV ρ z z:=hZ elem i z hi hzz ρ;refine gW (g:=λu=>.comm {frame:=fr,callers:=cs,status:=.running,dying:=N} _ Y (.recv ok) u #[]) (ga:=λu=>.comm {frame:=fr,callers:=cs,status:=.running,dying:=N} _ Y (.recv ok) u #[]) ⟨lu _ (.comm _ _ _ _) _,.inr (.inl ⟨rfl,.comm ⟨(λh=>by cases h),λ_=>hok.1⟩ (.recv ok) (.inr ⟨rfl,_,rfl⟩) ⟨rfl,rfl⟩ _ ρ (Reach.refl S) hgo ⟨he c hok.2,.inl ⟨rfl,rfl⟩,hzv⟩ (λe h=>absurd h (Array.not_mem_empty e)) ⟨λm v=>(hmo P m v).trans (e1 P fr cs v rfl rfl hf.early.1 hx),λm v=>(hmo P.alt m v).trans (e1 P.alt fr cs v rfl rfl hf.early.1 hx),λm v=>(hmo' P m v).trans (e1 P fr' cs' v rfl rfl hf.early.2.1 hx')⟩⟩)⟩ (λu=>?_) (λu=>?_) ?_
     .have:=e1 P fr cs u rfl rfl hf.early.1 hx;unfold stepG.oper at this;rw[hx]at this;exact this
     .have:=e1 P.alt fr cs u rfl rfl hf.early.1 hx;unfold stepG.oper at this;rw[hx]at this;exact this
     .have:=e1 P fr' cs' w' rfl rfl hf.early.2.1 hx';unfold stepG.oper at this;rw[hx']at this;exact this
    .have hrs:RS P RX1 ρ (execOp fr.eval o) (execOp fr'.eval o):=by
      unfold execOp;rw[hop];refine aj (aY t) (λρ1 l1 d d' hd=>?_);obtain⟨rfl,hd⟩:=hd;cases d with
      |chan dir elem=>
       refine aj (Q:=QN) ?_ (λ_ _ _ _ h=>h.elim);unfold zeroValue;refine aj (cn elem) (λρ2 l2 a b h=>?_);obtain⟨rfl,hi⟩:=h;cases hz':a.zero with
       |none=>exact ak _
       |some z=>exact absurd ⟨dir,elem,a,z,hd,hi,hz'⟩ hz
      |_=>exact ag _
     have hgen:=jk hI hf hc hkd hrs S hd;simp only[hop];cases fr.roundOf<;>cases fr'.roundOf<;>exact hgen
   |_=>rw[hop]at hcm;cases hcm
  have hgen:=jk hI hf hc hkd (AT hZ hE hN hI (hf.env hI) (λ_=>rfl) (λ_=>rfl) (AU fr) o hok (by simpa using hcm)) S hd;have hr:=hf.round;dsimp only;generalize hq:fr.roundOf=r at hr;generalize hq':fr'.roundOf=r' at hr;cases hr with
  |none=>exact hgen
  | @some l l' hl=>
   cases hop:o.op with
   |defer c=>
    dsimp only;rw[hop]at hok;simp only[gm]at hok;rw[bT]at hok;refine jk hI hf hc hkd (aj (jj hI (hf.env hI) c hok.2 o.type) (λρ1 l1 d d' hd=>aj (nX (l1 _ _ hl) (by rw[l1.F];exact hok.1) hd) (λρ2 l2 _ _ _=>ae (.of .skip)))) S hd
   |_=>exact hgen
theorem Gc(hZ:bU P)(hE:fY P ρ.F)(hN:cq P)(hI:GId P ρ)(m:Bool)(hf:RFr P ρ fr fr'){cs:List Wy}(hc:RFs P ρ X cs cs')(hkd:Kd X fr fr' cs')(_hin:Base X fr cs')(S:bN ρ w w')(hd:Same w w')(hm:fr.mode=.run/\fr'.mode=.run):
  SF P ρ X w w' (λu=>stepG.exec P m Y fr cs N u) (λu=>stepG.exec P.alt m Y fr cs N u) (stepG.exec P m Y fr' cs' N w'):=by
 have hret:SF P ρ X w w' (λu=>.go {frame:={fr with mode:=.returning},callers:=cs,status:=.running,dying:=N} u) (λu=>.go {frame:={fr with mode:=.returning},callers:=cs,status:=.running,dying:=N} u) (.go {frame:={fr' with mode:=.returning},callers:=cs',status:=.running,dying:=N} w'):=
  DN ⟨⟨hf.fn,hf.tmps,hf.todo,hf.defers,.returning,hf.early,hf.round⟩,hc,hkd,⟨rfl,rfl⟩,⟨rfl,rfl⟩,rfl,rfl⟩ S
 have hlv:∀ (l l':Nat),fr.roundOf=J l->fr'.roundOf=J l'->ρ l l':=λl l' h1 h2=>by
  have hr:=hf.round;rw[h1,h2]at hr;cases hr with
  |some h=>exact h
 have hrr:(fr.roundOf=N/\fr'.roundOf=N)\/∃l l',fr.roundOf=J l/\fr'.roundOf=J l'/\ρ l l':=by
  have hr:=hf.round;generalize fr.roundOf=r at hr ⊢;generalize fr'.roundOf=r' at hr ⊢;cases hr with
  |none=>exact .inl ⟨rfl,rfl⟩
  |some h=>exact .inr ⟨_,_,rfl,rfl,h⟩
 have hne:∀ {l:Nat},fr.roundOf=J l->cs'≠X.2:=fun{l} h e=>by rw[hkd.2 e]at h;cases h
 have ht:=hf.todo;unfold stepG.exec;generalize hx:fr.todo=td at ht;generalize hx':fr'.todo=td' at ht;cases ht with
 |nil=>
  simp only[];rcases hrr with⟨r1,r2⟩|⟨l,l',r1,r2,hl⟩
  .simp only[hx,hx',r1,r2,if_true]at hret ⊢;exact hret
  .simp only[r1,r2];exact nt hI m hf hc hkd (hne r1) S hd hl N (λc e=>by cases e)
 |cons hi hk=>
  cases hi with
  |inBlock id=>simp only[];exact jI S hf hc hkd hk
  |inLoop hb=>simp only[];exact jI S hf hc hkd (.cons (.code hb) (.cons (.inLoop hb) hk))
  |inScope hb=>simp only[];exact jI S hf hc hkd hk
  |inRangeFunc hl=>simp only[];exact jA trivial trivial
  | @endRangeFunc l l' hl=>
   rename_i k k';simp only[];refine oa (yx hl) S hd (F:=λr es=>GStep.after (seen P fr.fn es) (match r with
    | .ok jump w=>.go {frame:={fr with todo:=(jump.map Item.code).toList++_},callers:=cs,status:=.running,dying:=N} w
    | .halt (.panic v) w=>.go {frame:=fr.raise [{v,recovered:=Z}],callers:=cs,status:=.running,dying:=N} w
    | .halt _ w => .ended (.stuck "range over a function: no such loop" (fr.pos P)) w)) (Fa := fun r es => GStep.after (seen P.alt fr.fn es) (match r with
    | .ok jump w=>.go {frame:={fr with todo:=(jump.map Item.code).toList++_},callers:=cs,status:=.running,dying:=N} w
    | .halt (.panic v) w=>.go {frame:=fr.raise [{v,recovered:=Z}],callers:=cs,status:=.running,dying:=N} w
    | .halt _ w => .ended (.stuck "range over a function: no such loop" (fr.pos P.alt)) w)) (F' := fun r es => GStep.after (seen P fr'.fn es) (match r with
    | .ok jump w=>.go {frame:={fr' with todo:=(jump.map Item.code).toList++_},callers:=cs',status:=.running,dying:=N} w
    | .halt (.panic v) w=>.go {frame:=fr'.raise [{v,recovered:=Z}],callers:=cs',status:=.running,dying:=N} w
    | .halt _ w => .ended (.stuck "range over a function: no such loop" (fr'.pos P)) w)) ?_ ?_ ?_
   .intro h u es hn;have key:∀q:Wv,Lost (GStep.after (seen q fr.fn es) (match(Result.halt h u:Result (Option Code))with
     | .ok jump w=>.go {frame:={fr with todo:=(jump.map Item.code).toList++k},callers:=cs,status:=.running,dying:=N} w
     | .halt (.panic v) w=>.go {frame:=fr.raise [{v,recovered:=Z}],callers:=cs,status:=.running,dying:=N} w
     | .halt _ w => .ended (.stuck "range over a function: no such loop" (fr.pos q)) w)) := fun q => by
     cases h<;>first|exact trivial|simp[eO]at hn
    exact⟨key P,key P.alt⟩
   .intro ρ' u u' a b es es' R hq he;obtain⟨rfl,hq⟩:=hq;dsimp only;rw[dR hI];refine⟨aQ _ (cT _ _ _),.inr (.inl ⟨rfl,.go _ ρ' R ⟨⟨hf.fn,hf.tmps.mono R.le,?_,hf.defers.mono R.le,hf.mode.mono R.le,hf.early,hf.round.mono R.le⟩,hc.mono R.le,hkd,⟨rfl,rfl⟩,⟨rfl,rfl⟩,rfl,rfl⟩ (λe h=>he e (ec (by simpa using h)))⟩)⟩;cases a with
    |none=>exact hk.mono R.le
    |some c=>
     have:=hq c rfl;rw[R.le.prog,hI.prog]at this;exact .cons (.code this) (hk.mono R.le)
   .intro ρ' u u' v v' es es' R hv he;dsimp only;rw[dR hI];exact⟨aQ _ (cT _ _ _),.inr (.inl ⟨rfl,.go _ ρ' R ⟨(hf.mono R.le).raise1 hv,hc.mono R.le,hkd.raise _ _,⟨rfl,rfl⟩,⟨rfl,rfl⟩,rfl,rfl⟩ (λe h=>he e (ec (by simpa using h)))⟩)⟩
  |beginRound=>
   simp only[];rcases hrr with⟨r1,r2⟩|⟨l,l',r1,r2,hl⟩
   .simp only[r1,r2];exact jk hI hf hc hkd (aj (Q:=QU) (ag _) (λρ1 l1 _ _ _=>ae (.of .skip))) S hd
   .simp only[r1,r2];exact jk hI hf hc hkd (aj (qC hl) (λρ1 l1 _ _ _=>ae (.of .skip))) S hd
  |regionEnd a b=>simp only[];exact jI S hf hc hkd hk
  | @inRegion ops l ho=>
   cases l with
   |nil=>simp only[];exact jI S hf hc hkd hk
   |cons i l=>
    simp only[];rw[<-px hf.tmps ops];by_cases hw:((ops[i]?).map (Region.wanted · (yielded ops fr.tmps))).getD Z=Y
    .simp only[hw,if_true];have hy:=px hf.tmps ops;exact Gb hZ hE hN hI hf hc hkd S hd (λp m v=>by simp only[stepG,hm.1,stepG.exec,hx,hw,if_true]) (λp m v=>by simp only[stepG,hm.2,stepG.exec,hx',<-hy,hw,if_true])
    .simp only[hw];exact DN ⟨hf.finish dm,hc,hkd.finish _ _,⟨rfl,rfl⟩,⟨rfl,rfl⟩,rfl,rfl⟩ S
  | @code c hcd=>
   cases c with
   |skip=>simp only[];exact jI S hf hc hkd hk
   |label l=>simp only[];exact jI S hf hc hkd hk
   |seq a b=>simp only[];simp only[aI,bT]at hcd;exact jI S hf hc hkd (.cons (.code hcd.1) (.cons (.code hcd.2) hk))
   |block id b=>simp only[];exact jI S hf hc hkd (.cons (.code hcd) (.cons (.inBlock id) hk))
   |loop b=>simp only[];exact jI S hf hc hkd (.cons (.code hcd) (.cons (.inLoop hcd) hk))
   |scope b=>simp only[];exact jI S hf hc hkd (.cons (.code hcd) (.cons (.inScope hcd) hk))
   |cond c a b=>
    simp only[aI,bT]at hcd;have hv:=hf.env hI c hcd.1.1;simp only[];generalize Frame.eval fr c=v at hv ⊢;generalize Frame.eval fr' c=v' at hv ⊢;cases hv with
    |bool x=>
     refine jI S hf hc hkd (.cons (.code ?_) hk);cases x
     .exact hcd.2
     .exact hcd.1.2
    |_=>exact jA trivial trivial
   |rangeFunc f ps a b=>
    simp only[aI,bT]at hcd;simp only[];rename_i k k';have call_eq:∀ (e:Operand->Wx) (l:Nat),resolve e {callee:=.value f,args:=#[.const (.func (.yield l) #[] #[])],argTypes:=#[]} 0=Deferred.ofValue (e f) #[e (.const (.func (.yield l) #[] #[]))]:=λe l=>by simp[resolve]
    have hrs:RS P QEn ρ (Instr.enterLoop fr.fn fr.tmps ps a b fr.roundOf) (Instr.enterLoop fr'.fn fr'.tmps ps a b fr'.roundOf):=by
     rw[<-hf.fn];exact r8 fr.fn hf.tmps ps a b (by rw[hI.prog];exact hcd.1.2) (by rw[hI.prog];exact hcd.2) hf.round
    refine oa hrs S hd (F:=λr es=>GStep.after (seen P fr.fn es) (match r with
     | .ok (l,mark) w=>stepG.apply P Y {fr with todo:=.inRangeFunc l::k,defers:=mark++fr.defers} cs N (do
       let d <-resolve ({fr with todo:=.inRangeFunc l::k,defers:=mark++fr.defers}:Wy).eval {callee:=.value f,args:=#[.const (.func (.yield l) #[] #[])],argTypes:=#[]} 0
       invoke d.target d.args) w
     | .halt _ w => .ended (.stuck "range over a function: no such loop" (fr.pos P)) w)) (Fa := fun r es => GStep.after (seen P.alt fr.fn es) (match r with
     | .ok (l,mark) w=>stepG.apply P.alt Y {fr with todo:=.inRangeFunc l::k,defers:=mark++fr.defers} cs N (do
       let d <-resolve ({fr with todo:=.inRangeFunc l::k,defers:=mark++fr.defers}:Wy).eval {callee:=.value f,args:=#[.const (.func (.yield l) #[] #[])],argTypes:=#[]} 0
       invoke d.target d.args) w
     | .halt _ w => .ended (.stuck "range over a function: no such loop" (fr.pos P.alt)) w)) (F' := fun r es => GStep.after (seen P fr'.fn es) (match r with
     | .ok (l,mark) w=>stepG.apply P Y {fr' with todo:=.inRangeFunc l::k',defers:=mark++fr'.defers} cs' N (do
       let d <-resolve ({fr' with todo:=.inRangeFunc l::k',defers:=mark++fr'.defers}:Wy).eval {callee:=.value f,args:=#[.const (.func (.yield l) #[] #[])],argTypes:=#[]} 0
       invoke d.target d.args) w
     | .halt _ w => .ended (.stuck "range over a function: no such loop" (fr'.pos P)) w)) ?_ ?_ ?_
    .intro h u es hn;exact⟨trivial,trivial⟩
    .intro ρ' u u' x y es es' R hq he;obtain⟨l,mark⟩:=x;obtain⟨l',mark'⟩:=y;obtain⟨hl,hmk⟩:=hq;simp only at hl hmk;dsimp only;rw[dR hI];have hI':=hI.mono R.le;have hf1:=hf.mono R.le;have hf2:RFr P ρ' {fr with todo:=.inRangeFunc l::k,defers:=mark++fr.defers} {fr' with todo:=.inRangeFunc l'::k',defers:=mark'++fr'.defers}:=
      ⟨hf1.fn,hf1.tmps,.cons (.inRangeFunc hl) (hk.mono R.le),hmk.append hf1.defers,hf1.mode,hf1.early,hf1.round⟩
     have hv:=hf2.env hI' f (by rw[R.le.F];exact hcd.1.1);have hE':fY P ρ'.F:=by rw[R.le.F];exact hE
     have hy:RV ρ' (.func (.yield l) #[] #[]) (.func (.yield l') #[] #[]):=.func (.yield hl) rfl rfl (λi v v' h=>by simp at h) (λi v v' h=>by simp at h);have key:=jk (s:=do
       let d <-resolve ({fr with todo:=.inRangeFunc l::k,defers:=mark++fr.defers}:Wy).eval {callee:=.value f,args:=#[.const (.func (.yield l) #[] #[])],argTypes:=#[]} 0
       invoke d.target d.args) (s':=do
       let d <-resolve ({fr' with todo:=.inRangeFunc l'::k',defers:=mark'++fr'.defers}:Wy).eval {callee:=.value f,args:=#[.const (.func (.yield l') #[] #[])],argTypes:=#[]} 0
       invoke d.target d.args) hI' hf2 (hc.mono R.le) hkd (aj (Q:=λρ d d'=>RD ρ d d') (by rw[call_eq,call_eq];exact po hv (RVs.nil.push hy)) (λρ1 l1 d d' hd=>(lr hZ (by rw[l1.F];exact hE') hN (hI'.mono l1) hd).imp (λ_ _ _ k=>.of k))) R.sim (R.same hd)
     refine⟨aQ _ key.mir,?_⟩;exact(key.rel.after (seen P fr.fn es) (E':=seen P fr'.fn es') (λρ2 l2 e h=>(he e (ec h)).mono l2)).trans R
    .intro ρ' u u' v v' es es' R hv he;exact⟨jH _ _ (Lost.noShp (Lost.after (x:=.ended _ _) trivial _)),.inl ⟨trivial,trivial⟩⟩
   |refuse why=>simp only[];exact jA trivial trivial
   |ret=>
    simp only[];rcases hrr with⟨r1,r2⟩|⟨l,l',r1,r2,hl⟩
    .simp only[hx,hx',r1,r2,if_true]at hret ⊢;exact hret
    .simp only[r1,r2];exact nt hI m hf hc hkd (hne r1) S hd hl (J .ret) (λc e=>by cases e;rfl)
   |exit id=>
    simp only[];rcases yG id hk with⟨h1,h2⟩|⟨t,t',h1,h2,h3⟩
    .simp only[h1,h2,Option.elim];rcases hrr with⟨r1,r2⟩|⟨l,l',r1,r2,hl⟩
     .simp only[r1,r2];exact jA trivial trivial
     .simp only[r1,r2];exact nt hI m hf hc hkd (hne r1) S hd hl (J (.exit id)) (λc e=>by cases e;rfl)
    .simp only[h1,h2,Option.elim];exact jI S hf hc hkd h3
   |goto l0=>
    simp only[];rcases yH l0 hk with⟨h1,h2⟩|⟨t,t',h1,h2,h3⟩
    .simp only[h1,h2,Option.elim];rcases hrr with⟨r1,r2⟩|⟨l,l',r1,r2,hl⟩
     .simp only[r1,r2];exact jA trivial trivial
     .simp only[r1,r2];exact nt hI m hf hc hkd (hne r1) S hd hl (J (.goto l0)) (λc e=>by cases e;rfl)
    .simp only[h1,h2,Option.elim];exact jI S hf hc hkd h3
   |region id ops draw=>
    simp only[];cases draw with
    |false=>simp only[Bool.not_false,if_true];exact jI S hf hc hkd (.cons (.inRegion _ hcd) hk)
    |true=>
     simp only[Bool.not_true,Bool.false_eq_true,if_false];rename_i k k';refine gW (oa (ft (.order fr.fn id)) S hd (F:=λr _=>match r with
      | .ok t w=>.go {frame:={fr with todo:=.inRegion ops (Region.schedule (P.follows .mixedOrders) ops t)::k},callers:=cs,status:=.running,dying:=N} w
      | .halt _ w => .ended (.stuck "order" (fr.pos P)) w) (Fa := fun r _ => match r with
      | .ok t w=>.go {frame:={fr with todo:=.inRegion ops (Region.schedule (P.alt.follows .mixedOrders) ops t)::k},callers:=cs,status:=.running,dying:=N} w
      | .halt _ w => .ended (.stuck "order" (fr.pos P.alt)) w) (F' := fun r _ => match r with
      | .ok t w=>.go {frame:={fr' with todo:=.inRegion ops (Region.schedule (P.follows .mixedOrders) ops t)::k'},callers:=cs',status:=.running,dying:=N} w
      | .halt _ w => .ended (.stuck "order" (fr'.pos P)) w) ?_ ?_ ?_) (fun u => ?_) (fun u => ?_) ?_
     .intro h u es hn;exact⟨trivial,trivial⟩
     .intro ρ' u u' x y es es' R hq he;cases hq;exact⟨cT _ _ _,.inr (.inl ⟨rfl,.go _ ρ' R ⟨⟨hf.fn,hf.tmps.mono R.le,.cons (.inRegion _ (by rw[R.le.F];exact hcd)) (hk.mono R.le),hf.defers.mono R.le,hf.mode.mono R.le,hf.early,hf.round.mono R.le⟩,hc.mono R.le,hkd,⟨rfl,rfl⟩,⟨rfl,rfl⟩,rfl,rfl⟩ (λe h=>by simp at h)⟩)⟩
     .intro ρ' u u' v v' es es' R hv he;exact⟨jH _ _ (Lost.noShp (x:=.ended _ _) trivial),.inl ⟨trivial,trivial⟩⟩
     .simp only[Sem.runT_fst];rfl
     .simp only[Sem.runT_fst];rfl
     .simp only[Sem.runT_fst,hf.fn];rfl
end
section
variable {P:Wv} [Two P] {ρ:Ren} {X:List Wy×List Wy} {w w':Wj}
theorem DO{α:Type}:∀ (l:List α){ρ:Ren}(f d:α->Sem Wx),(∀ρ',ρ.le ρ'->∀a,RS P QV ρ' (f a) (d a))->RS P (λρ x y=>RVs ρ x.toArray y.toArray) ρ (l.mapM f) (l.mapM d):=by
 intro l;induction l with
 |nil=>intro ρ f d _;simp only[List.mapM_nil];exact ae RVs.nil
 |cons x l ih=>
  intro ρ f d j;simp only[List.mapM_cons];refine aj (j ρ (Ren.le_refl _) x) (λρ1 m b b' p=>?_);refine aj (ih f d (λρ' o=>j ρ' (Ren.le_trans m o))) (λρ2 n bs bs' c=>ae ⟨by simpa using c.size,λi v k h e=>?_⟩);cases i with
  |zero=>simp at h e;subst h;subst e;exact p.mono n
  |succ i=>exact c.at_ i v k (by simpa using h) (by simpa using e)
theorem pz(fn:Func){t j:Array Wx}(h:RVs ρ t j):RS P QV ρ (results fn t) (results fn j):=by
 unfold results;rw[Array.mapM_eq_mapM_toList,Array.mapM_eq_mapM_toList];refine aj (Q:=QVs) (aj (DO _ _ _ (λρ' l r=>?_)) (λb m x y e=>ae e)) (λb m v i c=>ae ?_)
 .cases r with
  |tmp t=>exact ae ((h.mono l).getD t)
  |cell a t=>exact aj (rY ((h.mono l).getD a)) (λρ2 l2 x x' n=>pi t n)
 .show RV b _ _;have k:=c.size;by_cases d:v.size=1
  .have f:i.size=1:=by rw[<-k];exact d
   simp only[d,f,dite_true];exact c.at_ 0 _ _ (eG (by omega)) (eG (by omega))
  .have f:¬i.size=1:=by rw[<-k];exact d
   simp only[d,f,dite_false];exact .tuple c.size c.at_
omit [Two P]in
theorem eZ{p:Wv}{b:Wy}{cs:List Wy}{z u:Wj}{a:Next}{es:Array Event}{g:Wk}(j:((d'.target matches .nil)&&(b.mode matches .panicking _))=Z)(h:(invoke d'.target d'.args).runT p z #[]=(.ok a u,es))
  (e:match a with
   | .enter f c=>g={frame:=Frame.enter p f c .deferred,callers:=b::cs,status:=.running,dying:=N}
   | .round l f t x y=>g={frame:=Frame.round l f t x y .deferred,callers:=b::cs,status:=.running,dying:=N}
   | .value _| .skip| .defer _| .spawn _| .comm _ _ _=>g={frame:=b,callers:=cs,status:=.running,dying:=N}
   |_=>False):callDeferred p b cs N d' z=.go g u (seen p b.fn es):=by
 unfold callDeferred;refine(if_neg (λi=>absurd (i.symm.trans j) (by decide))).trans ?_;simp only[h];cases a<;>first|exact e.elim|(subst e;simp[GStep.after])
omit [Two P]in
theorem qH{p:Wv}{a:Wy}{cs:List Wy}{z q:Wj}{v:Wx}{es:Array Event}(c:((d'.target matches .nil)&&(a.mode matches .panicking _))=Z)(h:(invoke d'.target d'.args).runT p z #[]=(.halt (.panic v) q,es)):callDeferred p a cs N d' z=.go {frame:=a.raise [{v,recovered:=Z}],callers:=cs,status:=.running,dying:=N} q (seen p a.fn es):=by
 unfold callDeferred;refine(if_neg (λb=>absurd (b.symm.trans c) (by decide))).trans ?_;simp only[h];simp[GStep.after]
omit [Two P]in
theorem AW{p:Wv}{a:Wy}{cs:List Wy}{z q:Wj}{x:Halt}{es:Array Event}(c:eO x=Y)(h:(invoke d'.target d'.args).runT p z #[]=(.halt x q,es)):Lost (callDeferred p a cs N d' z):=by
 by_cases b:((d'.target matches .nil)&&(a.mode matches .panicking _))=Y
 .have e:∃o,callDeferred p a cs N d' z=.ended o z:=⟨_,by unfold callDeferred;exact if_pos b⟩;obtain⟨o,e⟩:=e;rw[e];exact trivial
 .unfold callDeferred;refine Eq.mpr (congrArg Lost (if_neg b)) ?_;simp only[h];refine Lost.after ?_ _;cases x with
  |stuck s=>exact trivial
  |unsupported x=>exact trivial
  |throw m=>show Lost (endThrow a m q);unfold endThrow dieOf;exact⟨⟨_,_,rfl,rfl,rfl⟩,rfl⟩
  |_=>simp[eO]at c
theorem iK(hZ:bU P)(hE:fY P ρ.F)(hN:cq P)(L:GId P ρ){k:Wy}(hf:RFr P ρ f' k){cs G:List Wy}(hc:RFs P ρ X cs G)(s:Kd X f' k G){d:Deferred}(T:RD ρ d d')(S:bN ρ w w')(hd:Same w w'):
  SF P ρ X w w' (λu=>callDeferred P f' cs N d u) (λu=>callDeferred P.alt f' cs N d u) (callDeferred P k G N d' w'):=by
 have hx:((d.target matches .nil)&&(f'.mode matches .panicking _))=((d'.target matches .nil)&&(k.mode matches .panicking _)):=by
  have h2:=hf.mode;generalize f'.mode=m at h2 ⊢;generalize k.mode=m' at h2 ⊢;cases T with
  |mk h1 _=>
   generalize d.target=t at h1 ⊢;generalize d'.target=t' at h1 ⊢;cases h1<;>cases h2<;>rfl
  |odd=>cases h2<;>rfl
 by_cases hn:((d.target matches .nil)&&(f'.mode matches .panicking _))=Y
 .refine jA ?_ ?_
  .have e:∃o,callDeferred P f' cs N d w=.ended o w:=⟨_,by unfold callDeferred;exact if_pos hn⟩;obtain⟨o,e⟩:=e;simp only[e];exact trivial
  .have e:∃o,callDeferred P.alt f' cs N d w=.ended o w:=⟨_,by unfold callDeferred;exact if_pos hn⟩;obtain⟨o,e⟩:=e;simp only[e];exact trivial
 have c:((d.target matches .nil)&&(f'.mode matches .panicking _))=false:=by simpa using hn
 have A:=hx.symm.trans c;refine Ga (lr hZ hE hN L T) S hd ?_ ?_ ?_
 .intro h u es Q;exact⟨λhr=>AW Q hr,λhr=>AW Q hr⟩
 .intro ρ' u u' a b es D R hq he n;have H:=L.mono R.le;have B:=hf.mono R.le;have r:=hc.mono R.le;have V:∀e∈seen P k.fn D,jg ρ' e:=λe h=>he e (ec h)
  cases hq with
  | @enter f hF a a' ha=>
   refine⟨.go {frame:=Frame.enter P f a .deferred,callers:=f'::cs,status:=.running,dying:=N},seen P f'.fn es,λz v j=>eZ c j rfl,λz v j=>?_,?_⟩
   .rw [eZ (p:=P.alt) c j rfl,dR L,sg H f hF];rfl
   .rw [eZ A n rfl];exact .go _ ρ' R ⟨RFr.enter H f hF _ rfl (by simp) ha,.cons B s r,Kd.push r rfl,⟨rfl,rfl⟩,⟨rfl,rfl⟩,rfl,rfl⟩ V
  | @round l l' hl f t t' ht x y hx hy=>
   refine⟨.go {frame:=Frame.round l f t x y .deferred,callers:=f'::cs,status:=.running,dying:=N},seen P f'.fn es,λz v j=>eZ c j rfl,λz v j=>?_,?_⟩
   .rw [eZ (p:=P.alt) c j rfl,dR L];rfl
   .rw [eZ A n rfl];rw[H.prog]at hx hy;exact .go _ ρ' R ⟨⟨rfl,ht,.cons (.code hx) (.cons .beginRound (.cons (.code hy) .nil)),.nil,.run,⟨rfl,rfl,by simp[Frame.round]⟩,.some hl⟩,.cons B s r,Kd.push r rfl,⟨rfl,rfl⟩,⟨rfl,rfl⟩,rfl,rfl⟩ V
  |_=>
   refine⟨.go {frame:=f',callers:=cs,status:=.running,dying:=N},seen P f'.fn es,λz v j=>eZ c j rfl,λz v j=>?_,?_⟩
   .rw [eZ (p:=P.alt) c j rfl,dR L];rfl
   .rw [eZ A n rfl];exact .go _ ρ' R ⟨B,r,s,⟨rfl,rfl⟩,⟨rfl,rfl⟩,rfl,rfl⟩ V
 .intro ρ' u u' v v' es D R hv he n;have V:∀e∈seen P k.fn D,jg ρ' e:=λe h=>he e (ec h)
  refine⟨.go {frame:=f'.raise [{v,recovered:=Z}],callers:=cs,status:=.running,dying:=N},seen P f'.fn es,λz q j=>qH c j,λz q j=>?_,?_⟩
  .rw [qH (p:=P.alt) c j,dR L];rfl
  .rw [qH A n];exact .go _ ρ' R ⟨(hf.mono R.le).raise1 hv,hc.mono R.le,s.raise _ _,⟨rfl,rfl⟩,⟨rfl,rfl⟩,rfl,rfl⟩ V
theorem od(e:GId P ρ){f:FuncId}{a b:Func}(c:P.alt.funcs[f]?=J a)(d:P.funcs[f]?=J b)(t:Array Wx):results a t=results b t:=by
 have h:=e.same f;rw[c,d]at h;simp[strip]at h;unfold results;rw[h.2.2.2.2.2.2.2.1]
theorem lw(c:GId P ρ)(f:FuncId):P.alt.funcs[f]?=N↔P.funcs[f]?=none:=by
 have h:=c.same f;generalize P.alt.funcs[f]?=a at h;generalize P.funcs[f]?=b at h;cases a<;>cases b<;>simp at h ⊢
omit [Two P]in
theorem fh{a:Wy}(f:RFr P ρ f' a)(p:Wv):f'.catches p=Z/\a.catches p=false:=by
 have h:=f.todo.no_call;unfold Frame.catches;constructor
 .split
  .rename_i d b r s k e;exact absurd e (h.1 _ _ _ _ _)
  .rfl
 .split
  .rename_i d b r s k e;exact absurd e (h.2 _ _ _ _ _)
  .rfl
theorem su(hZ:bU P)(hE:fY P ρ.F)(hN:cq P)(hI:GId P ρ)(m:Bool)(hf:RFr P ρ fr fr'){cs:List Wy}(hc:RFs P ρ X cs cs')(hkd:Kd X fr fr' cs')(hin:Base X fr cs')(S:bN ρ w w')(hd:Same w w'):
  SF P ρ X w w' (λu=>unwind P m fr cs N u) (λu=>unwind P.alt m fr cs N u) (unwind P m fr' cs' N w'):=by
 unfold unwind;have hds:=hf.defers;generalize hx:fr.defers=ds at hds;generalize hx':fr'.defers=ds' at hds;have hf2:=λds ds' (hl:RDs ρ ds ds')=>(⟨hf.fn,hf.tmps,hf.todo,hl,hf.mode,hf.early,hf.round⟩:RFr P ρ {fr with defers:=ds} {fr' with defers:=ds'})
 cases hds with
 | @cons d d' l l' h hl=>
  have h0:=h;cases h with
  |odd=>exact iK hZ hE hN hI (hf2 _ _ hl) hc hkd h0 S hd
  |mk ht ha=>
   obtain⟨t,a⟩:=d;obtain⟨t',a'⟩:=d';simp only at ht;cases ht with
   | @collected r r' hr=>
    dsimp only;refine oa (nY hr) S hd (F:=λx es=>GStep.after (seen P fr.fn es) (match x with
     | .ok calls w=>.go {frame:={fr with defers:=calls++l},callers:=cs,status:=.running,dying:=N} w
     | .halt _ w => .ended (.stuck "the deferred calls of a range-over-func loop have been taken" (fr.pos P)) w)) (Fa := fun x es => GStep.after (seen P.alt fr.fn es) (match x with
     | .ok calls w=>.go {frame:={fr with defers:=calls++l},callers:=cs,status:=.running,dying:=N} w
     | .halt _ w => .ended (.stuck "the deferred calls of a range-over-func loop have been taken" (fr.pos P.alt)) w)) (F' := fun x es => GStep.after (seen P fr'.fn es) (match x with
     | .ok calls w=>.go {frame:={fr' with defers:=calls++l'},callers:=cs',status:=.running,dying:=N} w
     | .halt _ w => .ended (.stuck "the deferred calls of a range-over-func loop have been taken" (fr'.pos P)) w)) ?_ ?_ ?_
    .intro h u es hn;exact⟨trivial,trivial⟩
    .intro ρ' u u' x y es es' R hq he;dsimp only;rw[dR hI];have hf':=hf.mono R.le;exact⟨aQ _ (cT _ _ _),.inr (.inl ⟨rfl,.go _ ρ' R ⟨⟨hf'.fn,hf'.tmps,hf'.todo,hq.append (hl.mono R.le),hf'.mode,hf'.early,hf'.round⟩,hc.mono R.le,hkd,⟨rfl,rfl⟩,⟨rfl,rfl⟩,rfl,rfl⟩ (λe h=>he e (ec (by simpa using h)))⟩)⟩
    .intro ρ' u u' v v' es es' R hv he;exact⟨jH _ _ (Lost.noShp (Lost.after (x:=.ended _ _) trivial _)),.inl ⟨trivial,trivial⟩⟩
   |_=>exact iK hZ hE hN hI (hf2 _ _ hl) hc hkd h0 S hd
 |nil=>
  dsimp only;have hne:fr.mode≠.run->cs'≠X.2:=λh e=>by
   rcases hin e with k|k
   .exact h k
   .exact k hx
  have hm:=hf.mode;generalize hmd:fr.mode=md at hm hne;generalize fr'.mode=md' at hm;cases hm with
  |run=>exact jA trivial trivial
  |panicking hp=>
   dsimp only;simp only[(fh hf P).1,(fh hf P).2,(fh hf P.alt).1,Bool.false_eq_true,if_false];have hne:=hne (by simp);cases hc with
   |cons hk hk2 hl=>exact DN ⟨hk.raise hp,hl,hk2.raise _ _,⟨rfl,rfl⟩,⟨rfl,rfl⟩,rfl,rfl⟩ S
   |base=>exact absurd rfl hne
  |returning=>
   dsimp only;have hne:=hne (by simp);rw[<-hf.fn];cases hfn:P.funcs[fr.fn]? with
   |none=>
    have hfa:=(lw hI fr.fn).2 hfn;simp only[hfa];have:=jJ m (Reach.refl S) hf hc hkd hne (hf.tmps.getD 0) #[] (E':=#[]) (λe h=>by simp at h);simp only[cG]at this;exact⟨this.1,this.2⟩
   |some fn=>
    cases hfa:P.alt.funcs[fr.fn]? with
    |none=>rw[(lw hI fr.fn).1 hfa]at hfn;cases hfn
    |some fa=>
     dsimp only;rw[od hI hfa hfn];refine oa (pz fn hf.tmps) S hd (F:=λx es=>GStep.after (seen P fr.fn es) (match x with
      | .ok v w=>doReturn P m fr cs N v w
      | .halt (.stuck s) w=>.ended (.stuck s (fr.pos P)) w
      | .halt _ w => .ended (.stuck "return: the result variables cannot be read" (fr.pos P)) w)) (Fa := fun x es => GStep.after (seen P.alt fr.fn es) (match x with
      | .ok v w=>doReturn P.alt m fr cs N v w
      | .halt (.stuck s) w=>.ended (.stuck s (fr.pos P.alt)) w
      | .halt _ w => .ended (.stuck "return: the result variables cannot be read" (fr.pos P.alt)) w)) (F' := fun x es => GStep.after (seen P fr.fn es) (match x with
      | .ok v w=>doReturn P m fr' cs' N v w
      | .halt (.stuck s) w=>.ended (.stuck s (fr'.pos P)) w
      | .halt _ w => .ended (.stuck "return: the result variables cannot be read" (fr'.pos P)) w)) ?_ ?_ ?_
     .intro h u es hn;have key:∀q:Wv,Lost (GStep.after (seen q fr.fn es) (match(Result.halt h u:Result Wx)with
       | .ok v w=>doReturn q m fr cs N v w
       | .halt (.stuck s) w=>.ended (.stuck s (fr.pos q)) w
       | .halt _ w => .ended (.stuck "return: the result variables cannot be read" (fr.pos q)) w)) := fun q => by cases h <;> exact trivial
      exact⟨key P,key P.alt⟩
     .intro ρ' u u' x y es es' R hq he;dsimp only;rw[dR hI];exact jJ m R (hf.mono R.le) (hc.mono R.le) hkd hne hq (seen P fr.fn es) (E':=seen P fr.fn es') (λe h=>he e (ec h))
     .intro ρ' u u' v v' es es' R hv he;exact⟨jH _ _ (Lost.noShp (Lost.after (x:=.ended _ _) trivial _)),.inl ⟨trivial,trivial⟩⟩
theorem jl(o:bU P)(k:fY P ρ.F)(q:cq P)(l:GId P ρ)(m:Bool){g g':Wk}(t:RGo P ρ X g g')(a:Base X g.frame g'.callers)(S:bN ρ w w')(j:Same w w'):
  SF P ρ X w w' (λu=>stepG P m g u) (λu=>stepG P.alt m g u) (stepG P m g' w'):=by
 obtain⟨v,cs,st,dy,of⟩:=g;obtain⟨n,cs',st',dy',of'⟩:=g';obtain⟨e,i,b,p,⟨f,d⟩,s⟩:=t;simp only at e i b p f d s a;subst f;subst d;have r:=e.mode;cases c:v.mode<;>cases h:n.mode<;>rw[c,h]at r<;>cases r
 .exact gW (Gc o k q l m e i b a S j ⟨c,h⟩) (λu=>by simp only[stepG,c]) (λu=>by simp only[stepG,c]) (by simp only[stepG,h])
 .exact gW (su o k q l m e i b a S j) (λu=>by simp only[stepG,c]) (λu=>by simp only[stepG,c]) (by simp only[stepG,h])
 .exact gW (su o k q l m e i b a S j) (λu=>by simp only[stepG,c]) (λu=>by simp only[stepG,c]) (by simp only[stepG,h])
end
def solo(g:Wk)(w:Wj):Machine:={world:=w,gs:=#[g],rest:={timers:=#[],alone:=N,slice:=N}}
def away:Wk:={(default:Wk)with status:=.finished}
section
variable {P:Wv} {g g' k:Wk} {w w':Wj} {es:Array Event}
theorem AX(h:g.status=.running):move P (solo g w)=.goroutine (solo g w) 0:=by
 simp[move,ask,askOn,solo,runnable_eq,due,ahead,Goroutine.canRun,h,List.range_succ,choose,pure,Sem.run,Question.forced]
theorem km(h:g.status=.running):step P (solo g w)=(runT P (solo g w) 0).1:=by
 rw[step,stepT,AX h]
theorem lx(h:g.status=.running)(a:stepG P Y g w=.go g' w' es):step P (solo g w)=.next (solo g' w'):=by
 rw[km h];simp[runT,solo,Array.swapAt!,a]
theorem fi{o:Outcome}(h:g.status=.running)(a:stepG P Y g w=.ended o w' es):step P (solo g w)=.ended o w':=by
 rw[km h];simp[runT,solo,Array.swapAt!,a]
theorem yI(h:g.status=.running)(a:stepG P Y g w=.spawn g' k w' es):∃m,step P (solo g w)=.next m/\m.gs.size=2:=by
 rw[km h];refine⟨_,by simp[runT,solo,Array.swapAt!,a];rfl,?_⟩;simp
theorem sw{c:CommCase}{b:Bool}{s:CommShape}(h:g.status=.running)(a:stepG P Y g w=.comm g' #[c] b s w' es):step P (solo g w)=(communicate P {timers:=#[],alone:=N,slice:=N} #[away] 0 g' #[c] b s w').1:=by
 rw[km h];simp[runT,solo,Array.swapAt!,a,away]
inductive LC (P:Wv)(g:Wk)(c:CommCase)(s:CommShape)(w:Wj):Wk->Wj->Prop
 |send {r cap sent rcvd:Nat} {buf:Array Wx} {tm:Bool} {v:Wx} (hc:c.chan=.chan (J r)) (hv:c.send=J v) (ho:w.heap[r]?=J (.chan cap buf Z sent rcvd tm)) (hr:buf.size<cap):
   LC P g c s w (g.finishComm P #[c] s 0 Wo Z) {w with heap:=w.heap.setIfInBounds r (.chan cap (buf.push v) Z (sent+1) rcvd tm)}
 |recv {r cap sent rcvd:Nat} {buf:Array Wx} {cl tm:Bool} (hc:c.chan=.chan (J r)) (hv:c.send=N) (ho:w.heap[r]?=J (.chan cap buf cl sent rcvd tm)) (hr:0<buf.size):
   LC P g c s w (g.finishComm P #[c] s 0 (buf.getD 0 Wo) Y) {w with heap:=w.heap.setIfInBounds r (.chan cap (buf.extract 1 buf.size) cl sent (rcvd+1) tm)}
 |shut {r cap sent rcvd:Nat} {tm:Bool} (hc:c.chan=.chan (J r)) (hv:c.send=N) (ho:w.heap[r]?=J (.chan cap #[] Y sent rcvd tm)):
   LC P g c s w (g.finishComm P #[c] s 0 c.zero Z) w
 |dead {r cap sent rcvd:Nat} {buf:Array Wx} {tm:Bool} {v:Wx} (hc:c.chan=.chan (J r)) (hv:c.send=J v) (ho:w.heap[r]?=J (.chan cap buf Y sent rcvd tm)) (hg:g.status=.running):
   LC P g c s w { g with frame := g.frame.raise [{ v := .iface P.rt.plainError (strVal "send on closed channel"), recovered := Z }] } w
theorem cH(r:Nat)(b:Bool):partners #[away] r b=[]:=by simp[partners,away]
theorem sx{c:CommCase}{s:CommShape}{m:Machine}(p:g.status=.running)(h:(communicate P {timers:=#[],alone:=N,slice:=N} #[away] 0 g #[c] Y s w).1=.next m):
  (∃g' w',LC P g c s w g' w'/\m=solo g' w')\/(m=solo {g with status:=.blocked,offers:=J (#[c],s)} w):=by
 obtain⟨e,f,z⟩:=c;have l:waitingAt {timers:=#[],alone:=N,slice:=N} #[⟨e,f,z⟩] w=J w:=by
  unfold waitingAt timerAhead;cases e with
  |chan o=>cases o<;>simp
  |_=>simp
 have j:waitingAt {timers:=#[],alone:=N,slice:=N} #[(⟨e,f,z⟩:CommCase)] w=J w:=l;cases e with
 |chan o=>
  cases o with
  |none=>
   right
   simp[communicate,ways,j]at h;exact h.symm
  |some r=>
   cases a:w.heap[r]? with
   |none=>simp[communicate,a]at h
   |some o=>
    cases o with
    |chan i d k sent rcvd tm=>
     cases f with
     |some v=>
      cases k with
      |true=>
       left
       simp[communicate,ways,a,choose,Sem.run,Question.forced,bind,Sem.bind,pure,runtimePanic,goPanic,program]at h;exact⟨_,_,.dead rfl rfl a p,h.symm⟩
      |false=>
       by_cases b:d.size<i
       .left
        simp[communicate,ways,a,cH,b,choose,Sem.run,Question.forced,bind,Sem.bind,pure]at h;exact⟨_,_,.send rfl rfl a b,h.symm⟩
       .right
        simp[communicate,ways,a,cH,b,j]at h;exact h.symm
     |none=>
      by_cases b:0<d.size
      .left
       simp[communicate,ways,a,cH,b,choose,Sem.run,Question.forced,bind,Sem.bind,pure]at h;refine⟨_,_,.recv rfl rfl a b,?_⟩;rw[<-h];simp[solo,b]
      .have n:d=#[]:=Array.eq_empty_of_size_eq_zero (by omega);subst n;cases k with
       |true=>
        left
        simp[communicate,ways,a,cH,choose,Sem.run,Question.forced,bind,Sem.bind,pure]at h;exact⟨_,_,.shut rfl rfl a,h.symm⟩
       |false=>
        right
        simp[communicate,ways,a,cH,j]at h;exact h.symm
    |_=>simp[communicate,a]at h
 |_=>simp[communicate]at h
theorem iL(h:g.status=.blocked):∃o u,step P (solo g w)=.ended o u:=by
 have a:∃o u,move P (solo g w)=.machine (.ended o u):=by
  simp[move,ask,askOn,solo,runnable_eq,due,ahead,Goroutine.canRun,h,List.range_succ,pure];split
  .exact ⟨_,_,rfl⟩
  .exact ⟨_,_,rfl⟩
 obtain⟨o,u,a⟩:=a;exact⟨o,u,by rw[step,stepT,a]⟩
end
theorem vr{P:Wv}{m:Bool}{g:Wk}(h:sk g)(w:Wj):(∃o u es,stepG P m g w=.ended o u es)\/∃g' u es,stepG P m g w=.go g' u es/\sk g'/\(g'.status=.running\/g'.status=.blocked):=by
 obtain⟨n,cs,q,dy,of⟩:=g;obtain⟨d,f,l,k,p⟩:=h;simp only at l;subst l;have e:stepG P m ⟨n,cs,q,J d,of⟩ w=die P n d w:=by
  obtain⟨a,b,c,e,f,i,j⟩:=d;simp only at k;subst k;simp only[stepG]
 rw[e];unfold die;simp only[p];unfold writeOn;dsimp only;split
 .exact .inl ⟨_,_,_,rfl⟩
 .split
  .exact .inr ⟨_,_,_,rfl,⟨_,_,rfl,k,rfl⟩,.inl rfl⟩
  .exact .inr ⟨_,_,_,rfl,⟨_,_,rfl,k,rfl⟩,.inr rfl⟩
  .exact .inl ⟨_,_,_,rfl⟩
  .exact .inl ⟨_,_,_,rfl⟩
theorem yJ{P:Wv}:∀ (n:Nat)(g g':Wk)(w w':Wj),sk g->(g.status=.running\/g.status=.blocked)->runN P n (solo g w)=.next (solo g' w')->sk g':=by
 intro n;induction n with
 |zero=>
  intro g g' w w' b _ h;simp only[runN,Stepped.next.injEq]at h;have:#[g]=#[g']:=congrArg Machine.gs h;simp at this;exact this▸b
 |succ n ih=>
  intro g g' w w' b a h;simp only[runN]at h;rcases a with a|a
  .rcases vr (P:=P) (m:=Y) b w with⟨o,u,es,e⟩|⟨f,u,es,e,c,d⟩
   .rw [fi a e]at h;simp at h
   .rw [lx a e]at h;exact ih f g' u w' c d h
  .have ⟨o,u,e⟩:=iL (P:=P) (w:=w) a;rw[e]at h;simp at h
theorem AY{P:Wv}:∀ (n:Nat)(m a:Machine),runN P n m=.next a->m.gs.size<=a.gs.size:=by
 intro n;induction n with
 |zero=>intro m a h;simp only[runN,Stepped.next.injEq]at h;rw[h];exact lR _
 |succ n ih=>
  intro m a h;simp only[runN]at h;cases b:step P m with
  |next c=>
   rw[b]at h;exact lT (stepT_size P m c Y b) (ih c a h)
  |ended o w=>rw[b]at h;simp at h
inductive LS (P:Wv)(g:Wk)(w:Wj):Wk->Wj->Prop
 |go {g':Wk} {w':Wj} {es:Array Event} (h:stepG P Y g w=.go g' w' es) (hr:g'.status=.running) (hd:g'.dying=N):LS P g w g' w'
 |comm {g1:Wk} {c:CommCase} {s:CommShape} {w1:Wj} {es:Array Event} {g':Wk} {w':Wj} (h:stepG P Y g w=.comm g1 #[c] Y s w1 es) (hc:LC P g1 c s w1 g' w'):LS P g w g' w'
theorem LS.fn{P:Wv}{g:Wk}{w:Wj}{a b:Wk}{u z:Wj}(h:LS P g w a u)(k:LS P g w b z):a=b/\u=z:=by
 cases h with
 |go h hr hd=>
  cases k with
  |go k o p=>rw[h]at k;cases k;exact⟨rfl,rfl⟩
  |comm k m=>rw[h]at k;cases k
 |comm h q=>
  cases k with
  |go k o p=>rw[h]at k;cases k
  |comm k m=>
   rw[h]at k;cases k;cases q with
   |send i f j n=>
    cases m with
    |send d c e l=>rw[i]at d;cases d;rw[j]at e;cases e;rw[f]at c;cases c;exact⟨rfl,rfl⟩
    |recv d c e l=>rw[f]at c;cases c
    |shut d c e=>rw[f]at c;cases c
    |dead d c e=>rw[i]at d;cases d;rw[j]at e;cases e
   |recv i f j n=>
    cases m with
    |send d c e l=>rw[f]at c;cases c
    |recv d c e l=>rw[i]at d;cases d;rw[j]at e;cases e;exact⟨rfl,rfl⟩
    |shut d c e=>rw[i]at d;cases d;rw[j]at e;cases e;simp at n
    |dead d c e=>rw[f]at c;cases c
   |shut i f j=>
    cases m with
    |send d c e l=>rw[f]at c;cases c
    |recv d c e l=>rw[i]at d;cases d;rw[j]at e;cases e;simp at l
    |shut d c e=>exact⟨rfl,rfl⟩
    |dead d c e=>rw[f]at c;cases c
   |dead i f j=>
    cases m with
    |send d c e l=>rw[i]at d;cases d;rw[j]at e;cases e
    |recv d c e l=>rw[f]at c;cases c
    |shut d c e=>rw[f]at c;cases c
    |dead d c e=>exact⟨rfl,rfl⟩
inductive Dem (P:Wv)(N T:Wk->Wj->Prop):Wk->Wj->Prop
 |stop {g:Wk} {w:Wj} (h:T g w):Dem P N T g w
 |step {g:Wk} {w:Wj} (hN:N g w) (hT:¬T g w) (h:∀τ d,∃g' w',LS P g (w.on τ d) g' w') (hn:∀τ d g' w',LS P g (w.on τ d) g' w'->Dem P N T g' w'):Dem P N T g w
theorem Dem.imp{P:Wv}{a N' T:Wk->Wj->Prop}(c:∀g w,a g w->N' g w){g:Wk}{w:Wj}(h:Dem P a T g w):Dem P N' T g w:=by
 induction h with
 |stop h=>exact .stop h
 |step b d h _ ih=>exact .step (c _ _ b) d h ih
inductive Pth (P:Wv)(N T:Wk->Wj->Prop):Wk->Wj->Prop
 |stop {g:Wk} {w:Wj} (h:T g w):Pth P N T g w
 |step {g g':Wk} {w w':Wj} (hN:N g w) (hT:¬T g w) (h:LS P g w g' w') (hp:Pth P N T g' w'):Pth P N T g w
def All(P:Wv)(N T:Wk->Wj->Prop)(g:Wk)(w:Wj):Prop:=∀a d,Pth P N T g (w.on a d)
structure Way (P:Wv)(N T:Wk->Wj->Prop):Prop where
 mir:∀g w,N g w->uJ w (λu=>stepG P Y g u)
 on:∀g w τ d,N g w->N g (w.on τ d)
 tape:∀g w τ d,T g (w.on τ d)↔T g w
theorem AZ(w:Wj)(b a:Nat->Question->Nat)(d d':Nat):(w.on b d).on a d'=w.on a d':=rfl
theorem LC.on{P:Wv}{g g':Wk}{c:CommCase}{s:CommShape}{w w':Wj}(h:LC P g c s w g' w')(i:Nat->Question->Nat)(d:Nat):LC P g c s (w.on i d) g' (w'.on i d):=by
 cases h with
 |send a e b f=>exact .send a e b f
 |recv a e b f=>exact .recv a e b f
 |shut a e b=>exact .shut a e b
 |dead a e b f=>exact .dead a e b f
theorem LC.tape{P:Wv}{g g':Wk}{c:CommCase}{s:CommShape}{w w':Wj}(h:LC P g c s w g' w'):w'.tape=w.tape/\w'.drawn=w.drawn:=by
 cases h<;>exact⟨rfl,rfl⟩
theorem LS.two{P:Wv}{g g':Wk}{w w':Wj}(k:uJ w (λu=>stepG P Y g u))(h:LS P g w g' w'):w'.tape=w.tape/\w.drawn<=w'.drawn/\∀a d,Like w w' a d->LS P g (w.on a d) g' (w'.on a (d+(w'.drawn-w.drawn))):=by
 cases h with
 |go h r j=>
  obtain⟨e,l,f⟩:=k (.go g') w' _ j h;exact⟨e,l,λa d b=>.go (f a d b) r j⟩
 | @comm q c s o es _ _ h m=>
  obtain⟨e,l,f⟩:=k (.comm q #[c] Y s) o _ trivial h;have⟨n,p⟩:=m.tape;refine⟨n.trans e,by omega,λa d b=>?_⟩;rw[p];exact .comm (f a d (λi hi=>b i (by omega))) (m.on _ _)
theorem Way.many{P:Wv}{a T:Wk->Wj->Prop}(W:Way P a T){g:Wk}{w:Wj}(h:Pth P a T g w):∀b d,(∀i,b (d+i)=w.tape (w.drawn+i))->Pth P a T g (w.on b d):=by
 induction h with
 |stop h=>intro b d _;exact .stop ((W.tape _ _ _ _).2 h)
 | @step g g' w w' e f h _ ih=>
  intro b d c;obtain⟨j,h2,l⟩:=h.two (W.mir _ _ e);refine .step (W.on _ _ _ _ e) (λk=>f ((W.tape _ _ _ _).1 k)) (l b d (λi _=>c i)) (ih b _ (λi=>?_));have:=c (w'.drawn-w.drawn+i);rw[show d+(w'.drawn-w.drawn)+i=d+(w'.drawn-w.drawn+i)by omega,this,j,show w.drawn+(w'.drawn-w.drawn+i)=w'.drawn+i by omega]
def join(b a:Nat->Question->Nat)(m d':Nat):Nat->Question->Nat:=λi=>if i<m then b i else a (d'+(i-m))
theorem Way.all_step{P:Wv}{a T:Wk->Wj->Prop}(W:Way P a T){g g':Wk}{w w':Wj}{c:Nat->Question->Nat}(p:All P a T g w)(o:¬T g w)(h:LS P g (w.on c d) g' w'):All P a T g' w':=by
 intro b e;have j:=p c d;have l:a g (w.on c d):=by
  cases j with
  |stop k=>exact absurd ((W.tape _ _ _ _).1 k) o
  |step t _ _ _=>exact t
 obtain⟨h1,r,s⟩:=h.two (W.mir _ _ l);have q:Like (w.on c d) w' (join c b w'.drawn e) d:=λi u=>by
  have:d+i<w'.drawn:=u;show(if d+i<w'.drawn then _ else _)=_;rw[if_pos this];rfl
 have n:=s _ d q;rw[AZ]at n;have hd2:d<=w'.drawn:=r;have f:=p (join c b w'.drawn e) d;cases f with
 |stop k=>exact absurd ((W.tape _ _ _ _).1 k) o
 |step _ _ m f=>
  obtain⟨rfl,rfl⟩:=m.fn n;have:=W.many f b e (λi=>by
   show b (e+i)=(if d+(w'.drawn-d)+i<w'.drawn then _ else b (e+(d+(w'.drawn-d)+i-w'.drawn)));rw[if_neg (by omega)];congr 1;omega)
  rw[AZ]at this;exact this
structure Bad (P:Wv)(N T:Wk->Wj->Prop)(x:Wk×Wj):Prop where
 all:All P N T x.1 x.2
 not:¬Dem P N T x.1 x.2
theorem Way.bad_next{P:Wv}{a T:Wk->Wj->Prop}(W:Way P a T)(x:{x:Wk×Wj // Bad P a T x}):
  ∃ (b:Nat->Question->Nat) (d:Nat) (y:{x:Wk×Wj // Bad P a T x}),a x.1.1 (x.1.2.on b d)/\LS P x.1.1 (x.1.2.on b d) y.1.1 y.1.2:=by
 obtain⟨⟨g,w⟩,l,f⟩:=x;simp only at l f;have i:¬T g w:=λh=>f (.stop h)
 have e:∀b d,a g (w.on b d)/\∃g' w',LS P g (w.on b d) g' w':=λb d=>by
  have:=l b d;cases this with
  |stop k=>exact absurd ((W.tape _ _ _ _).1 k) i
  |step f _ h _=>exact⟨f,_,_,h⟩
 have j:∃b d g' w',LS P g (w.on b d) g' w'/\¬Dem P a T g' w':=by
  refine Classical.byContradiction λm=>f (.step (e w.tape w.drawn).1 i (λb d=>(e b d).2) λb d g' w' h=>Classical.byContradiction λc=>m ⟨b,d,g',w',h,c⟩)
 obtain⟨b,d,g',w',h,c⟩:=j;exact⟨b,d,⟨(g',w'),⟨W.all_step l i h,c⟩⟩,(e b d).1,h⟩
theorem Way.dem{P:Wv}{N T:Wk->Wj->Prop}(W:Way P N T){g:Wk}{w:Wj}(v:All P N T g w):Dem P N T g w:=by
 classical
 refine Classical.byContradiction λA=>?_
 have r:=W.bad_next;obtain⟨o,c,p,e⟩:∃ (o:{x:Wk×Wj // Bad P N T x}->Nat->Question->Nat) (c:{x:Wk×Wj // Bad P N T x}->Nat) (p:{x:Wk×Wj // Bad P N T x}->{x:Wk×Wj // Bad P N T x}),∀x,N x.1.1 (x.1.2.on (o x) (c x))/\LS P x.1.1 (x.1.2.on (o x) (c x)) (p x).1.1 (p x).1.2:=
  ⟨λx=>(r x).choose,λx=>(r x).choose_spec.choose,λx=>(r x).choose_spec.choose_spec.choose,λx=>(r x).choose_spec.choose_spec.choose_spec⟩
 let a:Nat->{x:Wk×Wj // Bad P N T x}:=λk=>Nat.rec ⟨(g,w),⟨v,A⟩⟩ (λ_ x=>p x) k
 have sq0:a 0=⟨(g,w),⟨v,A⟩⟩:=rfl;have t:∀k,a (k+1)=p (a k):=λk=>rfl
 let m:Nat->Nat:=λk=>(a (k+1)).1.2.drawn-c (a k)
 let S:Nat->Nat:=λk=>Nat.rec 0 (λj n=>n+m j) k
 have Ss:∀k,S (k+1)=S k+m k:=λk=>rfl
 have d:∀j k,j<=k->S j<=S k:=λj k h=>by
  induction h with
  |refl=>exact lR _
  |step _ ih=>rw[Ss];omega
 let f:Nat->Question->Nat:=λi=>if h:∃k,S k<=i/\i<S (k+1)then o (a h.choose) (c (a h.choose)+(i-S h.choose))elseλ_=>0
 have hτ:∀k i,i<m k->f (S k+i)=o (a k) (c (a k)+i):=λk i z=>by
  have b:∃q,S q<=S k+i/\S k+i<S (q+1):=⟨k,by omega,by rw[Ss];omega⟩;have G:b.choose=k:=by
   have⟨c1,c2⟩:=b.choose_spec;rcases Nat.lt_trichotomy b.choose k with h|h|h
   .have:=d (b.choose+1) k h;omega
   .exact h
   .have:=d (k+1) b.choose h;rw[Ss]at this;omega
  show(if h:∃q,S q<=S k+i/\S k+i<S (q+1)then o (a h.choose) (c (a h.choose)+(S k+i-S h.choose))elseλ_=>0)=_;rw[dif_pos b,G];congr 1;omega
 have s:∀k,LS P (a k).1.1 ((a k).1.2.on f (S k)) (a (k+1)).1.1 ((a (k+1)).1.2.on f (S (k+1))):=λk=>by
  have⟨F,h⟩:=e (a k);rw[<-t]at h;obtain⟨-,-,D⟩:=h.two (W.mir _ _ F);have:=D f (S k) (λi z=>by
   have hi':c (a k)+i<(a (k+1)).1.2.drawn:=z;have:i<m k:=by show i<(a (k+1)).1.2.drawn-c (a k);omega
   exact hτ k i this)
  rw[AZ]at this;exact this
 have l:∀ (g':Wk) (w':Wj),Pth P N T g' w'->∀k,g'=(a k).1.1->w'=(a k).1.2.on f (S k)->False:=by
  intro g' w' B;induction B with
  |stop h=>intro k u y;subst u;subst y;exact(a k).2.not (.stop ((W.tape _ _ _ _).1 h))
  |step _ _ h _ ih=>
   intro k u y;subst u;subst y;have⟨H,L⟩:=h.fn (s k);exact ih (k+1) H L
 exact l g (w.on f 0) (v f 0) 0 rfl rfl
def trap(P : Wv) : Wy := { fn := P.funcs.size, tmps := #[], todo := [.code (.refuse "")], defers := [{ target := .nil, args := #[] }], mode := .run, kind := .normal }
def Self(P:Wv) [Two P](X:List Wy×List Wy)(A:Nat->Prop)(G:FuncId->Bool)(g:Wk)(w:Wj):Prop:=
 g.status=.running/\∃ρ g' w',RGo P ρ X g g'/\bN ρ w w'/\GId P ρ/\fY P ρ.F/\ρ.loose=Z/\ρ.wide=Z/\(ρ.ch=A/\(∀c,A c->∃b,ρ c b)/\ρ.F=G)/\(∀c,¬ρ.old c)/\(∀f,¬Mk ρ.F f=Y)
def NB(X:List Wy)(g:Wk):Prop:=g.callers=X->g.frame.mode=.run\/g.frame.defers≠[]
section
variable {P:Wv} [Two P] {X:List Wy×List Wy} {A:Nat->Prop} {G:FuncId->Bool} {g g':Wk} {w w':Wj}
omit [Two P]in
theorem RFs.tail{ρ:Ren}{a:List Wy}(h:RFs P ρ X l' a)(e:a=X.2):l'=X.1:=by
 cases h with
 |base=>rfl
 |cons _ _ b=>exact absurd e b.ne
omit [Two P]in
theorem bN.onL{ρ:Ren}{w w':Wj}(S:bN ρ w w')(a:Nat->Question->Nat)(d:Nat):bN ρ (w.on a d) w':=⟨S.obj,S.fix,S.chan,S.os,S.pin⟩
omit [Two P]in
theorem bN.onR{ρ:Ren}{w w':Wj}(S:bN ρ w w')(a:Nat->Question->Nat)(d:Nat):bN ρ w (w'.on a d):=⟨S.obj,S.fix,S.chan,S.os,S.pin⟩
theorem Self.on(h:Self P X A G g w)(b:Nat->Question->Nat)(d:Nat):Self P X A G g (w.on b d):=by
 obtain⟨f,ρ,g',w',a,e,c⟩:=h;exact⟨f,ρ,g',w',a,e.onL _ _,c⟩
omit [Two P]in
theorem dK{ρ:Ren}{g g':Wk}(h:RGo P ρ X g g'){c d:CommCase}(_hc:RC ρ c d)(s:CommShape)(i:(c.send.isSome=Y/\s=.send)\/(c.send=N/\∃a,s=.recv a)){v e:Wx}(f:RV ρ v e)(a:Bool):RGo P ρ X (g.finishComm P #[c] s 0 v a) (g'.finishComm P #[d] s 0 e a):=by
 have b:RV ρ (commResult #[c] s 0 v a) (commResult #[d] s 0 e a):=by
  rcases i with⟨_,rfl⟩|⟨_,o,rfl⟩
  .exact dm
  .cases o with
   |false=>exact f
   |true=>
    have:=(RVs.nil.push f).push (RV.bool a);exact .tuple this.size this.at_
 exact⟨h.frame.finish b,h.callers,h.kind.finish _ _,⟨rfl,rfl⟩,h.dying,rfl,rfl⟩
theorem Self.step(hZ:bU P)(hN:cq P)(h:Self P X A G g w)(hb:NB X.1 g)(hl:LS P g w g' w'):Self P X A G g' w':=by
 obtain⟨hr,ρ,k,u,hG,S,hI,hE,ho,hwi,⟨hch,hcb,hFG⟩,hold,hmk⟩:=h;have hin:Base X g.frame k.callers:=λe=>hb (hG.callers.tail e)
 have sf:=jl hZ hE hN hI Y hG hin (S.onR w.tape w.drawn) (λi=>rfl);rcases sf.rel with⟨h1,-⟩|⟨-,h2⟩|⟨f,_,_,_,_,_,_,_,_,_,_,_,A⟩
 rotate_left 2
 .exact absurd A.mark (hmk f)
 .cases hl with
  |go h hr hd=>
   rw[h]at h1;obtain⟨⟨d,f,e,-⟩,-⟩:=h1;rw[hd]at e;cases e
  |comm h _=>rw[h]at h1;exact h1.elim
 .cases hl with
  |go h hr hd=>
   rw[h]at h2;generalize stepG P Y k (u.on w.tape w.drawn)=y at h2;cases h2 with
   |go es ρ' R hg he=>exact⟨hr,ρ',_,_,hg,R.sim,hI.mono R.le,by rw[R.le.F];exact hE,R.le.loose.trans ho,R.le.wide.trans hwi,⟨R.le.ch.trans hch,(λc k=>(hcb c k).imp λb=>R.le _ _),R.le.F.trans hFG⟩,by rw[R.le.old];exact hold,by rw[R.le.F];exact hmk⟩
  | @comm g1 c s w1 es _ _ h hc=>
   rw[h]at h2;generalize stepG P Y k (u.on w.tape w.drawn)=y at h2;cases h2 with
   | @comm _ k1 _ c' _ _ hs hrun _ u1 _ es' ρ' R hg hcc he _=>
    have hlo:ρ'.loose=false:=R.le.loose.trans ho;have hwi':ρ'.wide=false:=R.le.wide.trans hwi;have hch':ρ'.ch=A/\(∀c,A c->∃b,ρ' c b)/\ρ'.F=G:=⟨R.le.ch.trans hch,(λc k=>(hcb c k).imp λb=>R.le _ _),R.le.F.trans hFG⟩;have hold':∀c,¬ρ'.old c:=by rw[R.le.old];exact hold
    have fin:∀ (v v':Wx) (ok:Bool) (z z':Wj),RV ρ' v v'->bN ρ' z z'->Self P X A G (g1.finishComm P #[c] s 0 v ok) z:=λv v' ok z z' hv hz=>
     ⟨rfl,ρ',_,z',dK hg hcc s hs hv ok,hz,hI.mono R.le,by rw[R.le.F];exact hE,hlo,hwi',hch',hold',by rw[R.le.F];exact hmk⟩
    have S':=R.sim;have rel:∀r cap buf cl sent rcvd tm,c.chan=.chan (J r)->w1.heap[r]?=J (.chan cap buf cl sent rcvd tm)->∃r' cap' buf' sent' rcvd',ρ' r r'/\RVs ρ' buf buf'/\∀ (b b':Array Wx) (s2 q2:Nat),RVs ρ' b b'->bN ρ' {w1 with heap:=w1.heap.setIfInBounds r (.chan cap b cl s2 q2 tm)} {u1 with heap:=u1.heap.setIfInBounds r' (.chan cap' b' cl sent' rcvd' tm)}:=λr cap buf cl sent rcvd tm e eo=>by
     have:=hcc.chan;rw[e]at this;generalize c'.chan=q at this;cases this with
     |chan h=>
      cases h with
      | @some _ r' h=>
       obtain⟨o,o',k1,k2,k3⟩:=S'.obj _ _ h;rw[eo]at k1;cases k1;cases k3 with
       | @chan _ cap' _ b' cl' _ _ _ s' q' _ hb hcl=>
        have hbb:RVs ρ' buf b':=by
         rcases hb with hb|hb
         .rw [hlo]at hb;cases hb
         .exact hb
        obtain rfl:=hcl.resolve_left (by rw[hwi'];exactλh=>by cases h);exact⟨r',cap',b',s',q',h,hbb,λb b2 s2 q2 hb2=>S'.put h (.chan _ _ _ _ _ _ _ _ _ (.inr hb2) (.inr rfl)) (hold' r) (λ_=>rfl) (λ_ _ _ k=>by rw[eo]at k;cases k)⟩
    cases hc with
    | @send r cap sent rcvd buf tm v h1 h2 h3 h4=>
     obtain⟨r',cap',buf',s',q',k1,k2,k3⟩:=rel r _ _ _ _ _ _ h1 h3;rcases hcc.send with⟨e,-⟩|⟨v1,v2,e1,e2,hv⟩
     .rw [h2]at e;cases e
     .rw [h2]at e1;cases e1;exact fin _ _ Z _ _ dm (k3 _ _ _ _ (k2.push hv))
    | @recv r cap sent rcvd buf cl tm h1 h2 h3 h4=>
     obtain⟨r',cap',buf',s',q',k1,k2,k3⟩:=rel r _ _ _ _ _ _ h1 h3;exact fin _ _ Y _ _ (k2.getD 0) (k3 _ _ _ _ (k2.extract 1 buf.size))
    |shut h1 h2 h3=>exact fin _ _ Z _ _ hcc.zero S'
    |dead h1 h2 h3=>
     exact⟨hrun.1, ρ', { k1 with frame := k1.frame.raise [{ v := .iface P.rt.plainError (strVal "send on closed channel"), recovered := Z }] }, u1, ⟨hg.frame.raise1 (.iface _ (.string _)), hg.callers, hg.kind.raise _ _, hg.status, hg.dying, hg.offers⟩, S', hI.mono R.le, by rw[R.le.F]; exact hE, hlo, hwi', hch', hold', by rw[R.le.F]; exact hmk⟩
def kn(P:Wv) [Two P](X:List Wy×List Wy)(A:Nat->Prop)(G:FuncId->Bool)(g:Wk)(w:Wj):Prop:=Self P X A G g w/\NB X.1 g
theorem kn.mir(j:bU P)(l:cq P)(h:kn P X A G g w):uJ w (λu=>stepG P Y g u):=by
 obtain⟨⟨hr,ρ,k,u,b,S,d,c,ho,hwi,⟨hch,hcb,hFG⟩,hold,hmk⟩,f⟩:=h;have a:Base X g.frame k.callers:=λe=>f (b.callers.tail e)
 exact(jl j c l d Y b a (S.onR w.tape w.drawn) (λi=>rfl)).mir
omit [Two P]in
theorem sB(a:f'=trap P\/∃c,f'=(trap P).raise c)(w:Wj):∃o u es,stepG P Y {frame:=f',callers:=[],status:=.running,dying:=N} w=.ended o u es:=by
 rcases a with rfl|⟨c,rfl⟩
 .exact ⟨_,_,_,rfl⟩
 .exact ⟨_,_,_,rfl⟩
omit [Two P]in
theorem jK(b:Wy)(d:(b.kind == .early)=Z)(v:Wx)(w:Wj):∃a,doReturn P Y b [trap P] N v w=.go {frame:=a,callers:=[],status:=.running,dying:=N} w/\(a=trap P\/∃c,a=(trap P).raise c):=by
 unfold doReturn;cases h:b.kind with
 |early=>rw[h]at d;simp at d
 |normal=>exact⟨_,rfl,.inl rfl⟩
 |wrapped=>exact⟨_,rfl,.inl rfl⟩
 |deferred=>exact⟨_,rfl,.inl rfl⟩
 |report=>exact⟨_,rfl,.inl rfl⟩
omit [Two P]in
theorem A0{ρ:Ren}(n:RGo P ρ X g g')(m:g.callers=[trap P])(i:g.frame.mode≠.run)(l:g.frame.defers=[])(w:Wj):
  (∃o u es,stepG P Y g w=.ended o u es)\/∃b u es,stepG P Y g w=.go {frame:=b,callers:=[],status:=.running,dying:=N} u es/\(b=trap P\/∃c,b=(trap P).raise c):=by
 obtain⟨a,cs,p,dy,of⟩:=g;obtain⟨h,-,-,-,⟨d,-⟩,-⟩:=n;simp only at h d m i l;subst m;subst d;have e:stepG P Y ⟨a,[trap P],p,N,of⟩ w=unwind P Y a [trap P] N w:=by
  cases f:a.mode with
  |run=>exact absurd f i
  |returning=>simp only[stepG,f]
  |panicking c=>simp only[stepG,f]
 rw[e];unfold unwind;simp only[l];cases f:a.mode with
 |run=>exact absurd f i
 |panicking c=>
  simp only[(fh h P).1,Bool.false_eq_true,if_false];exact .inr ⟨_,_,_,rfl,.inr ⟨c,rfl⟩⟩
 |returning=>
  simp only;cases hfn:P.funcs[a.fn]? with
  |none=>
   have⟨b,j,k⟩:=jK (P:=P) a h.early.1 (a.tmps.getD 0 Wo) w;exact .inr ⟨b,_,_,j,k⟩
  |some fn=>
   simp only;cases hr:(results fn a.tmps).runT P w #[]with
   |mk r es=>
    cases r with
    |ok v u=>
     have⟨b,j,k⟩:=jK (P:=P) a h.early.1 v u;simp only[j];exact .inr ⟨b,_,_,rfl,k⟩
    |halt x u=>cases x<;>exact .inl ⟨_,_,_,rfl⟩
theorem oe(hZ:bU P)(hN:cq P){T:Wk->Wj->Prop}(hT:∀g w,T g w->g.callers≠[]/\g.dying=N/\g.status=.running):
  ∀ (n:Nat) (g:Wk) (w:Wj) (g':Wk) (w':Wj),Self P ([trap P],[]) A G g w->runN P n (solo g w)=.next (solo g' w')->T g' w'->Pth P (kn P ([trap P],[]) A G) T g w:=by
 intro n;induction n with
 |zero=>
  intro g w g' w' _ h j;simp only[runN,Stepped.next.injEq]at h;have B:#[g]=#[g']:=congrArg Machine.gs h;have e2:w=w':=congrArg Machine.world h;simp at B;subst B;subst e2;exact .stop j
 |succ n ih=>
  intro g w g' w' hS h j;by_cases F:T g w
  .exact .stop F
  have D:=hS.1;simp only[runN]at h;by_cases t:NB [trap P] g
  .have r:=hS;obtain⟨-,ρ,k,u,X,S,hI,hE,-,-,-,-,ab⟩:=hS;have aa:Base ([trap P],[]) g.frame k.callers:=λe=>t (X.callers.tail e)
   have sf:=jl hZ hE hN hI Y X aa (S.onR w.tape w.drawn) (λi=>rfl);rcases sf.rel with⟨p,-⟩|⟨-,h2⟩|⟨f,_,_,_,_,_,_,_,_,_,_,_,A⟩
   rotate_left 2
   .exact absurd A.mark (ab f)
   .-- it ends,or it dies
    cases l:stepG P Y g w with
    |ended o v es=>rw[fi D l]at h;simp at h
    |go a v es=>
     have p:Lost (stepG P Y g w):=p;rw[l]at p;rw[lx D l]at h;obtain⟨d,f,e,-⟩:=yJ n a g' v w' p.1 (.inl p.2) h;rw[(hT _ _ j).2.1]at e;cases e
    |_=>have p:Lost (stepG P Y g w):=p;rw[l]at p;exact p.elim
   .generalize l:stepG P Y g w=x at h2;generalize stepG P Y k (u.on w.tape w.drawn)=y at h2;cases h2 with
    | @go a a' v v' es H ρ' R V he=>
     rw[lx D l]at h;have Q:LS P g w a v:=.go l V.status.1 V.dying.1;exact .step ⟨r,t⟩ F Q (ih a v g' w' (r.step hZ hN t Q) h j)
    | @comm a a' c c' _ s hs L v v' es H ρ' R V hcc he _=>
     rw[sw D l]at h;cases hy:(communicate P {timers:=#[],alone:=N,slice:=N} #[away] 0 a #[c] Y s v).1 with
     |ended o q=>rw[hy]at h;simp at h
     |next m=>
      rw[hy]at h;rcases sx L.1 hy with⟨b,q,hc,rfl⟩|rfl
      .have Q:LS P g w b q:=.comm l hc;exact .step ⟨r,t⟩ F Q (ih b q g' w' (r.step hZ hN t Q) h j)
      .cases n with
       |zero=>
        simp only[runN,Stepped.next.injEq]at h;have B:#[({a with status:=.blocked,offers:=J (#[c],s)}:Wk)]=#[g']:=congrArg Machine.gs h;simp at B;have:=(hT _ _ j).2.2;rw[<-B]at this;cases this
       |succ n=>
        have⟨o,z,e⟩:=iL (P:=P) (w:=v) (g:={a with status:=.blocked,offers:=J (#[c],s)}) rfl;simp only[runN,e]at h;simp at h
    | @spawn _ a a' b b' v v' es H ρ' R V hk he=>
     have⟨m,e,hm⟩:=yI D l;rw[e]at h;have:=AY n m _ h;rw[hm]at this;simp[solo]at this
  .-- it is left:into the trap
   have hc:g.callers=[trap P]:=Classical.byContradiction λk=>t (λe=>absurd e k)
   have hm:g.frame.mode≠.run:=λk=>t (λ_=>.inl k)
   have hd:g.frame.defers=[]:=Classical.byContradiction λk=>t (λ_=>.inr k)
   obtain⟨-,ρ,k,u,X,-⟩:=hS;rcases A0 X hc hm hd w with⟨o,v,es,e⟩|⟨f1,v,es,e,hf⟩
   .rw [fi D e]at h;simp at h
   .rw [lx D e]at h;cases n with
    |zero=>
     simp only[runN,Stepped.next.injEq]at h;have B:#[({frame:=f1,callers:=[],status:=.running,dying:=N}:Wk)]=#[g']:=congrArg Machine.gs h;simp at B;have:=(hT _ _ j).1;rw[<-B]at this;exact(this rfl).elim
    |succ n=>
     have⟨o,z,es2,e2⟩:=sB (P:=P) hf v;simp only[runN,fi (g:={frame:=f1,callers:=[],status:=.running,dying:=N}) rfl e2]at h;simp at h
def Ends(P:Wv)(f:FuncId)(R:(Nat->Question->Nat)->Nat->Ending->Wj->Prop)(g:Wk)(w:Wj):Prop:=
 ∃h d a c e b,R h d e (w.on a c)/\g={frame:=b,callers:=[trap P],status:=.running,dying:=N}/\b.fn=f/\b.leaving P (w.on a c) e/\e≠.outgrown
omit [Two P]in
theorem Ends.on{f:FuncId}(a:Nat->Question->Nat)(d:Nat):Ends P f R g (w.on a d)↔Ends P f R g w:=Iff.rfl
theorem sC(t:bU P)(r:cq P){f:FuncId}{a:Array Wx}(x:∀b d,Calls P f a (w.on b d) (R b d))(l:∀b d u,¬R b d .outgrown u)
  (y:Self P ([trap P],[]) A G {frame:=Frame.enter P f a .normal,callers:=[trap P],status:=.running,dying:=none} w):
  Dem P (kn P ([trap P],[]) A G) (Ends P f R) {frame:=Frame.enter P f a .normal,callers:=[trap P],status:=.running,dying:=none} w:=by
 refine Way.dem (N:=kn P ([trap P],[]) A G) ⟨λg w h=>h.mir t r,λg w b d h=>⟨h.1.on b d,h.2⟩,λg w b d=>Ends.on b d⟩ (λb d=>?_);have⟨e,w',q,s,i,p,j⟩:=x b d [trap P];have m:e≠.outgrown:=λk=>by subst k;exact l b d w' s
 have o:Steps P (lone (Frame.enter P f a .normal) [trap P] (w.on b d)) (lone q [trap P] w'):=by
  cases e with
  |returned v=>exact i
  |panicked c=>exact i
  |outgrown=>exact absurd rfl m
 obtain⟨n,z⟩:=o;refine oe t r (T:=Ends P f R) ?_ n _ _ _ w' (y.on b d) z ⟨b,d,w'.tape,w'.drawn,e,q,s,rfl,p,j,m⟩;rintro g w ⟨_,_,_,_,_,q,_,rfl,_⟩;exact⟨by simp,rfl,rfl⟩
end
