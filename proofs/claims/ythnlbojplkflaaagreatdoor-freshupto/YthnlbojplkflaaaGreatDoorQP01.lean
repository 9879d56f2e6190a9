/- A part. -/
import Derived.Test.YthnlbojplkflaaaGreatDoorRows
import Derived.Below
import Derived.WalkKit
import Derived.WalkSpells
import Derived.WalkLawsBesides
import Derived.Calls
import Derived.Laws.Sem
import Derived.RunT
import Derived.Lone
import Derived.RangeFuncRecord
set_option maxHeartbeats 4000000
set_option maxRecDepth 100000
theorem Go.RowKit.Below.t:type_of% @Go.RowKit.Below.trans:=@Go.RowKit.Below.trans
theorem Go.StepsIn.m:type_of% @Go.StepsIn.mono:=@Go.StepsIn.mono
theorem List.IsPrefix.t{α:Type}:type_of% (@List.IsPrefix.trans α):=@List.IsPrefix.trans α
theorem Go.RowKit.Below.m:type_of% @Go.RowKit.Below.mono:=@Go.RowKit.Below.mono
theorem Ne.s{α:Sort _}{a b:α}(h:a≠b):b≠a:=h.symm
theorem Iff.t{a b c:Prop}(h:a↔b)(k:b↔c):a↔c:=h.trans k
theorem Go.Steps.t:type_of% @Go.Steps.trans:=@Go.Steps.trans
theorem Go.RowKit.Hid.o:type_of% @Go.RowKit.Hid.out:=@Go.RowKit.Hid.out
theorem Go.Calls.m:type_of% @Go.Calls.mono:=@Go.Calls.mono
theorem Eq.s{α:Sort _}{a b:α}(h:a=b):b=a:=h.symm
theorem Go.CallsIn.m:type_of% @Go.CallsIn.mono:=@Go.CallsIn.mono
theorem Go.RoundIn.m:type_of% @Go.RoundIn.mono:=@Go.RoundIn.mono
theorem Iff.s{a b:Prop}(h:a↔b):b↔a:=h.symm
theorem Eq.t{α:Sort _}{a b c:α}(h:a=b)(k:b=c):a=c:=h.trans k
theorem Q0{n:Nat}:n≤n:=Nat.le_refl n
theorem Q8{n:Nat}:0≤n:=Nat.zero_le n
theorem Q9{B:Nat}{w:Go.World}:Go.RowKit.Below B w w:=Go.RowKit.Below.refl B w
theorem Ra{w:Go.World}{a:Go.Addr}{u:Go.Value}{k:Nat}(h:k≠a.block):(w.setCell a u).heap[k]?=w.heap[k]?:=Go.RowKit.Below.heap_setCell w a u k h
theorem Rb{w:Go.World}{o:Go.Obj}{k:Nat}(h:k<w.heap.size):(w.alloc o).heap[k]?=w.heap[k]?:=Go.RowKit.Below.heap_alloc w o k h
open _root_ renaming Array->dT,Bool->ey,Option->eV,absurd->eW,if_true->gI,ByteArray->gL,congrArg->kr,Int->lj,if_neg->lk,False->nF,if_false->n8,beq_eq_false_iff_ne->pt,if_pos->sq,ForInStep->sT,decide_eq_decide->tb,String->tn,True->uc,getElem!_pos->vf,List->vx
open Go.GStep renaming after->wz
open Go.Sem renaming runT->xb,run->xc,bind->xt,store->xv,getObj->yz,setObj->Rj,choose->Rk,sys->Rl
open Go renaming FuncId->Rm,MapEntry->Rn,PanicEntry->Ro,runtimePanic->Rp,CommCase->Rq,CommShape->Rr,callFunc->Rt,execOp->Ru,typeInfo->Rv,goexitEntry->Rw,sizeOf->Rx,findLabel->Ry,CallKind->Rz,boundsPanic->RB,samePointer->RE,cellAtBytes->RF,TypeDesc->RG,endThrow->RJ,cellOfByte->RN,sameLayout->RQ,FrameMode->RU,waitingAt->RY,loadCellsFrom->RZ,markStringish->R3,behindNumber->R4,movedPointer->R5,movedNumber->R6,variablesAt->R7,runnable_eq->R8,askRoom->R9,goPanic->Sa,storeCells->Sb,BoundsCode->Sc,fieldPlace->Sd,commResult->Se,byteOf->Sf,liesAt->Sg,part->Sh
open Array renaming getElem?_modify->Si,getElem?_push->Sj,foldl_toList->Sk,eq_empty_of_size_eq_zero->Sl,getElem?_setIfInBounds_self_of_lt->Sm,mapM_eq_mapM_toList->Sn,getElem?_replicate->Sp,forIn_toList->Sq,getD_eq_getD_getElem?->Su,getElem?_map->Sv,swapAt!->Sx,getElem?_eq_none->Sy,range->Sz,getElem?_toList->SB,length_toList->SC,toList_zipIdx->SD,not_mem_empty->SE,all_eq_true->SG,mem_append->SH,toList_zip->SI,replicate->SJ
open Go.Frame renaming enter->SK,noResult->SM,round->SN,finish->SO,raise->SQ,oper?->SU,mode->SV,eval->SW
open Go.World renaming freeze->SX,setCell->SY,cell?_setCell_other->SZ,cell?_setCell_same'->S0,block_lt_of_cell?->S4,putObj_heap_other->S5,frozen?_of_block->S7,cell?_alloc_at->S8,alloc_heap_new->S9,ask->Ta,cell?->Tb,farStore->Tc,frozen?->Td,noCell->Te
open Pure renaming pure->Tf
open Go.Obj renaming isChan->Tg
open Classical renaming byContradiction->Th
open Go.Instr renaming endRound->Ti,fill->Tj,sliceBounds->Tl,findNow->Tm,enterLoop->Tn,checkKey->To,sameNow->Tp,findKey->Tq,makeSlice->Tt,extract->Tu,makeInterface->Tv,deferInRound->Tw,takeDeferred->Tx,keyThatStays->Ty,sliceBound->Tz,buildSlice->TA,beginRound->TB,findAsking->TC,mapUpdate->TD,sureAddr->TE,makeFunc->TF,makeChan->TG,sameBits->TH,storeAt->TI,indexAt->TJ,fieldAt->TK,sliceAt->TL,getLoop->TM,endLoop->TN,makeMap->TO,loadAt->TP,lookup->TQ,alloc->TR,field->TS,index->TT,slice->TU,build->TV,yield->TW,panic->TX,box->TY
open Go.Op renaming equalIn->TZ,equal->T0,intArith->T1,unary->T2,eqGuardIn->T3,twoPlaces->T4,stringOp->T5,intBits->T6,addrSub->T7,addrCmp->T8,addrMod->T9,intDiv->Ua,intCmp->Ub,shift->Uc
open Go.Proofs.Tryz renaming prog->Ud
open Go.Builtin renaming zeroCells->Ue,firstCells->Uf,holdsCells->Ug,close_->Uh,min2->Ui,append_->Uj,clear_->Uk,unsafeString_->Ul,copy_->Um,len_->Un,cap_->Uo,unsafeAdd_->Up,lenOf->Uq,min_->Ur
open Go.Question renaming extern->Us,forced->Ut
open Option renaming map_some->Uu,map_eq_some_iff->Uv
open List renaming take_succ_eq_append_getElem->Uw,getElem?_append_right->Ux,getElem?_eq_getElem->Uy,take_of_length_le->Uz,length_singleton->UA,mem_iff_getElem->UB,getElem_of_mem->UC,length_append->UD,size_toArray->UE,append_assoc->UF,length_cons->UG,length_take->UH,length_drop->UI,length_nil->UJ,length_map->UK,range_succ->UL,dropWhile->UM
open Bool renaming false_eq_true->UN,and_eq_true->UO
open Go.Deferred renaming ofValue->UP
open Go.Region renaming schedule->UQ
open Go.Conv renaming runesFrom->UR,stringToBytes->US,bytesToString->UT,runesToString->UU,stringToRunes->UW
open Nat renaming lt_of_lt_of_le->UX,le_trans->UY,rec->UZ
open Go.RowKit.Below renaming heap_setCell->U0,heap_alloc->U1,refl->U2
open Go renaming World->Wj,Value->Wx,Goroutine->Wk,Program->Wv,TypeId->Ww,Frame->Wy,Addr->Wu,undef->Wo
namespace Go.Proofs
open _root_ renaming rfl->Q
open _root_ renaming Nat->H,List->S
open Option renaming none->N,some->J
open Bool renaming true->Y,false->Z
open Value renaming int->I,string->U,slice->M,pointer->O,bool->C,agg->Rd,tuple->Re
open IntKind renaming i64->K
open Obj renaming cells->E
open Ending renaming returned->Rc
open Or renaming inl->Rf,inr->Rg
open Operand renaming tmp->Rh
open GoStatus renaming running->Ri
variable {j α β:Type}{b i r:H}{k n v v' x y:Wx}{f:FuncId}{P p:Wv}{c c':dT Wx}{a':Wu}{e:Event}{o o':Obj}{L l':S Wy}{R:(H->Question->H)->H->Ending->Wj->Prop}{d':Deferred}{x':GStep}{D f' fr fr':Wy}{X:S Wy×S Wy}
section
open Go Go.RowKit
theorem eS{α:Type _}{b:α}{a:dT α}(h:a[i]?=J b):∃h,a[i]=b:=Array.getElem?_eq_some_iff.mp h
theorem eG{α:Type _} {a:dT α}  (h:i<a.size):a[i]?=J a[i]:=@Array.getElem?_eq_getElem _ a i h
theorem sN{α:Type _}{b:dT α}(h:i≠r){a:α}:(b.setIfInBounds i a)[r]?=b[r]?:=@Array.getElem?_setIfInBounds_ne _ b i r h a
theorem cB{w w':Wj}{a:Wu}(h:w'.heap[a.block]?=w.heap[a.block]?):w'.cell? a=w.cell? a:=@World.cell?_of_block w w' a h
theorem gZ{α:Type _}{a:α}{l}:(a::l)[0]?=J a:=rfl
theorem gS{α:Type _}{a:α}{l}:(a::l)[i+1]?=l[i]?:=rfl
theorem gA{α:Type _}{a:S α}:a.toArray[i]?=a[i]?:=@List.getElem?_toArray _ a i
theorem lR(n:H):n<=n:=@Nat.le_refl n
theorem zA n:0+n=n:=@Nat.zero_add n
theorem sL  {l:S α}  {a:α} (h:l[i]?=J a):∃h,l[i]=a:=List.getElem?_eq_some_iff.mp h
theorem cO:type_of% @SZ:=@SZ
theorem cS:type_of% @S0:=@S0
theorem cA:type_of% @S8:=@S8
theorem aN:type_of% @S9:=@S9
theorem bC:type_of% @S4:=@S4
theorem fB:type_of% @S7:=@S7
theorem pO:type_of% @S5:=@S5
theorem lL:type_of% @UX:=@UX
theorem lT:type_of% @UY:=@UY
theorem bT:type_of% @UO:=@UO
theorem bS:type_of% @U0:=@U0
theorem bA:type_of% @U1:=@U1
theorem bR:type_of% @U2:=@U2
theorem lP:type_of% (@UD α):=@UD α
theorem lC:type_of% (@UG α):=@UG α
theorem lN:type_of% (@UJ α):=@UJ α
theorem tL:type_of% (@UH α):=@UH α
theorem eL:type_of% (@Uy α):=@Uy α
theorem gD:type_of% (@Su α):=@Su α
theorem sS:type_of% (@Sm α):=@Sm α
theorem lM:type_of% (@UK α):=@UK α
theorem tS:type_of% (@Uw α):=@Uw α
theorem aR:type_of% (@Ux α):=@Ux α
theorem gP:type_of% (@Sj α):=@Sj α
theorem lD:type_of% (@UI α):=@UI α
theorem oJ:type_of% (@Option.some.inj α):=@Option.some.inj α
theorem lY:type_of% (@SC α):=@SC α
theorem lZ:type_of% (@UE α):=@UE α
theorem tO:type_of% (@Uz α):=@Uz α
theorem lS:type_of% (@UA α):=@UA α
theorem pA:type_of% (@UF α):=@UF α
theorem gM:type_of% (@UC α):=@UC α
theorem gT:type_of% (@SB α):=@SB α
end
end Go.Proofs
namespace Go.Proofs
open _root_ renaming rfl->Q
open _root_ renaming Nat->H,List->S
open Option renaming none->N,some->J
open Bool renaming true->Y,false->Z
open Value renaming int->I,string->U,slice->M,pointer->O,bool->C,agg->Rd,tuple->Re
open IntKind renaming i64->K
open Obj renaming cells->E
open Ending renaming returned->Rc
open Or renaming inl->Rf,inr->Rg
open Operand renaming tmp->Rh
open GoStatus renaming running->Ri
variable {j α β:Type}{b i r:H}{k n v v' x y:Wx}{f:FuncId}{P p:Wv}{c c':dT Wx}{a':Wu}{e:Event}{o o':Obj}{L l':S Wy}{R:(H->Question->H)->H->Ending->Wj->Prop}{d':Deferred}{x':GStep}{D f' fr fr':Wy}{X:S Wy×S Wy}
section
open Go
noncomputable section
def Sw.prog(P:Wv)(p q:Rm)(a b:Func):Wv:=⟨P.toTables,(P.funcs.setIfInBounds p a).setIfInBounds q b⟩
section
variable {P:Wv} {p q:FuncId} {a b:Func}
theorem Sw.ne{x:eV Func}(c:p≠i)(d:q≠i)(h:P.funcs[i]?=x):(Sw.prog P p q a b).funcs[i]?=x:=by
 unfold Sw.prog;rw[sN d,sN c];exact h
theorem Sw.at_p{f}(c:q≠p)(h:P.funcs[p]?=J f):(Sw.prog P p q a b).funcs[p]?=J a:=by
 unfold Sw.prog;rw[sN c,sS (eS h).1]
theorem Sw.at_q{f}(h:P.funcs[q]?=J f):(Sw.prog P p q a b).funcs[q]?=J b:=by
 unfold Sw.prog;rw[sS (by rw[Array.size_setIfInBounds];exact(eS h).1)]
theorem Sw.Oq{Q : Wv} {i : H} {fn : Func} (h : Q.funcs[i]? = J fn) (hn : (fn.name == "runtime.NumGoroutine") = Z) (hb : fn.body.isNone = Z) (args : dT Wx) (w : Wj) : xc Q (Rt i args) w = .ok (.enter i args) w := by
 show xc Q (match Q.funcs[i]? with|none=>_|some fn=>_) w=_;rw[h];simp only[hn,hb];rfl
theorem Sw.tables:(Sw.prog P p q a b).toTables=P.toTables:=rfl
theorem Sw.und t:(Sw.prog P p q a b).underlying t=P.underlying t:=rfl
theorem Sw.depth:(Sw.prog P p q a b).depth=P.depth:=rfl
theorem Sw.guard d t:(Sw.prog P p q a b).eqGuardType d t=P.eqGuardType d t:=by
 induction d generalizing t with
 |zero=>rfl
 |succ d ih=>unfold Program.eqGuardType;simp only[Sw.und,ih]
theorem Sw.Ok(Q : Wv) (i : Ww) (w : Wj) : xc Q (Rv i) w = (match Q.info? i with | some x => .ok x w | none => .halt (.stuck "no such type") w) := by
 show xc Q (match Q.info? i with | some x => pure x | none => stuck "no such type") w = _
 cases Q.info? i<;>rfl
theorem Sw.N8(Q : Wv) (i : Ww) (w : Wj) : xc Q (underlying i) w = (match Q.underlying i with | some x => .ok x w | none => .halt (.stuck "no such type") w) := by
 show xc Q (match Q.underlying i with | some x => pure x | none => stuck "no such type") w = _
 cases Q.underlying i<;>rfl
theorem Sw.run_typeInfo i w:xc (Sw.prog P p q a b) (Rv i) w=xc P (Rv i) w:=by
 rw[Sw.Ok,Sw.Ok];rfl
theorem Sw.run_underlying i w:xc (Sw.prog P p q a b) (underlying i) w=xc P (underlying i) w:=by
 rw[Sw.N8,Sw.N8];rfl
theorem Sw.run_sizeOf i w:xc (Sw.prog P p q a b) (Rx i) w=xc P (Rx i) w:=by
 have h : ∀ Q : Wv, xc Q (Rx i) w = (match Q.info? i with | some x => .ok x.size w | none => .halt (.stuck "no such type") w) := fun Q => by
  show xc Q (xt (match Q.info? i with | some x => pure x | none => stuck "no such type") fun x => pure x.size) w = _
  cases Q.info? i<;>rfl
 rw[h,h];rfl
theorem Sw.N9 i w:xc (Sw.prog P p q a b) (zeroValue i) w=xc P (zeroValue i) w:=by
 have h : ∀ Q : Wv, xc Q (zeroValue i) w = (match Q.info? i with | some x => (match x.zero with | some v => .ok v w | none => .halt (.unsupported (.resourceLimit "a value of more than 2^22 cells")) w) | none => .halt (.stuck "no such type") w) := fun Q => by
  show xc Q (xt (match Q.info? i with | some x => pure x | none => stuck "no such type") fun x => match x.zero with | some v => pure v | none => unsupported (.resourceLimit "a value of more than 2^22 cells")) w = _
  cases Q.info? i with
  |none=>rfl
  |some x=>
   show xc Q (match x.zero with | some v => pure v | none => unsupported (.resourceLimit "a value of more than 2^22 cells")) w = _
   dsimp only;cases x.zero<;>rfl
 rw[h,h];rfl
theorem Sw.OE i w:xc (Sw.prog P p q a b) (isAgg i) w=xc P (isAgg i) w:=by
 have h : ∀ Q : Wv, xc Q (isAgg i) w = (match Q.underlying i with | some (.struct _) => .ok Y w | some (.array _ _) => .ok Y w | some _ => .ok Z w | none => .halt (.stuck "no such type") w) := fun Q => by
  show xc Q (xt (match Q.underlying i with | some x => pure x | none => stuck "no such type") fun x => match x with | .struct _ | .array _ _ => pure Y | _ => pure Z) w = _
  cases Q.underlying i with
  |none=>rfl
  |some x=>cases x<;>rfl
 rw[h,h];rfl
end
def Yq.N6 : dT Oper := #[{ dst := J 10, op := .makeFunc (.func 48) #[Rh 0, Rh 1] #[], type := 0, pos := "", after := #[], guard := N }, { dst := J 11, op := .makeInterface 3 (Rh 10), type := 0, pos := "", after := #[], guard := N }, { dst := N, op := .panic (Rh 11), type := 0, pos := "", after := #[], guard := N }]
def Yq.NH : dT Oper := #[{ dst := J 9, op := .move (.const (C Z)), type := 4, pos := "", after := #[], guard := N }, { dst := J 9, op := .move (.const (C Y)), type := 4, pos := "", after := #[], guard := N }]
def Yq.OM : dT Oper := #[{ dst := J 9, op := .move (.const Wo), type := 4, pos := "", after := #[], guard := N }]
def Yq.Qb:Code:=.seq (.region 100 Yq.NH Y) (.seq (.cond (Rh 9) (.region 101 Yq.N6 Z) .skip) (.region 102 Yq.OM Z))
noncomputable abbrev Yq.Po:Code:=Tryz.f48.body.getD .skip
noncomputable abbrev Yq.f48:Func:={Tryz.f48 with body:=J (.seq Yq.Qb Yq.Po)}
def Yq.OF : dT Oper := #[{ dst := J 2, op := .box 84 (Rh 0), type := 0, pos := "", after := #[], guard := N }, { dst := J 3, op := .box 40 (Rh 1), type := 0, pos := "", after := #[], guard := N }, { dst := J 4, op := .assign (.const (.chan N)), type := 158, pos := "", after := #[], guard := N }]
def Yq.OC : dT Oper := #[{ dst := J 6, op := .makeChan 187 (.const (I K 1000)), type := 187, pos := "", after := #[], guard := N }, { dst := J 5, op := .alloc 187, type := 0, pos := "", after := #[], guard := N }, { dst := N, op := .store 187 (Rh 5) (Rh 6), type := 0, pos := "", after := #[], guard := N }]
def Yq.N5 : dT Oper := #[{ dst := J 7, op := .makeFunc (.func 98) #[] #[Rh 5, Rh 2, Rh 3], type := 1, pos := "", after := #[], guard := N }, { dst := N, op := .call { callee := .value (Rh 7), args := #[], argTypes := #[] }, type := 0, pos := "", after := #[], guard := N }, { dst := J 7, op := .move (.const Wo), type := 0, pos := "", after := #[], guard := N }]
def Yq.OG : dT Oper := #[{ dst := J 8, op := .load 187 (Rh 5), type := 187, pos := "items.go:26", after := #[], guard := N }, { dst := J 4, op := .assign (Rh 8), type := 158, pos := "items.go:26", after := #[{ on := 0, ground := .data }, { on := 0, ground := .phase }], guard := N }]
def Yq.b76:Code:=.seq (.region 0 Yq.OF Z) (.seq (.region 1 Yq.OC Z) (.seq (.region 2 Yq.N5 Z) (.seq (.region 3 Yq.OG Z) .ret)))
noncomputable abbrev Yq.f76:Func:={Tryz.f76 with body:=J Yq.b76}
noncomputable def Yq.prog:Wv:=Sw.prog Ud 48 76 Yq.f48 Yq.f76
@[simp] theorem Yq.func48:Yq.prog.funcs[48]?=J Yq.f48:=Sw.at_p (by decide) Tryz.func48
@[simp] theorem Yq.func76:Yq.prog.funcs[76]?=J Yq.f76:=Sw.at_q Tryz.func76
theorem Yq.nq  {x:eV Func} (h:Tryz.prog.funcs[i]?=x) (a:48≠i:=by decide) (b:76≠i:=by decide):Yq.prog.funcs[i]?=x:=Sw.ne a b h
@[simp] theorem Yq.fns(i:H) (h1:48≠i) (h2:76≠i):Yq.prog.funcs[i]?=Tryz.prog.funcs[i]?:=Sw.ne h1 h2 Q
def Sw.Oi(Q:Wv)(i:H):ey:=match Q.funcs[i]? with
 | some fn => !(fn.name == "runtime.NumGoroutine") && !fn.body.isNone
 |none=>Z
theorem Sw.Pk{a}(h:Sw.Oi a i=Y)(b:dT Wx)w:xc a (Rt i b) w=.ok (.enter i b) w:=by
 unfold Sw.Oi at h;cases c:a.funcs[i]? with
 |none=>rw[c]at h;cases h
 |some fn=>
  rw[c]at h;simp only[bT,Bool.not_eq_true']at h;exact Sw.Oq c h.1 h.2 b w
theorem Sw.Pu:(List.range 185).all (λi=>[0,1,115,152,159,163,164,165,166,167,168,169,170,171,172,173,174,175,176,177,178,179,180,181,182,183].contains i||Sw.Oi Ud i)=true:=by kernel_rfl
@[simp] theorem Yq.calls(i:H) (args:dT Wx) (w:Wj) (h:i<185) (h1:¬i∈[0,1,115,152,159,163,164,165,166,167,168,169,170,171,172,173,174,175,176,177,178,179,180,181,182,183]):xc Yq.prog (Rt i args) w=.ok (.enter i args) w:=by
 by_cases c:48=i
 .subst c;exact Sw.Oq Yq.func48 Q Q args w
 by_cases b:76=i
 .subst b;exact Sw.Oq Yq.func76 Q Q args w
 refine Sw.Pk ?_ args w;have a:=List.all_eq_true.1 Sw.Pu i (List.mem_range.2 h);unfold Sw.Oi at a ⊢;rw[Yq.fns i c b];simpa[h1]using a
theorem Yq.tables:Yq.prog.toTables=Tryz.prog.toTables:=Sw.tables
@[simp] theorem Yq.Qj(t:Ww):Yq.prog.underlying t=Tryz.prog.underlying t:=Sw.und t
theorem Yq.u{t}{d:eV RG}(h:Tryz.prog.underlying t=d):Yq.prog.underlying t=d:=(Yq.Qj t).t h
theorem Yq.g{t}{d:ey}(h:Tryz.prog.eqGuardType Tryz.prog.depth t=d):Yq.prog.eqGuardType Yq.prog.depth t=d:=by
 have e:Yq.prog.depth=Tryz.prog.depth:=Sw.depth;have a:Yq.prog.eqGuardType Tryz.prog.depth t=Tryz.prog.eqGuardType Tryz.prog.depth t:=Sw.guard _ t;rw[e,a];exact h
theorem Yq.s{t}{w}{r:Result H}(h:xc Ud (Rx t) w=r):xc Yq.prog (Rx t) w=r:=(Sw.run_sizeOf t w).t h
theorem Yq.a{t}{w}{r:Result ey}(h:xc Ud (isAgg t) w=r):xc Yq.prog (isAgg t) w=r:=(Sw.OE t w).t h
theorem Yq.z{t}{w}{r:Result Wx}(h:xc Ud (zeroValue t) w=r):xc Yq.prog (zeroValue t) w=r:=(Sw.N9 t w).t h
@[simp] theorem Yq.rS(t:Ww) (w:Wj):xc Yq.prog (Rx t) w=xc Ud (Rx t) w:=Sw.run_sizeOf t w
@[simp] theorem Yq.rI(t:Ww) (w:Wj):xc Yq.prog (Rv t) w=xc Ud (Rv t) w:=Sw.run_typeInfo t w
@[simp] theorem Yq.rU(t:Ww) (w:Wj):xc Yq.prog (underlying t) w=xc Ud (underlying t) w:=Sw.run_underlying t w
@[simp] theorem Yq.rA(t:Ww) (w:Wj):xc Yq.prog (isAgg t) w=xc Ud (isAgg t) w:=Sw.OE t w
@[simp] theorem Yq.rZ(t:Ww) (w:Wj):xc Yq.prog (zeroValue t) w=xc Ud (zeroValue t) w:=Sw.N9 t w
@[simp] theorem Yq.rG(t:Ww):Yq.prog.eqGuardType Yq.prog.depth t=Tryz.prog.eqGuardType Tryz.prog.depth t:=Yq.g Q
@[simp] theorem Yq.rt_eq:Yq.prog.rt=Tryz.prog.rt:=by rw[Yq.tables]
@[simp] theorem Yq.globals_size:Yq.prog.globals.size=Tryz.prog.globals.size:=by rw[Yq.tables]
end
end
end Go.Proofs
namespace Go.Proofs.Qw
open _root_ renaming rfl->Q
open _root_ renaming Nat->H,List->S
open Option renaming none->N,some->J
open Bool renaming true->Y,false->Z
open Value renaming int->I,string->U,slice->M,pointer->O,bool->C,agg->Rd,tuple->Re
open IntKind renaming i64->K
open Obj renaming cells->E
open Ending renaming returned->Rc
open Or renaming inl->Rf,inr->Rg
open Operand renaming tmp->Rh
open GoStatus renaming running->Ri
variable {j α β:Type}{b i r:H}{k n v v' x y:Wx}{f:FuncId}{P p:Wv}{c c':dT Wx}{a':Wu}{e:Event}{o o':Obj}{L l':S Wy}{R:(H->Question->H)->H->Ending->Wj->Prop}{d':Deferred}{x':GStep}{D f' fr fr':Wy}{X:S Wy×S Wy}
section
open Go.RowKit
theorem aq{p:Prop}(h:p):Hid p:=h
theorem bJ{p q:Prop}(h:p)(g:q):Hid (p/\q):=⟨h,g⟩
theorem eM{p q r:Prop}(h:p)(g:q)(k:r):Hid (p/\q/\r):=⟨h,g,k⟩
theorem ig{p q r s:Prop}(h:p)(g:q)(k:r)(l:s):Hid (p/\q/\r/\s):=⟨h,g,k,l⟩
theorem gB{p q r s t:Prop}(h:p)(g:q)(k:r)(l:s)(m:t):Hid (p/\q/\r/\s/\t):=⟨h,g,k,l,m⟩
theorem tq{k:IntKind}{a b:lj}(h:a=b):Ending.returned (I k a)=Rc (I k b):=by rw[h]
def oB(x y:lj):lj:=if x<y then -1 else if y<x then 1 else 0
theorem GF(x:lj)w:Calls Yq.prog 132 #[I .u8 x] w λe w'=>e=Rc (C Z)/\w'=w:=by
 go_enter (Yq.nq Tryz.func132),Tryz.ntmps132;go_wp2;go_ret;exact⟨by simp,Q⟩
theorem GG(x:lj)w:Calls Yq.prog 105 #[I K x] w λe w'=>e=Rc (C Z)/\w'=w:=by
 go_enter (Yq.nq Tryz.func105),Tryz.ntmps105;go_wp2;go_ret;exact⟨by simp,Q⟩
theorem GH(x y:lj)w:Calls Yq.prog 114 #[I .u8 x,I .u8 y] w λe w'=>e=Rc (I K (oB x y))/\w'=w:=by
 go_enter (Yq.nq Tryz.func114),Tryz.ntmps114;go_wp2_with (go_at_call 132;refine(GF _ _).m ?_;rintro e w' ⟨rfl,rfl⟩)
 all_goals(go_ret;exact⟨tq (by unfold oB;(repeat' split)<;>omega),Q⟩)
theorem GI(x y:lj)w:Calls Yq.prog 83 #[I K x,I K y] w λe w'=>e=Rc (I K (oB x y))/\w'=w:=by
 go_enter (Yq.nq Tryz.func83),Tryz.ntmps83;go_wp2_with (go_at_call 105;refine(GG _ _).m ?_;rintro e w' ⟨rfl,rfl⟩)
 all_goals(go_ret;exact⟨tq (by unfold oB;(repeat' split)<;>omega),Q⟩)
theorem tu(l:lj)(p:eV Wu)(b:lj)w:Calls Yq.prog 113 #[Rd #[I .u8 l,O p],I .u8 b] w λe w'=>e=Rc (I K (oB l b))/\w'=w.alloc (E #[I .u8 l,O p] 184):=by
 go_enter (Yq.nq Tryz.func113),Tryz.ntmps113;go_wp2_with (go_at_call 114;refine(GH _ _ _).m ?_;rintro e w' ⟨rfl,rfl⟩)
 go_ret;exact⟨Q,Q⟩
theorem tw(n:lj)(s:gL)(m:ey)(b:lj)w:Calls Yq.prog 92 #[Rd #[I K n,U s,C m],I K b] w λe w'=>e=Rc (I K (oB n b))/\w'=w.alloc (E #[I K n,U s,C m] 72):=by
 go_enter (Yq.nq Tryz.func92),Tryz.ntmps92;go_wp2_with (go_at_call 83;refine(GI _ _ _).m ?_;rintro e w' ⟨rfl,rfl⟩)
 go_ret;exact⟨Q,Q⟩
end
def _root_.Go.World.on(w:Wj)(a:H->Question->H)(d:H):Wj:={w with tape:=a,drawn:=d}
theorem uL(p:Wv)(w:Wj)(c:H->Question->H)(d:H)(x:Wu)(u:Ww)(a:Wu)(v:Wx)(b:ey):(w.on c d).viewStore p x u a v b=(w.viewStore p x u a v b).map (λx=>(x.1.on c d,x.2)):=by
 unfold World.viewStore;have e:(w.on c d).seen p x u a b=w.seen p x u a b:=rfl;rw[e];simp[bind,Except.bind,pure,Except.pure]
 repeat' split
 all_goals first|rfl|simp_all
theorem xW(p:Wv)(w:Wj)(c:H->Question->H)(d:H)(a:Wu)(v:Wx)(b:ey):(w.on c d).farStore p a v b=(w.farStore p a v b).map (λx=>(x.1.on c d,x.2)):=by
 unfold Tc;have e:(w.on c d).heap=w.heap:=rfl;rw[e];cases w.heap[a.block]? with
 |none=>rfl
 |some o=>
  cases o with
  |view x u=>
   simp only;rw[uL];cases w.viewStore p x u a v b<;>rfl
  |_=>rfl
theorem tz{w w':Wj}{a:Wu}{b:ey}{l:S Wu}(h:w.farStore p a v b=.ok (w',l)):w'.tape=w.tape/\w'.drawn=w.drawn:=by
 have c:=xW p w w.tape w.drawn a v b;have e:w.on w.tape w.drawn=w:=rfl;rw[e,h]at c;simp only[Except.map,Except.ok.injEq,Prod.mk.injEq]at c;have:=c.1;constructor;rw[this];rfl;rw[this];rfl
def Like(w w':Wj)(a:H->Question->H)(d:H):Prop:=∀i,w.drawn+i<w'.drawn->a (d+i)=w.tape (w.drawn+i)
theorem LI(x:Ask α):∀ (w:Wj),(w.ask x).2.tape=w.tape/\w.drawn<=(w.ask x).2.drawn/\(w.ask x).2={w with drawn:=(w.ask x).2.drawn} /\
  ∀f d,Like w (w.ask x).2 f d->(w.on f d).ask x=((w.ask x).1,(w.ask x).2.on f (d+((w.ask x).2.drawn-w.drawn))):=by
 induction x with
 |done a=>intro w;exact⟨Q,Q0,Q,λf d _=>by simp[Ta]⟩
 |ask c b k ih=>
  intro w;by_cases h:(Us c b).forced=Y
  have e:∀u:Wj,u.ask (.ask c b k)=u.ask (k 0):=λu=>by rw[Ta];simp[h]
  grind
  have e:∀u:Wj,u.ask (.ask c b k)=Ta {u with drawn:=u.drawn+1} (k ((Us c b).cut (u.tape u.drawn (Us c b)))):=λu=>by rw[Ta];simp[h]
  rw[e w];have⟨m,p,n,l⟩:=ih ((Us c b).cut (w.tape w.drawn (Us c b))) {w with drawn:=w.drawn+1};simp only at m p n l;refine⟨m,by omega,n,λf d j=>?_⟩;rw[e];have r:f d=w.tape w.drawn:=by have:=j 0 (by omega);simpa using this
  have s:(w.on f d).tape (w.on f d).drawn=w.tape w.drawn:=r;rw[s];have o:({w.on f d with drawn:=(w.on f d).drawn+1}:Wj)=({w with drawn:=w.drawn+1}:Wj).on f (d+1):=rfl;rw[o,l f (d+1) (λi q=>by
   have:=j (i+1) (by simp only at q;omega);rw[show d+1+i=d+(i+1)by omega,show w.drawn+1+i=w.drawn+(i+1)by omega];exact this)]
  congr 2;omega
def _root_.Go.Result.w{α:Type}:Result α->Wj
 | .ok _ w=>w
 | .halt _ w=>w
def _root_.Go.Result.on{α:Type}(b:H->Question->H)(d n:H):Result α->Result α
 | .ok a w=>.ok a (w.on b (d+(w.drawn-n)))
 | .halt h w=>.halt h (w.on b (d+(w.drawn-n)))
def Mir{α:Type}(p:Wv)(s:Sem α)(w:Wj)(es:dT Event):Prop:=
 (s.runT p w es).1.w.tape=w.tape/\w.drawn<=(s.runT p w es).1.w.drawn/\∀a d,Like w (s.runT p w es).1.w a d->s.runT p (w.on a d) es=((s.runT p w es).1.on a d w.drawn,(s.runT p w es).2)
theorem jF p(s:Sem α)w(es:dT Event)(r:Wj->Result α)(c:∀u,(r u).w=u)(hon:∀u a d n,(r u).on a d n=r (u.on a (d+(u.drawn-n))))(h:∀a d,s.runT p (w.on a d) es=(r (w.on a d),es)):Mir p s w es:=by
 have b:s.runT p w es=(r w,es):=h w.tape w.drawn;refine⟨?_,?_,λa d _=>?_⟩;rw[b,c]
 grind
 grind
theorem jw p(s e:Sem α)w w'(es a:dT Event)(h:s.runT p w es=e.runT p w' a)(j:w'.tape=w.tape)(c:w'.drawn=w.drawn)(n:∀b d,s.runT p (w.on b d) es=e.runT p (w'.on b d) a)(k:Mir p e w' a):Mir p s w es:=by
 obtain⟨l,h2,m⟩:=k;refine⟨?_,?_,λb d f=>?_⟩;rw[h,l,j]
 grind
 rw[n,h];rw[h]at f;rw[m b d (λi o=>by have:=f i (by rw[<-c];exact o);rw[j,c];exact this),c]
theorem Dr(w:Wj)(b:H->Question->H)(d:H)(a:Wu)(n:H):(w.on b d).freeze a n=(w.freeze a n).on b d:=by
 unfold SX;have hh:(w.on b d).heap=w.heap:=rfl;split<;>rfl
theorem dh(w:Wj)(a:Wu)(n:H):(w.freeze a n).tape=w.tape/\(w.freeze a n).drawn=w.drawn:=by
 unfold SX
 grind
def kW:Wx->ey
 | Rd _=>Z
 | Re _=>Z
 |_=>Y
def okB:Builtin->ey
 | .append| .cap| .clear| .copy| .len| .min=>Y
 |_=>Z
def JW(P:Wv)(b:Builtin)(a:dT Ww):ey:=
 match b with
 | .len| .cap=>match a[0]? with
  |some t=>match P.underlying t with
   |some (.chan _ _)=>Z
   |_=>Y
  |none=>Y
 |_=>Y
def oC:Wx->ey
 | C _| I _ _| U _| O N| M N _ _| .map N| .chan N| .nilFunc| .nilIface=>Y
 |_=>Z
def pv:Wx->ey
 | Rd c=>c.all oC
 | Re c=>c.all oC
 | .iface _ v=>oC v
 |v=>oC v
def Gz:Wx->ey
 | O N| M N _ _| .map N| .chan N| .nilFunc| .nilIface=>Y
 |_=>Z
def JX:Operand->ey
 | .const v=>Gz v
 |_=>Z
def okX(P:Wv)(F:Rm->ey):Operand->ey
 | .const v=>pv v
 | .global g=>decide (g<P.globals.size)
 | .func f=>F f
 |_=>Y
def oD:Rm:=1000000
def LF:Rm:=1000001
def i7:Rm:=1000002
def nX:Rm:=1000003
def GJ(F:Rm->ey)(b:Builtin):ey:=okB b||(match b with| .unsafeString=>F oD| .close=>F i7|_=>Z)
def Mk(F:Rm->ey)(f:Rm):ey:=F (2000000+f)
def mm(P:Wv)(F:Rm->ey)(c:Call):ey:=
 (match c.callee with| .builtin b=>GJ F b&&JW P b c.argTypes| .value f=>okX P F f| .invoke _ _=>Z)&&c.args.all (okX P F)
def nb(P:Wv)(F:Rm->ey)(c:Call):ey:=
 mm P F c||(match c.callee with| .value (.func f)=>Mk F f&&c.args.size==2|_=>Z)&&c.args.all (okX P F)
theorem Bo{F:Rm->ey}{c:Call}(h:nb P F c=Y):mm P F c=Y\/∃f,c.callee=.value (.func f)/\Mk F f=Y/\c.args.all (okX P F)=Y/\c.args.size=2:=by
 unfold nb at h
 grind
def Ds(P:Wv)(src dst:Ww):ey:=
 match P.underlying src,P.underlying dst with
 |some (.int _),J (.int _)=>Y
 |some .string,J .string=>Y
 |some .string,J (.slice _)=>Y
 |some (.slice _),J .string=>Y
 |_,_=>Z
def jx:eV RG->ey
 |some .bool|some .string|some (.int _)=>Y
 |_=>Z
def xX(P:Wv):H->Ww->ey
 | 0,_=>Z
 |n+1,t=>match P.underlying t with
  |some .bool|some .string|some (.int _)=>Y
  |some (.struct fs)=>fs.all (λf=>xX P n f.type)
  |_=>Z
def Bp(P:Wv)(t:Ww):ey:=
 match P.underlying t with
 |some (.map k _)=>match P.underlying k with
  |some .string=>Y
  |_=>Z
 |_=>Z
def Nb(P:Wv)(op:BinOp)(t:Ww)(x y:Operand):ey:=
 match op with
 | .eql| .neq=>jx (P.underlying t)||JX x||JX y||xX P 6 t
 |_=>Y
def iD(P:Wv)(F:Rm->ey):Op->ey
 | .move x| .assign x| .box _ x| .load _ x| .nilCheck x| .unOp _ _ x| .makeInterface _ x| .fieldAddr _ x _| .field _ x _| .extract x _=>okX P F x
 | .recv _ x _=>F LF&&okX P F x
 | .makeChan _ x=>F nX&&okX P F x
 | .send a x=>F i7&&okX P F a&&okX P F x
 | .alloc _=>Y
 | .pick c a b=>okX P F c&&okX P F a&&okX P F b
 | .build _ ps| .buildSlice _ _ ps=>ps.all (λp=>okX P F p.2)
 | .binOp h t a x _=>okX P F a&&okX P F x&&Nb P h t a x
 | .store _ a x| .makeSlice _ a x| .indexAddr _ a x| .index _ a x=>okX P F a&&okX P F x
 | .convert s d x=>Ds P s d&&okX P F x
 | .makeFunc (.func f) a c=>F f&&a.all (okX P F)&&c.all (okX P F)
 | .slice _ x l j e=>okX P F x&&l.all (okX P F)&&j.all (okX P F)&&e.all (okX P F)
 | .call c=>nb P F c
 | .go c=>F nX&&mm P F c
 | .defer c=>(F i7||F nX)&&mm P F c
 | .lookup t x i _=>Bp P t&&okX P F x&&okX P F i
 | .mapUpdate t m k x=>Bp P t&&okX P F m&&okX P F k&&okX P F x
 | .makeMap _ N=>Y
 | .panic x=>okX P F x
 |_=>Z
def aP(P:Wv)(F:Rm->ey):Code->ey
 | .region _ d _=>d.all (λo=>iD P F o.op)
 | .seq a b=>aP P F a&&aP P F b
 | .cond c a b=>okX P F c&&aP P F a&&aP P F b
 | .block _ a=>aP P F a
 | .loop a=>aP P F a
 | .scope a=>aP P F a
 | .rangeFunc f _ a b=>okX P F f&&aP P F a&&aP P F b
 | .refuse _=>Y
 | .skip| .exit _| .label _| .goto _| .ret=>Y
def NoM(P : Wv) (n : Ww) : Prop := (P.info? n).all (fun i => (i.methods.find? (fun m => m.name == "")).isNone) = Y
def jA:Wx->ey
 | O (J _)| M (J _) _ _| .map (J _)| .chan (J _)| .iface _ _| .float _ _| .complex _ _ _| Re _=>Y
 | .func (.method _) _ _=>Z
 | .func _ _ _=>Y
 |_=>Z
def tA:Obj->ey
 | E _ _ _| .pending _ _| .view _ _| .number _ _=>Z
 |_=>Y
structure Ren where
 rel:H->H->Prop
 fn:∀a b b',rel a b->rel a b'->b=b'
 inj:∀a a' b,rel a b->rel a' b->a=a'
 prog:Wv
 F:FuncId->ey
 old:H->Prop
 ch:H->Prop
 loose:ey
 wide:ey
 tight:F i7=Y->wide=Z
 NT:H->eV (dT Wx)
 bad:Ww
 OU:NoM prog bad
instance:CoeFun Ren (λ_=>Nat->Nat->Prop):=⟨Ren.rel⟩
structure Ren.le (ρ ρ':Ren):Prop where
 sub:∀a b,ρ a b->ρ' a b
 prog:ρ'.prog=ρ.prog
 F:ρ'.F=ρ.F
 old:ρ'.old=ρ.old
 ch:ρ'.ch=ρ.ch
 loose:ρ'.loose=ρ.loose
 wide:ρ'.wide=ρ.wide
 NT:ρ'.NT=ρ.NT
 bad:ρ'.bad=ρ.bad
instance (ρ ρ':Ren):CoeFun (Ren.le ρ ρ') (λ_=>∀a b,ρ a b->ρ' a b):=⟨Ren.le.sub⟩
theorem Ren.le_refl(ρ:Ren):ρ.le ρ:=⟨λ_ _ h=>h,Q,Q,Q,Q,Q,Q,Q,Q⟩
theorem Ren.le_trans{a b c:Ren}(h:a.le b)(d:b.le c):a.le c:=⟨λx y k=>d x y (h x y k),d.prog.t h.prog,d.F.t h.F,d.old.t h.old,d.ch.t h.ch,d.loose.t h.loose,d.wide.t h.wide,d.NT.t h.NT,d.bad.t h.bad⟩
def RA(ρ:Ren)(a a':Wu):Prop:=ρ a.block a'.block/\a.off=a'.off/\a.spot=a'.spot
inductive RAo (ρ:Ren):eV Wu->eV Wu->Prop
 |none:RAo ρ N N
 |some {a a':Wu} (h:RA ρ a a'):RAo ρ (J a) (J a')
inductive RNo (ρ:Ren):eV H->eV H->Prop
 |none:RNo ρ N N
 |some {a a':H} (h:ρ a a'):RNo ρ (J a) (J a')
inductive RFn (ρ:Ren):Fn->Fn->Prop
 |func (f:FuncId) (h:ρ.F f=Y):RFn ρ (.func f) (.func f)
 |yield {l l':H} (h:ρ l l'):RFn ρ (.yield l) (.yield l')
inductive RV (ρ:Ren):Wx->Wx->Prop
 |bool (b:ey):RV ρ (C b) (C b)
 |int (k:IntKind) (n:lj):RV ρ (I k n) (I k n)
 |string (s:gL):RV ρ (U s) (U s)
 |pointer {a a':eV Wu} (h:RAo ρ a a'):RV ρ (O a) (O a')
 |slice {a a':eV Wu} (n c:H) (h:RAo ρ a a'):RV ρ (M a n c) (M a' n c)
 |map {r r':eV H} (h:RNo ρ r r'):RV ρ (.map r) (.map r')
 |chan {r r':eV H} (h:RNo ρ r r'):RV ρ (.chan r) (.chan r')
 |func {f f':Fn} {a a' c c':dT Wx} (hf:RFn ρ f f') (ha:a.size=a'.size) (hc:c.size=c'.size) (h1:∀ (i:H) v v',a[i]?=J v->a'[i]?=J v'->RV ρ v v') (h2:∀ (i:H) v v',c[i]?=J v->c'[i]?=J v'->RV ρ v v'):RV ρ (.func f a c) (.func f' a' c')
 |nilFunc:RV ρ .nilFunc .nilFunc
 |iface (t:Ww) {v v':Wx} (h:RV ρ v v'):RV ρ (.iface t v) (.iface t v')
 |nilIface:RV ρ .nilIface .nilIface
 |agg {c c':dT Wx} (hc:c.size=c'.size) (h:∀ (i:H) v v',c[i]?=J v->c'[i]?=J v'->RV ρ v v'):RV ρ (Rd c) (Rd c')
 |tuple {c c':dT Wx} (hc:c.size=c'.size) (h:∀ (i:H) v v',c[i]?=J v->c'[i]?=J v'->RV ρ v v'):RV ρ (Re c) (Re c')
 |dead (v':Wx) (h:jA v'=Y):RV ρ (Re #[]) v'
 | odd (n : H) (s : tn) (a c : dT Wx) (hn : n = ρ.bad) : RV ρ (.func (.method "") #[.iface n (.func (.method s) a c)] #[]) (.func (.method s) a c)
structure RVs (ρ:Ren)(c c':dT Wx):Prop where
 size:c.size=c'.size
 at_:∀ (i:H) v v',c[i]?=J v->c'[i]?=J v'->RV ρ v v'
inductive RT (ρ:Ren):Target->Target->Prop
 |fn {f f':Fn} {c c':dT Wx} (hf:RFn ρ f f') (hc:RVs ρ c c'):RT ρ (.fn f c) (.fn f' c')
 |nil:RT ρ .nil .nil
 |builtin (b:Builtin) (hb:GJ ρ.F b=Y) (a:dT Ww) (ha:JW ρ.prog b a=Y) (t:Ww) (cs:dT ey):RT ρ (.builtin b a t cs) (.builtin b a t cs)
 |collected {r r':H} (h:ρ r r'):RT ρ (.collected r) (.collected r')
inductive RD (ρ:Ren):Deferred->Deferred->Prop
 |mk {d d':Deferred} (target:RT ρ d.target d'.target) (args:RVs ρ d.args d'.args):RD ρ d d'
 | odd (n : H) (v : Wx) (a : dT Wx) (s : tn) (c a' : dT Wx) (hn : n = ρ.bad) : RD ρ ⟨.fn (.method "") #[], #[.iface n v] ++ a⟩ ⟨.fn (.method s) c, a'⟩
inductive RDs (ρ:Ren):S Deferred->S Deferred->Prop
 |nil:RDs ρ [] []
 |cons {d d':Deferred} {l l':S Deferred} (h:RD ρ d d') (hl:RDs ρ l l') (hS:(∃r,d.target=.collected r)\/(ρ.F i7||ρ.F nX)=Y):RDs ρ (d::l) (d'::l')
structure RL (ρ:Ren)(l l':Loop):Prop where
 state:l.state=l'.state
 pending:l.pending=l'.pending
 fn:l.fn=l'.fn
 tmps:RVs ρ l.tmps l'.tmps
 params:l.params=l'.params
 assign:l.assign=l'.assign
 body:l.body=l'.body
 defers:ρ l.defers l'.defers
 QB:aP ρ.prog ρ.F l.assign=Y
 Pd:aP ρ.prog ρ.F l.body=Y
 QW:∀c,l.pending=J c->aP ρ.prog ρ.F c=Y
def Zr(f:ey)(n:H)(z a:H×H):Prop:=z=a\/(f=Z/\z.1=0/\0<z.2/\n<=z.2/\a.2<=z.2)
inductive RMs (ρ:Ren):S MapEntry->S MapEntry->Prop
 |nil:RMs ρ [] []
 |cons (b:H) {k k' v v':Wx} {l l':S MapEntry} (hk:RV ρ k k') (h:RV ρ v v') (hl:RMs ρ l l'):RMs ρ (⟨k,v,b⟩::l) (⟨k',v',b⟩::l')
inductive RO (ρ:Ren):Obj->Obj->Prop
 |cells {c c':dT Wx} (e:Ww) {z z':H×H} (hz:Zr (ρ.F oD) c.size z z') (h:RVs ρ c c'):RO ρ (E c e z) (E c' e z')
 |chan (cap cap':H) {b b':dT Wx} (cl cl':ey) (s r s' r':H) (tm:ey) (hb:ρ.loose=Y\/RVs ρ b b') (hc:ρ.wide=Y\/cl=cl'):RO ρ (.chan cap b cl s r tm) (.chan cap' b' cl' s' r' tm)
 |map {es es':dT MapEntry} (c:H) (h:RMs ρ es.toList es'.toList):RO ρ (.map es c) (.map es' c)
 |stringIter (s:gL) (n:H):RO ρ (.stringIter s n) (.stringIter s n)
 |loop {l l':Loop} (h:RL ρ l l'):RO ρ (.loop l) (.loop l')
 |deferred {l l':S Deferred} (h:RDs ρ l l'):RO ρ (.deferred (J l)) (.deferred (J l'))
 |taken:RO ρ (.deferred N) (.deferred N)
 |number {a a':Wu} (lost:ey) (h:RA ρ a a'):RO ρ (.number a lost) (.number a' lost)
 |dead (o':Obj) (h:tA o'=Y):RO ρ (.coro N) o'
section
variable {ρ ρ':Ren} (hle:ρ.le ρ')
include hle
theorem RA.m{a}(h:RA ρ a a'):RA ρ' a a':=⟨hle _ _ h.1,h.2⟩
theorem RAo.m{a a':eV Wu}(h:RAo ρ a a'):RAo ρ' a a':=by
 cases h with
 |none=>exact .none
 |some h=>exact .some (RA.m hle h)
theorem RNo.m{a a':eV H}(h:RNo ρ a a'):RNo ρ' a a':=by
 cases h with
 |none=>exact .none
 |some h=>exact .some (hle _ _ h)
theorem RFn.m{a a':Fn}(h:RFn ρ a a'):RFn ρ' a a':=by
 cases h with
 |func f h=>exact .func f (by rw[hle.F];exact h)
 |yield h=>exact .yield (hle _ _ h)
theorem RV.m(h:RV ρ v v'):RV ρ' v v':=by
 induction h with
 |bool b=>exact .bool b
 |int k n=>exact .int k n
 |string s=>exact .string s
 |pointer h=>exact .pointer (RAo.m hle h)
 |slice n c h=>exact .slice n c (RAo.m hle h)
 |map h=>exact .map (RNo.m hle h)
 |chan h=>exact .chan (RNo.m hle h)
 |func i j d _ _ e f=>exact .func (RFn.m hle i) j d e f
 |nilFunc=>exact .nilFunc
 |iface t _ ih=>exact .iface t ih
 |nilIface=>exact .nilIface
 |agg d _ ih=>exact .agg d ih
 |tuple d _ ih=>exact .tuple d ih
 |dead v' h=>exact .dead v' h
 |odd n s a c l=>exact .odd n s a c (l.t hle.bad.s)
theorem RVs.m{f:dT Wx}(h:RVs ρ f c'):RVs ρ' f c':=⟨h.size,λi v b a d=>RV.m hle (h.at_ i v b a d)⟩
theorem RT.m{a a':Target}(h:RT ρ a a'):RT ρ' a a':=by
 cases h with
 |fn d e=>exact .fn (RFn.m hle d) (RVs.m hle e)
 |nil=>exact .nil
 |builtin b f a c t cs=>exact .builtin b (by rw[hle.F];exact f) a (by rw[hle.prog];exact c) t cs
 |collected h=>exact .collected (hle _ _ h)
theorem RD.m{a a':Deferred}(h:RD ρ a a'):RD ρ' a a':=by
 cases h with
 |mk b d=>exact .mk (RT.m hle b) (RVs.m hle d)
 |odd n v a s c a' e=>exact .odd n v a s c a' (e.t hle.bad.s)
theorem RDs.m{a a'}(h:RDs ρ a a'):RDs ρ' a a':=by
 induction h with
 |nil=>exact .nil
 |cons h _ b ih=>exact .cons (RD.m hle h) ih (by rw[hle.F];exact b)
theorem RL.m{a a':Loop}(h:RL ρ a a'):RL ρ' a a':=⟨h.state,h.pending,h.fn,RVs.m hle h.tmps,h.params,h.assign,h.body,hle _ _ h.defers,by rw[hle.prog,hle.F];exact h.QB,by rw[hle.prog,hle.F];exact h.Pd,by rw[hle.prog,hle.F];exact h.QW⟩
theorem RMs.m{a a'}(h:RMs ρ a a'):RMs ρ' a a':=by
 induction h with
 |nil=>exact .nil
 |cons b c h _ ih=>exact .cons b (RV.m hle c) (RV.m hle h) ih
theorem RO.m{a a':Obj}(h:RO ρ a a'):RO ρ' a a':=by
 cases h with
 |cells e u h=>exact .cells e (by rw[hle.F];exact u) (RVs.m hle h)
 |chan f d k i s r j o l p q=>exact .chan f d k i s r j o l (p.imp (λh=>hle.loose.t h) (RVs.m hle)) (q.imp (λh=>hle.wide.t h) id)
 |map c h=>exact .map c (RMs.m hle h)
 |stringIter s n=>exact .stringIter s n
 |loop h=>exact .loop (RL.m hle h)
 |deferred h=>exact .deferred (RDs.m hle h)
 |taken=>exact .taken
 |number b h=>exact .number b (RA.m hle h)
 |dead _ h=>exact .dead _ h
end
def Fixed:Obj->Prop
 | E c _ z=>z.1=0/\c.size<=z.2
 | .coro N=>uc
 | .number _ _=>uc
 |_=>nF
inductive LJ:Obj->Prop
 |coro:LJ (.coro N)
 |number (a:Wu) (l:ey):LJ (.number a l)
def xY(w w':Wj)(c0:dT Wx)(a b:H):Prop:=∃c e z d f,w.heap[a]?=J (E c e z)/\w'.heap[b]?=J (E d e f)/\∀ (i:H) x,c[i]?=J x->kW x=Z->d[i]?=c0[i]?
theorem xY.same{w w' u u'}{f:dT Wx}{a}(h:xY w w' f a b)(d:u.heap[a]?=w.heap[a]?)(e:u'.heap[b]?=w'.heap[b]?):xY u u' f a b:=by
 unfold xY
 rwa [d,e]
structure cz (ρ:Ren)(w w':Wj):Prop where
 obj:∀a b,ρ a b->∃o o',w.heap[a]?=J o/\w'.heap[b]?=J o'/\RO ρ o o'
 fix:∀a,ρ.old a->∃o,w.heap[a]?=J o/\Fixed o
 chan:∀c,ρ.ch c->∃o,w.heap[c]?=J o/\o.isChan=Y
 os:w'.os=w.os
 NT:ρ.F oD=Y->∀a c0,ρ.NT a=J c0->∃b,ρ a b/\xY w w' c0 a b
def ext(ρ:Ren)(r r':H)(h:∀b,¬ρ r b)(h':∀a,¬ρ a r'):Ren where
 rel:=λa b=>ρ a b\/(a=r/\b=r')
 fn:=λa b b' h1 h2=>by
  rcases h1 with h1|⟨rfl,rfl⟩<;>rcases h2 with h2|⟨h2,h3⟩
  .exact ρ.fn _ _ _ h1 h2
  .subst h2;exact eW h1 (h _)
  .exact eW h2 (h _)
  .exact h3.s
 inj:=λa a' b h1 h2=>by
  rcases h1 with h1|⟨rfl,rfl⟩<;>rcases h2 with h2|⟨h2,h3⟩
  .exact ρ.inj _ _ _ h1 h2
  .subst h3;exact eW h1 (h' _)
  .exact eW h2 (h' _)
  .exact h2.s
 prog:=ρ.prog
 F:=ρ.F
 old:=ρ.old
 ch:=ρ.ch
 loose:=ρ.loose
 wide:=ρ.wide
 tight:=ρ.tight
 NT:=ρ.NT
 bad:=ρ.bad
 OU:=ρ.OU
theorem uM(ρ:Ren)(r c:H)(h:∀b,¬ρ r b)(d:∀a,¬ρ a c):ρ.le (ext ρ r c h d):=⟨λ_ _ k=>Rf k,Q,Q,Q,Q,Q,Q,Q,Q⟩
def fO:Halt->ey
 | .stuck _=>Y
 | .unsupported (.initOrder _)=>Z
 | .unsupported _=>Y
 | .throw _=>Y
 |_=>Z
inductive RH (ρ:Ren):Halt->Halt->Prop
 |panic {v v':Wx} (h:RV ρ v v'):RH ρ (.panic v) (.panic v')
inductive RMk:Mark->Prop
 |extern (f:FuncId):RMk (.extern f)
 |noRoom:RMk .noRoom
class Two (P:Wv) where
 fs:dT Func
def _root_.Go.Program.alt(P:Wv) [Two P]:Wv:=⟨P.toTables,Two.fs P⟩
inductive dJ (P:Wv) [Two P]{α:Type}:Sem α->Prop
 |halt {h:Halt} (hn:fO h=Y):dJ P (.halt h)
 |mark (m:Mark) {k:Sem α} (hk:dJ P k):dJ P (.mark m k)
 |shape (r:H) {k:eV (Ww×H)->Sem α} (hk:∀s,dJ P (k s)):dJ P (.shape r k)
 |frozen (a:Wu) {k:ey->Sem α} (hk:∀s,dJ P (k s)):dJ P (.frozen a k)
 |program {k:Wv->Sem α} (hk:∀p:Wv,p.toTables=P.toTables->dJ P (k p)):dJ P (.program k)
inductive Calm {α:Type}:Sem α->Prop
 |pure (a:α):Calm (.pure a)
 |shape (r:H) {k:eV (Ww×H)->Sem α} (hk:∀s,Calm (k s)):Calm (.shape r k)
 |frozen (a:Wu) {k:ey->Sem α} (hk:∀s,Calm (k s)):Calm (.frozen a k)
theorem dJ.bind  [Two P]{α b:Type}{s:Sem α}(h:dJ P s)(f:α->Sem b):dJ P (s.bind f):=by
 induction h with
 |halt c=>exact .halt c
 |mark m _ ih=>exact .mark m ih
 |shape r _ ih=>exact .shape r ih
 |frozen a _ ih=>exact .frozen a ih
 |program _ ih=>exact .program ih
theorem Calm.bind{b:Type}{s:Sem α}(h:Calm s){f:α->Sem b}(c:∀a,Calm (f a)):Calm (s.bind f):=by
 induction h with
 |pure a=>exact c a
 |shape r _ ih=>exact .shape r ih
 |frozen a _ ih=>exact .frozen a ih
theorem Calm.lost  [Two P]{α b:Type}{s:Sem α}(h:Calm s){f:α->Sem b}(c:∀a,dJ P (f a)):dJ P (s.bind f):=by
 induction h with
 |pure a=>exact c a
 |shape r _ ih=>exact .shape r ih
 |frozen a _ ih=>exact .frozen a ih
inductive RS (P:Wv) [Two P]{α β:Type}(Q:Ren->α->β->Prop):Ren->Sem α->Sem β->Prop
 |pure {ρ:Ren} {a:α} {b:β} (h:Q ρ a b):RS P Q ρ (.pure a) (.pure b)
 |load {ρ:Ren} (m:Mode) {a a':Wu} {k:Wx->Sem α} {k':Wx->Sem β} (h:RA ρ a a') (hk:∀v v',RV ρ v v'->RS P Q ρ (k v) (k' v')):RS P Q ρ (.load m a k) (.load m a' k')
 |store {ρ:Ren} (m:Mode) {a a':Wu} {v v':Wx} {k:Sem α} {k':Sem β} (h:RA ρ a a') (hv:RV ρ v v') (hk:RS P Q ρ k k'):RS P Q ρ (.store m a v k) (.store m a' v' k')
 |new {ρ:Ren} {o o':Obj} {k:H->Sem α} {k':H->Sem β} (h:RO ρ o o') (hk:∀r r' hr hr',¬ρ.old r->RS P Q (ext ρ r r' hr hr') (k r) (k' r')) (hs:o.isChan=Y->ρ.F nX=true:=by exactλh=>nomatch h):RS P Q ρ (.new o k) (.new o' k')
 |shape {ρ:Ren} {r r':H} {k:eV (Ww×H)->Sem α} {k':eV (Ww×H)->Sem β} (h:ρ r r') (hk:∀s,RS P Q ρ (k s) (k' s)):RS P Q ρ (.shape r k) (.shape r' k')
 |frozen {ρ:Ren} {a a':Wu} {k:ey->Sem α} {k':ey->Sem β} (h:RA ρ a a') (hk:∀s,RS P Q ρ (k s) (k' s)) (hk':ρ.F oD=Z->∀s,RS P Q ρ (k Y) (k' s)):RS P Q ρ (.frozen a k) (.frozen a' k')
 |freeze {ρ:Ren} {a a':Wu} (n:H) {k:Sem α} {k':Sem β} (h:RA ρ a a') (ho:¬ρ.old a.block) (hk:RS P Q ρ k k'):RS P Q ρ (.freeze a n k) (.freeze a' n k')
 |getObj {ρ:Ren} {r r':H} {k:Obj->Sem α} {k':Obj->Sem β} (h:ρ r r') (hk:∀o o',RO ρ o o'->(ρ.old r->LJ o)->(ρ.ch r->o.isChan=Y)->RS P Q ρ (k o) (k' o')):RS P Q ρ (.getObj r k) (.getObj r' k')
 |setObj {ρ:Ren} {r r':H} {o o':Obj} {k:Sem α} {k':Sem β} (h:ρ r r') (ho:RO ρ o o') (hn:¬ρ.old r) (hch:ρ.ch r->ρ.F i7=Y/\∃n b s q tm,o=.chan n b Y s q tm) (hk:RS P Q ρ k k') (hs:o.isChan=Y->ρ.F i7=Y/\∃n b s q tm,o=.chan n b Y s q tm:=by exactλh=>nomatch h):RS P Q ρ (.setObj r o k) (.setObj r' o' k')
 |choose {ρ:Ren} (q:Question) {k:H->Sem α} {k':H->Sem β} (hk:∀n,RS P Q ρ (k n) (k' n)):RS P Q ρ (.choose q k) (.choose q k')
 |program {ρ:Ren} {k:Wv->Sem α} {k':Wv->Sem β} (h1:k P.alt=k P) (hk:RS P Q ρ (k P) (k' P)):RS P Q ρ (.program k) (.program k')
 |mark {ρ:Ren} {m:Mark} {k:Sem α} {k':Sem β} (h:RMk m) (hk:RS P Q ρ k k'):RS P Q ρ (.mark m k) (.mark m k')
 |halt {ρ:Ren} {h h':Halt} (hh:RH ρ h h'):RS P Q ρ (.halt h) (.halt h')
 |env {ρ:Ren} {k:SysRet->Sem α} {k':SysRet->Sem β} (hk:∀r,RS P Q ρ (k r) (k' r)):RS P Q ρ (.sys .env k) (.sys .env k')
 |lost {ρ:Ren} {s:Sem α} (h:dJ P s) (s':Sem β):RS P Q ρ s s'
theorem RS.bind  [Two P]{α p L F:Type}{c:Ren->α->p->Prop}{Q':Ren->L->F->Prop}{ρ:Ren}{x:Sem α}{G:Sem p}{f:α->Sem L}{D:p->Sem F}(h:RS P c ρ x G):
  (∀ρ',ρ.le ρ'->∀a b,c ρ' a b->RS P Q' ρ' (f a) (D b))->RS P Q' ρ (x.bind f) (G.bind D):=by
 induction h with
 |pure h=>intro d;exact d _ (Ren.le_refl _) _ _ h
 |load m h _ ih=>intro d;exact .load m h (λv R t=>ih v R t d)
 |store m h t _ ih=>intro d;exact .store m h t (ih d)
 |new h _ k ih=>intro d;exact .new h (λr A B j l=>ih r A B j l (λρ' V=>d ρ' (Ren.le_trans (uM _ r A B j) V))) k
 |shape h _ ih=>intro d;exact .shape h (λs=>ih s d)
 |frozen h _ _ ih y=>intro d;exact .frozen h (λs=>ih s d) (λe s=>y e s d)
 |freeze n h i _ ih=>intro d;exact .freeze n h i (ih d)
 |getObj h _ ih=>intro d;exact .getObj h (λo o' i u T=>ih o o' i u T d)
 |setObj h i l z _ k ih=>intro d;exact .setObj h i l z (ih d) k
 |choose q _ ih=>intro d;exact .choose q (λn=>ih n d)
 |program u _ ih=>intro d;exact .program (by show xt _ _=xt _ _;rw[u]) (ih d)
 |mark h _ ih=>intro d;exact .mark h (ih d)
 |halt X=>intro _;exact .halt X
 |env _ ih=>intro d;exact .env (λr=>ih r d)
 |lost h s'=>intro _;exact .lost (h.bind _) _
theorem RS.imp  [Two P]{α j:Type}{c Q':Ren->α->j->Prop}{ρ:Ren}{x:Sem α}{x':Sem j}(h:RS P c ρ x x')(k:∀ρ a b,c ρ a b->Q' ρ a b):RS P Q' ρ x x':=by
 induction h with
 |pure h=>exact .pure (k _ _ _ h)
 |load m h _ ih=>exact .load m h ih
 |store m h l _ ih=>exact .store m h l ih
 |new h _ i ih=>exact .new h ih i
 |shape h _ ih=>exact .shape h ih
 |frozen h _ _ ih f=>exact .frozen h ih f
 |freeze n h d _ ih=>exact .freeze n h d ih
 |getObj h _ ih=>exact .getObj h ih
 |setObj h d r e _ i ih=>exact .setObj h d r e ih i
 |choose q _ ih=>exact .choose q ih
 |program p _ ih=>exact .program p ih
 |mark h _ ih=>exact .mark h ih
 |halt o=>exact .halt o
 |env _ ih=>exact .env ih
 |lost h s'=>exact .lost h _
inductive RR {α β:Type}(Q:Ren->α->β->Prop)(ρ:Ren):Result α->Result β->Prop
 |ok {a:α} {b:β} (w w':Wj) (h:Q ρ a b):RR Q ρ (.ok a w) (.ok b w')
 |halt {a b:Halt} (w w':Wj) (h:RH ρ a b):RR Q ρ (.halt a w) (.halt b w')
structure Keep (ρ:Ren)(w w':Wj):Prop where
 os:w'.os=w.os
 output:w'.output=w.output
 tape:w'.tape=w.tape
 size:w.heap.size<=w'.heap.size
 block:∀b,b<w.heap.size->(∀a,ρ a b->ρ.old a)->w'.heap[b]?=w.heap[b]?
def Dt(w:Wj)(c:H):Prop:=∃n b s q a,w.heap[c]?=J (.chan n b Y s q a)
structure Chs (ρ:Ren)(w w' u u':Wj):Prop where
 row:∀c b,ρ.ch c->ρ c b->(u.heap[c]?=w.heap[c]?/\u'.heap[b]?=w'.heap[b]?)\/(ρ.F i7=Y/\Dt u c)
 only:ρ.F nX=Z->∀ (a:H) o,u.heap[a]?=J o->o.isChan=Y->w.heap[a]?=J o\/(ρ.F i7=Y/\Dt u a)
theorem Chs.refl ρ w w':Chs ρ w w' w w':=⟨λ_ _ _ _=>Rf ⟨Q,Q⟩,λ_ _ _ h _=>Rf h⟩
theorem Chs.t{ρ f}{w w' u r v v'}(l:ρ.le f)(h:Chs ρ w w' u r)(k:Chs f u r v v'):Chs ρ w w' v v':=⟨λc b i p=>by
 rcases k.row c b (by rw[l.ch];exact i) (l _ _ p)with⟨k1,k2⟩|⟨k1,k2⟩
 .rcases h.row c b i p with⟨e,d⟩|⟨e,d⟩
  .exact Rf ⟨k1.t e,k2.t d⟩
  .refine Rg ⟨e,?_⟩;unfold Dt;rw[k1];exact d
 .exact Rg ⟨by rw[<-l.F];exact k1,k2⟩,λm a o j i=>by
 rcases k.only (by rw[l.F];exact m) a o j i with k1|⟨k1,k2⟩
 .rcases h.only m a o k1 i with e|⟨e,d⟩
  .exact Rf e
  .obtain ⟨n,b,s,q,tm,d⟩:=d;rw[k1]at d;cases d;exact Rg ⟨e,_,_,_,_,_,j⟩
 .exact Rg ⟨by rw[<-l.F];exact k1,k2⟩⟩
theorem Keep.refl ρ w:Keep ρ w w:=⟨Q,Q,Q,Q0,λ_ _ _=>Q⟩
theorem Keep.t{ρ c}{w u w2}(h:Keep ρ w u)(e:Keep c u w2)(j:c.old=ρ.old)(m:∀a b,c a b->ρ a b\/w.heap.size<=b):Keep ρ w w2:=
 ⟨e.os.t h.os,e.output.t h.output,e.tape.t h.tape,lT h.size e.size,λb i d=>(e.block b (lL i h.size) (λa l=>by
  rw[j];rcases m a b l with k|k
  .exact d a k
  .omega)).t (h.block b i d)⟩
def kX(ρ:Ren)(e:Event):Prop:=
 match e.loc with
 | .cell a=>∃x,ρ x a.block/\(e.write=Y->¬ρ.old x)/\¬ρ.ch x
 | .obj r=>∃x,ρ x r/\(e.write=Y->¬ρ.old x)/\(e.sync=Z->¬ρ.ch x)
 | .mark m=>RMk m
 | .output=>uc
 |_=>nF
theorem kX.m{ρ ρ'}(l:ρ.le ρ')(h:kX ρ e):kX ρ' e:=by
 obtain⟨f,wr,sy⟩:=e;cases f with
 |cell a=>obtain⟨x,b,c,d⟩:=h;exact⟨x,l _ _ b,by rw[l.old];exact c,by rw[l.ch];exact d⟩
 |obj r=>obtain⟨x,b,c,d⟩:=h;exact⟨x,l _ _ b,by rw[l.old];exact c,by rw[l.ch];exact d⟩
 |mark m=>exact h
 |output=>exact h
 |goroutines=>exact h
def fV(ρ:Ren)(es es1:dT Event):Prop:=∃a,es1=es++a/\∀e∈a,kX ρ e
theorem fV.refl ρ(es:dT Event):fV ρ es es:=⟨#[],by simp,λe h=>by simp at h⟩
theorem fV.push{ρ}{es:dT Event}(h:kX ρ e):fV ρ es (es.push e):=⟨#[e],by simp,λx a=>by simp at a;exact a▸h⟩
theorem fV.m{ρ ρ'}(l:ρ.le ρ'){es es1:dT Event}(h:fV ρ es es1):fV ρ' es es1:=by
 obtain⟨a,b,d⟩:=h;exact⟨a,b,λe c=>(d e c).m l⟩
theorem fV.t{ρ}{es b es2:dT Event}(h:fV ρ es b)(d:fV ρ b es2):fV ρ es es2:=by
 obtain⟨a,rfl,i⟩:=h;obtain⟨E',rfl,c⟩:=d;exact⟨a++E',by simp,λe f=>by
  rcases SH.1 f with h|h;exact i e h;exact c e h⟩
theorem RVs.get{ρ}{f a:dT Wx}(h:RVs ρ f a)(i:H):(f[i]?=N/\a[i]?=N)\/∃v e,f[i]?=J v/\a[i]?=J e/\RV ρ v e:=by
 by_cases d:i<f.size
 have b:i<a.size:=by rw[<-h.size];exact d
 exact Rg ⟨f[i],a[i],eG d,eG b,h.at_ i _ _ (eG d) (eG b)⟩;exact Rf ⟨Sy (by omega),Sy (by rw[<-h.size];omega)⟩
theorem cz.cell{ρ}{w w'}(b:cz ρ w w'){a a'}(h:RA ρ a a'):w.cell? a=N\/∃v c,w.cell? a=J v/\w'.cell? a'=J c/\RV ρ v c:=by
 obtain⟨o,o',i,f,d⟩:=b.obj _ _ h.1;unfold Tb;rw[i,f];cases d with
 |cells e hz j=>
  simp only[<-h.2.1,<-h.2.2];split
  grind
  rcases j.get a.off with⟨k,-⟩|k;exact Rf k;exact Rg k
 |_=>exact Rf Q
theorem cz.OQ{ρ}{w w'}(b:cz ρ w w'){a}(h:RA ρ a a'):w'.frozen? a'=w.frozen? a\/(w.frozen? a=Y/\ρ.F oD=Z):=by
 obtain⟨o,f,l,k,j⟩:=b.obj _ _ h.1;unfold Td;rw[l,k];cases j with
 | @cells c c' e z z' i hc=>
  simp[<-h.2.1];rcases i with i|⟨z0,z1,z2,z3,z4⟩
  grind
  grind
 |dead f h=>cases f<;>first|exact Rf Q|simp[tA]at h
 |_=>exact Rf Q
theorem cz.PZ{ρ}{w w'}(a:cz ρ w w')(h:ρ r b):w'.shape? b=w.shape? r:=by
 obtain⟨o,c,i,f,d⟩:=a.obj _ _ h;unfold World.shape?;rw[i,f];cases d with
 |cells e z j=>simp[j.size]
 |dead c h=>cases c<;>first|rfl|simp[tA]at h
 |_=>rfl
theorem cz.farLoad{ρ}{w w'}(S:cz ρ w w'){a}(h:RA ρ a a')(b:ey):∃e,(∀ (P:Wv) τ d,(w.on τ d).farLoad P a b=.error e)/\fO e=true:=by
 obtain⟨o,o',h1,h2,ho⟩:=S.obj _ _ h.1;have hh:∀τ d,(w.on τ d).heap[a.block]?=J o:=λ_ _=>h1
 cases ho <;> exact⟨.stuck "load: no such cell", fun P τ d => by unfold World.farLoad Te; rw[hh], rfl⟩
theorem cz.farStore{ρ}{w w'}(S:cz ρ w w'){a}(h:RA ρ a a')v(b:ey):∃e,(∀ (P:Wv) τ d,(w.on τ d).farStore P a v b=.error e)/\fO e=true:=by
 obtain⟨o,o',h1,h2,ho⟩:=S.obj _ _ h.1;have hh:∀τ d,(w.on τ d).heap[a.block]?=J o:=λ_ _=>h1
 cases ho <;> exact⟨.stuck "store: no such cell", fun P τ d => by unfold Tc Te; rw[hh], rfl⟩
section
variable {α:Type} {p:Wv} {w:Wj} {es:dT Event}
theorem GK(a:α):Mir p (.pure a) w es:=jF p _ w es (.ok a) (λ_=>Q) (λ_ _ _ _=>Q) (λ_ _=>Q)
theorem zU(h:Halt):Mir p (.halt h:Sem α) w es:=jF p _ w es (.halt h) (λ_=>Q) (λ_ _ _ _=>Q) (λ_ _=>Q)
theorem GL{m:Mode}{a}{k:Wx->Sem α}(b:w.cell? a=J v)(h:Mir p (k v) w (es.push ⟨.cell a,Z,m == .atomic⟩)):Mir p (.load m a k) w es:=
 jw p _ (k v) w w es (es.push ⟨.cell a,Z,m == .atomic⟩) (by simp only[xb,b]) Q Q (λc d=>by have:(w.on c d).cell? a=J v:=b;simp only[xb,this]) h
theorem xZ{m:Mode}{a}{k:Wx->Sem α}{e:Halt}(f:w.cell? a=N)(h:∀b d,(w.on b d).farLoad p a (m == .atomic)=.error e):Mir p (.load m a k) w es:=
 jF p _ w es (.halt e) (λ_=>Q) (λ_ _ _ _=>Q) (λb d=>by
  have c:(w.on b d).cell? a=none:=f;simp only[xb,c,h])
theorem iE(p : Wv)(m : Mode)(a : Wu)(v : Wx)(k : Sem α)(hv : kW v = true)(u : Wj)(es : dT Event): (xv m a v k).runT p u es = match u.cell? a with
      | some _ => if u.frozen? a then(.halt (.unsupported (.unsafePointer "a write to bytes that a string shares")) u, es)else k.runT p (u.setCell a v) (es.push ⟨.cell a, Y, m == .atomic⟩)
      |none=>match u.farStore p a v (m == .atomic)with
        | .ok (u,touched)=>k.runT p u (es++touched.toArray.map (⟨.cell ·,Y,m == .atomic⟩))
        | .error h=>(.halt h u,es):=by cases v<;>first|rfl|simp[kW]at hv
theorem Du{m:Mode}{a}{k:Sem α}(c:kW v=Y)(e:w.cell? a=J x)(f:w.frozen? a=Z)(h:Mir p k (w.setCell a v) (es.push ⟨.cell a,Y,m == .atomic⟩)):Mir p (.store m a v k) w es:=
 jw p _ k w (w.setCell a v) es (es.push ⟨.cell a,Y,m == .atomic⟩) (by rw[iE p m a v k c,e];simp only[f];rfl) Q Q (λb d=>by
  have i:(w.on b d).cell? a=J x:=e;have j:(w.on b d).frozen? a=w.frozen? a:=rfl;rw[iE p m a v k c,i];simp only[j,f];rfl) h
theorem px{m:Mode}{a}{k:Sem α}(hv:kW v=Y)(hc:w.cell? a=J x)(hz:w.frozen? a=Y):Mir p (.store m a v k) w es:=
 jF p _ w es (.halt (.unsupported (.unsafePointer "a write to bytes that a string shares"))) (fun _ => rfl) (fun _ _ _ _ => rfl) (fun τ d => by
  have h1:(w.on τ d).cell? a=J x:=hc;have h2:(w.on τ d).frozen? a=true:=hz;rw[iE p m a v k hv,h1];simp[h2])
theorem uN{m:Mode}{a}{k:Sem α}{e:Halt}(f:kW v=Y)(i:w.cell? a=N)(h:∀b d,(w.on b d).farStore p a v (m == .atomic)=.error e):Mir p (.store m a v k) w es:=
 jF p _ w es (.halt e) (λ_=>Q) (λ_ _ _ _=>Q) (λb d=>by
  have c:(w.on b d).cell? a=none:=i;rw[iE p m a v k f,c];simp[h])
theorem ya{m:Mode}{a}{k:Sem α}(hv:¬kW v=Y):Mir p (.store m a v k) w es:=
 jF p _ w es (.halt (.stuck "store: not the value of one cell")) (fun _ => rfl) (fun _ _ _ _ => rfl) (fun τ d => by
  cases v<;>first|rfl|simp[kW]at hv)
theorem JY{k:H->Sem α}(h:Mir p (k w.heap.size) {w with heap:=w.heap.push o'} es):Mir p (.new o' k) w es:=jw p _ (k w.heap.size) w {w with heap:=w.heap.push o'} es es Q Q Q (λ_ _=>Q) h
theorem uO{k:eV (Ww×H)->Sem α}(h:Mir p (k (w.shape? r)) w es):Mir p (.shape r k) w es:=jw p _ (k (w.shape? r)) w w es es Q Q Q (λ_ _=>Q) h
theorem Bq{a}{k:Sem α}(h:Mir p k (w.freeze a r) es):Mir p (.freeze a r k) w es:=
 jw p (.freeze a r k) k w (w.freeze a r) es es Q (dh w a r).1 (dh w a r).2 (λb d=>by
  show k.runT p ((w.on b d).freeze a r) es=k.runT p ((w.freeze a r).on b d) es;rw[Dr]) h
theorem nc{a}{k:ey->Sem α}(h:Mir p (k (w.frozen? a)) w es):Mir p (.frozen a k) w es:=jw p _ (k (w.frozen? a)) w w es es Q Q Q (λ_ _=>Q) h
theorem Br{k:Obj->Sem α}(a:w.heap[r]?=J o')(hcl:¬∃c e z,o'=E c e z)(h:Mir p (k o') w (es.push ⟨.obj r,Z,o'.isChan⟩)):Mir p (.getObj r k) w es:=by
 have e:∀u:Wj,u.heap[r]?=J o'->(yz r k).runT p u es=(k o').runT p u (es.push ⟨.obj r,Z,o'.isChan⟩):=λu f=>by
  simp only[xb,f]
  grind
 exact jw p _ (k o') w w es _ (e w a) Q Q (λb d=>e (w.on b d) a) h
theorem uP{k:Obj->Sem α}{e}{z:H×H}(ho:w.heap[r]?=J (E c e z)):Mir p (.getObj r k) w es:=
 jF p _ w es (.halt (.stuck "getObj: a row of cells")) (fun _ => rfl) (fun _ _ _ _ => rfl) (fun τ d => by
  have h1:(w.on τ d).heap[r]?=J (E c e z):=ho;simp only[xb,h1])
theorem Bt{a}{k:Sem α}(b:w.heap[r]?=J a)(hcl:¬∃c e z,a=E c e z)(h:Mir p k {w with heap:=w.heap.setIfInBounds r o'} (es.push ⟨.obj r,Y,o'.isChan⟩)):Mir p (.setObj r o' k) w es:=by
 have e:∀u:Wj,u.heap[r]?=J a->(Rj r o' k).runT p u es=k.runT p {u with heap:=u.heap.setIfInBounds r o'} (es.push ⟨.obj r,Y,o'.isChan⟩):=λu i=>by
  simp[xb,i]
  grind
 exact jw p _ k w {w with heap:=w.heap.setIfInBounds r o'} es _ (e w b) Q Q (λf d=>e (w.on f d) b) h
theorem uQ{k:Sem α}{e}{z:H×H}(ho:w.heap[r]?=J (E c e z)):Mir p (.setObj r o k) w es:=
 jF p _ w es (.halt (.stuck "setObj: a row of cells")) (fun _ => rfl) (fun _ _ _ _ => rfl) (fun τ d => by
  have h1:(w.on τ d).heap[r]?=J (E c e z):=ho;simp[xb,h1])
theorem oE{q:Question}{k:H->Sem α}(a:q.forced=Y)(h:Mir p (k 0) w es):Mir p (.choose q k) w es:=
 jw p _ (k 0) w w es es (by simp[xb,a]) Q Q (λτ d=>by simp[xb,a]) h
theorem Bu{q:Question}{k:H->Sem α}(l:¬q.forced=Y)(h:Mir p (k (q.cut (w.tape w.drawn q))) {w with drawn:=w.drawn+1} es):Mir p (.choose q k) w es:=by
 have e:∀u:Wj,(Rk q k).runT p u es=(k (q.cut (u.tape u.drawn q))).runT p {u with drawn:=u.drawn+1} es:=λu=>by simp only[xb,l];rfl
 obtain⟨f,c,j⟩:=h;simp only at f c j;refine⟨by rw[e];exact f,by rw[e];omega,λa d b=>?_⟩;rw[e w]at b;rw[e,e w];have o:a d=w.tape w.drawn:=by have:=b 0 (by omega);simpa using this
 have s:(w.on a d).tape (w.on a d).drawn=w.tape w.drawn:=o;rw[s];have m:({w.on a d with drawn:=(w.on a d).drawn+1}:Wj)=({w with drawn:=w.drawn+1}:Wj).on a (d+1):=rfl;rw[m,j a (d+1) (λi n=>by
  have:=b (i+1) (by simp only at n;omega);rw[show d+1+i=d+(i+1)by omega,show w.drawn+1+i=w.drawn+(i+1)by omega];exact this)]
 congr 1;generalize hr:((k (q.cut (w.tape w.drawn q))).runT p {w with drawn:=w.drawn+1} es).1=r at *;cases r<;>simp only[Result.on,Result.w]at c ⊢ <;> congr 2<;>omega
theorem py{k:Wv->Sem α}(h:Mir p (k p) w es):Mir p (.program k) w es:=jw p _ (k p) w w es es Q Q Q (λ_ _=>Q) h
theorem zV{m:Mark}{k:Sem α}(h:Mir p k w (es.push ⟨.mark m,Z,Y⟩)):Mir p (.mark m k) w es:=jw p _ k w w es (es.push ⟨.mark m,Z,Y⟩) Q Q Q (λ_ _=>Q) h
end
theorem RVs.set{ρ}{f:dT Wx}(h:RVs ρ c' f)i{d}(hv:RV ρ v d):RVs ρ (c'.setIfInBounds i v) (f.setIfInBounds i d):=by
 refine⟨by simp[h.size],λj x k b e=>?_⟩;by_cases a:i=j
 grind
 simp[a]at b e;exact h.at_ j x k b e
theorem cz.lt{ρ}{w w'}(c:cz ρ w w'){a}(h:ρ a b):a<w.heap.size/\b<w'.heap.size:=by
 obtain⟨o,o',h1,h2,-⟩:=c.obj a b h
 grind
theorem cz.QC{ρ}{w w'}(b:cz ρ w w'){a}(h:ρ.old a):a<w.heap.size:=by
 obtain⟨o,h1,-⟩:=b.fix a h
 grind
theorem cz.put{ρ}{w w'}(d:cz ρ w w'){j}(h:ρ r j)(ho:RO ρ o o')(hn:¬ρ.old r)(hch:ρ.ch r->o.isChan=Y)(hnc:∀c e z,w.heap[r]?≠J (E c e z)):cz ρ {w with heap:=w.heap.setIfInBounds r o} {w' with heap:=w'.heap.setIfInBounds j o'}:=by
 refine⟨λa b f=>?_,λa p=>?_,λc u=>?_,d.os,λq a s n=>?_⟩
 rotate_left 3
 have⟨b,f,l⟩:=d.NT q a s n;have e:r≠a:=λe=>by
  obtain⟨c,t,z,_,_,k1,-⟩:=l
  grind
 have i:j≠b:=λi=>e (ρ.inj _ _ _ h (i▸f))
 exact⟨b,f,l.same (by simp[e]) (by simp[i])⟩;have⟨x,x',m,k,hx⟩:=d.obj a b f;by_cases e:r=a
 subst e;have:=ρ.fn _ _ _ h f
 grind
 have i:j≠b:=λi=>e (ρ.inj _ _ _ h (i▸f))
 grind
 have⟨x,m,k⟩:=d.fix a p
 grind
 have⟨x,m,k⟩:=d.chan c u
 grind
theorem dx(w:Wj)(a:Wu)(v:Wx)(h:a.block≠b):(w.setCell a v).heap[b]?=w.heap[b]?:=by
 unfold SY
 grind
theorem cz.set{ρ:Ren}{w w':Wj}(d:cz ρ w w'){a p:Wu}(h:RA ρ a p){q:Wx}(hv:RV ρ v q)(hn:¬ρ.old a.block)(h1v:kW v=Y):cz ρ (w.setCell a v) (w'.setCell p q):=by
 refine⟨λx y f=>?_,λx G=>?_,λc k=>?_,d.os,λu x c0 V=>?_⟩
 rotate_left 3
 have⟨y,f,L⟩:=d.NT u x c0 V;refine⟨y,f,?_⟩;by_cases e:a.block=x
 obtain⟨c,t,z,c',z',R,k2,k3⟩:=L;unfold xY SY;simp only[Si,e,by rw[<-e]at f;exact ρ.fn _ _ _ h.1 f,gI,R,k2,Uu,<-h.2.1,<-h.2.2]
 grind
 exact L.same (dx w a v e) (dx w' p q (λm=>e (ρ.inj _ _ _ h.1 (m▸f))));have⟨o,A,j,i,F⟩:=d.obj x y f;unfold SY;simp only[Si];by_cases e:a.block=x
 simp only[e,by rw[<-e]at f;exact ρ.fn _ _ _ h.1 f,gI,j,i,Uu];refine⟨_,_,rfl,rfl,?_⟩;cases F with
 |cells t P k=>
  simp[<-h.2.1,<-h.2.2];split
  exact .cells t P k;exact .cells t (by simpa using P) (k.set _ hv)
 |chan D l cl B s r X r' tm u k=>exact .chan D l cl B s r X r' tm u k
 |map c h=>exact .map c h
 |stringIter s n=>exact .stringIter s n
 |loop hl=>exact .loop hl
 |deferred T=>exact .deferred T
 |taken=>exact .taken
 |number b h=>exact .number b h
 |dead A h=>cases A<;>first|exact .dead _ h|simp[tA]at h
 have m:p.block≠y:=λm=>e (ρ.inj _ _ _ h.1 (m▸f))
 simp only[e,m,n8];exact⟨o,A,j,i,F⟩;have⟨o,j,i⟩:=d.fix x G;exact⟨o,by rw[dx w a v (λe=>hn (e▸G))];exact j,i⟩;have⟨o,j,i⟩:=d.chan c k;unfold SY;simp[Si];by_cases e:a.block=c
 simp only[e,gI,j,Uu];refine⟨_,rfl,?_⟩;cases o<;>first|exact i|simp[Tg]at i
 simp[e];exact⟨o,j,i⟩
theorem Zr.freeze{f:ey}{n d c a b}(h:Zr f n (d,c) (a,b))o m:Zr f n (if d==c then(o,o+m)else(min d o,max c (o+m))) (if a==b then(o,o+m)else(min a o,max b (o+m))):=by
 rcases h with h|⟨l,i,j,p,k⟩;cases h;exact Rf Q;simp only at i j p k;subst i;have e:(0==c)=false:=by grind
 simp[e];refine Rg ⟨l,by simp,by simp only;omega,?_⟩
 grind
theorem du(w:Wj)(a:Wu)(n:H)(h:a.block≠b):(w.freeze a n).heap[b]?=w.heap[b]?:=by
 unfold SX
 grind
theorem cz.freeze{ρ:Ren}{w w':Wj}(d:cz ρ w w'){a m:Wu}(h:RA ρ a m)(n:H)(hn:¬ρ.old a.block):cz ρ (w.freeze a n) (w'.freeze m n):=by
 refine⟨λx y f=>?_,λx F=>?_,λc p=>?_,by unfold SX;split<;>exact d.os,λq x c0 P=>?_⟩
 rotate_left 3
 have⟨y,f,G⟩:=d.NT q x c0 P;refine⟨y,f,?_⟩;by_cases e:a.block=x
 have k:m.block=y:=by rw[<-e]at f;exact ρ.fn _ _ _ h.1 f
 obtain⟨c,t,z,X,D,k1,k2,k3⟩:=G;unfold xY SX
 grind
 exact G.same (du w a n e) (du w' m n (λk=>e (ρ.inj _ _ _ h.1 (k▸f))));have⟨o,u,j,i,B⟩:=d.obj x y f;unfold SX;split
 grind
 simp only[Si];by_cases e:a.block=x
 simp only[e,by rw[<-e]at f;exact ρ.fn _ _ _ h.1 f,gI,j,i,Uu];refine⟨_,_,rfl,rfl,?_⟩;cases B with
 | @cells c X t z D hz p=>
  obtain⟨lo,hi⟩:=z;obtain⟨lo',hi'⟩:=D;simp only[<-h.2.1];exact .cells t (hz.freeze _ _) p
 |chan A l cl v s r R T tm q p=>exact .chan A l cl v s r R T tm q p
 |map c h=>exact .map c h
 |stringIter s n=>exact .stringIter s n
 |loop V=>exact .loop V
 |deferred L=>exact .deferred L
 |taken=>exact .taken
 |number b h=>exact .number b h
 |dead u h=>cases u<;>first|exact .dead _ h|simp[tA]at h
 have k:m.block≠y:=λk=>e (ρ.inj _ _ _ h.1 (k▸f))
 simp only[e,k,n8];exact⟨o,u,j,i,B⟩;have⟨o,j,i⟩:=d.fix x F;exact⟨o,by rw[du w a n (λe=>hn (e▸F))];exact j,i⟩;have⟨o,j,i⟩:=d.chan c p;by_cases e:a.block=c
 unfold SX;split
 exact⟨o,j,i⟩;simp only[Si,e,gI,j,Uu];refine⟨_,rfl,?_⟩;cases o<;>first|exact i|simp[Tg]at i
 exact⟨o,by rw[du w a n e];exact j,i⟩
theorem pz(w:Wj)(a:Wu)(n:H):(w.freeze a n).heap.size=w.heap.size:=by
 unfold SX
 grind
theorem cz.Py{ρ}{w w'}(a:cz ρ w w'):∀b,¬ρ w.heap.size b:=λb h=>by have:=(a.lt h).1;omega
theorem cz.PL{ρ}{w w'}(b:cz ρ w w'):∀a,¬ρ a w'.heap.size:=λa h=>by have:=(b.lt h).2;omega
theorem cz.Qt{ρ}{w w'}(a:cz ρ w w'):¬ρ.old w.heap.size:=λh=>by have:=a.QC h;omega
theorem zW(x:dT α)(v:α){o:α}(h:x[i]?=J o):(x.push v)[i]?=J o:=by grind
theorem cz.push{ρ}{w w'}(d:cz ρ w w'){j}(l:RO ρ o' j):cz (ext ρ w.heap.size w'.heap.size d.Py d.PL) {w with heap:=w.heap.push o'} {w' with heap:=w'.heap.push j}:=by
 refine⟨λa b h=>?_,λa n=>?_,λc t=>?_,d.os,λq a s k=>?_⟩
 rotate_left 3
 have⟨b,e,p⟩:=d.NT q a s k;have⟨l1,l2⟩:=d.lt e;exact⟨b,Rf e,p.same (by simp[Sj,lk (show¬a=w.heap.size by omega)]) (by simp[Sj,lk (show¬b=w'.heap.size by omega)])⟩;rcases h with h|⟨rfl,rfl⟩;have⟨x,r,i,f,u⟩:=d.obj a b h;exact⟨x,r,zW _ _ i,zW _ _ f,u.m (uM _ _ _ _ _)⟩;exact⟨o',j,by simp,by simp,l.m (uM _ _ _ _ _)⟩;have⟨x,i,f⟩:=d.fix a n
 grind
 have⟨x,i,f⟩:=d.chan c t
 grind
theorem cz.OI{ρ}{w w'}(_S:cz ρ w w'){c}(h:ρ r i)(f:ρ c b)(a:r≠c):i≠b:=λe=>a (ρ.inj _ _ _ h (e▸f))
theorem cz.OJ{ρ}{w w'}(b:cz ρ w w'){a}(c:w.cell? a=J x):¬ρ.ch a.block:=λe=>by
 obtain⟨o,d,f⟩:=b.chan _ e;unfold Tb at c;rw[d]at c;cases o<;>simp[Tg]at f c
theorem uR(w:Wj)(a:Wu)(v:Wx)(h:(w.setCell a v).heap[b]?=J o)(f:o.isChan=Y):w.heap[b]?=J o:=by
 by_cases c:a.block=b
 subst c;unfold SY at h;simp only[Si,gI]at h;have⟨x,e,d⟩:=Uv.1 h;rw[e];cases x<;>first|exact kr J d|(subst d;simp[Tg]at f)
 rw[dx _ _ _ c]at h;exact h
theorem uS(w:Wj)(a:Wu)(n:H)(h:(w.freeze a n).heap[b]?=J o)(f:o.isChan=Y):w.heap[b]?=J o:=by
 by_cases c:a.block=b
 subst c;unfold SX at h;split at h
 exact h;simp only[Si,gI]at h;have⟨x,e,d⟩:=Uv.1 h;rw[e];cases x<;>first|exact kr J d|(subst d;simp[Tg]at f)
 rw[du _ _ _ c]at h;exact h
theorem cz.PX{ρ}{w w'}(d:cz ρ w w'){a}{l}(n:w.cell? a=J x)(h:RA ρ a a'):Chs ρ w w' (w.setCell a v) (w'.setCell a' l):=⟨λc b i m=>by
 have f:a.block≠c:=λe=>d.OJ n (e▸i)
 exact Rf ⟨dx _ _ _ f,dx _ _ _ (d.OI h.1 m f)⟩,λ_ b o k i=>Rf (uR w a v k i)⟩
theorem cz.Pw{ρ}{w w'}(a:cz ρ w w')o j(i:o.isChan=Y->ρ.F nX=Y):Chs ρ w w' {w with heap:=w.heap.push o} {w' with heap:=w'.heap.push j}:=⟨λc b f h=>by
 have⟨h1,h2⟩:=a.lt h;refine Rf ⟨?_,?_⟩
 .simp [Sj,lk (show¬c=w.heap.size by omega)]
 .simp [Sj,lk (show¬b=w'.heap.size by omega)],λe b x d f=>by
 simp[Sj]at d;split at d
 .cases d;rw[i f]at e;cases e
 .exact Rf d⟩
theorem pB(w:Wj)(a:Wu)(n:H)(h:w.heap[a.block]?=J o')(b:o'.isChan=Y):(w.freeze a n).heap[a.block]?=w.heap[a.block]?:=by
 unfold SX;split
 rfl;simp[Si,h];cases o'<;>first|rfl|simp[Tg]at b
theorem cz.OV{ρ}{w w'}(d:cz ρ w w'){a}(h:RA ρ a a')n:Chs ρ w w' (w.freeze a n) (w'.freeze a' n):=⟨λc b i m=>by
 by_cases e:a.block=c
 .subst e;obtain⟨o,l,k⟩:=d.chan _ i;obtain⟨x,t,j,p,r⟩:=d.obj _ _ h.1;rw[l]at j;cases j;have s:t.isChan=true:=by cases r<;>simp[Tg]at k ⊢
  obtain rfl:a'.block=b:=ρ.fn _ _ _ h.1 m;exact Rf ⟨pB w a n l k,pB w' a' n p s⟩
 .exact Rf ⟨du _ _ _ e,du _ _ _ (d.OI h.1 m e)⟩,λ_ b o q i=>Rf (uS w a n q i)⟩
theorem cz.PW{ρ}{w w'}(a:cz ρ w w'){m}(h:ρ r m){v}(l:ρ.ch r->ρ.F i7=Y/\∃n b s q e,o'=.chan n b Y s q e)(u:o'.isChan=Y->ρ.F i7=Y/\∃n b s q e,o'=.chan n b Y s q e):Chs ρ w w' {w with heap:=w.heap.setIfInBounds r o'} {w' with heap:=w'.heap.setIfInBounds m v}:=⟨λc b k p=>by
 by_cases d:r=c
 .subst d;obtain⟨j,n,q,s,t,e,rfl⟩:=l k;refine Rg ⟨j,n,q,s,t,e,?_⟩;simp[(a.lt h).1]
 .exact Rf ⟨by simp[d],by simp[a.OI h p d]⟩,λhS b x f k=>by
 by_cases d:r=b
 .subst d;have i:=f;simp[(a.lt h).1]at f;subst f;obtain⟨j,n,q,s,t,e,rfl⟩:=u k;exact Rg ⟨j,n,q,s,t,e,i⟩
 .exact Rf (by simpa[d]using f)⟩
def GM{α:Type}(r:Result α):Prop:=∃h w,r=.halt h w/\fO h=Y
def Out{α β:Type}(Q:Ren->α->β->Prop)(ρ:Ren)(w w':Wj)(es':dT Event)(r:Result α)(r':Result β×dT Event):Prop:=
 ∃ρ',ρ.le ρ'/\cz ρ' r.w r'.1.w/\RR Q ρ' r r'.1/\Keep ρ w' r'.1.w/\(∀a b,ρ' a b->ρ a b\/(w.heap.size<=a/\w'.heap.size<=b))/\r'.1.w.drawn+w.drawn=w'.drawn+r.w.drawn/\fV ρ' es' r'.2/\w.heap.size<=r.w.heap.size/\Chs ρ w w' r.w r'.1.w
def Draws(w w' u:Wj):Prop:=∀i,w.drawn+i<u.drawn->w'.tape (w'.drawn+i)=w.tape (w.drawn+i)
theorem Out.after{s:Type}{c:Ren->α->s->Prop}{ρ n}{w w' q k}{p o:dT Event}{r:Result α}{r':Result s×dT Event}(h:Out c n q k o r r')(hle:ρ.le n)(u:Keep ρ w' k)(y:w.heap.size<=q.heap.size)(A:∀a b,n a b->ρ a b\/(w.heap.size<=a/\w'.heap.size<=b))(hd:k.drawn+w.drawn=w'.drawn+q.drawn)(v:fV n p o)(z:Chs ρ w w' q k:=by exact Chs.refl _ _ _):Out c ρ w w' p r r':=by
 obtain⟨ρ',l,d,R,e,i,D,f,G,j⟩:=h;refine⟨ρ',Ren.le_trans hle l,d,R,u.t e hle.old (λa b h=>(A a b h).imp id (·.2)),λa b h=>?_,by omega,(v.m l).t f,lT y G,z.t hle j⟩;rcases i a b h with x|⟨x,h2⟩
 grind
 have:=u.size
 grind
theorem Dv(w:Wj)(c:Sys):w.drawn<=(w.sys c).2.drawn:=by
 unfold World.sys;obtain⟨-,h2,-,-⟩:=LI (Kernel.perform c w.os) w
 grind
theorem Dw P(s:Sem α):∀ (w:Wj)(es:dT Event),w.drawn<=(s.runT P w es).1.w.drawn:=by
 induction s with
 |pure a=>intro w es;exact Q0
 |load m a k ih=>
  intro w es;simp only[xb];split
  grind
  split
  grind
  exact Q0
 |store m a v k ih=>
  intro w es;by_cases ho:kW v=Y
  have e:(xv m a v k).runT P w es=match w.cell? a with
    | some _ => if w.frozen? a then(.halt (.unsupported (.unsafePointer "a write to bytes that a string shares")) w, es)else k.runT P (w.setCell a v) (es.push ⟨.cell a, Y, m == .atomic⟩)
    |none=>match w.farStore P a v (m == .atomic)with
     | .ok (u,touched)=>k.runT P u (es++touched.toArray.map (⟨.cell ·,Y,m == .atomic⟩))
     | .error h=>(.halt h w,es):=by cases v<;>first|rfl|simp[kW]at ho
  rw[e];split
  split
  exact Q0;exact ih (w.setCell a v) _;split
  rename_i u l hu;rw[<-(tz hu).2];exact ih u _;exact Q0
  have e : (xv m a v k).runT P w es = (.halt (.stuck "store: not the value of one cell") w, es) := by cases v <;> first | rfl | simp[kW]at ho
  rw[e];exact Q0
 |new o k ih=>intro w es;exact ih _ {w with heap:=w.heap.push o} es
 |shape r k ih=>intro w es;exact ih _ w es
 |freeze a n k ih=>intro w es;have:=ih (w.freeze a n) es;rw[(dh w a n).2]at this;exact this
 |frozen a k ih=>intro w es;exact ih _ w es
 |getObj r k ih=>
  intro w es;simp only[xb];split
  exact Q0
  grind
  exact Q0
 |setObj r o k ih=>
  intro w es;simp only[xb];split
  exact Q0
  grind
  exact Q0
 |choose q k ih=>
  intro w es;simp only[xb]
  grind
 |sys c k ih=>intro w es;exact lT (Dv w c) (ih _ _ _)
 |program k ih=>intro w es;exact ih P w es
 |mark m k ih=>intro w es;exact ih w _
 |halt h=>intro w es;exact Q0
theorem dJ.run{P}[Two P]{α:Type}{s:Sem α}(h:dJ P s)(p:Wv)(b:p.toTables=P.toTables):∀ (w:Wj)(es:dT Event),Mir p s w es/\GM (s.runT p w es).1:=by
 induction h with
 |halt c=>intro w es;exact⟨zU _,_,w,Q,c⟩
 |mark m _ ih=>intro w es;exact⟨zV (ih w _).1,(ih w _).2⟩
 |shape r _ ih=>intro w es;exact⟨uO (ih _ w _).1,(ih _ w _).2⟩
 |frozen a _ ih=>intro w es;exact⟨nc (ih _ w _).1,(ih _ w _).2⟩
 |program _ ih=>intro w es;exact⟨py (ih p b w _).1,(ih p b w _).2⟩
structure Fine (P:Wv) [Two P]{α β:Type}(Q:Ren->α->β->Prop)(ρ:Ren)(s:Sem α)(s':Sem β)(w w':Wj)(es es':dT Event):Prop where
 PO:Mir P s w es
 o:(GM (s.runT P w es).1/\GM (s.runT P.alt w es).1)\/(s.runT P.alt w es=s.runT P w es/\Out Q ρ w w' es' (s.runT P w es).1 (s'.runT P w' es'))
theorem Fine.lost  [Two P]{α b:Type}{a:Ren->α->b->Prop}{ρ:Ren}{s:Sem α}{e:Sem b}{w w':Wj}{es es':dT Event}(d:Mir P s w es)(c:∀p:Wv,GM (s.runT p w es).1):Fine P a ρ s e w w' es es':=⟨d,Rf ⟨c P,c P.alt⟩⟩
theorem tB  [Two P]{α β:Type}{Q:Ren->α->β->Prop}{ρ:Ren}{s:Sem α}{s':Sem β}(h:RS P Q ρ s s'):∀ (w w':Wj)(es es':dT Event),cz ρ w w'->Draws w w' (s.runT P w es).1.w->Fine P Q ρ s s' w w' es es':=by
 induction h with
 |pure h=>intro w w' es es' S _;exact⟨GK _,Rg ⟨rfl,_,Ren.le_refl _,S,.ok w w' h,Keep.refl _ _,λa b h=>Rf h,by simp[xb,Result.w],fV.refl _ _,Q0,Chs.refl _ _ _⟩⟩
 | @load ρ m a a' k k' h _ ih=>
  intro w w' es es' S hd;rcases S.cell h with c1|⟨v,v',c1,c2,hv⟩;have⟨e,f1,f3⟩:=S.farLoad h (m == .atomic);have f2:∀p:Wv,w.farLoad p a (m == .atomic)=.error e:=λp=>f1 p w.tape w.drawn
  exact .lost (xZ c1 (f1 P)) (λp=>⟨e,w,by simp only[xb,c1,f2],f3⟩);simp only[xb,c1]at hd;obtain⟨t1,t2⟩:=ih v v' hv w w' _ (es'.push ⟨.cell a',Z,m == .atomic⟩) S hd;refine⟨GL c1 t1,?_⟩;simp only[xb,c1,c2];exact t2.imp id (λ⟨ha,ho⟩=>⟨ha,ho.after (Ren.le_refl _) (Keep.refl _ _) Q0 (λa b h=>Rf h) rfl (fV.push ⟨a.block,h.1,(λh=>by cases h),S.OJ c1⟩)⟩)
 | @store ρ m a a' v v' k k' h hv _ ih=>
  intro w w' es es' S hd;by_cases ho:kW v=Y
  have e:=λp:Wv=>iE p m a v k ho
  rcases S.cell h with c1|⟨x,x',c1,c2,-⟩;have⟨y,f1,f3⟩:=S.farStore h v (m == .atomic);have f2:∀p:Wv,w.farStore p a v (m == .atomic)=.error y:=λp=>f1 p w.tape w.drawn
  exact .lost (uN ho c1 (f1 P)) (λp=>⟨y,w,by rw[e,c1];simp[f2],f3⟩);cases hz:w.frozen? a with
  | true => exact .lost (px ho c1 hz) (fun p => ⟨.unsupported (.unsafePointer "a write to bytes that a string shares"), w, by rw[e, c1]; simp[hz], rfl⟩)
  |false=>
   have hz':w'.frozen? a'=false:=by
    rcases S.OQ h with k|⟨k,-⟩;rw[k];exact hz;rw[k]at hz;cases hz
   have hold:¬ρ.old a.block:=λho=>by
    obtain⟨o,h1,h2⟩:=S.fix _ ho;unfold Tb at c1;unfold Td at hz;rw[h1]at c1 hz;cases o with
    |cells c e z=>
     obtain⟨lo,hi⟩:=z;obtain⟨z1,z2⟩:=h2;simp only at z1 z2 c1 hz;subst z1;split at c1
     cases c1;have:=(eS c1).1;simp at hz;omega
    |_=>simp at c1
   rw[e]at hd;simp only[c1,hz,UN,n8]at hd;obtain⟨t1,t2⟩:=ih (w.setCell a v) (w'.setCell a' v') _ (es'.push ⟨.cell a',Y,m == .atomic⟩) (S.set h hv hold ho) hd;refine⟨Du ho c1 hz t1,?_⟩;rw[e,e,(λp:Wv=>iE p m a' v' k' (by cases hv<;>first|rfl|simp[kW]at ho))];simp only[c1,c2,hz,hz',UN,n8];exact t2.imp id (λ⟨ha,hout⟩=>⟨ha,hout.after (Ren.le_refl _) ⟨rfl,rfl,rfl,by simp[SY],λb hb hno=>(dx w' a' v' (λe=>hold (hno a.block (e▸h.1))))⟩ (by simp[SY]) (λa b h=>Rf h) (by simp[SY]) (fV.push ⟨a.block,h.1,(λ_=>hold),S.OJ c1⟩) (S.PX c1 h)⟩)
  have e : ∀ (p : Wv) (u : Wj), (xv m a v k).runT p u es = (.halt (.stuck "store: not the value of one cell") u, es) := fun p u => by cases v <;> first | rfl | simp[kW]at ho
  exact .lost (ya ho) (λp=>⟨_,w,by rw[e],rfl⟩)
 | @new ρ o o' k k' h _ hs ih=>
  intro w w' es es' S hd;simp only[xb]at hd;have⟨t1,t2⟩:=ih w.heap.size w'.heap.size S.Py S.PL S.Qt {w with heap:=w.heap.push o} {w' with heap:=w'.heap.push o'} es es' (S.push h) hd;refine⟨JY t1,?_⟩;simp only[xb];exact t2.imp id (λ⟨ha,ho⟩=>⟨ha,ho.after (uM _ _ _ _ _) ⟨rfl,rfl,rfl,by simp,λb hb _=>by simp[Sj,lk (show¬b=w'.heap.size by omega)]⟩ (by simp) (λa b h=>h.imp id (λh=>⟨by omega,by omega⟩)) (by simp) (fV.refl _ _) (S.Pw _ _ hs)⟩)
 | @shape ρ r r' k k' h _ ih=>
  intro w w' es es' S hd;simp only[xb]at hd;obtain⟨t1,t2⟩:=ih _ w w' es es' S hd;refine⟨uO t1,?_⟩;simp only[xb,S.PZ h];exact t2
 | @frozen ρ a a' k k' h _ _ ih ih'=>
  intro w w' es es' S hd;simp only[xb]at hd;rcases S.OQ h with z|⟨z,hzf⟩;obtain⟨t1,t2⟩:=ih _ w w' es es' S hd;refine⟨nc t1,?_⟩;simp only[xb,z];exact t2;rw[z]at hd;have⟨t1,t2⟩:=ih' hzf (w'.frozen? a') w w' es es' S hd;refine⟨nc (by rw[z];exact t1),?_⟩;simp only[xb,z];exact t2
 | @freeze ρ a a' n k k' h ho _ ih=>
  intro w w' es es' S hd;simp only[xb]at hd;have hd':Draws (w.freeze a n) (w'.freeze a' n) (k.runT P (w.freeze a n) es).1.w:=by
   unfold Draws;rw[(dh w a n).1,(dh w a n).2,(dh w' a' n).1,(dh w' a' n).2];exact hd
  have⟨t1,t2⟩:=ih (w.freeze a n) (w'.freeze a' n) es es' (S.freeze h n ho) hd';refine⟨Bq t1,?_⟩;simp only[xb];refine t2.imp id (λ⟨ha,hout⟩=>⟨ha,hout.after (Ren.le_refl _) ⟨?_,?_,(dh w' a' n).1,by rw[pz];exact Q0,λb hb hno=>?_⟩ (by rw[pz];exact Q0) (λa b h=>Rf h) (by rw[(dh w a n).2,(dh w' a' n).2]) (fV.refl _ _) (S.OV h n)⟩);unfold SX;split<;>rfl
  unfold SX;split<;>rfl
  exact du w' a' n (λe=>ho (hno a.block (e▸h.1)))
 | @getObj ρ r r' k k' h _ ih=>
  intro w w' es es' S hd;have⟨o,o',h1,h2,ho⟩:=S.obj r r' h;by_cases hcell:∃c e z,o=E c e z
  obtain⟨c,e,z,rfl⟩:=hcell
  exact .lost (uP h1) (fun p => ⟨.stuck "getObj: a row of cells", w, by simp only[xb, h1], rfl⟩)
  have hold:ρ.old r->LJ o:=λhr=>by
   have⟨x,k1,k2⟩:=S.fix r hr;rw[h1]at k1;cases k1;cases o with
   |cells c e z=>exact eW ⟨c,e,z,rfl⟩ hcell
   |coro p=>cases p with
    |none=>exact .coro
    |some _=>exact eW k2 (λh=>h)
   |number a l=>exact .number a l
   |_=>exact eW k2 (λh=>h)
  have hch:ρ.ch r->o.isChan=true:=λe=>by
   have⟨x,k1,k2⟩:=S.chan r e;rw[h1]at k1;cases k1;exact k2
  have hch':o'.isChan=Z->¬ρ.ch r:=λe1 e2=>by
   have:=hch e2;cases ho<;>simp[Tg]at this e1
  have r1:∀ (p:Wv) es1,(yz r k).runT p w es1=(k o).runT p w (es1.push ⟨.obj r,Z,o.isChan⟩):=λp es1=>by
   cases o<;>first|exact eW ⟨_,_,_,rfl⟩ hcell|simp only[xb,h1]
  have r2:(yz r' k').runT P w' es'=(k' o').runT P w' (es'.push ⟨.obj r',Z,o'.isChan⟩):=by
   cases ho with
   |cells e hz hc=>exact eW ⟨_,_,_,rfl⟩ hcell
   |dead _ hd=>cases o'<;>first|(simp[tA]at hd;done)|simp only[xb,h2]
   |_=>simp only[xb,h2]
  rw[r1]at hd;obtain⟨t1,t2⟩:=ih o o' ho hold hch w w' _ (es'.push ⟨.obj r',Z,o'.isChan⟩) S hd;refine⟨Br h1 hcell t1,?_⟩;rw[r1,r1,r2];exact t2.imp id (λ⟨ha,hout⟩=>⟨ha,hout.after (Ren.le_refl _) (Keep.refl _ _) Q0 (λa b h=>Rf h) rfl (fV.push ⟨r,h,(λh=>by cases h),hch'⟩)⟩)
 | @setObj ρ r r' o o' k k' h ho hn hch _ hs ih=>
  intro w w' es es' S hd;have⟨x,x',h1,h2,hx⟩:=S.obj r r' h;by_cases hcell:∃c e z,x=E c e z
  obtain⟨c,e,z,rfl⟩:=hcell
  exact .lost (uQ h1) (fun p => ⟨.stuck "setObj: a row of cells", w, by simp[xb, h1], rfl⟩)
  have hch':o'.isChan=Z->¬ρ.ch r:=λe1 e2=>by
   have:=hch e2;obtain⟨-,_,_,_,_,_,rfl⟩:=this;cases ho;simp[Tg]at e1
  have r1:∀ (p:Wv) es1,(Rj r o k).runT p w es1=k.runT p {w with heap:=w.heap.setIfInBounds r o} (es1.push ⟨.obj r,Y,o.isChan⟩):=λp es1=>by
   cases x<;>first|exact eW ⟨_,_,_,rfl⟩ hcell|simp[xb,h1]
  have r2:(Rj r' o' k').runT P w' es'=k'.runT P {w' with heap:=w'.heap.setIfInBounds r' o'} (es'.push ⟨.obj r',Y,o'.isChan⟩):=by
   cases hx with
   |cells e hz hc=>exact eW ⟨_,_,_,rfl⟩ hcell
   |dead _ hd=>cases x'<;>first|(simp[tA]at hd;done)|simp[xb,h2]
   |_=>simp[xb,h2]
  rw[r1]at hd;obtain⟨t1,t2⟩:=ih {w with heap:=w.heap.setIfInBounds r o} {w' with heap:=w'.heap.setIfInBounds r' o'} _ (es'.push ⟨.obj r',Y,o'.isChan⟩) (S.put h ho hn (λk=>by obtain⟨-,_,_,_,_,_,rfl⟩:=hch k;rfl) (λc e z k=>hcell ⟨c,e,z,by rw[h1]at k;exact oJ k⟩)) hd;refine⟨Bt h1 hcell t1,?_⟩;rw[r1,r1,r2];refine t2.imp id (λ⟨ha,hout⟩=>⟨ha,hout.after (Ren.le_refl _) ⟨rfl,rfl,rfl,by simp,λb hb hno=>?_⟩ (by simp) (λa b h=>Rf h) (by simp) (fV.push ⟨r,h,λ_=>hn,hch'⟩) (S.PW h hch hs)⟩);have hne:r'≠b:=λe=>hn (hno r (e▸h))
  simp[hne]
 | @choose ρ q k k' _ ih=>
  intro w w' es es' S hd;by_cases hf:q.forced=Y
  simp only[xb,hf,gI]at hd;have⟨t1,t2⟩:=ih 0 w w' es es' S hd;refine⟨oE hf t1,?_⟩;simp only[xb,hf,gI];exact t2;have e:∀ (p:Wv) (u:Wj),(Rk q k).runT p u es=(k (q.cut (u.tape u.drawn q))).runT p {u with drawn:=u.drawn+1} es:=λp u=>by simp only[xb,hf];rfl
  have e':∀ (u:Wj),(Rk q k').runT P u es'=(k' (q.cut (u.tape u.drawn q))).runT P {u with drawn:=u.drawn+1} es':=λu=>by simp only[xb,hf];rfl
  rw[e]at hd;have hlow:w.drawn+1<=((k (q.cut (w.tape w.drawn q))).runT P {w with drawn:=w.drawn+1} es).1.w.drawn:=Dw P (k (q.cut (w.tape w.drawn q))) {w with drawn:=w.drawn+1} es;have h0:w'.tape w'.drawn=w.tape w.drawn:=by have:=hd 0 (by omega);simpa using this
  have⟨t1,t2⟩:=ih (q.cut (w.tape w.drawn q)) {w with drawn:=w.drawn+1} {w' with drawn:=w'.drawn+1} es es' ⟨S.obj,S.fix,S.chan,S.os,S.NT⟩ (λi hi=>by
   have:=hd (i+1) (by simp only at hi;omega);simp only;rw[show w'.drawn+1+i=w'.drawn+(i+1)by omega,show w.drawn+1+i=w.drawn+(i+1)by omega];exact this)
  refine⟨Bu hf t1,?_⟩;rw[e,e,e',h0];exact t2.imp id (λ⟨ha,hout⟩=>⟨ha,hout.after (Ren.le_refl _) ⟨rfl,rfl,rfl,Q0,λb hb _=>rfl⟩ Q0 (λa b h=>Rf h) (by simp only;omega) (fV.refl _ _) ⟨λ_ _ _ _=>Rf ⟨rfl,rfl⟩,λ_ _ _ h _=>Rf h⟩⟩)
 |program h1 _ ih=>
  intro w w' es es' S hd;have⟨t1,t2⟩:=ih w w' es es' S hd;refine⟨py t1,?_⟩;simp only[xb];rw[h1];exact t2
 | @mark ρ m k k' h _ ih=>
  intro w w' es es' S hd;simp only[xb]at hd;obtain⟨t1,t2⟩:=ih w w' _ (es'.push ⟨.mark m,Z,Y⟩) S hd;refine⟨zV t1,?_⟩;simp only[xb];exact t2.imp id (λ⟨ha,hout⟩=>⟨ha,hout.after (Ren.le_refl _) (Keep.refl _ _) Q0 (λa b h=>Rf h) rfl (fV.push h)⟩)
 |halt hh=>intro w w' es es' S _;exact⟨zU _,Rg ⟨rfl,_,Ren.le_refl _,S,.halt w w' hh,Keep.refl _ _,λa b h=>Rf h,by simp only[xb,Result.w],fV.refl _ _,Q0,Chs.refl _ _ _⟩⟩
 | @env ρ k k' _ ih=>
  intro w w' es es' S hd;have e:∀u:Wj,u.sys .env=(.strings u.os.env,u):=λu=>rfl
  have e1:∀ (p:Wv),(Rl .env k).runT p w es=(k (.strings w.os.env)).runT p w (es.push ⟨.output,Y,Z⟩):=λp=>rfl
  have e2:(Rl .env k').runT P w' es'=(k' (.strings w.os.env)).runT P w' (es'.push ⟨.output,Y,Z⟩):=by
   rw[<-S.os];rfl
  rw[e1]at hd;obtain⟨t1,t2⟩:=ih (.strings w.os.env) w w' _ (es'.push ⟨.output,Y,Z⟩) S hd;refine⟨jw P _ (k (.strings w.os.env)) w w es _ (e1 P) rfl rfl (λτ d=>rfl) t1,?_⟩;rw[e1,e1,e2];exact t2.imp id (λ⟨ha,hout⟩=>⟨ha,hout.after (Ren.le_refl _) (Keep.refl _ _) Q0 (λa b h=>Rf h) rfl (fV.push trivial)⟩)
 |lost h s'=>intro w w' es es' S _;exact⟨(h.run P rfl w es).1,Rf ⟨(h.run P rfl w es).2,(h.run P.alt rfl w es).2⟩⟩
def QE{α:Type}:Ren->α->α->Prop:=λ_ a b=>a=b
def QV:Ren->Wx->Wx->Prop:=λρ v a=>RV ρ v a
def QA:Ren->Wu->Wu->Prop:=λρ a b=>RA ρ a b
def QVs:Ren->dT Wx->dT Wx->Prop:=λρ c a=>RVs ρ c a
def QU:Ren->Unit->Unit->Prop:=λ_ _ _=>uc
def cC(P:Wv):Prop:=∀t i z,P.info? t=J i->i.zero=J z->∀ρ,RV ρ z z
section
variable {P:Wv} [Two P] {ρ:Ren}
theorem ah{b:Type}{a:Ren->α->b->Prop}(s:tn){x':Sem b}:RS P a ρ (stuck s) x':=.lost (.halt Q) _
theorem an{b:Type}{a:Ren->α->b->Prop}(u:Unsupported)(c:fO (.unsupported u)=true:=by rfl){x':Sem b}:RS P a ρ (unsupported u) x':=.lost (.halt c) _
theorem ae{Q:Ren->α->j->Prop}{a:α}{b:j}(h:Q ρ a b):RS P Q ρ (Tf a) (Tf b):=.pure h
theorem am{s:Type}{Q:Ren->α->β->Prop}{Q':Ren->j->s->Prop}{x:Sem α}{i:Sem β}{f:α->Sem j}{e:β->Sem s}(h:RS P Q ρ x i)(k:∀ρ',ρ.le ρ'->∀a b,Q ρ' a b->RS P Q' ρ' (f a) (e b)):RS P Q' ρ (x >>= f) (i >>= e):=RS.bind h k
theorem ak{Q':Ren->j->β->Prop}{x i:Sem α}{f:α->Sem j}{d:α->Sem β}(h:RS P QE ρ x i)(k:∀ρ',ρ.le ρ'->∀a,RS P Q' ρ' (f a) (d a)):RS P Q' ρ (x >>= f) (i >>= d):=RS.bind h (λρ' l a b (e:a=b)=>e▸k ρ' l a)
theorem bF{b a:Type}{Q':Ren->b->a->Prop}{f:Wv->Sem b}{c:Wv->Sem a}(h:RS P Q' ρ (f P) (c P))(d:f P.alt=f P:=by rfl):RS P Q' ρ (program >>= f) (program >>= c):=.program d h
theorem cI t:RS P (λ_ a b=>a=b/\P.info? t=J a) ρ (Rv t) (Rv t):=by
 refine .program Q ?_
 show RS P _ ρ (match P.info? t with | some i => Tf i | none => stuck "no such type") (match P.info? t with | some i => Tf i | none => stuck "no such type")
 cases P.info? t with
 |none=>exact ah _
 |some i=>exact ae ⟨Q,Q⟩
theorem aC t:RS P QE ρ (underlying t) (underlying t):=by
 refine .program Q ?_
 show RS P _ ρ (match P.underlying t with | some i => Tf i | none => stuck "no such type") (match P.underlying t with | some i => Tf i | none => stuck "no such type")
 cases P.underlying t with
 |none=>exact ah _
 |some i=>exact ae Q
theorem bu t:RS P (λ_ a b=>a=b/\P.underlying t=J a) ρ (underlying t) (underlying t):=by
 refine .program Q ?_
 show RS P _ ρ (match P.underlying t with | some i => Tf i | none => stuck "no such type") (match P.underlying t with | some i => Tf i | none => stuck "no such type")
 cases P.underlying t with
 |none=>exact ah _
 |some i=>exact ae ⟨Q,Q⟩
theorem dv(c:cC P)t:RS P QV ρ (zeroValue t) (zeroValue t):=by
 refine am (cI t) (λρ' _ a b h=>?_);obtain⟨rfl,d⟩:=h;cases e:a.zero with
 |none=>exact an _
 |some z=>exact ae (c t a z d e ρ')
theorem bW t:RS P QE ρ (Rx t) (Rx t):=am (cI t) (λρ' _ a b h=>by obtain⟨rfl,-⟩:=h;exact ae Q)
theorem zX t:RS P QE ρ (isAgg t) (isAgg t):=by
 refine ak (aC t) (λρ' _ a=>?_);split<;>exact ae Q
theorem pC{a b}(h:RA ρ a b)(m:Mode):RS P QV ρ (load a m) (load b m):=.load m h (λ_ _ c=>.pure c)
theorem GN{a e}(h:RA ρ a e){b}(d:RV ρ v b)(m:Mode):RS P QU ρ (store a v m) (store e b m):=.store m h d (.pure trivial)
theorem RA.add{a b}(h:RA ρ a b)n:RA ρ (a.add n) (b.add n):=by
 unfold Addr.add;split
 exact h;exact⟨h.1,by simp[h.2.1],Q⟩
theorem RVs.push{e:dT Wx}(h:RVs ρ c' e){d}(hv:RV ρ v d):RVs ρ (c'.push v) (e.push d):=by
 refine⟨by simp[h.size],λi x j b a=>?_⟩;rw[gP]at b a;rw[<-h.size]at a;by_cases f:i=c'.size
 grind
 simp[f]at b a;exact h.at_ i x j b a
theorem RVs.nil:RVs ρ #[] #[]:=⟨Q,λi v v' h=>by simp at h⟩
theorem oF:∀ (n i:H){ρ:Ren}{a b:Wu}{c d:dT Wx},RA ρ a b->RVs ρ c d->RS P QVs ρ (RZ a i n c) (RZ b i n d):=by
 intro n;induction n with
 |zero=>intro i ρ a b c d _ e;exact ae e
 |succ n ih=>
  exactλi ρ a b c d h e=>am (pC (h.add i) _) (λρ' f v v' j=>ih (i+1) (h.m f) ((e.m f).push j))
theorem ij{a b}(h:RA ρ a b)n:RS P QVs ρ (loadCells a n) (loadCells b n):=oF n 0 h RVs.nil
theorem ry(t:Ww){a:Wu}(h:RA ρ a a'):RS P QV ρ (loadVar t a) (loadVar t a'):=by
 refine ak (zX t) (λρ1 e b=>?_);cases b with
 |true=>
  refine ak (bW t) (λρ2 i n=>(am (ij ((h.m e).m i) n) (λρ3 _ c c' d=>ae (.agg d.size d.at_))))
 |false=>exact pC (h.m e) _
theorem RV.NR{b}(h:RV ρ v b):RVs ρ v.cells b.cells:=by
 have a:=RVs.nil.push h;cases h with
 |agg c h=>exact⟨c,h⟩
 |dead b h=>cases b<;>first|exact a|simp[jA]at h
 |_=>exact a
theorem eT:∀ (c b:S Wx)(i:H){ρ:Ren}{a e:Wu},RA ρ a e->c.length=b.length->(∀ (j:H) v d,c[j]?=J v->b[j]?=J d->RV ρ v d)->RS P QU ρ (Sb a c i) (Sb e b i):=by
 intro c;induction c with
 |nil=>intro b i ρ a e _ f _;cases b with
  |nil=>exact ae trivial
  |cons=>simp at f
 |cons v c ih=>
  intro b i ρ a e h f k;cases b with
  |nil=>simp at f
  |cons d b=>
   exact am (GN (h.add i) (k 0 v d Q Q) _) (λρ' l _ _ _=>ih b (i+1) (h.m l) (by simpa using f) (λj x p o n=>(k (j+1) x p o n).m l))
theorem yb t{a k}(h:RA ρ a k){i}(p:RV ρ v i):RS P QU ρ (storeVar t a v) (storeVar t k i):=by
 have o:=p.NR;refine ak (bW t) (λρ1 d n=>?_);have b:=o.m d;rw[<-o.size];split
 exact am (Q:=QU) (ah _) (λρ2 l _ _ _=>eT _ _ 0 ((h.m d).m l) (by simpa using b.size) (λj x f e c=>(b.at_ j x f (by simpa using e) (by simpa using c)).m l));exact eT _ _ 0 (h.m d) (by simpa using b.size) (λj x f e c=>b.at_ j x f (by simpa using e) (by simpa using c))
theorem iF(e:Ww){f a:dT Wx}(h:RVs ρ f a):RS P QA ρ (newRow e f) (newRow e a):=.new (.cells e (.inl rfl) h) (λr r' _ _ _=>.pure ⟨.inr ⟨rfl,rfl⟩,rfl,rfl⟩)
theorem pD t{a}(b:RV ρ v a):RS P QA ρ (newVar t v) (newVar t a):=iF t b.NR
theorem gC{b:Type}{a:Ren->α->b->Prop}:RS P a ρ (Rp .nilDeref) (Rp .nilDeref):=.program rfl (.halt (.panic (.iface _ (.string _))))
theorem uT{a}(b:RV ρ v a):RS P QA ρ (asAddr v) (asAddr a):=by
 cases b with
 |pointer h=>
  cases h with
  |none=>exact gC
  |some h=>exact ae h
 |_=>exact ah _
theorem uU{a}(b:RV ρ v a):RS P QE ρ (asBool v) (asBool a):=by
 cases b<;>first|exact ae Q|exact ah _
theorem GO{a}(b:RV ρ v a):RS P QVs ρ (asAgg v) (asAgg a):=by
 cases b with
 |agg c h=>exact ae ⟨c,h⟩
 |_=>exact ah _
theorem gE{a}(b:RV ρ v a):RS P QA ρ (TE v) (TE a):=by
 cases b with
 |pointer h=>
  cases h with
  |none=>exact ah _
  |some h=>exact ae h
 |_=>exact ah _
theorem GP(b:cC P)(t:Ww):RS P QV ρ (TR t Y (.tuple #[])) (TR t Y (.tuple #[])):=by
 exact am (dv b t) (λρ1 _ z z' d=>(am (pD t d) (λρ2 _ a a' c=>ae (.pointer (.some c)))))
theorem LK(t:Ww){b:Wx}(c:RV ρ v b):RS P QV ρ (TY t v) (TY t b):=by
 exact am (pD t c) (λρ2 _ a a' d=>ae (.pointer (.some d)))
theorem Dx t{b}(c:RV ρ v b):RS P QV ρ (TP t v) (TP t b):=by
 exact am (gE c) (λρ1 _ a a' d=>ry t d)
theorem Bv t{c b}(d:RV ρ v c)(e:RV ρ x b):RS P QU ρ (TI t v x) (TI t c b):=by
 exact am (gE d) (λρ1 l a a' f=>yb t f (e.m l))
theorem Bw{b}(e:RV ρ v b)i:RS P QV ρ (Tu v i) (Tu b i):=by
 unfold Tu;cases e with
 |tuple d h=>
  rcases RVs.get ⟨d,h⟩ i with⟨a,c⟩|⟨x,x',a,c,f⟩;simp[a];exact ah _;simp[a,c];exact ae f
 |_=>exact ah _
theorem yc{f b:Fn}(j:RFn ρ f b){a i:dT Wx}(e:RVs ρ a c')(d:RVs ρ c i):RS P QV ρ (TF f a c) (TF b c' i):=ae (.func j e.size d.size e.at_ d.at_)
theorem RVs.extract{d:dT Wx}(h:RVs ρ c' d)i j:RVs ρ (c'.extract i j) (d.extract i j):=by
 refine⟨by simp[h.size],λk v f a b=>?_⟩;rw[Array.getElem?_extract]at a b;rw[<-h.size]at b;split at a
 rename_i e;rw[sq e]at b;exact h.at_ _ v f a b;cases a
theorem jG(t:Ww){f:dT Wx}(h:RVs ρ c' f)(o:H):RS P QV ρ (Sh t c' o) (Sh t f o):=by
 refine ak (zX t) (λρ1 e b=>?_);cases b with
 |true=>exact ak (bW t) (λρ2 j n=>ae (by have:=((h.m e).m j).extract o (o+n);exact .agg this.size this.at_))
 |false=>
  rcases(h.m e).get o with⟨a,d⟩|⟨x,x',a,d,i⟩;simp[a];exact ah _;simp[a,d];exact ae i
theorem GQ t{a}(b:RV ρ v a)f:RS P QV ρ (TS t v f) (TS t a f):=by
 refine ak (aC t) (λρ1 e d=>?_);split
 split
 exact am (GO (b.m e)) (λρ2 l2 c c' h=>jG _ h _);exact ah _;exact ah _
theorem ku{a}(b:RV ρ v a):RS P QE ρ (asIntOf v) (asIntOf a):=by
 cases b with
 |int k n=>exact ae Q
 |pointer h=>
  cases h with
  |none=>exact ah _
  |some h=>exact an _
 |_=>exact ah _
theorem di{a:Ren->α->j->Prop}(k:IntKind)(x y:lj)(c:Sc):RS P a ρ (RB k x y c) (RB k x y c):=by
 have d:∀ (b:Ren) (s:ey),RS P a b (Rp (.bounds (IntKind.i64.wrap x) y s c)) (Rp (.bounds (IntKind.i64.wrap x) y s c)):=by
  refineλb s=>.program rfl (.halt (.panic (.iface _ (.agg rfl (λi v v' h1 h2=>?_)))))
  have hb:∀u∈#[Value.int .i64 (IntKind.i64.wrap x),.int .i64 y,.bool s,.int .u8 c.toNat],RV b u u:=by
   intro u e;simp at e;rcases e with rfl|rfl|rfl|rfl;exact .int _ _;exact .int _ _;exact .bool _;exact .int _ _
  grind
 unfold RB;split
 exact .choose _ (λn=>d ρ _);exact d ρ _
theorem GR(t:Ww){c e:Wx}(f:RV ρ v c)(n:RV ρ x e):RS P QV ρ (TT t v x) (TT t c e):=by
 refine ak (ku n) (λρ1 j ki=>(ak (aC t) (λρ2 k d=>?_)));have b:=(f.m j).m k;cases b with
 |agg l h=>
  cases d with
  |array len a=>
   simp only;split
   exact ak (bW a) (λρ3 o m=>jG _ (RVs.m o ⟨l,h⟩) _);exact di _ _ _ _
  |_=>exact ah _
 |string s=>
  cases d with
  |string=>
   simp only;split
   exact ae (.int _ _);exact di _ _ _ _
  |_=>exact ah _
 |_=>cases d<;>exact ah _
theorem dz{a}(b:RV ρ v a)y(c:Sc):RS P QE ρ (Tz v y c) (Tz a y c):=by
 refine ak (ku b) (λρ1 l1 ki=>?_);simp only;split
 exact ae Q;exact di _ _ _ _
theorem fA(n:ey)o l{F a k b T c:eV Wx}(q:∀v d,F=J v->a=J d->RV ρ v d)(t:∀v d,k=J v->b=J d->RV ρ v d)(x:∀v d,T=J v->c=J d->RV ρ v d)
  (p:F.isSome=a.isSome) (u:k.isSome=b.isSome) (y:T.isSome=c.isSome):RS P QE ρ (Tl n o l F k T) (Tl n o l a b c):=by
 cases T<;>cases c<;>first|(simp at y;done)|skip
 refine ak (ae Q) (λs i m=>?_);cases k<;>cases b<;>first|(simp at u;done)|skip
 refine ak (ae Q) (λe j h=>?_);cases F<;>cases a<;>first|(simp at p;done)|skip
 exact ak (ae Q) (λ_ _ _=>ae Q);exact ak (dz (((q _ _ Q Q).m i).m j) _ _) (λ_ _ _=>ae Q);refine ak (dz ((t _ _ Q Q).m i) _ _) (λe j h=>?_);cases F<;>cases a<;>first|(simp at p;done)|skip
 exact ak (ae Q) (λ_ _ _=>ae Q);exact ak (dz (((q _ _ Q Q).m i).m j) _ _) (λ_ _ _=>ae Q);refine ak (dz (x _ _ Q Q) _ _) (λs i m=>?_);cases k<;>cases b<;>first|(simp at u;done)|skip
 refine ak (ah _) (λe j h=>?_);cases F<;>cases a<;>first|(simp at p;done)|skip
 exact ak (ae Q) (λ_ _ _=>ae Q);exact ak (dz (((q _ _ Q Q).m i).m j) _ _) (λ_ _ _=>ae Q);refine ak (dz ((t _ _ Q Q).m i) _ _) (λe j h=>?_);cases F<;>cases a<;>first|(simp at p;done)|skip
 exact ak (ae Q) (λ_ _ _=>ae Q);exact ak (dz (((q _ _ Q Q).m i).m j) _ _) (λ_ _ _=>ae Q)
theorem RAo.Qg{a b:eV Wu}(h:RAo ρ a b)n:RAo ρ (a.map (·.add n)) (b.map (·.add n)):=by
 cases h with
 |none=>exact .none
 |some h=>exact .some (h.add n)
theorem Bx(t:Ww){A i B:Wx}(R:RV ρ v A)(L:RV ρ i B):RS P QV ρ (TJ t v i) (TJ t A B):=by
 refine ak (ku L) (λρ1 T ki=>(ak (aC t) (λρ2 V d=>?_)));have k:=(R.m T).m V;cases d with
 |array o f=>
  refine am (gE k) (λρ3 l3 a a' l=>(am (Q:=λρ (x y:eV Wu×H×Ww)=>RAo ρ x.1 y.1/\x.2=y.2) (ae ⟨.some l,rfl⟩) (λz D x y h=>?_)));obtain⟨b,o,f⟩:=x;obtain⟨F,n,j⟩:=y;obtain⟨p,e⟩:=h;obtain⟨rfl,rfl⟩:=e;refine ak (aC t) (λr q d=>?_);cases p with
  |none=>exact di _ _ _ _
  |some l=>
   simp only;split
   exact ak (bW _) (λs u m=>ae (.pointer (.some (((l.m q).m u).add _))))
   repeat' split
   all_goals first
    |exact an _
    |exact di _ _ _ _
 |slice f=>
  cases k with
  |slice m c G=>
   refine am (Q:=λρ (x y:eV Wu×H×Ww)=>RAo ρ x.1 y.1/\x.2=y.2) (ae ⟨G,rfl⟩) (λz D x y h=>?_);obtain⟨b,o,f⟩:=x;obtain⟨F,n,j⟩:=y;obtain⟨p,e⟩:=h;obtain⟨rfl,rfl⟩:=e;refine ak (aC t) (λr q d=>?_);cases p with
   |none=>exact di _ _ _ _
   |some l=>
    simp only;split
    exact ak (bW _) (λs u m=>ae (.pointer (.some (((l.m q).m u).add _))))
    repeat' split
    all_goals first
     |exact an _
     |exact di _ _ _ _
  |_=>exact ah _
 |_=>exact ah _
theorem GS(t:Ww){e:Wx}(hv:RV ρ v e){L o F k T q:eV Wx}(h1:∀v e,L=J v->o=J e->RV ρ v e)(h2:∀v e,F=J v->k=J e->RV ρ v e)(h3:∀v e,T=J v->q=J e->RV ρ v e)
  (e1:L.isSome=o.isSome) (V:F.isSome=k.isSome) (e3:T.isSome=q.isSome):RS P QV ρ (TU t v L F T) (TU t e o k q):=by
 refine ak (aC t) (λA G d=>?_);have p:=hv.m G;have X:=λv e a b=>(h1 v e a b).m G
 have R:=λv e a b=>(h2 v e a b).m G
 have g3:=λv e a b=>(h3 v e a b).m G
 cases d with
 |string=>
  cases p with
  |string s=>
   simp only;have y:∀f,A.le f->RS P QV f (do let(l,h,_) <-Tl Z s.size s.size L F N;pure (.string (s.extract l h)):Sem Wx) (do let(l,h,_) <-Tl Z s.size s.size o k N;pure (.string (s.extract l h))):=λf j=>
    ak (fA Z _ _ (λv e a b=>(X v e a b).m j) (λv e a b=>(R v e a b).m j) (λv e a _=>by cases a) e1 V rfl) (λB _ x=>ae (.string _))
   rw[<-e3];split
   exact am (Q:=QU) (ah _) (λf j _ _ _=>y f j);exact y A (Ren.le_refl _)
  |_=>exact ah _
 |slice i=>
  cases p with
  |slice n c ha=>
   refine ak (fA Y _ _ X R g3 e1 V e3) (λf j x=>?_);obtain⟨l,h,m⟩:=x;refine ak (bW i) (λB r z=>(ae (.slice _ _ ?_)));have u:=(ha.m j).m r;split
   exact u;exact u.Qg _
  |_=>exact ah _
 |pointer aa=>
  refine am (uT p) (λf j a a' ha=>(ak (aC aa) (λB r d=>?_)));cases d with
  |array n i=>
   refine ak (fA Z _ _ (λv e a b=>((X v e a b).m j).m r) (λv e a b=>((R v e a b).m j).m r) (λv e a b=>((g3 v e a b).m j).m r) e1 V e3) (λρ4 l4 x=>?_);obtain⟨l,h,m⟩:=x;refine ak (bW i) (λρ5 l5 z=>(ae (.slice _ _ (.some ?_))));have D:=((ha.m r).m l4).m l5;split
   exact D;exact D.add _
  |_=>exact ah _
 |_=>exact ah _
inductive RPs (ρ:Ren):S (H×Wx)->S (H×Wx)->Prop
 |nil:RPs ρ [] []
 |cons (i:H) {v v':Wx} {l l':S (H×Wx)} (h:RV ρ v v') (hl:RPs ρ l l'):RPs ρ ((i,v)::l) ((i,v')::l')
theorem RPs.m{ρ'}(hle:ρ.le ρ'){l l'}(h:RPs ρ l l'):RPs ρ' l l':=by
 induction h with
 |nil=>exact .nil
 |cons i h _ ih=>exact .cons i (h.m hle) ih
theorem JZ b:∀ (l a:S Wx)(k:H)(c f:dT Wx),l.length=a.length->(∀ (j:H) v d,l[j]?=J v->a[j]?=J d->RV ρ v d)->RVs ρ c f ->
  RVs ρ ((l.zipIdx k).foldl (λcs (x:Wx×H)=>cs.setIfInBounds (b+x.2) x.1) c) ((a.zipIdx k).foldl (λcs (x:Wx×H)=>cs.setIfInBounds (b+x.2) x.1) f):=by
 intro l;induction l with
 |nil=>intro a k c f e _ h;cases a with
  |nil=>exact h
  |cons=>simp at e
 |cons v l ih=>
  intro a k c f e i h;cases a with
  |nil=>simp at e
  |cons d a=>
   exact ih a (k+1) _ _ (by simpa using e) (λj x o n m=>i (j+1) x o n m) (h.set _ (i 0 v d Q Q))
theorem tC(a:H->eV (H×H)){l f}(h:RPs ρ l f):∀ {c b:dT Wx},RVs ρ c b ->
  (Tj a c l=N/\Tj a b f=N)\/∃d n,Tj a c l=J d/\Tj a b f=J n/\RVs ρ d n:=by
 induction h with
 |nil=>intro c b k;exact Rg ⟨c,b,Q,Q,k⟩
 | @cons i v o l f q _ ih=>
  intro c b k;unfold Tj;cases a i with
  |none=>exact Rf ⟨Q,Q⟩
  |some x=>
   obtain⟨m,size⟩:=x;have e:=q.NR;simp only[<-e.size,<-k.size];split
   grind
   refine ih ?_;have:=JZ (ρ:=ρ) m v.cells.toList o.cells.toList 0 c b (by simpa using e.size) (λj x s r p=>e.at_ j x s (by simpa using r) (by simpa using p)) k;rw[<-SD,<-SD,Sk,Sk]at this;exact this
theorem RVs.cyc(h:RVs ρ c' c)(n:H):RVs ρ ((Sz n).map (λi=>c'[i%c'.size]!)) ((Sz n).map (λi=>c[i%c.size]!)):=by
 refine⟨by simp,λi v v' a b=>?_⟩;simp only[Sv,Array.getElem?_range]at a b;split at a
 .rename_i k;simp[k]at a b;by_cases e:0<c'.size
  rotate_left
  have f:c'=#[]:=Sl (by omega);have j:=Sl (by rw[<-h.size];omega);subst f;subst j;subst a;subst b;exact .bool _;have d:i%c'.size<c'.size:=Nat.mod_lt _ e;rw[vf c' _ d]at a;rw[vf c _ (by rw[<-h.size];exact d)]at b;subst a;subst b;refine h.at_ (i%c'.size) _ _ (eG d) ?_;simp[h.size]
 cases a
theorem tD(hZ:cC P)(t:Ww)(len:H){a a':dT (H×Wx)}(h:RPs ρ a.toList a'.toList):RS P QV ρ (TA t len a) (TA t len a'):=by
 refine ak (aC t) (λρ1 l1 d=>?_);cases d with
 |slice elem=>
  refine ak (bW elem) (λρ2 l2 size=>?_);have fin:∀ (ρ3:Ren),ρ2.le ρ3->∀z z',RVs ρ3 z z'->RS P QV ρ3 (match Tj (λi=>J (i*size,size)) ((Sz (len*size)).map (λx=>z[x%z.size]!)) a.toList with
    |some cells=>do let r <-newRow elem cells;pure (.slice (J r) len len)
    | _ => stuck "buildSlice: a part of the wrong size") (match Tj (fun i => J (i*size, size)) ((Sz (len*size)).map (fun x => z'[x%z'.size]!)) a'.toList with
    |some cells=>do let r <-newRow elem cells;pure (.slice (J r) len len)
    | _ => stuck "buildSlice: a part of the wrong size") := by
   intro ρ3 l3 z z' hz;rcases tC (λi=>J (i*size,size)) (((h.m l1).m l2).m l3) (hz.cyc (len*size))with⟨h1,h2⟩|⟨c,c',h1,h2,hc⟩;rw[h1,h2];exact ah _;rw[h1,h2];exact am (iF elem hc) (λρ4 _ r r' hr=>ae (.slice _ _ (.some hr)))
  simp only;split
  exact an _;split
  exact fin ρ2 (Ren.le_refl _) _ _ RVs.nil;exact am (dv hZ elem) (λρ3 l3 z z' hz=>fin ρ3 l3 _ _ (RV.NR hz))
 |_=>exact ah _
theorem dU{b:Type}{a:Ren->α->b->Prop}(m:tn):RS P a ρ (Rp (.error m)) (Rp (.error m)):=.program rfl (.halt (.panic (.iface _ (.string _))))
theorem oV{b:Type}{a:Ren->α->b->Prop}(m:tn):RS P a ρ (Rp (.plain m)) (Rp (.plain m)):=.program rfl (.halt (.panic (.iface _ (.string _))))
theorem rz n:RS P QU ρ (R9 n) (R9 n):=by
 unfold R9;split
 exact .mark .noRoom (.pure trivial);exact ae trivial
theorem jb{a}(b:RV ρ v a):RS P QE ρ (asInt v) (asInt a):=by
 exact ak (ku b) (λρ1 _ x=>ae Q)
theorem zY{a}(b:RV ρ v a):RS P QE ρ (Uq v) (Uq a):=by
 cases b<;>first|exact ae Q|exact ah _
theorem jc(a n:H)(j:RV ρ v x):RS P QVs ρ (Uf a n v) (Uf a n x):=by
 cases j with
 |slice m c h=>
  cases h with
  |none=>exact ae RVs.nil
  |some h=>exact ij h _
 |string s=>
  refine ae ⟨rfl,λi v x d f=>?_⟩;rw[d]at f;cases f;simp only[Sv]at d;obtain⟨b,-,rfl⟩:=Uv.1 d;exact .int _ _
 |_=>exact ah _
theorem RVs.append{a b f:dT Wx}(h:RVs ρ a c')(k:RVs ρ b f):RVs ρ (a++b) (c'++f):=by
 refine⟨by simp[h.size,k.size],λi v j d c=>?_⟩;rw[Array.getElem?_append]at d c;rw[<-h.size]at c;split at d
 rename_i e;rw[sq e]at c;exact h.at_ i v j d c;rename_i e;rw[lk e]at c;exact k.at_ _ v j d c
theorem RVs.Ob{f a:dT Wx}(h:RVs ρ f a)n:RVs ρ (Ue f n) (Ue a n):=by
 unfold Ue;rw[<-h.size];have:=h.cyc (n*f.size);rw[<-h.size]at this;exact this
theorem GT{a b}(h:RA ρ a b)n:RS P QE ρ (Ug a n) (Ug b n):=by
 refine .shape h.1 (λs=>?_);show RS P QE ρ (match s with|some (_,m)=>pure (a.spot.isNone&&a.off+n<=m)|none=>pure Z) (match s with|some (_,m)=>pure (b.spot.isNone&&b.off+n<=m)|none=>pure Z);rw[h.2.1,h.2.2];split<;>exact ae Q
theorem J0(at_:dT Ww)(t:Ww){a:dT Wx}(h:RVs ρ a c'):RS P QV ρ (Um at_ t a) (Um at_ t c'):=by
 unfold Um;rcases h.get 0 with⟨f,e⟩|⟨d,d',f,e,A⟩;rw[f,e];cases at_[0]?<;>exact ah _
 rcases h.get 1 with⟨i,l⟩|⟨s,s',i,l,q⟩;rw[f,e,i,l];cases at_[0]?<;>exact ah _
 rw[f,e,i,l];cases at_[0]? with
 |none=>exact ah _
 |some X=>
  refine ak (aC X) (λρ1 p G=>?_);cases G with
  |slice b=>
   have k:=A.m p;cases k with
   |slice n c F=>
    refine ak (zY (q.m p)) (λρ2 u m=>(ak (bW b) (λρ3 y z=>(am (jc z _ (((q.m p).m u).m y)) (λρ4 B c D v=>?_)))));have o:=((F.m u).m y).m B;cases o with
    |none=>exact ae (.int _ _)
    |some R=>exact am (eT c.toList D.toList 0 R (by simpa using v.size) (λj x T L V=>v.at_ j x T (by simpa using L) (by simpa using V))) (λρ5 _ _ _ _=>ae (.int _ _))
   |_=>exact ah _
  |_=>exact ah _
theorem yd(k:ρ.F nX=Y)t{c}(h:RV ρ v c):RS P QV ρ (TG t v) (TG t c):=by
 refine ak (jb h) (λρ1 j n=>(ak (aC t) (λρ2 f d=>?_)));cases d with
 |chan a b=>
  refine am (cI b) (λρ3 l i i' e=>?_);obtain⟨rfl,-⟩:=e;split
  exact oV _;exact .new (.chan _ _ _ _ _ _ _ _ _ (Rg RVs.nil) (Rg Q)) (λr r' _ _ _=>.pure (.chan (.some (Rg ⟨Q,Q⟩)))) (λ_=>by rw[l.F,f.F,j.F];exact k)
 |_=>exact ah _
def QO(r:H):Ren->Obj->Obj->Prop:=λρ o a=>RO ρ o a/\(ρ.old r->LJ o)/\(ρ.ch r->o.isChan=Y)
theorem ep{a}(h:ρ r a):RS P (QO r) ρ (getObj r) (getObj a):=.getObj h (λ_o _o' d b c=>.pure ⟨d,b,c⟩)
theorem GU(y:ρ.F i7=Y)(at_:dT Ww)(t:Ww){r m:eV H}(h:RNo ρ r m):RS P QV ρ (Uh at_ t #[.chan r]) (Uh at_ t #[.chan m]):=by
 cases h with
 |none=>exact oV _
 |some h=>
  refine am (ep h) (λc n o o' j=>?_);obtain⟨j,d,hch⟩:=j;cases j with
  |chan l f u cl' s q p A x z a=>
   have b:c.F i7=true:=by rw[n.F];exact y
   have a:=a.resolve_left (by rw[c.tight b];exactλh=>by cases h);subst a;cases u with
   |true=>exact oV _
   |false=>exact am (Q:=QU) (.setObj (n _ _ h) (.chan l f Y Y s q p A x z (.inr rfl)) (λk=>by cases d k) (λ_=>⟨b,_,_,_,_,_,rfl⟩) (.pure trivial) (λ_=>⟨b,_,_,_,_,_,rfl⟩)) (λρ2 _ _ _ _=>ae (.tuple rfl (λi v v' e=>by simp at e)))
  |_=>exact ah _
def QN{α β:Type}:Ren->α->β->Prop:=λ_ _ _=>nF
theorem cE{b a:Type}{Q':Ren->j->a->Prop}{x:Sem α}{c:Sem b}{f:α->Sem j}{i:b->Sem a}(h:RS P QN ρ x c):RS P Q' ρ (x >>= f) (c >>= i):=am h (λ_ _ _ _ e=>e.elim)
theorem iG{ρ:Ren}{a d e:H}(b:ρ a r)(f:ρ d e):(a==d)=(r==e):=by
 by_cases h:a=d
 subst h;have:=ρ.fn _ _ _ b f
 grind
 have h':¬r=e:=λi=>h (ρ.inj _ _ _ b (i▸f))
 grind
theorem jH a n:Calm (Ug a n):=by
 refine .shape _ (λs=>?_);show Calm (match s with|some (_,m)=>pure (a.spot.isNone&&a.off+n<=m)|none=>pure Z);split<;>exact .pure _
theorem tE(e n m:Nat)(b:eV Wu)(x:Wx):Calm (Builtin.mayShare e n m b x):=by
 have f:∀d:ey,Calm
   (if(!d)=true then pure true else match(generalizing:=false) x with
    | .slice (some c) _ _=>do
     let u <-Ug c (m*e)
     pure (!u||b.any (λy=>y.block==c.block))
    |_=>pure false):=λd=>by
  split
  exact .pure _;cases x with
  |slice a k c=>
   cases a with
   |none=>exact .pure _
   |some a=>exact(jH a _).bind (λu=>.pure _)
  |_=>exact .pure _
 cases b with
 |none=>exact Calm.bind (.pure true) (λt=>f t)
 |some a=>exact(jH a _).bind (λt=>Calm.bind (.frozen _ (λu=>.pure u)) (λu=>Calm.bind (.pure _) (λt=>f t)))
theorem aM{a:Ren->j->β->Prop}{c:Prop}[Decidable c]{x y:Sem j}{b f:Sem β}(h1:c->RS P a ρ x b)(h2:¬c->RS P a ρ y f):RS P a ρ (if c then x else y) (if c then b else f):=by grind
theorem gF(q:Question):RS P QE ρ (choose q) (choose q):=.choose _ (λ_=>.pure Q)
theorem Dy(hZ:cC P)(at_:dT Ww)(t:Ww){a:dT Wx}(h:RVs ρ a c'):RS P QV ρ (Uj at_ t a) (Uj at_ t c'):=by
 unfold Uj;rcases h.get 0 with⟨u,p⟩|⟨s,s',u,p,hs⟩;rw[u,p];cases at_[0]?<;>exact ah _
 rcases h.get 1 with⟨F,L⟩|⟨x,x',F,L,hx⟩;rw[u,p,F,L];cases at_[0]?<;>exact ah _
 rw[u,p,F,L];cases at_[0]? with
 |none=>exact ah _
 |some st=>
  refine ak (aC st) (λρ1 l1 ty=>?_);cases ty with
  |slice d=>
   have ad:=hs.m l1;cases ad with
   | @slice b b' n c hb=>
    refine ak (bW d) (λR l2 e=>?_);have l:=(hx.m l1).m l2;have y:=hb.m l2;clear hb hs hx l1 l2 h u p F L;have i:∀ (o:Ren) (Ob:ey) (m:H),R.le o->RS P QVs o
      (if(!Ob)=Y then Uf e m x else if m*e=0 then pure #[]else do let z <-zeroValue d;pure (Ue z.cells m))
      (if(!Ob)=Y then Uf e m x' else if m*e=0 then pure #[]else do let z <-zeroValue d;pure (Ue z.cells m)):=by
     exactλo Ob m lz=>aM (λ_=>jc e m (l.m lz)) (λ_=>aM (λ_=>ae RVs.nil) (λ_=>(am (dv hZ d) (λρy _ z z' hz=>ae ((RV.NR hz).Ob m)))))
    cases at_[1]?;all_goals
     first
      |(refine ak (aC _) (λρ30 al ty=>?_);refine ak (ae rfl) (λaa af Ob=>?_);have v:=Ren.le_trans al af)
      |refine ak (ae rfl) (λaa v Ob=>?_)
     refine aM (λ_=>?_) (λ_=>?_);all_goals
      first
       |(refine ak (zY (l.m v)) (λA l4 m=>?_);have G:=Ren.le_trans v l4)
       |(refine ak (jb (l.m v)) (λρ4 l4 li=>?_);refine aM (λ_=>cE (dU _)) (λ_=>?_);refine am (cI d) (λρ5 l5 i0 i0' ap=>?_);obtain⟨rfl,-⟩:=ap;refine aM (λ_=>ak (gF _) (λρ6 l6 made=>cE (dU _))) (λ_=>?_);refine ak (ae rfl) (λA l6 m=>?_);have G:=Ren.le_trans v (Ren.le_trans l4 (Ren.le_trans l5 l6)))
      refine aM (λ_=>?_) (λ_=>?_);refine am (i A Ob m G) (λai la B k f=>?_);have V:=(y.m G).m la;cases V with
      |none=>exact ae (.slice _ _ .none)
      |some ha=>exact am (eT B.toList k.toList 0 (ha.add _) (by simpa using f.size) (λj x x' e1 e2=>f.at_ j x x' (by simpa using e1) (by simpa using e2))) (λT lb _ _ _=>ae (.slice _ _ (.some (ha.m lb))))
      refine am (cI d) (λai la ia ia' aj=>?_);obtain⟨rfl,-⟩:=aj;refine aM (λ_=>cE (dU _)) (λ_=>(am (cI d) (λT lb ib ib' X=>?_)));obtain⟨rfl,-⟩:=X;refine aM (λ_=>cE (aM (λ_=>dU _) (λ_=>?_))) (λ_=>?_);exact .lost ((tE e n m _ _).lost (λsh=>by cases sh<;>first|exact .mark _ (.halt rfl)|exact .halt rfl)) _;refine ak (gF _) (λρ9 l9 newCap=>(am (cI d) (λρc lc ic ic' ab=>?_)));obtain⟨rfl,-⟩:=ab;refine am (rz _) (λρd ld _ _ _=>?_);have D:=Ren.le_trans (Ren.le_trans (Ren.le_trans G la) lb) (Ren.le_trans l9 (Ren.le_trans lc ld));exact am (jc e n (.slice n c (y.m D))) (λac le old old' q=>(am (i ac Ob m (Ren.le_trans D le)) (λρf lf B k f=>(am (dv hZ d) (λρg lg z z' hz=>(am (iF d ((((q.m lf).m lg).append (f.m lg)).append ((RV.NR hz).Ob _))) (λρh _ r r' hr=>ae (.slice _ _ (.some hr)))))))))
   |_=>exact ah _
  |_=>exact ah _
theorem oG t{a}(b:RV ρ v a):RS P QV ρ (Tv t v) (Tv t a):=by
 refine ak (aC t) (λρ1 c d=>?_);cases d with
 |interface _=>exact ah _
 |_=>exact ae (.iface t (b.m c))
theorem uV(u:cC P)(t:Ww){c l:Wx}(A:RV ρ n k)(D:RV ρ c l):RS P QV ρ (Tt t n c) (Tt t k l):=by
 unfold Tt;refine ak (aC t) (λρ1 q d=>?_);cases d with
 |slice a=>
  refine ak (jb (A.m q)) (λρ2 B len=>(ak (jb ((D.m q).m B)) (λρ3 l3 cap=>(am (cI a) (λρ4 l4 i i' v=>?_)))));obtain⟨rfl,-⟩:=v;exact aM (λ_=>(aM (λ_=>cE (dU _)) (λ_=>aM (λ_=>cE (dU _)) (λ_=>(ak (gF _) (λj y x=>cE (dU _))))))) (λ_=>(am (rz _) (λj y _ _ _=>(ak (bW a) (λρ6 l6 z=>(aM (λ_=>(am (Q:=QVs) (ae RVs.nil) (λb o z p e=>(am (iF a (e.cyc _)) (λf _ r s h=>ae (.slice _ _ (.some h))))))) (λ_=>(am (dv u a) (λb o z p e=>(am (Q:=QVs) (ae (RV.NR e)) (λb o z p e=>(am (iF a (e.cyc _)) (λf _ r s h=>ae (.slice _ _ (.some h)))))))))))))))
 |_=>exact ah _
theorem LL(at_:dT Ww)(R:JW P .len at_=Y)(t:Ww){a:dT Wx}(h:RVs ρ a c'):RS P QV ρ (Un at_ t a) (Un at_ t c'):=by
 unfold Un;rcases h.get 0 with⟨z,q⟩|⟨x,x',z,q,D⟩;rw[z,q];cases at_[0]?<;>exact ah _
 rw[z,q];cases r:at_[0]? with
 |none=>exact ah _
 |some u=>
  refine am (bu u) (λρ1 G d d' j=>?_);obtain⟨rfl,j⟩:=j;have i:=D.m G;cases d with
  |pointer v=>
   refine ak (aC v) (λf L d=>?_);cases d with
   |array n e=>exact ae (.int _ _)
   |_=>exact ah _
  |chan d e=>simp[JW,r,j]at R
  |map k e=>
   cases i with
   |map s=>
    cases s with
    |none=>exact ae (.int _ _)
    |some s=>
     refine am (ep s) (λf L o o' p=>?_);obtain⟨p,-,-⟩:=p;cases p with
     |map c F=>
      have:∀ (l y:S Rn),RMs f l y->l.length=y.length:=λl y h=>by
       induction h with
       |nil=>rfl
       |cons b hk h _ ih=>simp[ih]
      have A:=this _ _ F;simp at A;simp[A];exact ae (.int _ _)
     |_=>exact ah _
   |_=>exact ah _
  |_=>cases i<;>first|exact ah _|exact ae (.int _ _)
theorem LM(at_:dT Ww)(p:JW P .cap at_=Y)(t:Ww){a:dT Wx}(h:RVs ρ a c'):RS P QV ρ (Uo at_ t a) (Uo at_ t c'):=by
 unfold Uo;rcases h.get 0 with⟨i,c⟩|⟨x,x',i,c,q⟩;rw[i,c];cases at_[0]?<;>exact ah _
 rw[i,c];cases f:at_[0]? with
 |none=>exact ah _
 |some u=>
  refine am (bu u) (λρ1 o d d' b=>?_);obtain⟨rfl,b⟩:=b;have j:=q.m o;cases d with
  |pointer k=>
   refine ak (aC k) (λρ2 l2 d=>?_);cases d with
   |array n e=>exact ae (.int _ _)
   |_=>exact ah _
  |chan d e=>simp[JW,f,b]at p
  |_=>cases j<;>first|exact ah _|exact ae (.int _ _)
theorem pE(a:BinOp)(k:IntKind)(x y:lj):RS P QV ρ (T1 a k x y) (T1 a k x y):=by
 unfold T1;split<;>first|exact ah _|exact ae (.int _ _)
theorem Dz(a:BinOp)(k:IntKind)(x y:lj):RS P QV ρ (Ua a k x y) (Ua a k x y):=by
 refine aM (λ_=>dU _) (λ_=>?_);split<;>first|exact ah _|exact ae (.int _ _)
theorem rB(a:BinOp)(k:IntKind)(x y:lj):RS P QV ρ (T6 a k x y) (T6 a k x y):=by
 cases a<;>first|exact ah _|exact ae (.int _ _)
theorem GV(a:BinOp)(k:IntKind)(x:lj)(b:IntKind)(y:lj):RS P QV ρ (Uc a k x b y) (Uc a k x b y):=by
 refine aM (λ_=>dU _) (λ_=>?_);cases a<;>first|exact ah _|exact ae (.int _ _)
theorem DA(a:BinOp)(x y:lj):RS P QV ρ (Ub a x y) (Ub a x y):=by
 cases a<;>first|exact ah _|exact ae (.bool _)
theorem pG(a:BinOp)(x y:gL):RS P QV ρ (T5 a x y) (T5 a x y):=by
 cases a with
 |add=>exact aM (λ_=>an _) (λ_=>ae (.string _))
 |_=>first|exact ah _|exact ae (.bool _)
theorem GW(a:UnOp){c:Wx}(d:RV ρ v c):RS P QV ρ (T2 a v) (T2 a c):=by
 unfold T2;cases d with
 |bool b=>cases a<;>first|exact ah _|exact ae (.bool _)
 |int k n=>cases a<;>first|exact ah _|exact pE _ _ _ _|exact rB _ _ _ _
 |pointer e=>cases a<;>cases e<;>first|exact ah _|exact an _
 |_=>cases a<;>exact ah _
theorem GX(X:cC P)(at_:dT Ww)(t:Ww){a:dT Wx}(h:RVs ρ a c'):RS P QV ρ (Uk at_ t a) (Uk at_ t c'):=by
 unfold Uk;have b:∀f:Ren,RS P QV f (pure (.tuple #[]):Sem Wx) (pure (.tuple #[])):=λf=>ae (.tuple rfl (λi v v' e=>by simp at e))
 rcases h.get 0 with⟨F,y⟩|⟨x,R,F,y,hx⟩;rw[F,y];cases at_[0]?<;>exact ah _
 rw[F,y];cases at_[0]? with
 |none=>exact ah _
 |some u=>
  refine ak (aC u) (λf l1 d=>?_);have G:=hx.m l1;cases G with
  |map r=>
   cases r with
   |none=>cases d<;>exact b f
   |some r=>
    cases d<;>exact am (ep r) (λA D o o' s=>by
     obtain⟨s,T,k2⟩:=s;cases s with
     |map c hm=>exact am (Q:=QU) (.setObj (D _ _ r) (.map c .nil) (λk=>by cases T k) (λk=>by have:=k2 k;simp[Tg]at this) (.pure trivial)) (λl l3 _ _ _=>b l)
     |_=>exact ah _)
  |slice n c B=>
   cases B with
   |none=>cases d<;>exact b f
   |some B=>
    cases n with
    |zero=>cases d<;>exact b f
    |succ n=>
     cases d with
     |slice q=>
      refine am (dv X q) (λA D z z' hz=>?_);have p:=(RV.NR hz).Ob (n+1);exact am (eT _ _ 0 (B.m D) (by simpa using p.size) (λj x R e1 V=>p.at_ j x R (by simpa using e1) (by simpa using V))) (λl _ _ _ _=>b l)
     |_=>exact ah _
  |_=>cases d<;>exact ah _
theorem fW{a}(h:ρ r a):RS P QE ρ (shape r) (shape a):=.shape h (λ_=>.pure Q)
theorem uW{d}(h:ρ r d):RS P (λ_ a b=>a=N/\b=N) ρ (viewAt r) (viewAt d):=by
 refine ak (fW h) (λρ1 f s=>aM (λ_=>ae ⟨Q,Q⟩) (λ_=>(am (ep (f _ _ h)) (λρ2 l2 o i c=>?_))));obtain⟨c,-,-⟩:=c;cases c with
 |dead _ e=>cases i<;>first|exact ae ⟨Q,Q⟩|simp[tA]at e
 |_=>exact ae ⟨Q,Q⟩
inductive MI (ρ:Ren):eV (Wu×ey)->eV (Wu×ey)->Prop
 |none:MI ρ N N
 |some {a a':Wu} (b:ey) (h:RA ρ a a'):MI ρ (J (a,b)) (J (a',b))
theorem pH(h:ρ r i):RS P MI ρ (numberAt r) (numberAt i):=by
 refine ak (fW h) (λρ1 e s=>aM (λ_=>ae .none) (λ_=>(am (ep (e _ _ h)) (λρ2 l2 o f a=>?_))));obtain⟨a,-,-⟩:=a;cases a with
 |number b h=>exact ae (.some b h)
 |dead _ d=>cases f<;>first|exact ae .none|simp[tA]at d
 |_=>exact ae .none
theorem pI{a b}(h:RA ρ a b):RS P QU ρ (noView a) (noView b):=by
 refine am (uW h.1) (λρ1 l1 x y e=>?_);obtain⟨rfl,rfl⟩:=e;exact ae trivial
theorem eu t:P.alt.underlying t=P.underlying t:=rfl
theorem fp t:P.alt.cellsOf t=P.cellsOf t:=rfl
theorem jd t:P.alt.bytesOf t=P.bytesOf t:=rfl
theorem mn:P.alt.depth=P.depth:=rfl
theorem lp:∀ (d:H)(t:Ww)(o:H),byteOfCell P.alt d t o=byteOfCell P d t o:=by
 intro d;induction d with
 |zero=>intro t o;rfl
 |succ d ih=>
  intro t o;unfold byteOfCell;simp only[ih,eu,fp,jd];rfl
theorem gG{a}(h:RA ρ a a'):RS P QE ρ (Sf a) (Sf a'):=by
 unfold Sf;rw[<-h.2.2];cases a.spot with
 |some s=>exact ae Q
 |none=>
  refine bF ?_ ?_
  rotate_left
  simp[lp,fp,mn,jd];refine am (pI h) (λρ2 d _ _ _=>(ak (fW (d _ _ h.1)) (λρ3 l3 s=>?_)));rcases s with - |⟨e,z⟩;exact ah _;refine aM (λ_=>ae Q) (λ_=>?_);rw[<-h.2.1];cases byteOfCell P P.depth e (a.off%P.cellsOf e)with
  |none=>exact ah _
  |some b=>exact ae Q
theorem DC{a e}(h:RA ρ a e)c b:RS P QA ρ (partAt a c b) (partAt e c b):=by
 refine ak (gG h) (λf j x=>?_);have d:RA f {block:=a.block,off:=a.off+c} {block:=e.block,off:=e.off+c}:=⟨j _ _ h.1,by rw[h.2.1],Q⟩;refine ak (gG d) (λρ2 i y=>ae ?_);split
 exact d.m i;exact⟨i _ _ d.1,d.2.1,Q⟩
theorem tF{a e}(h:RA ρ a e)(f:Field):RS P QA ρ (Sd a f) (Sd e f):=by
 refine ak (bW _) (λρ1 b x=>aM (λ_=>DC (h.m b) _ _) (λ_=>ae ((h.m b).add _)))
theorem By(s:Ww){e:Wx}(i:RV ρ v e)(f:H):RS P QV ρ (TK s v f) (TK s e f):=by
 refine ak (aC s) (λρ1 j d=>?_);cases d with
 |struct c=>
  dsimp only;cases c[f]? with
  |none=>exact ah _
  |some x=>
   exact am (gE (i.m j)) (λρ2 l2 a a' k=>(am (tF k x) (λρ3 l3 b b' h=>ae (.pointer (.some h)))))
 |_=>exact ah _
theorem Bz(t:Ww){c:Wx}(T:RV ρ v c){r e o f q h:eV Wx}(X:∀v c,r=J v->e=J c->RV ρ v c)(G:∀v c,o=J v->f=J c->RV ρ v c)(L:∀v c,q=J v->h=J c->RV ρ v c)
  (y:r.isSome=e.isSome) (B:o.isSome=f.isSome) (A:q.isSome=h.isSome):RS P QV ρ (TL t v r o q) (TL t c e f h):=by
 refine ak (aC t) (λρ1 l d=>?_);have i:=T.m l;have s:=λv c a b=>(X v c a b).m l
 have u:=λv c a b=>(G v c a b).m l
 have D:=λv c a b=>(L v c a b).m l
 cases d with
 |array n j=>
  refine am (gE i) (λρ2 p a a' V=>(ak (fA Z _ _ (λv c a b=>(s v c a b).m p) (λv c a b=>(u v c a b).m p) (λv c a b=>(D v c a b).m p) y B A) (λρ4 F x=>(ak (bW j) (λρ5 R z=>(ae (.slice _ _ (.some ?_))))))));have k:=(V.m F).m R;split
  exact k;exact k.add _
 |_=>exact GS t i s u D y B A
theorem GY{a b d}(h:RA ρ a a')(k:RA ρ b d):(a==b)=(a'==d):=by
 have e:a=b↔a'=d:=by
  obtain⟨r,o,s⟩:=a;obtain⟨r',o',s'⟩:=a';obtain⟨q,u,t⟩:=b;obtain⟨q',u',t'⟩:=d;obtain⟨i,m,n⟩:=h;obtain⟨f,j,l⟩:=k;subst m;subst n;subst j;subst l;simp only[Addr.mk.injEq];constructor;rintro⟨rfl,rfl,rfl⟩;exact⟨ρ.fn _ _ _ i f,Q,Q⟩;rintro⟨rfl,rfl,rfl⟩;exact⟨ρ.inj _ _ _ i f,Q,Q⟩
 grind
theorem oH{a b}(h:RA ρ a b)(c:¬ρ.old a.block):RS P QU ρ (R3 a) (R3 b):=by
 refine .shape h.1 (λs=>?_);rcases s with - |⟨e,z⟩;exact .pure trivial;exact .freeze 1 ⟨h.1,Q,Q⟩ c (.pure trivial)
def QAn:Ren->Wu->Wu->Prop:=λρ a b=>RA ρ a b/\¬ρ.old a.block
theorem BA(e:Ww){f a:dT Wx}(h:RVs ρ f a):RS P QAn ρ (newRow e f) (newRow e a):=.new (.cells e (.inl rfl) h) (λr r' _ _ b=>.pure ⟨⟨.inr ⟨rfl,rfl⟩,rfl,rfl⟩,b⟩)
theorem RVs.self(h:∀ (i:H) v,c[i]?=J v->RV ρ v v):RVs ρ c c:=⟨Q,λi v v' e a=>by rw[e]at a;cases a;exact h i v e⟩
theorem oI(e:Ww)(s:gL):RS P QV ρ (US e s) (US e s):=by
 refine ak (gF _) (λρ1 l1 cap=>(am (BA e (RVs.append (RVs.self (λi v h=>?_)) (RVs.self (λi v h=>?_)))) (λρ2 l2 a a' b=>?_)));simp at h;obtain⟨x,-,rfl⟩:=h;exact .int _ _;rw[Sp]at h;split at h
 cases h;exact .int _ _;cases h;exact am (oH b.1 b.2) (λρ3 c _ _ _=>ae (.slice _ _ (.some (b.1.m c))))
end
section
variable {P:Wv} [Two P]
theorem il{h:Type}:∀ (l:S α)(b:S β)(s:h){ρ:Ren}(R:Ren->α->β->Prop)(_hm:∀ρ ρ' a c,Ren.le ρ ρ'->R ρ a c->R ρ' a c)(f:α->h->Sem (sT h))(e:β->h->Sem (sT h)),
  l.length=b.length->(∀ (j:H) a c,l[j]?=J a->b[j]?=J c->R ρ a c)->(∀ρ',ρ.le ρ'->∀a c s,R ρ' a c->RS P QE ρ' (f a s) (e c s))->RS P QE ρ (forIn l s f) (forIn b s e):=by
 intro l;induction l with
 |nil=>
  intro b s ρ R k f e i _ _;cases b with
  |nil=>simp;exact ae Q
  |cons _ _=>simp at i
 |cons x l ih=>
  intro b s ρ R k f e i o m;cases b with
  |nil=>simp at i
  |cons p b=>
   simp;refine ak (m ρ (Ren.le_refl _) x p s (o 0 x p Q Q)) (λρ1 n r=>?_);cases r with
   |done r=>exact ae Q
   |yield r=>exact ih b r R k f e (by simpa using i) (λj a c t q=>k _ _ _ _ n (o (j+1) a c (by simpa using t) (by simpa using q))) (λρ' b=>m ρ' (Ren.le_trans n b))
theorem nY{ρ}(l:S α)(s:β)(f b:α->β->Sem (sT β))(k:∀ρ',ρ.le ρ'->∀a s,RS P QE ρ' (f a s) (b a s)):RS P QE ρ (forIn l s f) (forIn l s b):=
 il l l s (λ_ a d=>a=d) (λ_ _ _ _ _ h=>h) f b Q (λj a d i e=>by rw[i]at e;exact oJ e) (λρ' l a d s h=>by subst h;exact k ρ' l a s)
variable {ρ:Ren}
theorem oK(i:RV ρ v x):RS P QV ρ (UT v) (UT x):=by
 cases i with
 |slice n c d=>
  cases d with
  |none=>exact ae (.string _)
  |some d=>
   refine am (ij d n) (λρ1 l1 c p f=>?_);simp[<-Sq];refine ak (il c.toList p.toList _ (λρ a b=>RV ρ a b) (λ_ _ _ _ l h=>h.m l) _ _ (by simpa using f.size) (λj a b q o=>f.at_ j a b (by simpa using q) (by simpa using o)) (λρ' l a b s h=>?_)) (λρ2 l2 s=>ae (.string _));cases h with
   |int k n=>cases k<;>first|exact ah _|exact ae rfl
   |_=>exact ah _
 |_=>exact ah _
theorem oL(i:RV ρ v x):RS P QV ρ (UU v) (UU x):=by
 cases i with
 |slice n c d=>
  cases d with
  |none=>exact ae (.string _)
  |some d=>
   refine am (ij d n) (λρ1 l1 c p f=>?_);simp[<-Sq];refine ak (il c.toList p.toList _ (λρ a b=>RV ρ a b) (λ_ _ _ _ l h=>h.m l) _ _ (by simpa using f.size) (λj a b q o=>f.at_ j a b (by simpa using q) (by simpa using o)) (λρ' l a b s h=>?_)) (λρ2 l2 s=>ae (.string _));cases h with
   |int k n=>cases k<;>first|exact ah _|exact ae rfl
   |_=>exact ah _
 |_=>exact ah _
end
def strip(fn:Func):Func:={fn with body:=fn.body.map (λ_=>.skip)}
structure GId (P:Wv) [Two P](ρ:Ren):Prop where
 NS:∀g,g<P.globals.size->ρ g g
 prog:ρ.prog=P
 code:∀ (f:FuncId) fn b,ρ.F f=Y->P.funcs[f]?=J fn->fn.body=J b->aP P ρ.F b=Y
 alt:∀f,ρ.F f=Y->P.alt.funcs[f]?=P.funcs[f]?
 free:ρ.F oD=Y->∀a,¬ρ.old a
 same:∀f:H,(P.alt.funcs[f]?).map strip=(P.funcs[f]?).map strip
 size:P.alt.funcs.size=P.funcs.size
 apart:∀f,Mk ρ.F f=Y->∃a b,P.alt.funcs[f]?=J a/\P.funcs[f]?=J b/\a.body.isSome=Y/\b.body.isSome=Y/\a.name=b.name
theorem GId.m  [Two P]{ρ ρ':Ren}(h:GId P ρ)(l:ρ.le ρ'):GId P ρ':=⟨λg a=>l _ _ (h.NS g a),l.prog.t h.prog,by rw[l.F];exact h.code,by rw[l.F];exact h.alt,by rw[l.F,l.old];exact h.free,h.same,h.size,by rw[l.F];exact h.apart⟩
theorem GId.lt  [Two P]{ρ:Ren}(h:GId P ρ){a b:H}(k:ρ a b):(a<P.globals.size)↔(b<P.globals.size):=by
 constructor;intro e;rw[<-ρ.fn _ _ _ (h.NS a e) k];exact e;intro e;rw[ρ.inj _ _ _ k (h.NS b e)];exact e
section
variable {P:Wv} [Two P]
theorem bK{ρ}{a}(h:RA ρ a a'):RS P (λρ x y=>RA ρ x.1 y.1/\x.2=y.2) ρ (R4 a) (R4 a'):=by
 refine am (pH h.1) (λρ1 d x y e=>?_);cases e with
 |none=>exact ae ⟨h.m d,Q⟩
 |some b h=>exact ae ⟨h,Q⟩
theorem J2{ρ}{r a q b:eV H}(h:RNo ρ r a)(k:RNo ρ q b):(r==q)=(a==b):=by
 cases h with
 |none=>cases k<;>rfl
 |some h=>
  cases k with
  |none=>rfl
  |some k=>exact iG h k
theorem kw d{ρ}(B:GId P ρ)t{T R}(G:RV ρ x T)(D:RV ρ y R)(q:jx (P.underlying t)=Y\/Gz x=Y\/Gz y=Y):RS P QE ρ (TZ d t x y) (TZ d t T R):=by
 cases d with
 |zero=>exact an _
 |succ d=>
  unfold TZ;refine am (bu t) (λs r F ty' o=>?_);obtain⟨rfl,o⟩:=o;have v:=B.m r;have j:=G.m r;have f:=D.m r;clear B G D r;cases F with
  |bool=>cases j<;>first|exact ah _|(cases f<;>first|exact ah _|exact ae Q)
  |string=>cases j<;>first|exact ah _|(cases f<;>first|exact ah _|exact ae Q)
  |chan u e=>
   cases j with
   |chan h=>
    cases f with
    |chan k=>exact ae (J2 h k)
    |_=>exact ah _
   |_=>exact ah _
  |func a b c=>cases j<;>first|exact ah _|(cases f<;>first|exact ah _|exact ae Q)
  |slice e=>
   cases j with
   |slice n c h=>
    cases f with
    |slice X c' k=>cases h<;>cases k<;>first|exact ah _|exact ae Q
    |_=>cases h<;>exact ah _
   |_=>exact ah _
  |map u e=>
   cases j with
   |map h=>
    cases f with
    |map k=>cases h<;>cases k<;>first|exact ah _|exact ae Q
    |_=>cases h<;>exact ah _
   |_=>exact ah _
  |pointer elem=>
   cases j with
   |pointer h=>
    cases f with
    |pointer k=>
     cases h with
     |none=>cases k<;>exact ae Q
     |some h=>
      cases k with
      |none=>exact ae Q
      |some k=>simp[o,jx,Gz]at q
    |_=>cases h<;>exact ah _
   |_=>exact ah _
  |unsafePointer=>
   cases j with
   |pointer h=>
    cases f with
    |pointer k=>
     show RS P QE s (RE _ _) (RE _ _);unfold RE;cases h with
     |none=>cases k<;>exact ae Q
     |some h=>
      cases k with
      |none=>exact ae Q
      |some k=>simp[o,jx,Gz]at q
    |_=>exact ah _
   |_=>exact ah _
  |interface ms=>
   cases j with
   |nilIface=>cases f<;>first|exact ah _|exact ae Q
   |iface tx hv=>
    cases f with
    |nilIface=>exact ae Q
    |iface F hw=>simp[o,jx,Gz]at q
    |_=>exact ah _
   |_=>exact ah _
  |int kk=>
   cases j with
   |int k n=>
    cases f with
    |int k' X=>exact aM (λ_=>ae Q) (λ_=>ah _)
    |pointer h=>cases h<;>rcases n with(_|m)|m<;>first|exact ae Q|exact an _
    |_=>exact ah _
   |pointer h=>
    cases f with
    |int k n=>cases h<;>rcases n with(_|m)|m<;>first|exact ae Q|exact an _
    |pointer k=>
     cases h with
     |none=>cases k<;>exact an _
     |some h=>
      cases k with
      |none=>exact an _
      |some k=>
       refine am (bK h) (λρ2 L a a' ha=>(am (bK (k.m L)) (λρ3 V b b' hb=>?_)));have l:=ha.1.m V;have p:=hb.1;refine bF ?_;rw[(iG l.1 p.1),tb.2 (((v.m L).m V).lt l.1),GY l p];refine aM (λ_=>?_) (λ_=>?_);exact ak (gG l) (λz A x=>(ak (gG (p.m A)) (λρ5 l5 y=>ae Q)));refine am (cI t) (λz A i i' hi=>?_);obtain⟨rfl,-⟩:=hi;split
       exact aM (λ_=>ae Q) (λ_=>an _);exact an _
    |_=>cases h<;>exact an _
   |_=>
    cases f<;>first|exact ah _|exact an _
  |struct fs=>
   cases j with
   |agg hc hR=>
    cases f with
    |agg kc kR=>simp[o,jx,Gz]at q
    |_=>exact ah _
   |_=>exact ah _
  |array n e=>
   cases j with
   |agg hc hR=>
    cases f with
    |agg kc kR=>simp[o,jx,Gz]at q
    |_=>exact ah _
   |_=>exact ah _
  |float k=>cases j<;>exact ah _
  |complex k=>cases j<;>exact ah _
  |_=>exact ah _
theorem pJ:∀ (d:H)(t:Ww),P.alt.eqGuardType d t=P.eqGuardType d t:=by
 intro d;induction d with
 |zero=>intro t;rfl
 |succ d ih=>
  unfold Program.eqGuardType;simp[ih,eu]
theorem ra:∀ (d:H)(t:Ww)(o:H),RN P.alt d t o=RN P d t o:=by
 intro d;induction d with
 |zero=>intro t o;rfl
 |succ d ih=>
  intro t o;unfold RN;simp only[ih,eu,fp,jd];rfl
theorem pK d e c o(b:lj):RF P.alt d e c o b=RF P d e c o b:=by
 unfold RF;simp only[ra,lp,fp,jd];rfl
theorem nZ d:∀ {ρ:Ren}(t:Ww){x o y k:Wx},RV ρ x o->RV ρ y k->RS P QE ρ (T3 d t x y) (T3 d t o k):=by
 induction d with
 |zero=>intro ρ t x o y k _ _;exact an _
 |succ d ih=>
  intro ρ t x o y k hx hy;refine ak (aC t) (λa l1 ty=>?_);have q:=hx.m l1;have c:=hy.m l1;cases ty with
  |interface ms=>
   cases q with
   |nilIface=>
    cases c with
    |dead _ h=>cases k<;>first|exact ae Q|simp[jA]at h
    |_=>exact ae Q
   |dead _ h=>cases o<;>first|exact ae Q|simp[jA]at h
   |_=>exact ae Q
  |struct fs=>
   cases q with
   |agg T L=>
    cases c with
    |agg G D=>
     have j:RVs a _ _:=⟨T,L⟩;have p:RVs a _ _:=⟨G,D⟩;simp only[<-Sq];refine ak (nY fs.toList _ _ _ (λρ' l f s=>?_)) (λB l2 s=>?_);exact aM (λ_=>(am (jG f.type (j.m l) _) (λR X u u' A=>(am (jG f.type ((p.m l).m X) _) (λV v w w' r=>(ak (ih f.type (A.m v) r) (λF l5 b=>(aM (λ_=>ae Q) (λ_=>ae Q))))))))) (λ_=>ae Q);obtain⟨s,-⟩:=s;cases s<;>exact ae Q
    |dead _ h=>cases k<;>first|exact ae Q|simp[jA]at h
    |_=>exact ae Q
   |dead _ h=>cases o<;>first|exact ae Q|simp[jA]at h
   |_=>exact ae Q
  |array n e=>
   cases q with
   |agg T L=>
    cases c with
    |agg G D=>
     have j:RVs a _ _:=⟨T,L⟩;have p:RVs a _ _:=⟨G,D⟩;refine ak (bW e) (λρ0 l0 z=>?_);simp;refine ak (nY _ _ _ _ (λρ' l i s=>?_)) (λB l2 s=>?_);exact am (jG e ((j.m l0).m l) _) (λR X u u' A=>(am (jG e (((p.m l0).m l).m X) _) (λV v w w' r=>(ak (ih e (A.m v) r) (λF l5 b=>(aM (λ_=>ae Q) (λ_=>ae Q)))))));obtain⟨s,-⟩:=s;cases s<;>exact ae Q
    |dead _ h=>cases k<;>first|exact ae Q|simp[jA]at h
    |_=>exact ae Q
   |dead _ h=>cases o<;>first|exact ae Q|simp[jA]at h
   |_=>exact ae Q
  |_=>exact ae Q
variable {ρ:Ren}
theorem BB(f:BinOp)(t:Ww)(x y:Operand){a d b c:Wx}(k:RV ρ a d)(i:RV ρ b c):RS P QU ρ (eqGuard f t x y a b) (eqGuard f t x y d c):=by
 refine aM (λ_=>ae trivial) (λ_=>?_);cases k with
 |nilIface=>
  cases i with
  |nilIface=>
   exact aM (λ_=>ae trivial) (λ_=>(ak (nZ _ t .nilIface .nilIface) (λe l g=>aM (λ_=>an _) (λ_=>ae trivial))))
  |dead _ h=>cases c<;>first|exact ae trivial|simp[jA]at h
  |_=>exact ae trivial
 |agg n m=>
  cases i with
  |agg j o=>
   exact bF (bF (aM (λ_=>ae trivial) (λ_=>(ak (nZ _ t (.agg n m) (.agg j o)) (λe l g=>aM (λ_=>an _) (λ_=>ae trivial)))))) (by simp[pJ])
  |dead _ h=>cases c<;>first|exact ae trivial|simp[jA]at h
  |_=>exact ae trivial
 |dead _ h=>cases d<;>first|exact ae trivial|simp[jA]at h
 |_=>exact ae trivial
theorem n7(f:GId P ρ){a b l}(h:RA ρ a a')(k:RA ρ b l):RS P QE ρ (T4 a b) (T4 a' l):=by
 have i:(a.block != b.block)=(a'.block != l.block):=kr (! ·) (iG h.1 k.1);have e:decide (a.block ≥ P.globals.size)=decide (a'.block ≥ P.globals.size):=tb.2 (by have:=f.lt h.1;omega);refine bF ?_;rw[i,e];exact aM (λ_=>cE (an _)) (λ_=>(ak (gG h) (λρ1 j x=>(ak (gG (k.m j)) (λρ2 l2 y=>ae Q)))))
theorem BC(f:GId P ρ)(e:IntKind){a b l:Wu}(h:RA ρ a a')(k:RA ρ b l):RS P QV ρ (T7 e a b) (T7 e a' l):=by
 exact ak (n7 f h k) (λρ1 l1 x=>ae (.int _ _))
theorem BD(f:GId P ρ)(c:BinOp){a e b:Wu}(h:RA ρ a e)(k:RA ρ b a'):RS P QV ρ (T8 c a b) (T8 c e a'):=ak (n7 f h k) (λρ1 l1 x=>by cases c<;>first|exact an _|exact ae (.bool _))
theorem rC(c:IntKind){a b:Wu}(h:RA ρ a b)(n:lj):RS P QV ρ (T9 c a n) (T9 c b n):=by
 refine ak (fW h.1) (λρ1 f s=>?_);rcases s with - |⟨e,z⟩;exact an _;refine am (cI e) (λρ2 j i i' d=>?_);obtain⟨rfl,-⟩:=d;exact aM (λ_=>cE (an _)) (λ_=>(ak (gG ((h.m f).m j)) (λρ3 l3 x=>ae (.int _ _))))
def QP:Ren->Wx->Wx->Prop:=λρ v c=>∃a b,v=O a/\c=O b/\RAo ρ a b
theorem QP.val{ρ:Ren}(h:QP ρ v v'):RV ρ v v':=by
 obtain⟨a,a',rfl,rfl,h⟩:=h;exact .pointer h
theorem im(at_:dT Ww)t{b f:eV Wu}(l:RAo ρ b f){i}(j:RV ρ v i):RS P QP ρ (Up at_ t #[O b,v]) (Up at_ t #[O f,i]):=by
 refine ak (jb j) (λρ1 k n=>?_);have d:=l.m k;refine aM (λ_=>?_) (λ_=>?_);cases d with
 |none=>exact an _
 |some h=>
  refine am (uW h.1) (λa c x v e=>?_);obtain⟨rfl,rfl⟩:=e;exact ae ⟨_,_,Q,Q,.some (h.m c)⟩
 refine aM (λ_=>cE (an _)) (λ_=>?_);cases d with
 |none=>exact an _
 |some h=>
  refine ak (fW h.1) (λa c s=>?_);rcases s with - |⟨e,z⟩;exact an _;refine bF ?_ ?_
  rotate_left
  simp[pK,fp,mn];rw[<-h.2.1];split
  exact ae ⟨_,_,Q,Q,.some ⟨c _ _ h.1,Q,h.2.2⟩⟩;exact an _
theorem iz(t:Ww){o:Wx}(A:RV ρ x o)(j:RV ρ y n)(p:∃a,x=.pointer a):RS P QV ρ (R6 t x y) (R6 t o n):=by
 obtain⟨a,rfl⟩:=p;refine ak (aC t) (λρ1 i d=>aM (λ_=>cE (an _)) (λ_=>?_));cases A with
 |pointer h=>
  cases h with
  |none=>exact(im #[] t .none (j.m i)).imp (λ_ _ _ h=>h.val)
  |some h=>
   refine am (bK (h.m i)) (λρ2 z a l f=>?_);obtain⟨a,c⟩:=a;obtain⟨l,lost'⟩:=l;obtain⟨f,s⟩:=f;subst s;refine am (im #[] t (.some f) ((j.m i).m z)) (λρ3 l3 v v' q=>?_);obtain⟨b,b',rfl,rfl,k⟩:=q;cases k with
   |none=>exact ae (.pointer .none)
   |some k=>
    exact am (Q:=λρ r e=>ρ r e) (.new (.number c k) (λr e _ _ _=>.pure (.inr ⟨rfl,rfl⟩))) (λρ4 l4 r e u=>ae (.pointer (.some ⟨u,rfl,rfl⟩)))
theorem pL t{d f}(l:RV ρ x d)(e:RV ρ v f)(i:∃a,x=O a):RS P QV ρ (R5 t x v) (R5 t d f):=by
 obtain⟨a,rfl⟩:=i;cases l with
 |pointer h=>
  cases h with
  |none=>exact(im #[] t .none e).imp (λ_ _ _ h=>h.val)
  |some h=>
   refine am (pH h.1) (λρ1 c u u' j=>?_);cases j with
   |none=>exact(im #[] t (.some (h.m c)) (e.m c)).imp (λ_ _ _ h=>h.val)
   |some b k=>exact cE (an _)
theorem ye d t y:dJ P (TZ d t (Re #[]) y):=by
 cases d with
 |zero=>exact .halt Q
 |succ d=>
  refine .program (λp _=>?_)
  show dJ P (xt (match p.underlying t with | some i => Tf i | none => stuck "no such type") _)
  cases p.underlying t with
  |none=>exact .halt Q
  |some ty=>cases ty<;>cases y<;>exact .halt Q
theorem pM d t x:dJ P (TZ d t x (Re #[])):=by
 cases d with
 |zero=>exact .halt Q
 |succ d=>
  refine .program (λp _=>?_)
  show dJ P (xt (match p.underlying t with | some i => Tf i | none => stuck "no such type") _)
  cases p.underlying t with
  |none=>exact .halt Q
  |some ty=>
   cases x with
   |pointer a=>cases ty<;>cases a<;>exact .halt Q
   |slice a n c=>cases ty<;>cases a<;>exact .halt Q
   |map a=>cases ty<;>cases a<;>exact .halt Q
   |int k n=>cases ty<;>rcases n with(_|m)|m<;>exact .halt Q
   |_=>cases ty<;>exact .halt Q
theorem yg(a:BinOp)t y:dJ P (binOp a t (Re #[]) y):=by
 cases a<;>first
  |exact(ye _ t y).bind _
  |(cases y<;>exact .halt Q)
theorem pN(b:BinOp)t x:dJ P (binOp b t x (Re #[])):=by
 cases x with
 |pointer a=>cases a<;>cases b<;>first|exact(pM _ t _).bind _|exact .halt Q
 |_=>cases b<;>first|exact(pM _ t _).bind _|exact .halt Q
theorem GZ(D:GId P ρ)(j:BinOp)(t:Ww){u s:Wx}(F:RV ρ x u)(v:RV ρ y s)(i:(j=.eql\/j=.neq)->RS P QE ρ (T0 t x y) (T0 t u s)):RS P QV ρ (binOp j t x y) (binOp j t u s):=by
 have c:RS P QE ρ (T0 t x y) (T0 t u s)->∀b:ey,RS P QV ρ (do let e <-T0 t x y;pure (Value.bool (if b then !e else e))) (do let e <-T0 t u s;pure (Value.bool (if b then !e else e))):=λh b=>ak h (λl f e=>ae (.bool _))
 have o:=F;have q:=v;unfold binOp;cases F with
 |dead _ _=>exact .lost (yg j t y) _
 |pointer h=>
  cases v with
  |dead _ _=>exact .lost (pN j t _) _
  |pointer k=>cases h<;>cases k<;>cases j<;>first|exact ah _|exact an _|exact c (i (.inl rfl)) Z|exact c (i (.inr rfl)) Y|(rename_i h _ _ k;first|exact am (bK h) (λl f a B p=>am (bK (k.m f)) (λA r b G z=>BC ((D.m f).m r) _ (p.1.m r) z.1))|exact am (bK h) (λl f a B p=>am (bK (k.m f)) (λA r b G z=>BD ((D.m f).m r) _ (p.1.m r) z.1)))
  |int k n=>cases j<;>first|exact ak (aC t) (λl f d=>aM (λ_=>pL t (o.m f) (q.m f) ⟨_,rfl⟩) (λ_=>iz t (o.m f) (q.m f) ⟨_,rfl⟩))|exact iz t o (.int _ _) ⟨_,rfl⟩|(cases h<;>first|exact an _|exact c (i (.inl rfl)) Z|exact c (i (.inr rfl)) Y|(rename_i h;exact am (bK h) (λl f a B p=>rC _ p.1 _)))
  |_=>cases h<;>cases j<;>first|exact an _|exact c (i (.inl rfl)) Z|exact c (i (.inr rfl)) Y
 |_=>
  cases v with
  |dead _ _=>exact .lost (pN j t _) _
  |pointer h=>cases j<;>first|exact iz t q o ⟨_,rfl⟩|exact an _|exact c (i (.inl rfl)) Z|exact c (i (.inr rfl)) Y|(cases h<;>first|exact an _|exact c (i (.inl rfl)) Z|exact c (i (.inr rfl)) Y|(rename_i h;exact am (bK h) (λl f a B p=>rC _ p.1 _)))
  |_=>
   cases j<;>first
    |exact ah _
    |exact c (i (.inl rfl)) Z|exact c (i (.inr rfl)) Y
    |exact pG _ _ _
    |exact GV _ _ _ _ _
    |exact aM (λ_=>ah _) (λ_=>pE _ _ _ _)
    |exact aM (λ_=>ah _) (λ_=>Dz _ _ _ _)
    |exact aM (λ_=>ah _) (λ_=>rB _ _ _ _)
    |exact aM (λ_=>ah _) (λ_=>DA _ _ _)
end
section
variable {P:Wv} [Two P] {ρ:Ren}
theorem J3:∀ (l:S α){ρ:Ren}(f:α->Sem j),(∀ρ',ρ.le ρ'->∀a,RS P QE ρ' (f a) (f a))->RS P QE ρ (l.mapM f) (l.mapM f):=by
 intro l;induction l with
 |nil=>intro ρ f _;exact ae Q
 |cons x l ih=>
  intro ρ f c;simp;exact ak (c ρ (Ren.le_refl _) x) (λρ1 h b=>(ak (ih f (λρ' e=>c ρ' (Ren.le_trans h e))) (λρ2 l2 bs=>ae Q)))
theorem G0(A:cC P)(t:Ww){a s:dT (H×Wx)}(h:RPs ρ a.toList s.toList):RS P QV ρ (TV t a) (TV t s):=by
 refine am (dv A t) (λρ1 v z z' B=>(ak (aC t) (λρ2 u d=>?_)));have j:=RV.NR (B.m u);have b:=(h.m v).m u;cases d with
 |struct fields=>
  dsimp only;rw[Sn];refine ak (ak (J3 _ _ (λρ' l f=>ak (bW f.type) (λq p n=>ae rfl))) (λρ' l x=>ae rfl)) (λq p e=>?_);rcases tC (λi=>e[i]?) (b.m p) (j.m p)with⟨o,b⟩|⟨c,y,o,b,j⟩;rw[o,b];exact ah _;rw[o,b];exact ae (.agg j.size j.at_)
 |array n r=>
  refine ak (bW r) (λq p k=>?_);rcases tC (λi=>J (i*k,k)) (b.m p) (j.m p)with⟨o,b⟩|⟨c,y,o,b,j⟩;rw[o,b];exact ah _;rw[o,b];exact ae (.agg j.size j.at_)
 |_=>exact ah _
theorem nd{a:Ren->α->j->Prop}{b}(h:RV ρ v b):RS P a ρ (Sa v) (Sa b):=.halt (.panic h)
theorem rD(e:RV ρ v x){a:dT Wx}(h:RVs ρ a c'):RS P (λρ d o=>RD ρ d o) ρ (UP v a) (UP x c'):=by
 cases e with
 |func e p m k l=>exact ae (.mk (.fn e ⟨m,l⟩) (RVs.append ⟨p,k⟩ h))
 |nilFunc=>exact ae (.mk .nil h)
 |odd n s b c q=>exact ae (.odd n _ a s c _ q)
 |_=>exact ah _
def QL(l:H):Ren->Loop->Loop->Prop:=λρ r a=>RL ρ r a/\¬ρ.old l/\¬ρ.ch l
theorem gp(h:ρ r b):RS P (QL r) ρ (TM r) (TM b):=by
 refine am (ep h) (λρ1 l1 o o' a=>?_);obtain⟨a,c,e⟩:=a;cases a with
 |loop d=>exact ae ⟨d,(λk=>by cases c k),(λk=>by have:=e k;simp[Tg]at this)⟩
 |_=>exact ah _
theorem jI{a}(h:ρ r a){b}(c:RO ρ o' b)(i:¬ρ.old r)(f:¬ρ.ch r)(d:o'.isChan=false:=by rfl):RS P QU ρ (setObj r o') (setObj a b):=.setObj h c i (λe=>eW e f) (.pure trivial) (λe=>by rw[d]at e;cases e)
theorem tG(h:ρ i b):RS P QU ρ (TB i) (TB b):=by
 refine am (gp h) (λρ1 f r d a=>?_);obtain⟨a,c,e⟩:=a;refine am (jI (f _ _ h) (.loop ⟨Q,a.pending,a.fn,a.tmps,a.params,a.assign,a.body,a.defers,a.QB,a.Pd,a.QW⟩) c e) (λρ2 l2 _ _ _=>?_);rw[a.state];cases d.state<;>first|exact ae trivial|exact dU _
theorem yh{l d:H}(h:ρ l d)(j:eV Code)(f:∀c,j=J c->aP ρ.prog ρ.F c=Y):RS P QV ρ (Ti l j) (Ti d j):=by
 refine am (gp h) (λρ1 b r r' a=>?_);obtain⟨a,e,i⟩:=a;exact am (jI (b _ _ h) (.loop ⟨rfl,rfl,a.fn,a.tmps,a.params,a.assign,a.body,a.defers,a.QB,a.Pd,by rw[b.prog,b.F];exact f⟩) e i) (λρ2 l2 _ _ _=>ae (.bool _))
theorem BE{l f}(h:ρ l f):RS P (λρ a b=>a=b/\∀c,a=J c->aP ρ.prog ρ.F c=Y) ρ (TN l) (TN f):=by
 refine am (gp h) (λρ1 k r r' d=>?_);obtain⟨d,j,i⟩:=d;rw[d.state,<-d.pending];exact aM (λ_=>cE (dU _)) (λ_=>(am (jI (k _ _ h) (.loop ⟨Q,by simp,d.fn,d.tmps,d.params,d.assign,d.body,d.defers,d.QB,d.Pd,d.QW⟩) j i) (λρ2 e _ _ _=>ae ⟨Q,by rw[e.prog,e.F];exact d.QW⟩)))
def QEn:Ren->H×S Deferred->H×S Deferred->Prop:=λρ x y=>ρ x.1 y.1/\RDs ρ x.2 y.2
theorem uX(fn:Rm){u:dT Wx}(L:RVs ρ c' u)(p:dT Tmp)(a b:Code)(V:aP ρ.prog ρ.F a=Y)(R:aP ρ.prog ρ.F b=Y){r z:eV H}(G:RNo ρ r z):RS P QEn ρ (Tn fn c' p a b r) (Tn fn u p a b z):=by
 have o:∀ (f:Ren),ρ.le f->∀ (d j:H) (m n:S Deferred),f d j->RDs f m n->RS P QEn f (do let l <-newObj (.loop {state:=.ready,pending:=N,fn,tmps:=c',params:=p,assign:=a,body:=b,defers:=d});pure (l,m)) (do let l <-newObj (.loop {state:=.ready,pending:=N,fn,tmps:=u,params:=p,assign:=a,body:=b,defers:=j});pure (l,n)):=λf i d j m n D T=>
  .new (.loop ⟨rfl,rfl,rfl,L.m i,rfl,rfl,rfl,D,by rw[i.prog,i.F];exact V,by rw[i.prog,i.F];exact R,λc e=>by cases e⟩) (λx x' B A _=>.pure ⟨Rg ⟨rfl,rfl⟩,T.m (uM _ _ _ B A)⟩)
 cases G with
 |some h=>
  refine am (gp h) (λf i q X s=>?_);exact am (Q:=λρ (x y:H×S Deferred)=>ρ x.1 y.1/\RDs ρ x.2 y.2) (ae ⟨s.1.defers,.nil⟩) (λk v x y h=>by
   obtain⟨d,m⟩:=x;obtain⟨j,n⟩:=y;exact o k (Ren.le_trans i v) d j m n h.1 h.2)
 |none=>
  refine am (Q:=λρ (x y:H)=>ρ x y) (.new (.deferred .nil) (λx x' B A _=>.pure (Rg ⟨rfl,rfl⟩))) (λf i q X s=>?_);exact am (Q:=λρ (x y:H×S Deferred)=>ρ x.1 y.1/\RDs ρ x.2 y.2) (ae ⟨s,.cons (.mk (.collected s) RVs.nil) .nil (Rf ⟨_,rfl⟩)⟩) (λk v x y h=>by
   obtain⟨d,m⟩:=x;obtain⟨j,n⟩:=y;exact o k (Ren.le_trans i v) d j m n h.1 h.2)
theorem pP{l e}(h:ρ l e){f:Deferred}(q:(ρ.F i7||ρ.F nX)=Y)(j:RD ρ d' f):RS P QU ρ (Tw l d') (Tw e f):=by
 refine am (gp h) (λρ1 c r r' i=>(am (ep i.1.defers) (λρ2 b o o' a=>?_)));obtain⟨a,s,p⟩:=a;cases a with
 |deferred n=>exact jI (b _ _ i.1.defers) (.deferred (.cons ((j.m c).m b) n (Rg (by rw[b.F,c.F];exact q)))) (λk=>by cases s k) (λk=>by have:=p k;simp[Tg]at this)
 |taken=>exact .lost (.halt Q) _
 |_=>exact ah _
theorem pQ{d}(h:ρ r d):RS P (λρ a b=>RDs ρ a b) ρ (Tx r) (Tx d):=by
 refine am (ep h) (λρ2 j o o' c=>?_);obtain⟨c,e,i⟩:=c;cases c with
 |deferred f=>exact am (jI (j _ _ h) .taken (λk=>by cases e k) (λk=>by have:=i k;simp[Tg]at this)) (λρ3 n _ _ _=>ae (f.m n))
 |_=>exact ah _
theorem RVs.Qr(e:S Tmp):∀ (a d:S Wx){c h:dT Wx},a.length=d.length->(∀ (j:H) v f,a[j]?=J v->d[j]?=J f->RV ρ v f)->RVs ρ c h ->
  RVs ρ ((e.zip a).foldl (λb (x:Tmp×Wx)=>b.setIfInBounds x.1 x.2) c) ((e.zip d).foldl (λb (x:Tmp×Wx)=>b.setIfInBounds x.1 x.2) h):=by
 induction e with
 |nil=>intro a d c h _ _ i;exact i
 |cons p e ih=>
  intro a d c h k l i;cases a with
  |nil=>cases d with
   |nil=>exact i
   |cons _ _=>simp at k
  |cons x a=>
   cases d with
   |nil=>simp at k
   |cons o d=>
    simp;exact ih a d (by simpa using k) (λj v f n m=>l (j+1) v f n m) (i.set _ (l 0 x o Q Q))
end
section
variable {P:Wv} [Two P]
theorem uY{ρ}t:RS P QE ρ (elemOf t) (elemOf t):=by
 refine ak (aC t) (λρ1 l1 d=>?_);cases d<;>first|exact ae Q|exact ah _
variable {ρ:Ren}
structure RC (ρ:Ren)(c c':CommCase):Prop where
 chan:RV ρ c.chan c'.chan
 send:(c.send=N/\c'.send=N)\/∃v v',c.send=J v/\c'.send=J v'/\RV ρ v v'
 zero:RV ρ c.zero c'.zero
def Jr:Op->ey
 | .send _ _| .recv _ _ _=>Y
 |_=>Z
inductive RX (ρ:Ren):Next->Next->Prop
 |value {v v':Wx} (h:RV ρ v v'):RX ρ (.value v) (.value v')
 |skip:RX ρ .skip .skip
 |enter (f:FuncId) (hf:ρ.F f=Y) {a a':dT Wx} (h:RVs ρ a a'):RX ρ (.enter f a) (.enter f a')
 |round {l l':H} (hl:ρ l l') (f:FuncId) {t t':dT Wx} (ht:RVs ρ t t') (a b:Code) (ha:aP ρ.prog ρ.F a=Y) (hb:aP ρ.prog ρ.F b=Y):RX ρ (.round l f t a b) (.round l' f t' a b)
 |defer (hS:(ρ.F i7||ρ.F nX)=Y) {d d':Deferred} (h:RD ρ d d'):RX ρ (.defer d) (.defer d')
 |spawn (hC:ρ.F nX=Y) {d d':Deferred} (h:RD ρ d d'):RX ρ (.spawn d) (.spawn d')
inductive RX1 (ρ:Ren):Next->Next->Prop
 |of {a b:Next} (h:RX ρ a b):RX1 ρ a b
 |mk (f:FuncId) (hM:Mk ρ.F f=Y) {a a':dT Wx} (h:RVs ρ a a') (hs:a.size=2):RX1 ρ (.enter f a) (.enter f a')
def iH(P:Wv) [Two P](F:Rm->ey):Prop:=∀f fn,F f=Y->P.funcs[f]?=J fn->fn.body=N->∀ρ a b,ρ.F=F->GId P ρ->RVs ρ a b->RS P RX ρ (Rt f a) (Rt f b)
theorem yi(hE : iH P ρ.F) (hI : GId P ρ) (f : Rm) (hF : ρ.F f = Y) (hn : ∀ fn, P.funcs[f]? = J fn → fn.name ≠ "runtime.NumGoroutine") {a a' : dT Wx} (h : RVs ρ a a') : RS P RX ρ (Rt f a) (Rt f a') := by
 cases hf:P.funcs[f]? with
 |none=>
  refine bF ?_ (by simp[hI.alt f hF]);rw[hf];exact ah _
 |some fn=>
  cases hb:fn.body with
  |none=>exact hE f fn hF hf hb ρ a a' Q hI h
  |some b=>
   refine bF ?_ (by simp[hI.alt f hF]);simp only[hf,hb];simp[(pt.2 (hn fn hf))];exact ae (.enter f hF h)
theorem DD(hI : GId P ρ) (f : Rm) (hM : Mk ρ.F f = Y) (hn : ∀ fn, P.funcs[f]? = J fn → fn.name ≠ "runtime.NumGoroutine") {a a' : dT Wx} (h : RVs ρ a a') (hs : a.size = 2) : RS P RX1 ρ (Rt f a) (Rt f a') := by
 have⟨x,y,h1,h2,h3,h4,h5⟩:=hI.apart f hM;have h6:=pt.2 (hn y h2)
 have h7 : (x.name == "runtime.NumGoroutine") = Z := by grind
 have h8:x.body.isNone=false:=by simp_all
 have h9:y.body.isNone=false:=by simp_all
 refine bF ?_ (by simp[h1,h2,h6,h7,h8,h9]);simp[h2,h6,h9];exact ae (.mk f hM h hs)
theorem G1{l}(h:ρ l i){a:dT Wx}(e:RVs ρ a c'):RS P RX ρ (TW l a) (TW i c'):=by
 refine am (gp h) (λρ1 f r r' b=>?_);obtain⟨b,-,-⟩:=b;rw[<-e.size,<-b.params,<-b.fn,<-b.assign,<-b.body];refine aM (λ_=>cE (ah _)) (λ_=>ae (.round (f _ _ h) _ ?_ _ _ b.QB b.Pd));have c:=e.m f;have:=RVs.Qr r.params.toList a.toList c'.toList (by simpa using c.size) (λj v k n o=>c.at_ j v k (by simpa using n) (by simpa using o)) b.tmps;rw[<-SI,<-SI,Sk,Sk]at this;exact this
end
theorem LN{a b:gL}(h:(a==b)=Y):a=b:=by
 obtain⟨x⟩:=a;obtain⟨y⟩:=b;have h2:(x==y)=true:=h
 grind
theorem J4(a:gL):(a==a)=true:=by
 obtain⟨x⟩:=a;exact(beq_self_eq_true x:(x==x)=Y)
theorem zZ{t:Ww}(h:Bp P t=Y):∃k e,P.underlying t=J (.map k e)/\P.underlying k=J .string:=by
 unfold Bp at h
 grind
section
variable {P:Wv} [Two P]
theorem DE:∀ (n:H)(t u:Ww),P.alt.alikeButTags n t u=P.alikeButTags n t u:=by
 intro n;induction n with
 |zero=>intro t u;rfl
 |succ n ih=>
  intro t u;unfold Program.alikeButTags;simp[ih];rfl
theorem oM t:P.alt.underlyingId t=P.underlyingId t:=rfl
theorem tH t:P.alt.stoodInAs t=P.stoodInAs t:=by
 unfold Program.stoodInAs;simp[DE];rfl
theorem gH t:P.alt.stoodInHeld t=P.stoodInHeld t:=by
 unfold Program.stoodInHeld;simp[tH];rfl
theorem rb:∀ (n:H)(t u:Ww),RQ P.alt n t u=RQ P n t u:=by
 intro n;induction n with
 |zero=>intro t u;rfl
 |succ n ih=>
  unfold RQ;simp[ih,gH,oM,eu]
theorem DF(f:Ww->ey):∀ (d:H)(e:Ww)(c o n:H),rowAt P.alt f d e c o n=rowAt P f d e c o n:=by
 intro d;induction d with
 |zero=>intro e c o n;rfl
 |succ d ih=>
  intro e c o n;unfold rowAt;simp[ih,gH];rfl
theorem BF:∀ (d:H)(e:Ww)(c o:H)(u:Ww)(n:H),Sg P.alt d e c o u n=Sg P d e c o u n:=by
 intro d;induction d with
 |zero=>intro e c o u n;rfl
 |succ d ih=>
  unfold Sg;simp[ih,DF,rb,mn,eu]
theorem yj{ρ}(l:S α)(s:β)(f b:α->β->Sem (sT β))(m:∀ρ',ρ.le ρ'->∀a∈l,∀s,RS P QE ρ' (f a s) (b a s)):RS P QE ρ (forIn l s f) (forIn l s b):=
 il l l s (λ_ a d=>a=d/\a∈l) (λ_ _ _ _ _ h=>h) f b Q (λj a d e i=>by rw[e]at i;exact⟨oJ i,List.mem_of_getElem? e⟩) (λρ' l a d s h=>by obtain⟨rfl,k⟩:=h;exact m ρ' l a k s)
theorem DG d:∀ (n:H){ρ:Ren},GId P ρ->∀ (t:Ww){x j y h:Wx},RV ρ x j->RV ρ y h->xX P n t=Y->RS P QE ρ (TZ d t x y) (TZ d t j h):=by
 induction d with
 |zero=>intro n ρ _ t x j y h _ _ _;exact an _
 |succ d ih=>
  intro n ρ p t x j y h A q c;cases n with
  |zero=>simp[xX]at c
  |succ n=>
   unfold xX at c;by_cases a:jx (P.underlying t)=Y
   exact kw (d+1) p t A q (Rf a);unfold TZ;refine am (bu t) (λe B ty ty' o=>?_);obtain⟨rfl,o⟩:=o;rw[o]at c a;have D:=p.m B;have G:=A.m B;have v:=q.m B;clear A q p;cases ty with
   |struct fs=>
    simp only at c;cases G with
    |agg hc hR=>
     cases v with
     |agg kc kR=>
      have z:RVs e _ _:=⟨hc,hR⟩;have F:RVs e _ _:=⟨kc,kR⟩;refine bF (aM (λ_=>cE (an _)) (λ_=>?_)) (by simp[gH]);dsimp only;simp only[<-Sq];refine ak (yj fs.toList _ _ _ (λρ' l f V s=>?_)) (λρ2 l2 s=>?_);have r:xX P n f.type=true:=by
       obtain⟨i,hi,rfl⟩:=UB.1 V
       grind
      exact aM (λ_=>(am (jG f.type (z.m l) _) (λρ3 R u u' X=>(am (jG f.type ((F.m l).m R) _) (λρ4 L w w' T=>(ak (ih n (((D.m l).m R).m L) f.type (X.m L) T r) (λρ5 l5 b=>(aM (λ_=>ae Q) (λ_=>ae Q))))))))) (λ_=>ae Q);obtain⟨s,-⟩:=s;cases s<;>exact ae Q
     |_=>exact ah _
    |_=>exact ah _
   |bool=>simp[jx]at a
   |string=>simp[jx]at a
   |int k=>simp[jx]at a
   |_=>simp at c
theorem yl(d:H){ρ:Ren}(t:Ww)(i:P.underlying t=J .string){e:Wx}(k:RV ρ x v)(j:RV ρ y e):RS P (λ_ a b=>a=b/\(a=Y->∃s,x=.string s/\y=.string s)) ρ (TZ d t x y) (TZ d t v e):=by
 cases d with
 |zero=>exact an _
 |succ d=>
  refine am (bu t) (λρ1 l1 ty ty' c=>?_);obtain⟨rfl,c⟩:=c;rw[i]at c;cases c;cases k with
  |string s=>
   cases j with
   |string s'=>exact ae ⟨rfl,λh=>⟨s,rfl,by rw[LN h]⟩⟩
   |_=>exact ah _
  |_=>exact ah _
def QF(k:Wx)(l:S Rn)(i0:H):Ren->eV (H×Wx)->eV (H×Wx)->Prop:=λρ a b=>
 (a=N/\b=N)\/∃i v c s,a=J (i,v)/\b=J (i,c)/\RV ρ v c/\k=U s/\i0<=i/\∃e,l[i-i0]?=J e/\e.key=U s
theorem QF.tail{e:Rn}{l}{ρ}{a b:eV (H×Wx)}(h:QF k l (r+1) ρ a b):QF k (e::l) r ρ a b:=by
 rcases h with h|⟨i,v,m,s,d,n,j,o,h5,x,h6,f⟩;exact Rf h;refine Rg ⟨i,v,m,s,d,n,j,o,by omega,x,?_,f⟩
 grind
theorem tI(t:Ww)(z:P.underlying t=J .string):∀ {l c:S Rn}{ρ:Ren}(i:H),RV ρ k n->RMs ρ l c->RS P (QF k l i) ρ (TC t k l i) (TC t n c i):=by
 intro l;induction l with
 |nil=>intro c ρ i _ h;cases h;exact ae (.inl ⟨rfl,rfl⟩)
 |cons e l ih=>
  intro c ρ i j h;cases h with
  | @cons b q q' v r _ c o p x=>
   refine am (yl _ t z j o) (λρ1 f a a' d=>?_);obtain⟨rfl,d⟩:=d;cases a with
   |true=>
    have⟨s,y,u⟩:=d rfl;exact ae (.inr ⟨i,v,r,s,rfl,rfl,p.m f,y,Q0,⟨q,v,b⟩,by simp,u⟩)
   |false=>exact(ih (i+1) (j.m f) (x.m f)).imp (λ_ _ _ h=>h.tail)
theorem ym{ρ:Ren}{a q q':Wx}(b:RV ρ k a)(c:RV ρ q q'):Tp .string k q=Tp .string a q':=by
 cases b with
 |string s=>cases c with
  |string s'=>rfl
  |dead _ h=>cases q'<;>first|rfl|simp[jA]at h
  |_=>rfl
 |dead _ h=>cases a<;>first|rfl|simp[jA]at h
 |_=>rfl
theorem yn{m:Wx}:∀ {l d:S Rn}{ρ:Ren}(i:H),RV ρ k m->RMs ρ l d->(Tm .string k l i=N/\Tm .string m d i=N)\/∃a b,Tm .string k l i=J a/\Tm .string m d i=J b/\QF k l i ρ a b:=by
 intro l;induction l with
 |nil=>intro d ρ i _ h;cases h;exact .inr ⟨N,N,rfl,rfl,.inl ⟨rfl,rfl⟩⟩
 |cons e l ih=>
  intro d ρ i n h;cases h with
  | @cons b q q' v t _ d p r u=>
   unfold Tm;simp only[<-(ym n p)];cases o:Tp .string k q with
   |none=>exact .inl ⟨rfl,rfl⟩
   |some c=>
    cases c with
    |true=>
     refine .inr ⟨_,_,rfl,rfl,.inr ?_⟩;have:∃s,k=.string s/\q=.string s:=by
      cases k<;>cases q<;>simp[Tp]at o
      exact⟨_,rfl,by rw[LN o]⟩
     obtain⟨s,j,f⟩:=this;exact⟨i,v,t,s,rfl,rfl,r,j,Q0,⟨q,v,b⟩,by simp,f⟩
    |false=>
     rcases ih (i+1) n u with h|⟨a,b,j,f,x⟩;exact .inl h;exact .inr ⟨a,b,j,f,x.tail⟩
theorem rE{ρ:Ren}(t:Ww)(n:P.underlying t=J .string)(i:RV ρ k v){l j:S Rn}(h:RMs ρ l j):RS P (QF k l 0) ρ (Tq t k l) (Tq t v j):=by
 refine am (bu t) (λρ1 d ty ty' c=>?_);obtain⟨rfl,c⟩:=c;rw[n]at c;cases c;rcases yn 0 (i.m d) (h.m d)with⟨f,e⟩|⟨a,b,f,e,p⟩;rw[f,e];exact tI t n 0 (i.m d) (h.m d);rw[f,e];exact ae p
theorem pR{ρ:Ren}(e d:ey)(n:H)(t:Ww)(c:P.underlying t=J .string)(k b:Wx):RS P QU ρ (To e (n+1) t k) (To d (n+1) t b):=by
 refine am (bu t) (λρ1 l1 ty ty' a=>?_);obtain⟨rfl,a⟩:=a;rw[c]at a;cases a;exact ae trivial
variable {ρ:Ren}
theorem DH(hZ:cC P)(t:Ww)(ht:Bp P t=Y){x' i D:Wx}(hx:RV ρ x x')(hi:RV ρ i D)(n:ey):RS P QV ρ (TQ t x i n) (TQ t x' D n):=by
 have⟨k,e,h1,h2⟩:=zZ ht;refine am (bu t) (λV l1 ty ty' A=>?_);obtain⟨rfl,A⟩:=A;rw[h1]at A;cases A;have X:=hx.m l1;have q:∀ (d:Ren),V.le d->∀ (es l:dT Rn),RMs d es.toList l.toList->RS P QV d (do
   To es.isEmpty 10000 k i
   let(v,o) <-match <-Tq k i es.toList with
    |some (_,v)=>pure (v,Y)
    |none=>pure (<-zeroValue e,Z)
   pure (if n then .tuple #[v,.bool o]else v)) (do
   To l.isEmpty 10000 k D
   let(v,o) <-match <-Tq k D l.toList with
    |some (_,v)=>pure (v,Y)
    |none=>pure (<-zeroValue e,Z)
   pure (if n then .tuple #[v,.bool o]else v)):=by
  refineλd r es l R=>am (pR _ _ 9999 k h2 _ _) (λu B _ _ _=>(am (rE k h2 (((hi.m l1).m r).m B) (R.m B)) (λρ4 l4 a b L=>?_)))
  have last:∀ (f:Ren) (v p:Wx) (o:ey),RV f v p->RS P QV f (pure (if n then .tuple #[v,.bool o]else v):Sem Wx) (pure (if n then .tuple #[p,.bool o]else p)):=by
   intro f v p o T;cases n with
   |false=>exact ae T
   |true=>
    have:=(RVs.nil.push T).push (.bool o);exact ae (.tuple this.size this.at_)
  rcases L with⟨rfl,rfl⟩|⟨j,v,p,s,rfl,rfl,T,-⟩;refine am (dv hZ e) (λρ6 l6 z z' hz=>(am (Q:=λρ (x y:Wx×ey)=>RV ρ x.1 y.1/\x.2=y.2) (ae ⟨hz,rfl⟩) (λf l5 a b h=>?_)));obtain⟨b1,b2⟩:=b;obtain⟨h3,h4⟩:=h;subst h4
  grind
  grind
 cases X with
 |map G=>
  cases G with
  |none=>exact am (Q:=λρ (x y:dT Rn)=>RMs ρ x.toList y.toList) (ae .nil) (λd r a b h=>q d r a b h)
  |some G=>
   refine am (ep G) (λd r o o' F=>?_);obtain⟨F,-,-⟩:=F;cases F with
   |map c hm=>exact am (Q:=λρ (x y:dT Rn)=>RMs ρ x.toList y.toList) (ae hm) (λu B a b h=>q u (Ren.le_trans r B) a b h)
   |_=>exact .lost (dJ.bind (.halt rfl) _) _
 |_=>exact .lost (dJ.bind (.halt rfl) _) _
theorem RMs.push{l e}(h:RMs ρ l e)b{d a}(f:RV ρ k d)(j:RV ρ v a):RMs ρ (l++[⟨k,v,b⟩]) (e++[⟨d,a,b⟩]):=by
 induction h with
 |nil=>exact .cons b f j .nil
 |cons c i h _ ih=>exact .cons c i h ih
theorem RMs.modify{l a}(h:RMs ρ l a){d b}(f:RV ρ k d)(m:RV ρ v b):∀i,RMs ρ (l.modify i (λe=>{e with key:=k,val:=v})) (a.modify i (λe=>{e with key:=d,val:=b})):=by
 induction h with
 |nil=>intro i;cases i<;>exact .nil
 |cons c j h n ih=>
  intro i;cases i with
  |zero=>exact .cons c f m n
  |succ i=>exact .cons c j h (ih i)
theorem RMs.at_{l a}(h:RMs ρ l a):∀ (i:H) e,l[i]?=J e->∃b,a[i]?=J b/\RV ρ e.key b.key:=by
 induction h with
 |nil=>intro i e h;simp at h
 |cons c hq h hl ih=>
  grind
theorem uZ(t:Ww)(ht:Bp P t=Y){m m' k':Wx}(L:RV ρ m m')(hk:RV ρ k k')(hv:RV ρ v v'):RS P QU ρ (TD t m k v) (TD t m' k' v'):=by
 have⟨kt,e,h1,h2⟩:=zZ ht;refine am (bu t) (λρ1 l1 ty ty' F=>?_);obtain⟨rfl,F⟩:=F;rw[h1]at F;cases F;have V:=L.m l1;cases V with
 |map G=>
  cases G with
  |none=>exact oV _
  | @some r r' G=>
   refine am (ep G) (λT l2 o o' ho=>?_);obtain⟨ho,k1,k2⟩:=ho;cases ho with
   | @map es aa c L=>
    have n2:T.ch r->nF:=λk=>by have:=k2 k;simp[Tg]at this
    refine am (pR _ _ 9999 kt h2 _ _) (λρ3 f _ _ _=>?_);have B:=((hk.m l1).m l2).m f;refine am (rE kt h2 B (L.m f)) (λy l a b R=>?_);have A:=B.m l;have p:=(((hv.m l1).m l2).m f).m l;have d:=(L.m f).m l;have n:=l _ _ (f _ _ (l2 _ _ G));have n3:¬y.old r:=by rw[l.old,f.old];exactλk=>by cases k1 k
    have n4:y.ch r->nF:=by rw[l.ch,f.ch];exact n2
    rcases R with⟨rfl,rfl⟩|⟨i,x,x',s,rfl,rfl,-,rfl,-,en,X,u⟩;refine .setObj n (.map (c+1) ?_) n3 (λh=>(n4 h).elim) (.pure trivial);simp;exact d.push c A p;cases A;have⟨D,hen',j⟩:=d.at_ i en X;rw[u]at j;have hkey':D.key=.string s:=by
     generalize D.key=z at j;cases j;rfl
    have e1:((es[i]?).map (·.key)).getD (.string s)=.string s:=by
     grind
    have e2:((aa[i]?).map (·.key)).getD (.string s)=.string s:=by
     grind
    dsimp only;rw[e1,e2];have e3:Ty (.string s) (.string s)=pure (.string s):=by
     unfold Ty;have:TH 10000 (.string s) (.string s)=true:=by simp[TH];exact J4 s
     grind
    rw[e3];refine am (ae (Q:=QV) (.string s)) (λρ5 q z z' hz=>(.setObj (q _ _ n) (.map c ?_) (by rw[q.old];exact n3) (by rw[q.ch];exactλh=>(n4 h).elim) (.pure trivial)));simp;exact(d.m q).modify hz (p.m q) i
   |_=>exact ah _
 |_=>exact ah _
theorem BG t:RS P QV ρ (TO t N) (TO t N):=.new (.map 0 .nil) (λr r' _ _ _=>.pure (.map (.some (Rg ⟨Q,Q⟩))))
theorem ve:∀ (n:H){ρ:Ren}{a d:Wu}(c:gL),RA ρ a d->RS P QE ρ (loadBytes a c n) (loadBytes d c n):=by
 intro n;induction n with
 |zero=>intro ρ a d c _;exact ae Q
 |succ n ih=>
  intro ρ a d c h;refine am (pC h _) (λρ1 f v v' e=>?_);cases e with
  |int k b=>cases k<;>first|exact ah _|exact ih _ ((h.m f).add 1)
  |_=>exact ah _
theorem rh{a b}(h:RA ρ a b)u n:RS P QE ρ (R7 a u n) (R7 b u n):=by
 refine bF (ak (fW h.1) (λρ1 l1 s=>?_)) (by simp[BF,mn,fp]);rw[<-h.2.1];rcases s with - |⟨e,z⟩<;>exact ae Q
theorem pS(e:∀a,¬ρ.old a)(at_:dT Ww)(t:Ww){a:dT Wx}(h:RVs ρ a c'):RS P QV ρ (Ul at_ t a) (Ul at_ t c'):=by
 obtain⟨l⟩:=a;obtain⟨k⟩:=c';have u:l.length=k.length:=by simpa using h.size
 rcases l with - |⟨x,- |⟨y,- |⟨z,l⟩⟩⟩<;>rcases k with - |⟨F,- |⟨D,- |⟨z',k⟩⟩⟩<;>(try(simp at u;done))
 exact ah _;exact ah _;have v:=h.at_ 0 x F rfl rfl;cases v with
 |pointer r=>
  refine ak (jb (h.at_ 1 y D rfl rfl)) (λρ1 q n=>?_);cases at_[0]? with
  |none=>exact ah _
  |some A=>
   refine aM (λ_=>cE (dU _)) (λ_=>(aM (λ_=>cE (an _)) (λ_=>?_)));have f:=r.m q;cases f with
   |none=>exact aM (λ_=>ae (.string _)) (λ_=>dU _)
   | @some b b' i=>
    refine aM (λ_=>ae (.string _)) (λ_=>(ak (uY A) (λρ2 d B=>(ak (rh (i.m d) B n.toNat) (λρ3 o c=>(aM (λ_=>(ak (ve n.toNat _ ((i.m d).m o)) (λρ4 p s=>(.freeze _ (((i.m d).m o).m p) (by rw[p.old,o.old,d.old,q.old];exact e _) (.pure (.string _)))))) (λ_=>an _)))))))
 |_=>exact ah _
 exact ah _
theorem J5{d c:Wx}(f:RV ρ x d)(a:RV ρ y c):RS P QV ρ (Ui x y) (Ui d c):=by
 cases f with
 |int k n=>
  cases a with
  |int k' n'=>exact ae (.int _ _)
  |pointer h=>cases h<;>first|exact ah _|exact an _
  |_=>exact ah _
 |string s=>
  cases a with
  |string s'=>
   exact am (pG _ _ _) (λρ1 l1 v v' e=>(ak (uU e) (λρ2 l2 b=>ae (.string _))))
  |pointer h=>cases h<;>first|exact ah _|exact an _
  |_=>exact ah _
 |pointer h=>
  cases h with
  |none=>
   cases a with
   |pointer k=>cases k<;>first|exact ah _|exact an _
   |_=>exact ah _
  |some h=>exact an _
 |_=>
  cases a with
  |pointer k=>cases k<;>first|exact ah _|exact an _
  |_=>exact ah _
theorem BH:∀ (l b:S Wx){ρ:Ren}{x d:Wx},RV ρ x d->l.length=b.length->(∀ (j:H) v e,l[j]?=J v->b[j]?=J e->RV ρ v e)->RS P QV ρ (l.foldlM Ui x) (b.foldlM Ui d):=by
 intro l;induction l with
 |nil=>intro b ρ x d f c _;cases b with
  |nil=>exact ae f
  |cons _ _=>simp at c
 |cons y l ih=>
  intro b ρ x d f c h;cases b with
  |nil=>simp at c
  |cons q b=>
   exact am (J5 f (h 0 y q Q Q)) (λρ1 o v e i=>ih b i (by simpa using c) (λj a n p k=>(h (j+1) a n p k).m o))
theorem LO(at_:dT Ww)t{a:dT Wx}(h:RVs ρ a c'):RS P QV ρ (Ur at_ t a) (Ur at_ t c'):=by
 obtain⟨l⟩:=a;obtain⟨b⟩:=c';have c:l.length=b.length:=by simpa using h.size
 cases l with
 |nil=>cases b with
  |nil=>exact ah _
  |cons _ _=>simp at c
 |cons x l=>cases b with
  |nil=>simp at c
  |cons f b=>exact BH l b (h.at_ 0 x f Q Q) (by simpa using c) (λj v k e i=>h.at_ (j+1) v k (by simpa using e) (by simpa using i))
theorem G2{b:Wx}(d:RV ρ x b):RS P QV ρ (TX x) (TX b):=by
 cases d with
 |iface t h=>exact nd (.iface t h)
 |nilIface=>
  refine ak (ak (.env (λr=>.pure rfl)) (λa c r=>?_)) (λa c n=>?_);cases r with
  |strings env=>exact bF (ae rfl)
  |_=>exact ah _
  exact aM (λ_=>nd .nilIface) (λ_=>(bF (ak (uY _) (λρ2 l2 t=>(am (pD t (.agg rfl (λi v v' h=>by simp at h))) (λρ3 l3 r r' e=>(nd (.iface _ (.pointer (.some e))))))))))
 |_=>exact ah _
end
section
variable {P:Wv} [Two P] {ρ:Ren}
theorem cT{s a:Sem Wx}(h:RS P QV ρ s a):RS P RX ρ (do let x <-s;pure (.value x)) (do let x <-a;pure (.value x)):=am h (λ_ρ1 _ _v _v' b=>ae (.value b))
theorem DI{s a:Sem Unit}(h:RS P QU ρ s a):RS P RX ρ (do s;pure .skip) (do a;pure .skip):=am h (λ_ρ1 _ _ _ _=>ae .skip)
theorem yo(j:ρ.F i7=Y)(at_:dT Ww)t{a b:dT Wx}(h:RVs ρ a b):RS P QV ρ (Uh at_ t a) (Uh at_ t b):=by
 obtain⟨l⟩:=a;obtain⟨c⟩:=b;have i:l.length=c.length:=by simpa using h.size
 rcases l with - |⟨x,- |⟨y,l⟩⟩<;>rcases c with - |⟨f,- |⟨y',c⟩⟩<;>(try(simp at i;done))
 exact ah _;have e:=h.at_ 0 x f Q Q;cases e with
 |chan d=>exact GU j at_ t d
 |_=>exact ah _
 exact ah _
theorem BI(e:cC P)(i:GId P ρ)(b:Builtin)(c:GJ ρ.F b=Y)(at_:dT Ww)(d:JW P b at_=Y)t(cs:dT ey){a f:dT Wx}(h:RVs ρ a f):RS P RX ρ (builtin b at_ t cs a) (builtin b at_ t cs f):=by
 cases b<;>first
  |(exfalso;simp[GJ,okB]at c;done)
  |exact cT (Dy e at_ t h)
  |exact cT (LM at_ d t h)
  |exact cT (GX e at_ t h)
  |exact cT (yo (by simpa[GJ,okB]using c) at_ t h)
  |exact cT (J0 at_ t h)
  |exact cT (LL at_ d t h)
  |exact cT (LO at_ t h)
  |exact cT (pS (i.free (by simpa[GJ,okB]using c)) at_ t h)
def cJ(P : Wv) : Prop := ∀ (f : Rm) fn, P.funcs[f]? = J fn → fn.name ≠ "runtime.NumGoroutine"
theorem DJ(n:cC P)(hE:iH P ρ.F)(p:cJ P)(c:GId P ρ){t e:Target}(l:RT ρ t e){a:dT Wx}(h:RVs ρ a c'):RS P RX ρ (invoke t a) (invoke e c'):=by
 cases l with
 |nil=>exact gC
 |builtin b m at_ k t cs=>exact BI n c b m at_ (by rw[<-c.prog];exact k) t cs h
 |fn i o=>
  cases i with
  |func f hF=>exact yi hE c f hF (p f) (h.append o)
  |yield j=>exact G1 j h
 |collected _=>exact ah _
theorem mo{α : Type} {n : Ww} (hn : NoM P n) {f : TypeInfo → Sem α} (h : ∀ i, i.methods.find? (fun m => m.name == "") = N → dJ P (f i)) : dJ P (Rv n >>= f) := by
 refine .program (λp hp=>?_)
 show dJ P (xt (match p.info? n with | some i => Tf i | none => stuck "no such type") _)
 have e:p.info? n=P.info? n:=by
  grind
 rw[e];cases hi:P.info? n with
 |none=>exact .halt Q
 |some i=>exact h i (by unfold NoM at hn;rw[hi]at hn;simpa using hn)
theorem yp{n : Ww} (hn : NoM P n) (fuel : H) (v : Wx) : dJ P (method fuel n v "") := by
 cases fuel with
 |zero=>exact .halt Q
 |succ fuel=>
  exact mo hn (λi hi=>by simp[hi];exact .halt Q)
theorem tJ{n : Ww} (hn : NoM P n) (fuel : H) (v : Wx) {α : Type} (f : eV ey → Sem α) (h0 : dJ P (f N)) : dJ P (nilAhead fuel n v "" >>= f) := by
 cases fuel with
 |zero=>exact h0
 |succ fuel=>
  exact(mo hn (λi hi=>by simp[hi];exact .halt Q)).bind f
theorem nf(m:cC P)(hE:iH P ρ.F)(j:cJ P)(f:GId P ρ){b:Deferred}(h:RD ρ d' b):RS P RX ρ (invoke d'.target d'.args) (invoke b.target b.args):=by
 cases h with
 |mk l k=>exact DJ m hE j f l k
 |odd n v a s c a' o=>
  refine .lost ?_ _;have i:=ρ.OU;rw[f.prog,<-o]at i;have e:(#[Value.iface n v]++a)[0]?=J (.iface n v):=by
   grind
  unfold invoke;simp[e];exact .program (λp hp=>(yp i _ _).bind _)
theorem oN(e:Ww)(s:gL):RS P QV ρ (UW e s) (UW e s):=by
 have d:∀ (b i:H) (c:dT Wx),RVs ρ c c->∀ρ',ρ.le ρ'->RVs ρ' (UR s b i c) (UR s b i c):=by
  intro b;induction b with
  |zero=>intro i c h ρ' l;exact h.m l
  |succ b ih=>
   intro i c h ρ' l;unfold UR;split
   exact ih _ _ (h.push (.int _ _)) ρ' l;exact h.m l
 refine ak (gF _) (λf k cap=>(am (iF e (RVs.append (d _ _ _ RVs.nil f k) (RVs.self (λi v h=>?_)))) (λρ2 l2 a a' j=>ae (.slice _ _ (.some j)))));rw[Sp]at h;split at h
 cases h;exact .int _ _;cases h
theorem pT t{f:RG->Sem α}(h:∀d,dJ P (f d)):dJ P (underlying t >>= f):=by
 refine .program (λp _=>?_)
 show dJ P (xt (match p.underlying t with | some i => Tf i | none => stuck "no such type") _)
 cases p.underlying t with
 |none=>exact .halt Q
 |some d=>exact h d
theorem BJ(e b:Ww)(j:Ds P e b=Y){q:Wx}(y:RV ρ x q):RS P QV ρ (convert e b x) (convert e b q):=by
 refine am (bu e) (λρ1 t v ds' l=>?_);obtain⟨rfl,l⟩:=l;refine am (bu b) (λρ2 u r dd' i=>?_);obtain⟨rfl,i⟩:=i;unfold Ds at j;rw[l,i]at j;have a:=(y.m t).m u;have f:=a;cases v<;>cases r<;>(try(exfalso;revert j;simp;done))
 cases a with
 |int k n=>exact ae (.int _ _)
 |pointer h=>cases h<;>exact an _
 |_=>exact an _
 cases a with
 |int k n=>exact ae (.string _)
 |string s=>exact ae (.string _)
 |_=>exact an _
 cases a with
 |string s=>
  refine ak (aC _) (λo p d=>?_);cases d with
  |int k=>cases k<;>first|exact ah _|exact oI _ _|exact oN _ _
  |_=>exact ah _
 |slice n c h=>cases h<;>exact an _
 |_=>exact an _
 cases a with
 |int k n=>exact ae (.string _)
 |string s=>exact ae (.string _)
 |dead _ _=>
  refine .lost (pT _ (λd=>?_)) _;cases d with
  |int k=>cases k<;>exact .halt rfl
  |_=>exact .halt rfl
 |_=>
  refine ak (aC _) (λo p d=>?_);cases d with
  |int k=>cases k<;>first|exact ah _|exact oK (P:=P) (f.m p)|exact oL (P:=P) (f.m p)
  |_=>exact ah _
end
section
variable {P:Wv} {ρ:Ren}
theorem yq(h:oC v=Y):RV ρ v v:=by
 cases v with
 |pointer a=>cases a with|none=>exact .pointer .none|some a=>simp[oC]at h
 |slice a n c=>cases a with|none=>exact .slice _ _ .none|some a=>simp[oC]at h
 |map a=>cases a with|none=>exact .map .none|some a=>simp[oC]at h
 |chan a=>cases a with|none=>exact .chan .none|some a=>simp[oC]at h
 |bool b=>exact .bool b
 |int k n=>exact .int k n
 |string s=>exact .string s
 |nilFunc=>exact .nilFunc
 |nilIface=>exact .nilIface
 |_=>simp[oC]at h
theorem DK(h:c.all oC=Y):RVs ρ c c:=RVs.self (λi v a=>yq (by
 have:=SG.1 h;obtain⟨b,rfl⟩:=eS a;exact this i b))
theorem DL(h:pv v=Y):RV ρ v v:=by
 cases v with
 |agg c=>exact .agg rfl (DK h).at_
 |tuple c=>exact .tuple rfl (DK h).at_
 |iface t v=>exact .iface t (yq h)
 |_=>exact yq h
def GA(P:Wv)(ρ:Ren)(e a:Operand->Wx):Prop:=∀x,okX P ρ.F x=Y->RV ρ (e x) (a x)
theorem GA.all{e f:Operand->Wx}(h:GA P ρ e f){a:dT Operand}(k:a.all (okX P ρ.F)=Y):RVs ρ (a.map e) (a.map f):=by
 refine⟨by simp,λi v v' b c=>?_⟩;rw[Sv]at b c;cases d:a[i]? with
 |none=>rw[d]at b;cases b
 |some x=>
  rw[d]at b c;cases b;cases c;obtain⟨j,rfl⟩:=eS d;exact h _ (SG.1 k i j)
theorem GA.parts{e b:Operand->Wx}(h:GA P ρ e b):∀ (l:S (H×Operand)),(∀p∈l,okX P ρ.F p.2=Y)->RPs ρ (l.map (λp=>(p.1,e p.2))) (l.map (λp=>(p.1,b p.2))):=by
 intro l;induction l with
 |nil=>intro _;exact .nil
 |cons p l ih=>intro a;exact .cons p.1 (h _ (a p (List.mem_cons_self ..))) (ih (λq c=>a q (List.mem_cons_of_mem _ c)))
theorem GA.PD{e b:Operand->Wx}(h:GA P ρ e b){a:dT (H×Operand)}(ha:a.all (λp=>okX P ρ.F p.2)=Y):RPs ρ (a.map (λ(i,x)=>(i,e x))).toList (a.map (λ(i,x)=>(i,b x))).toList:=by
 simp;refine h.parts a.toList (λp c=>?_);obtain⟨i,hi,rfl⟩:=UB.1 c
 grind
theorem yr{e b:Operand->Wx}(h:GA P ρ e b){o:eV Operand}(f:o.all (okX P ρ.F)=Y):(∀v a,o.map e=J v->o.map b=J a->RV ρ v a)/\(o.map e).isSome=(o.map b).isSome:=by
 cases o with
 |none=>exact⟨λv a h=>by simp at h,Q⟩
 |some x=>exact⟨λv a c d=>by simp at c d;subst c;subst d;exact h x f,Q⟩
variable [Two P]
theorem kx(m:GId P ρ){e l:Operand->Wx}(j:GA P ρ e l)(c:Call)(a:mm P ρ.F c=Y)t:RS P (λρ d o=>RD ρ d o) ρ (resolve e c t) (resolve l c t):=by
 unfold resolve;unfold mm at a;rw[bT]at a;have k:=j.all a.2;cases h:c.callee with
 |builtin b=>
  rw[h]at a;have i:=a.1;rw[bT]at i;exact ae (.mk (.builtin _ i.1 _ (by rw[m.prog];exact i.2) _ _) k)
 |value f=>
  rw[h]at a;exact rD (j f a.1) k
 |invoke r n=>rw[h]at a;simp at a
theorem DM(hZ:cC P)(hE:iH P ρ.F)(hN:cJ P)(G:GId P ρ){e V:Operand->Wx}(A:GA P ρ e V)(ad:∀f,e (.func f)=.func (.func f) #[] #[])(ac:∀f,V (.func f)=.func (.func f) #[] #[])(hK:∀x,JX x=Y->Gz (e x)=Y)o(j:iD P ρ.F o.op=Y)(T:Jr o.op=Z):RS P RX1 ρ (Ru e o) (Ru V o):=by
 have l:∀ {x x':Sem Next},RS P RX ρ x x'->RS P RX1 ρ x x':=λh=>h.imp (λ_ _ _ k=>.of k)
 unfold Ru;cases z:o.op with
 |move x=>rw[z]at j;exact ae (.of <| .value (A x j))
 |assign x=>rw[z]at j;exact ae (.of <| .value (A x j))
 |pick c a b=>
  rw[z]at j;simp[iD]at j;refine ak (uU (A c j.1.1)) (λR D x=>ae (.of <| .value ?_));cases x;exact(A b j.2).m D;exact(A a j.1.2).m D
 |alloc t=>exact l <|cT (GP hZ t)
 |box t x=>rw[z]at j;exact l <|cT (LK t (A x j))
 |build t ps=>rw[z]at j;exact l <|cT (G0 hZ t (A.PD j))
 |buildSlice t n ps=>rw[z]at j;exact l <|cT (tD hZ t n (A.PD j))
 |load t a=>rw[z]at j;exact l <|cT (Dx t (A a j))
 |store t a x=>rw[z]at j;simp[iD]at j;exact l <|DI (Bv t (A a j.1) (A x j.2))
 |nilCheck x=>
  rw[z]at j;have L:=A x j;have B:=L;simp only;generalize e x=v at L B;generalize V x=v' at L B;cases L with
  |pointer h=>cases h with|none=>exact gC|some h=>exact ae (.of <| .value B)
  |nilIface=>exact gC
  |nilFunc=>exact gC
  |func hf h1 h2 k1 k2=>cases hf<;>exact ae (.of <| .value B)
  |odd n s a c hn=>
   have hb:=ρ.OU;rw[G.prog,<-hn]at hb;exact .lost (.program (λp hp=>tJ hb _ _ _ (.halt Q))) _
  |dead _ h=>
   cases v' with
   |pointer a=>cases a<;>first|exact ae (.of <| .value B)|(simp[jA]at h;done)
   |func f a c=>cases f<;>first|exact ae (.of <| .value B)|(simp[jA]at h;done)
   |slice a n c=>exact ae (.of <| .value B)
   |map a=>exact ae (.of <| .value B)
   |chan a=>exact ae (.of <| .value B)
   |iface t v=>exact ae (.of <| .value B)
   |float k b=>exact ae (.of <| .value B)
   |complex k a b=>exact ae (.of <| .value B)
   |tuple a=>exact ae (.of <| .value B)
   |_=>simp[jA]at h
  |_=>exact ae (.of <| .value B)
 |binOp op t x y u=>
  rw[z]at j;simp[iD]at j;have L:=A x j.1.1;have X:=A y j.1.2;refine l <|cT (am (BB op t x y L X) (λR D _ _ _=>(GZ (G.m D) op t (L.m D) (X.m D) (λaa=>?_))))
  have ab:jx (P.underlying t)=Y\/JX x=Y\/JX y=Y\/xX P 6 t=true:=by
   rcases aa with rfl|rfl<;>simpa[Nb,Bool.or_eq_true,or_assoc]using j.2
  rcases ab with h|h|h|h;exact kw _ (G.m D) t (L.m D) (X.m D) (Rf h);exact kw _ (G.m D) t (L.m D) (X.m D) (Rg (Rf (hK x h)));exact kw _ (G.m D) t (L.m D) (X.m D) (Rg (Rg (hK y h)));exact DG _ 6 (G.m D) t (L.m D) (X.m D) h
 |unOp op t x=>rw[z]at j;exact l <|cT (GW op (A x j))
 |convert s d x=>rw[z]at j;simp[iD]at j;exact l <|cT (BJ s d j.1 (A x j.2))
 |makeInterface t x=>rw[z]at j;exact l <|cT (oG t (A x j))
 |makeFunc f a c=>
  rw[z]at j;cases f with
  |func f=>simp only[iD,bT]at j;exact l <|cT (yc (.func f j.1.1) (A.all j.1.2) (A.all j.2))
  |_=>simp[iD]at j
 |makeChan t x=>rw[z]at j;simp[iD]at j;exact l <|cT (yd j.1 t (A x j.2))
 |makeSlice t a x=>rw[z]at j;simp[iD]at j;exact l <|cT (uV hZ t (A a j.1) (A x j.2))
 |slice t x lo hi mx=>
  rw[z]at j;simp[iD]at j;have h1:=yr A j.1.1.2;have h2:=yr A j.1.2;have h3:=yr A j.2;exact l <|cT (Bz t (A x j.1.1.1) h1.1 h2.1 h3.1 h1.2 h2.2 h3.2)
 |fieldAddr s x f=>rw[z]at j;exact l <|cT (By s (A x j) f)
 |field t x f=>rw[z]at j;exact l <|cT (GQ t (A x j) f)
 |indexAddr t x i=>rw[z]at j;simp[iD]at j;exact l <|cT (Bx t (A x j.1) (A i j.2))
 |index t x i=>rw[z]at j;simp[iD]at j;exact l <|cT (GR t (A x j.1) (A i j.2))
 |extract x i=>rw[z]at j;exact l <|cT (Bw (A x j) i)
 |call c=>
  rw[z]at j;rcases Bo j with hc|⟨f,hk,h1,h2,h3⟩
  rotate_left
  have r1:∀ (q:Operand->Wx),q (.func f)=.func (.func f) #[] #[]->(do let d <-resolve q c o.type;invoke d.target d.args:Sem Next)=Rt f (c.args.map q):=λq hq=>by
   unfold resolve;simp[hk,hq];show invoke (.fn (.func f) #[]) (#[]++c.args.map q)=_;unfold invoke;simp
  show RS P RX1 ρ (do let d <-resolve e c o.type;invoke d.target d.args) (do let d <-resolve V c o.type;invoke d.target d.args);rw[r1 e (ad f),r1 V (ac f)];exact DD G f h1 (hN f) (A.all h2) (by rw[Array.size_map];exact h3);exact l (am (kx G A c hc o.type) (λR D d d' hd=>nf hZ (by rw[D.F];exact hE) hN (G.m D) hd))
 |go c=>
  rw[z]at j;simp[iD]at j;exact l (am (kx G A c j.2 o.type) (λR D d d' hd=>ae (.spawn (by rw[D.F];exact j.1) hd)))
 |defer c=>
  rw[z]at j;simp only[iD]at j;rw[bT]at j;exact l (am (kx G A c j.2 o.type) (λR D d d' hd=>ae (.defer (by rw[D.F];exact j.1) hd)))
 |send c x=>rw[z]at T;cases T
 |recv t c ok=>rw[z]at T;cases T
 |lookup t x i ok=>rw[z]at j;simp[iD]at j;exact l <|cT (DH hZ t j.1.1 (A x j.1.2) (A i j.2) ok)
 |mapUpdate t m k x=>rw[z]at j;simp[iD]at j;exact l <|DI (uZ t j.1.1.1 (A m j.1.1.2) (A k j.1.2) (A x j.2))
 |makeMap t r=>
  rw[z]at j;cases r with
  |none=>exact l <|cT (BG t)
  |some _=>simp[iD]at j
 |panic x=>rw[z]at j;exact l <|cT (G2 (A x j))
 |_=>rw[z]at j;simp[iD]at j
end
inductive RI (P:Wv)(ρ:Ren):Item->Item->Prop
 |code {c:Code} (h:aP P ρ.F c=Y):RI P ρ (.code c) (.code c)
 |inBlock (id:H):RI P ρ (.inBlock id) (.inBlock id)
 |inLoop {c:Code} (h:aP P ρ.F c=Y):RI P ρ (.inLoop c) (.inLoop c)
 |inScope {c:Code} (h:aP P ρ.F c=Y):RI P ρ (.inScope c) (.inScope c)
 |inRegion {ops:dT Oper} (l:S H) (h:ops.all (λo=>iD P ρ.F o.op)=Y):RI P ρ (.inRegion ops l) (.inRegion ops l)
 |regionEnd (ops ops':dT Oper):RI P ρ (.inRegion ops []) (.inRegion ops' [])
 |inRangeFunc {l l':H} (h:ρ l l'):RI P ρ (.inRangeFunc l) (.inRangeFunc l')
 |endRangeFunc {l l':H} (h:ρ l l'):RI P ρ (.endRangeFunc l) (.endRangeFunc l')
 |beginRound:RI P ρ .beginRound .beginRound
inductive RIs (P:Wv)(ρ:Ren):S Item->S Item->Prop
 |nil:RIs P ρ [] []
 |cons {i i':Item} {l l':S Item} (h:RI P ρ i i') (hl:RIs P ρ l l'):RIs P ρ (i::l) (i'::l')
inductive RPn (ρ:Ren):S PanicEntry->S PanicEntry->Prop
 |nil:RPn ρ [] []
 |cons {v v':Wx} (r g:ey) {l l':S PanicEntry} (h:RV ρ v v') (hl:RPn ρ l l'):RPn ρ ({v,recovered:=r,goexit:=g} :: l) ({v:=v',recovered:=r,goexit:=g} :: l')
inductive RM (ρ:Ren):FrameMode->FrameMode->Prop
 |run:RM ρ .run .run
 |returning:RM ρ .returning .returning
 |panicking {l l':S PanicEntry} (h:RPn ρ l l'):RM ρ (.panicking l) (.panicking l')
structure RFr (P:Wv)(ρ:Ren)(fr fr':Wy):Prop where
 fn:fr.fn=fr'.fn
 tmps:RVs ρ fr.tmps fr'.tmps
 todo:RIs P ρ fr.todo fr'.todo
 defers:RDs ρ fr.defers fr'.defers
 mode:RM ρ fr.mode fr'.mode
 early:(fr.kind == .early)=Z/\(fr'.kind == .early)=Z/\fr'.kind≠.report
 round:RNo ρ fr.roundOf fr'.roundOf
def Kd(X:S Wy×S Wy)(fr b:Wy)(a:S Wy):Prop:=(a≠X.2\/2<=X.1.length->fr.kind=b.kind)/\(a=X.2->fr.roundOf=N)
inductive RFs (P:Wv)(ρ:Ren)(X:S Wy×S Wy):S Wy->S Wy->Prop
 |base:RFs P ρ X X.1 X.2
 |cons {f f':Wy} {l l':S Wy} (h:RFr P ρ f f') (hk:Kd X f f' l') (hl:RFs P ρ X l l'):RFs P ρ X (f::l) (f'::l')
theorem dG{ρ:Ren}:RV ρ Wo Wo:=.tuple rfl (λi v v' e=>by simp at e)
section
variable {P:Wv} {ρ ρ':Ren}
theorem RI.m(hle:ρ.le ρ'){i i':Item}(h:RI P ρ i i'):RI P ρ' i i':=by
 cases h with
 |code h=>exact .code (by rw[hle.F];exact h)
 |inBlock id=>exact .inBlock id
 |inLoop h=>exact .inLoop (by rw[hle.F];exact h)
 |inScope h=>exact .inScope (by rw[hle.F];exact h)
 |inRegion l h=>exact .inRegion l (by rw[hle.F];exact h)
 |regionEnd a b=>exact .regionEnd a b
 |inRangeFunc h=>exact .inRangeFunc (hle _ _ h)
 |endRangeFunc h=>exact .endRangeFunc (hle _ _ h)
 |beginRound=>exact .beginRound
theorem RIs.m(hle:ρ.le ρ'){l l'}(h:RIs P ρ l l'):RIs P ρ' l l':=by
 induction h with
 |nil=>exact .nil
 |cons h _ ih=>exact .cons (h.m hle) ih
theorem RPn.m(hle:ρ.le ρ'){V l'}(h:RPn ρ V l'):RPn ρ' V l':=by
 induction h with
 |nil=>exact .nil
 |cons r g h _ ih=>exact .cons r g (h.m hle) ih
theorem RM.m(hle:ρ.le ρ'){m m':RU}(h:RM ρ m m'):RM ρ' m m':=by
 cases h with
 |run=>exact .run
 |returning=>exact .returning
 |panicking h=>exact .panicking (h.m hle)
theorem RFr.m(hle:ρ.le ρ')(h:RFr P ρ D f'):RFr P ρ' D f':=⟨h.fn,h.tmps.m hle,h.todo.m hle,h.defers.m hle,h.mode.m hle,h.early,h.round.m hle⟩
theorem RFs.m(hle:ρ.le ρ')(h:RFs P ρ X L l'):RFs P ρ' X L l':=by
 induction h with
 |base=>exact .base
 |cons h a _ ih=>exact .cons (h.m hle) a ih
theorem RVs.getD{f:dT Wx}(h:RVs ρ f c')i:RV ρ (f.getD i Wo) (c'.getD i Wo):=by
 rcases h.get i with⟨a,b⟩|⟨v,v',a,b,hv⟩;simp[a,b];exact dG
 simp_all
theorem RFr.finish{b}(h:RFr P ρ f' b){d}(i:RV ρ v d):RFr P ρ (f'.finish v) (b.finish d):=by
 unfold SO;have c:=h.todo;generalize hx:f'.todo=td at c;generalize hx':b.todo=td' at c;cases c with
 |nil=>exact h
 |cons m a=>
  cases m with
  |inRegion l e=>
   cases l with
   |nil=>exact h
   |cons j l=>
    refine⟨h.fn,?_,.cons (.inRegion l e) a,h.defers,h.mode,h.early,h.round⟩;dsimp only;split
    exact h.tmps.set _ i;exact h.tmps
  |inRangeFunc k=>exact⟨h.fn,h.tmps,.cons (.endRangeFunc k) a,h.defers,h.mode,h.early,h.round⟩
  |beginRound=>exact⟨h.fn,h.tmps,a,h.defers,h.mode,h.early,h.round⟩
  |_=>exact h
variable [Two P]
theorem RFr.env(d:GId P ρ){f b:Wy}(h:RFr P ρ f b):GA P ρ f.eval b.eval:=by
 intro x a;cases x with
 |tmp t=>exact h.tmps.getD t
 |const v=>exact DL a
 |global g=>exact .pointer (.some ⟨d.NS g (of_decide_eq_true a),rfl,rfl⟩)
 |func f=>exact .func (.func f a) rfl rfl (λi v c e=>by simp at e) (λi v c e=>by simp at e)
theorem RFr.enter(n:GId P ρ)(f:Rm)(hF:ρ.F f=Y)(k:Rz)(l:(k == .early)=Z)(d:k≠.report){a j:dT Wx}(h:RVs ρ a j):RFr P ρ (SK P f a k) (SK P f j k):=by
 refine⟨Q,?_,.cons (.code ?_) .nil,.nil,.run,⟨l,l,d⟩,.none⟩;show RVs ρ (a++SJ _ Wo) (j++SJ _ Wo);rw[h.size];refine h.append (RVs.self (λi v e=>?_));rw[Sp]at e;split at e
 cases e;exact dG;cases e;cases m:P.funcs[f]? with
 |none=>rfl
 |some fn=>
  cases c:fn.body with
  |none=>simp[c,aP]
  |some b=>simpa[c]using n.code f fn b hF m c
theorem vg(b:GId P ρ)(f:Rm)(hF:ρ.F f=Y)(k:Rz)(a:dT Wx):SK P.alt f a k=SK P f a k:=by
 unfold SK;rw[b.alt f hF]
end
theorem RFs.len{ρ}{a}(h:RFs P ρ X l' a):X.2.length<=a.length:=by
 induction h with
 |base=>exact Q0
 |cons _ _ _ ih=>simp;omega
theorem RFs.ne{ρ}{a}{b}(h:RFs P ρ X l' a):b::a≠X.2:=λe=>by
 have:=h.len;rw[<-e]at this;simp at this;omega
theorem DN(a:Wy):∀x,JX x=Y->Gz (a.eval x)=true:=λx h=>by
 cases x with
 |const v=>exact h
 |_=>simp[JX]at h
inductive Shp where
 |go (g:Wk)
 |comm (g:Wk) (cs:dT CommCase) (b:ey) (s:CommShape)
 |spawn (g k:Wk)
def Shp.mk:Shp->Wj->dT Event->GStep
 | .go g,w,es=>.go g w es
 | .comm g cs b s,w,es=>.comm g cs b s w es
 | .spawn g k,w,es=>.spawn g k w es
def Shp.ok:Shp->Prop
 | .go g=>g.dying=N
 |_=>uc
theorem Shp.mk_inj{x y:Shp}{w w'}{es a:dT Event}(h:x.mk w es=y.mk w' a):x=y/\w=w'/\es=a:=by
 cases x<;>cases y<;>simp[Shp.mk]at h<;>have⟨h1,h2⟩:=h<;>simp_all
theorem Shp.Px(x:Shp)w(a es:dT Event):wz a (x.mk w es)=x.mk w (a++es):=by cases x<;>rfl
def xT(w:Wj)(f:Wj->GStep):Prop:=
 ∀x w' es,Shp.ok x->f w=x.mk w' es->w'.tape=w.tape/\w.drawn<=w'.drawn/\∀a d,Like w w' a d->f (w.on a d)=x.mk (w'.on a (d+(w'.drawn-w.drawn))) es
theorem ng w(x:Shp)(es:dT Event):xT w (λu=>x.mk u es):=by
 intro y w' es' _ h;obtain⟨rfl,rfl,rfl⟩:=Shp.mk_inj h
 grind
theorem dp w g(es:dT Event):xT w (λu=>.go g u es):=ng w (.go g) es
def N7(x:GStep):Prop:=∀y w' es,Shp.ok y->x≠Shp.mk y w' es
theorem lB w(f:Wj->GStep)(h:N7 (f w)):xT w f:=λx w' es a e=>eW e (h x w' es a)
theorem DO{a:dT Event}{x:Shp}{w'}{es:dT Event}(h:wz a x'=x.mk w' es):∃b,x'=x.mk w' b/\es=a++b:=by
 cases x'<;>cases x<;>simp[wz,Shp.mk]at h ⊢
 all_goals
  grind
theorem aY{w}{ga:Wj->GStep}(a:dT Event)(h:xT w ga):xT w (λu=>wz a (ga u)):=by
 intro x w' es b e;obtain⟨es',l,rfl⟩:=DO e;obtain⟨c,i,j⟩:=h _ _ _ b l;exact⟨c,i,λm d k=>by simp[j m d k,Shp.Px]⟩
theorem vh{w u w'}{a:H->Question->H}{d}(b:Like w w' a d)(h:u.drawn<=w'.drawn):Like w u a d:=λi hi=>b i (by omega)
theorem rF{w u w'}{a:H->Question->H}(c:Like w w' a r)(b:u.tape=w.tape)(h:w.drawn<=u.drawn):Like u w' a (r+(u.drawn-w.drawn)):=λi hi=>by
 have:=c (u.drawn-w.drawn+i) (by omega);rw[show r+(u.drawn-w.drawn)+i=r+(u.drawn-w.drawn+i)by omega,this,b,show w.drawn+(u.drawn-w.drawn+i)=u.drawn+i by omega]
theorem je p(f:Rm):seen p f #[]=#[]:=rfl
theorem eU(x:GStep):wz #[] x=x:=by cases x<;>simp[wz]
theorem G3{b}{c:eV Dying}{s':Sem Next}{w u}{a:Next}{es:dT Event}(h:s'.runT p w #[]=(.ok a u,es)):
  stepG.apply p Y f' b c s' w=wz (seen p f'.fn (if f'.kind == .early then #[]else es)) (stepG.apply p Y f' b c (.pure a) u):=by
 unfold stepG.apply;simp only[gI,h,xb];have e:seen p f'.fn (if f'.kind == .early then #[]else #[])=#[]:=by split<;>exact je _ _
 rw[e,eU]
def vk(a:Halt)(es:dT Event):dT Event:=
 match a with
 | .blocked=>#[]
 | .waiting=>#[]
 | .unsupported (.initOrder _)=>#[]
 |_=>es
theorem BK{b}{c:eV Dying}{s':Sem Next}{w u}{a:Halt}{es:dT Event}(h:s'.runT p w #[]=(.halt a u,es)):
  stepG.apply p Y f' b c s' w=wz (seen p f'.fn (if f'.kind == .early then #[]else vk a es)) (stepG.apply p Y f' b c (.halt a) u):=by
 have e:seen p f'.fn (if f'.kind == .early then #[]else #[])=#[]:=by split<;>exact je _ _
 unfold stepG.apply;simp only[gI,h,xb];cases a with
 |unsupported x=>cases x<;>simp only[vk,e,eU]
 |_=>simp only[vk,e,eU]
theorem eX{es:dT Event}(h:e∈seen p f es):e∈es:=by
 unfold seen at h;simp only[<-Sk]at h;have b:∀ (l:S Event) (q:ey) (a:dT Event),e∈(l.foldl (λx e=>match e.loc with
   | .mark (.extern f)=>((p.funcs[f]?).any (·.norace),x.2)
   |_=>(x.1,if x.1 && !e.sync then x.2 else x.2.push e)) (q,a)).2->e∈a\/e∈l:=by
  intro l;induction l with
  |nil=>intro q a h;exact Rf h
  |cons y l ih=>
   grind
 rcases b _ _ _ h with h|h;simp at h
 grind
structure Reach (ρ ρ':Ren)(w w' u u':Wj):Prop where
 le:ρ.le ρ'
 Pj:Chs ρ w w' u u'
 NG:cz ρ' u u'
 Nx:Keep ρ w' u'
 new:∀a b,ρ' a b->ρ a b\/(w.heap.size<=a/\w'.heap.size<=b)
 drawn:u'.drawn+w.drawn=w'.drawn+u.drawn
 tape:u.tape=w.tape
 low:w.drawn<=u.drawn
 grow:w.heap.size<=u.heap.size
theorem Reach.t{ρ ρ' c}{w w' u z v v'}(h:Reach ρ ρ' w w' u z)(k:Reach ρ' c u z v v'):Reach ρ c w w' v v':=by
 refine⟨Ren.le_trans h.le k.le,h.Pj.t h.le k.Pj,k.NG,h.Nx.t k.Nx h.le.old (λa b d=>(h.new a b d).imp id (·.2)),λa b d=>?_,by have:=h.drawn;have:=k.drawn;omega,k.tape.t h.tape,lT h.low k.low,lT h.grow k.grow⟩;rcases k.new a b d with x|⟨x,y⟩;exact h.new a b x;have:=h.Nx.size;have:=h.grow
 grind
structure RGo (P:Wv)(ρ:Ren)(X:S Wy×S Wy)(g g':Wk):Prop where
 frame:RFr P ρ g.frame g'.frame
 callers:RFs P ρ X g.callers g'.callers
 kind:Kd X g.frame g'.frame g'.callers
 status:g.status=Ri/\g'.status=Ri
 dying:g.dying=N/\g'.dying=N
 offers:g.offers=N/\g'.offers=N
def vo(g:Wk):Prop:=∃d f,g.dying=J d/\d.calling=Z/\d.fatal=J f
def Lost:GStep->Prop
 | .ended _ _ _=>uc
 | .go g _ _=>vo g/\g.status=Ri
 |_=>nF
theorem Lost.N7{x:GStep}(h:Lost x):N7 x:=λy w' es b e=>by
 subst e;cases y with
 |go g=>obtain⟨⟨d,f,a,-⟩,-⟩:=h;rw[show g.dying=N from b]at a;cases a
 |_=>exact h
theorem Lost.after{x:GStep}(h:Lost x)(a:dT Event):Lost (wz a x):=by cases x<;>exact h
def AtC(P:Wv)(g:Wk)(c:Rq)(s:Rr):Prop:=∀m v,stepG P m g v=.comm g #[c] Y s v #[]
inductive eY (P:Wv) [Two P](ρ:Ren)(X:S Wy×S Wy)(w w':Wj):GStep->GStep->Prop
 |go {g g':Wk} {u u':Wj} (es:dT Event) {es':dT Event} (ρ':Ren) (R:Reach ρ ρ' w w' u u') (h:RGo P ρ' X g g') (he:∀e∈es',kX ρ' e):eY P ρ X w w' (.go g u es) (.go g' u' es')
 |comm {g g':Wk} {c c':CommCase} (hC:(c.send.isSome=Y->ρ.F i7=Y)/\(c.send=N->ρ.F LF=Y)) (s:CommShape) (hs:(c.send.isSome=Y/\s=.send)\/(c.send=N/\∃ok,s=.recv ok)) (hrun:g.status=Ri/\g'.status=Ri) {u u':Wj} (es:dT Event) {es':dT Event} (ρ':Ren) (R:Reach ρ ρ' w w' u u') (h:RGo P ρ' X g g') (hc:RC ρ' c c') (he:∀e∈es',kX ρ' e) (ha:AtC P g c s/\AtC P.alt g c s/\AtC P g' c' s):eY P ρ X w w' (.comm g #[c] Y s u es) (.comm g' #[c'] Y s u' es')
 |spawn (hC:ρ.F nX=Y) {g g' k k':Wk} {u u':Wj} (es:dT Event) {es':dT Event} (ρ':Ren) (R:Reach ρ ρ' w w' u u') (h:RGo P ρ' X g g') (hk:RGo P ρ' ([],[]) k k') (he:∀e∈es',kX ρ' e):eY P ρ X w w' (.spawn g k u es) (.spawn g' k' u' es')
theorem eY.after  [Two P]{ρ:Ren}{X:S Wy×S Wy}{w w':Wj}{x j:GStep}(h:eY P ρ X w w' x j)(a:dT Event){E':dT Event}(hE:∀ρ',ρ.le ρ'->∀e∈E',kX ρ' e):eY P ρ X w w' (wz a x) (wz E' j):=by
 have i:∀ (ρ':Ren),ρ.le ρ'->∀ (b:dT Event),(∀e∈b,kX ρ' e)->∀e∈E'++b,kX ρ' e:=λρ' l b h e c=>by
  grind
 cases h with
 |go es ρ' R h c=>exact .go _ ρ' R h (i ρ' R.le _ c)
 |comm f s n d es ρ' R h o c m=>exact .comm f s n d _ ρ' R h o (i ρ' R.le _ c) m
 |spawn f es ρ' R h k c=>exact .spawn f _ ρ' R h k (i ρ' R.le _ c)
structure Apart (P:Wv) [Two P](ρ:Ren)(X:S Wy×S Wy)(w w':Wj)(f:FuncId)(ρ':Ren)(a a':dT Wx)(fr fr':Wy)(cs cs':S Wy)(u u':Wj)(es es':dT Event)(x xa x':GStep):Prop where
 mark:Mk ρ.F f=Y
 reach:Reach ρ ρ' w w' u u'
 args:RVs ρ' a a'/\a.size=2
 frame:RFr P ρ' fr fr'
 callers:RFs P ρ' X cs cs'
 kind:Kd X fr fr' cs'
 ev:∀e∈es',kX ρ' e
 here:x=.go {frame:=SK P f a .normal,callers:=fr::cs,status:=Ri,dying:=N} u es
 other:xa=.go {frame:=SK P.alt f a .normal,callers:=fr::cs,status:=Ri,dying:=N} u es
 there:x'=.go {frame:=SK P f a' .normal,callers:=fr'::cs',status:=Ri,dying:=N} u' es'
def SR(P:Wv) [Two P](ρ:Ren)(X:S Wy×S Wy)(w w':Wj)(x b x':GStep):Prop:=(Lost x/\Lost b)\/(b=x/\eY P ρ X w w' x x')\/∃f ρ' a i j c cs d u h es e,Apart P ρ X w w' f ρ' a i j c cs d u h es e x b x'
structure SF (P:Wv) [Two P](ρ:Ren)(X:S Wy×S Wy)(w w':Wj)(f fa:Wj->GStep)(x':GStep):Prop where
 PO:xT w f
 rel:SR P ρ X w w' (f w) (fa w) x'
theorem Reach.refl{ρ}{w w'}(a:cz ρ w w'):Reach ρ ρ w w' w w':=⟨Ren.le_refl _,Chs.refl _ _ _,a,Keep.refl _ _,λ_a _b h=>Rf h,Q,Q,Q0,Q0⟩
def Same(w w':Wj):Prop:=∀i,w'.tape (w'.drawn+i)=w.tape (w.drawn+i)
theorem Same.Qd{w w'}(h:Same w w')u:Draws w w' u:=λi _=>h i
theorem eY.t  [Two P]{ρ ρ':Ren}{X:S Wy×S Wy}{w w' u e:Wj}(R:Reach ρ ρ' w w' u e){x x':GStep}(h:eY P ρ' X u e x x'):eY P ρ X w w' x x':=by
 cases h with
 |go es a R2 h c=>exact .go es a (R.t R2) h c
 |comm d s j b es a R2 h k c i=>exact .comm (by rw[<-R.le.F];exact d) s j b es a (R.t R2) h k c i
 |spawn d es a R2 h f c=>exact .spawn (by rw[<-R.le.F];exact d) es a (R.t R2) h f c
theorem SR.t  [Two P]{ρ ρ':Ren}{X:S Wy×S Wy}{w w' u j:Wj}(R:Reach ρ ρ' w w' u j){x i x':GStep}(h:SR P ρ' X u j x i x'):SR P ρ X w w' x i x':=by
 rcases h with h|⟨n,l⟩|⟨f,c,a,m,o,d,cs,b,v,k,es,e,A⟩;exact Rf h;exact Rg (Rf ⟨n,l.t R⟩);exact Rg (Rg ⟨f,c,a,m,o,d,cs,b,v,k,es,e,⟨by rw[<-R.le.F];exact A.mark,R.t A.reach,A.args,A.frame,A.callers,A.kind,A.ev,A.here,A.other,A.there⟩⟩)
theorem SR.after  [Two P]{ρ:Ren}{X:S Wy×S Wy}{w w':Wj}{x m n:GStep}(h:SR P ρ X w w' x m n)(b:dT Event){E':dT Event}(hE:∀ρ',ρ.le ρ'->∀e∈E',kX ρ' e):SR P ρ X w w' (wz b x) (wz b m) (wz E' n):=by
 rcases h with⟨j,d⟩|⟨j,d⟩|⟨f,c,a,q,r,k,cs,i,v,p,es,l,A⟩;exact Rf ⟨j.after _,d.after _⟩;exact Rg (Rf ⟨by rw[j],d.after _ hE⟩);refine Rg (Rg ⟨f,c,a,q,r,k,cs,i,v,p,b++es,E'++l,⟨A.mark,A.reach,A.args,A.frame,A.callers,A.kind,λe o=>?_,by rw[A.here];rfl,by rw[A.other];rfl,by rw[A.there];rfl⟩⟩);rcases SH.1 o with h|h;exact hE c A.reach.le e h;exact A.ev e h
theorem Reach.same{ρ ρ'}{w w' u u'}(R:Reach ρ ρ' w w' u u')(h:Same w w'):Same u u':=λi=>by
 have a:=h (u.drawn-w.drawn+i);have h2:=R.drawn;have h3:=R.low;rw[R.Nx.tape,R.tape,show u'.drawn+i=w'.drawn+(u.drawn-w.drawn+i)by omega,a,show w.drawn+(u.drawn-w.drawn+i)=u.drawn+i by omega]
section
variable {P:Wv} [Two P] {ρ:Ren} {X:vx Wy×vx Wy} {w w':Wj}
theorem G4{g g'}(h:RGo P ρ X g g')(a:cz ρ w w'):SF P ρ X w w' (λu=>.go g u) (λu=>.go g u) (.go g' w'):=
 ⟨dp _ _ _,Rg (Rf ⟨Q,.go _ ρ (Reach.refl a) h (λe b=>by simp at b)⟩)⟩
theorem lq{ga a:Wj->GStep}(h:Lost (ga w))(b:Lost (a w)):SF P ρ X w w' ga a x':=⟨lB _ _ h.N7,Rf ⟨h,b⟩⟩
theorem jf{fa a g ga:Wj->GStep}{b:GStep}(h:SF P ρ X w w' g ga b)(e:∀u,fa u=g u)(c:∀u,a u=ga u)(ex:x'=b):SF P ρ X w w' fa a x':=by
 have e1:=funext e;have e2:=funext c
 grind
theorem pU{i:Ren->α->β->Prop}{s:Sem α}{T:Sem β}(hs:RS P i ρ s T)(k:cz ρ w w')(hd:Same w w'){F Fa:Result α->dT Event->GStep}{F':Result β->dT Event->GStep}
  (hlost:∀h u es,fO h=Y->Lost (F (.halt h u) es)/\Lost (Fa (.halt h u) es))
  (af:∀ρ' u p a b es n,Reach ρ ρ' w w' u p->i ρ' a b->(∀e∈n,kX ρ' e)->xT u (λu=>F (.ok a u) es)/\SR P ρ X w w' (F (.ok a u) es) (Fa (.ok a u) es) (F' (.ok b p) n))
  (R:∀ρ' u p v v' es n,Reach ρ ρ' w w' u p->RV ρ' v v'->(∀e∈n,kX ρ' e)->xT u (λu=>F (.halt (.panic v) u) es)/\SR P ρ X w w' (F (.halt (.panic v) u) es) (Fa (.halt (.panic v) u) es) (F' (.halt (.panic v') p) n)):
  SF P ρ X w w' (λu=>F (s.runT P u #[]).1 (s.runT P u #[]).2) (λu=>Fa (s.runT P.alt u #[]).1 (s.runT P.alt u #[]).2) (F' (T.runT P w' #[]).1 (T.runT P w' #[]).2):=by
 obtain⟨L,aa⟩:=tB hs w w' #[] #[] k (hd.Qd _);rcases aa with⟨⟨h,u,q,hn⟩,⟨ha,ua,hra,hna⟩⟩|⟨halt,ρ',l,S',hR,f,j,D,m,G,c⟩;refine lq ?_ ?_
 grind
 grind
 obtain⟨E0,ac,ai⟩:=m;have z:∀e∈(T.runT P w' #[]).2,kX ρ' e:=λe he=>by rw[ac]at he;exact ai e (by simpa using he)
 cases q:s.runT P w #[]with
 |mk r es=>
  cases ab:T.runT P w' #[]with
  |mk r' n=>
   rw[q]at hR S' D halt G c;rw[ab]at hR S' D f z c;have ad:xT w (λu=>F (s.runT P u #[]).1 (s.runT P u #[]).2)/\SR P ρ X w w' (F r es) (Fa r es) (F' r' n):=by
    cases hR with
    | @ok a b u p h=>
     have⟨k1,k2⟩:=af ρ' u p a b es n ⟨l,c,S',f,j,D,by have:=L.1;rw[q]at this;exact this,by have:=L.2.1;rw[q]at this;exact this,G⟩ h z;refine⟨?_,k2⟩;intro x v B hx e;replace e:F (s.runT P w #[]).1 (s.runT P w #[]).2=x.mk v B:=e;obtain⟨o,y,A⟩:=L;rw[q]at e o y A;simp only[Result.w,Result.on]at e o y A;obtain⟨q1,q2,q3⟩:=k1 _ _ _ hx e;refine⟨q1.t o,by omega,λτ d V=>?_⟩;have hm2:=A τ d (vh V q2);have:=q3 τ (d+(u.drawn-w.drawn)) (rF V o y)
     grind
    | @halt a b u p h=>
     cases h with
     |panic hv=>
      obtain⟨k1,k2⟩:=R ρ' u p _ _ es n ⟨l,c,S',f,j,D,by have:=L.1;rw[q]at this;exact this,by have:=L.2.1;rw[q]at this;exact this,G⟩ hv z;refine⟨?_,k2⟩;intro x v B hx e;replace e:F (s.runT P w #[]).1 (s.runT P w #[]).2=x.mk v B:=e;obtain⟨o,y,A⟩:=L;rw[q]at e o y A;simp only[Result.w,Result.on]at e o y A;obtain⟨q1,q2,q3⟩:=k1 _ _ _ hx e;refine⟨q1.t o,by omega,λτ d V=>?_⟩;simp only[(A τ d (vh V q2))];have:=q3 τ (d+(u.drawn-w.drawn)) (rF V o y)
      grind
   refine⟨ad.1,?_⟩
   grind
theorem J6{k:Ren->α->β->Prop}{s:Sem α}{V:Sem β}(hs:RS P k ρ s V)(n:cz ρ w w')(hd:Same w w'){ga fa:Wj->GStep}
  (t:∀h u es,fO h=Y->(s.runT P w #[]=(.halt h u,es)->Lost (ga w))/\(s.runT P.alt w #[]=(.halt h u,es)->Lost (fa w)))
  (aj:∀ρ' u F a b es o,Reach ρ ρ' w w' u F->k ρ' a b->(∀e∈o,kX ρ' e)->V.runT P w' #[]=(.ok b F,o) ->
   ∃x c,(∀z v,s.runT P z #[]=(.ok a v,es)->ga z=Shp.mk x v c)/\(∀z v,s.runT P.alt z #[]=(.ok a v,es)->fa z=Shp.mk x v c)/\eY P ρ X w w' (Shp.mk x u c) x')
  (aa:∀ρ' u F v v' es o,Reach ρ ρ' w w' u F->RV ρ' v v'->(∀e∈o,kX ρ' e)->V.runT P w' #[]=(.halt (.panic v') F,o) ->
   ∃x c,(∀z q,s.runT P z #[]=(.halt (.panic v) q,es)->ga z=Shp.mk x q c)/\(∀z q,s.runT P.alt z #[]=(.halt (.panic v) q,es)->fa z=Shp.mk x q c)/\eY P ρ X w w' (Shp.mk x u c) x'):
  SF P ρ X w w' ga fa x':=by
 obtain⟨T,ac⟩:=tB hs w w' #[] #[] n (hd.Qd _);rcases ac with⟨⟨h,u,p,hn⟩,⟨ha,ua,af,ad⟩⟩|⟨halt,ρ',l,S',hR,j,m,D,c,G,i⟩;refine lq ((t h u (s.runT P w #[]).2 hn).1 ?_) ((t ha ua (s.runT P.alt w #[]).2 ad).2 ?_);rw[<-p];rw[<-af];obtain⟨E0,ai,al⟩:=c;have A:∀e∈(V.runT P w' #[]).2,kX ρ' e:=λe he=>by rw[ai]at he;exact al e (by simpa using he)
 cases p:s.runT P w #[]with
 |mk r es=>
  cases L:V.runT P w' #[]with
  |mk r' o=>
   rw[p]at hR S' D halt G i;rw[L]at hR S' D j A i;simp only at hR S' D j A G i;have ab:∀ (x:Shp) (c:dT Event) (u:Wj),r.w=u->ga w=x.mk u c->(∀R d,Like w u R d->ga (w.on R d)=x.mk (u.on R (d+(u.drawn-w.drawn))) c)->xT w ga:=by
    intro x c u hu h1 h2 y v es2 hy e;rw[h1]at e;obtain⟨rfl,rfl,rfl⟩:=Shp.mk_inj e;have k1:=T.1;have k2:=T.2.1;rw[p]at k1 k2;simp[hu]at k1 k2;exact⟨k1,k2,h2⟩
   have m3:=T.2.2;rw[p]at m3;cases hR with
   | @ok a b u F h=>
    have⟨x,c,B,q2,q3⟩:=aj ρ' u F a b es o ⟨l,i,S',j,m,D,by have:=T.1;rw[p]at this;exact this,by have:=T.2.1;rw[p]at this;exact this,G⟩ h A L;refine⟨ab x c u Q (B w u p) (λR d hl=>B _ _ (m3 R d hl)),Rg (Rf ⟨?_,?_⟩)⟩;rw[B w u p,q2 w u halt];rw[B w u p];exact q3
   | @halt a b u F h=>
    cases h with
    |panic hv=>
     obtain⟨x,c,B,q2,q3⟩:=aa ρ' u F _ _ es o ⟨l,i,S',j,m,D,by have:=T.1;rw[p]at this;exact this,by have:=T.2.1;rw[p]at this;exact this,G⟩ hv A L;refine⟨ab x c u Q (B w u p) (λR d hl=>B _ _ (m3 R d hl)),Rg (Rf ⟨?_,?_⟩)⟩;rw[B w u p,q2 w u halt];rw[B w u p];exact q3
end
theorem pV(f:Wy)(v:Wx):(f.finish v).kind=f.kind:=by
 unfold SO;split<;>rfl
theorem rH(f:Wy)(c:S Ro):(f.raise c).kind=f.kind:=by
 unfold SQ;split<;>rfl
theorem vp(f:Wy)(v:Wx):(f.finish v).roundOf=f.roundOf:=by
 unfold SO;split<;>rfl
theorem yt(f:Wy)(c:S Ro):(f.raise c).roundOf=f.roundOf:=by
 unfold SQ;split<;>rfl
theorem Kd.finish{a}{l}(h:Kd X f' a l)v b:Kd X (f'.finish v) (a.finish b) l:=⟨λk=>by rw[pV,pV];exact h.1 k,λk=>by rw[vp];exact h.2 k⟩
theorem Kd.raise{a}{l}(h:Kd X f' a l)c b:Kd X (f'.raise c) (a.raise b) l:=⟨λk=>by rw[rH,rH];exact h.1 k,λk=>by rw[yt];exact h.2 k⟩
theorem Kd.push{ρ}{a g}{b}(c:RFs P ρ X l' b)(h:f'.kind=a.kind):Kd X f' a (g::b):=⟨λ_=>h,λk=>eW k c.ne⟩
section
variable {P:Wv} {ρ:Ren} {X:vx Wy×vx Wy} {w w':Wj}
theorem RPn.append{V b k a}(h:RPn ρ V b)(c:RPn ρ k a):RPn ρ (V++k) (b++a):=by
 induction h with
 |nil=>exact c
 |cons r g h _ ih=>exact .cons r g h ih
theorem RFr.raise{a}(h:RFr P ρ f' a){V W}(b:RPn ρ V W):RFr P ρ (f'.raise V) (a.raise W):=by
 unfold SQ;have d:=h.mode;cases i:f'.mode<;>cases k:a.mode<;>rw[i,k]at d<;>cases d
 exact⟨h.fn,h.tmps,h.todo,h.defers,.panicking b,h.early,h.round⟩;exact⟨h.fn,h.tmps,h.todo,h.defers,.panicking b,h.early,h.round⟩;rename_i j;exact⟨h.fn,h.tmps,h.todo,h.defers,.panicking (b.append j),h.early,h.round⟩
theorem RFr.Ox{a}(h:RFr P ρ f' a){b}(c:RV ρ v b):RFr P ρ (f'.raise [{v,recovered:=Z}]) (a.raise [{v:=b,recovered:=Z}]):=h.raise (.cons _ _ c .nil)
theorem RIs.Oc{l a}(h:RIs P ρ l a):(∀d b r s k,l≠.call d b r s::k)/\(∀d b r s k,a≠.call d b r s::k):=by
 cases h with
 |nil=>exact⟨λ_ _ _ _ _ e=>by simp at e,λ_ _ _ _ _ e=>by simp at e⟩
 |cons h _=>cases h<;>exact⟨λ_ _ _ _ _ e=>by simp at e,λ_ _ _ _ _ e=>by simp at e⟩
theorem BL [Two P](c:GId P ρ)(f:Rm):(P.alt.funcs[f]?).any (·.norace)=(P.funcs[f]?).any (·.norace):=by
 have h:=c.same f;generalize P.alt.funcs[f]?=a at h;generalize P.funcs[f]?=b at h;cases a<;>cases b<;>simp[strip]at h ⊢
 grind
theorem eC [Two P](a:GId P ρ)(f:Rm)(es:dT Event):seen P.alt f es=seen P f es:=by
 unfold seen;simp[BL a]
theorem yu(h:RFr P ρ D f'):SM P D=SM P f':=by
 have a:=h.todo;unfold SM SU;generalize D.todo=td at a;generalize f'.todo=td' at a;cases a with
 |nil=>rfl
 |cons b hk=>
  cases b with
  |inRegion l h=>cases l<;>rfl
  |_=>rfl
def mq(p:Wv)(fr:Wy)(cs:S Wy):Result Next->dT Event->GStep
 | .ok a u,es=>wz (seen p fr.fn es) (stepG.apply p Y fr cs N (.pure a) u)
 | .halt a u,es=>wz (seen p fr.fn (vk a es)) (stepG.apply p Y fr cs N (.halt a) u)
theorem oW p b(d:(b.kind == .early)=Z)cs(s:Sem Next)u:stepG.apply p Y b cs N s u=mq p b cs (s.runT p u #[]).1 (s.runT p u #[]).2:=by
 cases c:s.runT p u #[]with
 |mk r es=>
  cases r with
  |ok a v=>rw[G3 c];simp only[d,mq];rfl
  |halt a v=>rw[BK c];simp only[d,mq];rfl
theorem jg p c cs(f:Rm)(a:dT Wx)u(h:∀d b r s k,c.todo≠.call d b r s::k):stepG.apply p Y c cs N (.pure (.enter f a)) u=.go {frame:=SK p f a .normal,callers:=c::cs,status:=Ri,dying:=N} u:=by
 simp[stepG.apply,xb];split
 grind
 rfl
variable [Two P]
theorem tK(hI:GId P ρ){ρ'}{u u'}(R:Reach ρ ρ' w w' u u')(hf:RFr P ρ' fr fr'){cs cs'}(hc:RFs P ρ' X cs cs')(hkd:Kd X fr fr' cs'){a b:Next}(h:RX ρ' a b)(E:dT Event){E':dT Event}(hE:∀e∈E',kX ρ' e):
  xT u (λu=>wz E (stepG.apply P Y fr cs N (.pure a) u))/\SR P ρ X w w' (wz E (stepG.apply P Y fr cs N (.pure a) u)) (wz E (stepG.apply P.alt Y fr cs N (.pure a) u)) (wz E' (stepG.apply P Y fr' cs' N (.pure b) u')):=by
 have hI':=hI.m R.le;have ev:∀e∈E'++#[],kX ρ' e:=by grind
 have sn:∀ (p:Wv) (f:Rm) (k:Rz),seen p f (if k == .early then #[]else #[])=#[]:=λp f k=>by split<;>exact je _ _
 cases h with
 |value hv=>
  simp[stepG.apply,xb];exact⟨aY _ (dp _ _ _),Rg (Rf ⟨Q,.go _ ρ' R ⟨hf.finish hv,hc,hkd.finish _ _,⟨Q,Q⟩,⟨Q,Q⟩,Q,Q⟩ ev⟩)⟩
 |skip=>
  simp[stepG.apply,xb];exact⟨aY _ (dp _ _ _),Rg (Rf ⟨Q,.go _ ρ' R ⟨hf.finish dG,hc,hkd.finish _ _,⟨Q,Q⟩,⟨Q,Q⟩,Q,Q⟩ ev⟩)⟩
 |enter f hF ha=>
  simp[jg _ _ _ _ _ _ hf.todo.Oc.1,jg _ _ _ _ _ _ hf.todo.Oc.2];refine⟨aY _ (dp _ _ _),Rg (Rf ⟨?_,.go _ ρ' R ⟨RFr.enter hI' f hF _ Q (by simp) ha,.cons hf hkd hc,Kd.push hc Q,⟨Q,Q⟩,⟨Q,Q⟩,Q,Q⟩ ev⟩)⟩;rw[vg hI' f hF]
 |round hl f ht a b ha hb=>
  simp[stepG.apply,xb];refine⟨aY _ (dp _ _ _),Rg (Rf ⟨Q,.go _ ρ' R ⟨⟨Q,ht,?_,.nil,.run,⟨Q,Q,by simp[SN]⟩,.some hl⟩,.cons hf hkd hc,Kd.push hc Q,⟨Q,Q⟩,⟨Q,Q⟩,Q,Q⟩ ev⟩)⟩;rw[hI'.prog]at ha hb;exact .cons (.code ha) (.cons .beginRound (.cons (.code hb) .nil))
 | @defer hS d d' hd=>
  simp[stepG.apply,xb];have hf2:RFr P ρ' {fr with defers:=d::fr.defers} {fr' with defers:=d'::fr'.defers}:=⟨hf.fn,hf.tmps,hf.todo,.cons hd hf.defers (Rg hS),hf.mode,hf.early,hf.round⟩;exact⟨aY _ (dp _ _ _),Rg (Rf ⟨Q,.go _ ρ' R ⟨hf2.finish dG,hc,(show Kd X {fr with defers:=d::fr.defers} {fr' with defers:=d'::fr'.defers} cs' from hkd).finish _ _,⟨Q,Q⟩,⟨Q,Q⟩,Q,Q⟩ ev⟩)⟩
 | @spawn hC d d' hd=>
  simp only[stepG.apply,xb,gI,sn,eU];have e3:SM P.alt fr=SM P fr:=rfl;have hk:RFr P ρ' {(default:Wy)with fn:=P.funcs.size,defers:=[d],mode:=.panicking [Rw]} {(default:Wy)with fn:=P.funcs.size,defers:=[d'],mode:=.panicking [Rw]}:=
   {fn:=rfl,tmps:=RVs.nil,todo:=.nil,defers:=RDs.cons hd RDs.nil (Rg (by rw[hC,Bool.or_true])),mode:=RM.panicking (RPn.cons _ _ dG RPn.nil),early:=⟨Q,Q,by simp[default,instInhabitedFrame.default,instInhabitedCallKind.default]⟩,round:=.none}
  have fin:SR P ρ X w w' (wz E (.spawn {frame:=fr.finish Wo,callers:=cs,status:=Ri,dying:=N} {frame:={(default:Wy)with fn:=P.funcs.size,defers:=[d],mode:=.panicking [Rw]},callers:=[],status:=Ri,dying:=N} u)) (wz E (.spawn {frame:=fr.finish Wo,callers:=cs,status:=Ri,dying:=N} {frame:={(default:Wy)with fn:=P.alt.funcs.size,defers:=[d],mode:=.panicking [Rw]},callers:=[],status:=Ri,dying:=N} u)) (wz E' (.spawn {frame:=fr'.finish Wo,callers:=cs',status:=Ri,dying:=N} {frame:={(default:Wy)with fn:=P.funcs.size,defers:=[d'],mode:=.panicking [Rw]},callers:=[],status:=Ri,dying:=N} u')):=
   .inr (Rf ⟨by rw[hI'.size],.spawn (by rw[<-R.le.F];exact hC) _ ρ' R ⟨hf.finish dG,hc,hkd.finish _ _,⟨Q,Q⟩,⟨Q,Q⟩,Q,Q⟩ ⟨hk,.base,⟨λ_=>Q,λ_=>Q⟩,⟨Q,Q⟩,⟨Q,Q⟩,Q,Q⟩ ev⟩)
  have lost : ∀ (fr : Wy) (u : Wj), Lost (RJ fr "go of nil func value" u) := fun fr u => by unfold RJ dieOf; exact⟨⟨_, _, rfl, rfl, rfl⟩, rfl⟩
  cases hd with
  |odd=>
   simp;exact⟨aY _ (ng _ (.spawn _ _) _),fin⟩
  |mk ht ha=>
   have hs:=ha.size;obtain⟨t,a⟩:=d;obtain⟨t',a'⟩:=d';simp only at hs ht;have e1:a.isEmpty=a'.isEmpty:=by simp[Array.isEmpty,hs]
   cases ht with
   |nil=>
    dsimp only;rw[<-e1,<-(yu hf),e3];have ef:P.alt.follows .goNilFatal=P.follows .goNilFatal:=rfl;rw[ef];by_cases hx:(P.follows .goNilFatal&&Y&&a.isEmpty&&SM P fr)=Y
    simp only[hx,gI];exact⟨lB _ _ ((lost _ _).after _).N7,Rf ⟨(lost _ _).after _,(lost _ _).after _⟩⟩;simp only[hx];exact⟨aY _ (ng _ (.spawn _ _) _),fin⟩
   |_=>
    simp;exact⟨aY _ (ng _ (.spawn _ _) _),fin⟩
theorem rj(p:GId P ρ){ρ'}{u z}(R:Reach ρ ρ' w w' u z)(l:RFr P ρ' f' D){cs}(o:RFs P ρ' X cs l')(k:Kd X f' D l'){a b:Next}(h:RX1 ρ' a b)(c:dT Event){E':dT Event}(hE:∀e∈E',kX ρ' e):
  xT u (λu=>wz c (stepG.apply P Y f' cs N (.pure a) u))/\SR P ρ X w w' (wz c (stepG.apply P Y f' cs N (.pure a) u)) (wz c (stepG.apply P.alt Y f' cs N (.pure a) u)) (wz E' (stepG.apply P Y D l' N (.pure b) z)):=by
 cases h with
 |of h=>exact tK p R l o k h c hE
 | @mk f s a r q m=>
  simp[jg _ _ _ _ _ _ l.todo.Oc.1,jg _ _ _ _ _ _ l.todo.Oc.2];refine⟨aY _ (dp _ _ _),Rg (Rg ⟨f,ρ',a,r,f',D,cs,l',u,z,c++#[],E'++#[],⟨by rw[<-R.le.F];exact s,R,⟨q,m⟩,l,o,k,by simpa using hE,Q,Q,Q⟩⟩)⟩
theorem ky(r:GId P ρ){i}(n:RFr P ρ f' i){cs}(A:RFs P ρ X cs l')(o:Kd X f' i l'){s s':Sem Next}(L:RS P RX1 ρ s s')(d:cz ρ w w')(B:Same w w'):
  SF P ρ X w w' (λu=>stepG.apply P Y f' cs N s u) (λu=>stepG.apply P.alt Y f' cs N s u) (stepG.apply P Y i l' N s' w'):=by
 refine jf (pU L d B (F:=mq P f' cs) (Fa:=mq P.alt f' cs) (F':=mq P i l') ?_ ?_ ?_) (λu=>oW P f' n.early.1 cs s u) (λu=>oW P.alt f' n.early.1 cs s u) (oW P i n.early.2.1 l' s' w');intro h u es y;have key:∀p:Wv,Lost (mq p f' cs (.halt h u) es):=λp=>by
  refine Lost.after ?_ _;cases h with
  |stuck s=>exact trivial
  |unsupported x=>cases x<;>first|exact trivial|simp[fO]at y
  |throw m=>show Lost (RJ f' m u);exact⟨⟨_,_,Q,Q,Q⟩,Q⟩
  |_=>simp[fO]at y
 grind
 intro ρ' u u' a b es q R T t;have⟨D,k2⟩:=rj r R (n.m R.le) (A.m R.le) o T (seen P f'.fn es) (E':=seen P i.fn q) (λe h=>t e (eX h));refine⟨D,?_⟩;show SR P ρ X w w' _ (wz (seen P.alt f'.fn es) (stepG.apply P.alt Y f' cs N (.pure a) u)) _
 rwa [eC r]
 intro ρ' u u' v v' es q R hv t;have V:∀ (p:Wv) (f:Wy) (c:S Wy) (x:Wx) (z:Wj),stepG.apply p Y f c N (.halt (.panic x)) z=.go {frame:=f.raise [{v:=x,recovered:=Z}],callers:=c,status:=Ri,dying:=N} z:=λp f c x z=>by
  have G:∀ (p:Wv) (f:Rm) (k:Rz),seen p f (if k == .early then #[]else #[])=#[]:=λp f k=>by split<;>exact je _ _
  simp only[stepG.apply,xb,gI,G,eU]
 simp[mq,V,vk,eC r];exact⟨aY _ (dp _ _ _),Rg (Rf ⟨Q,.go _ ρ' R ⟨(n.m R.le).Ox hv,A.m R.le,o.raise _ _,⟨Q,Q⟩,⟨Q,Q⟩,Q,Q⟩ (λe h=>t e (eX (by simpa using h)))⟩)⟩
theorem lE(a:cz ρ w w')(d:RFr P ρ f' D){cs b}(j:RFs P ρ X cs b)(f:Kd X f' D b){k h}(i:RIs P ρ k h):
  SF P ρ X w w' (λu=>.go {frame:={f' with todo:=k},callers:=cs,status:=Ri,dying:=N} u) (λu=>.go {frame:={f' with todo:=k},callers:=cs,status:=Ri,dying:=N} u) (.go {frame:={D with todo:=h},callers:=b,status:=Ri,dying:=N} w'):=
 G4 ⟨⟨d.fn,d.tmps,i,d.defers,d.mode,d.early,d.round⟩,j,f,⟨Q,Q⟩,⟨Q,Q⟩,Q,Q⟩ a
omit [Two P]in
theorem BM id{k a}(h:RIs P ρ k a):(exitTo id k=N/\exitTo id a=N)\/∃t b,exitTo id k=J t/\exitTo id a=J b/\RIs P ρ t b:=by
 induction h with
 |nil=>exact Rf ⟨Q,Q⟩
 |cons c hk ih=>
  cases c with
  |inBlock id'=>
   unfold exitTo
   grind
  |_=>exact ih
omit [Two P]in
theorem vq(F:Rm->ey)l:∀ (c d:Code),aP P F c=Y->Ry c l=J d->aP P F d=true:=by
 intro c;induction c with
 |seq a b iha ihb=>
  intro d h e;simp[aP]at h;unfold Ry at e;split at e
  rename_i rest hr;cases e;simp[aP]
  grind
  grind
 |label l'=>
  intro d h e;unfold Ry at e;split at e
  cases e;rfl;cases e
 |_=>intro d h e;simp[Ry]at e
omit [Two P]in
theorem BN l{k c}(h:RIs P ρ k c):(gotoIn l k=N/\gotoIn l c=N)\/∃t d,gotoIn l k=J t/\gotoIn l c=J d/\RIs P ρ t d:=by
 induction h with
 |nil=>exact Rf ⟨Q,Q⟩
 |cons j f ih=>
  cases j with
  | @inScope a e=>
   unfold gotoIn;cases i:Ry a l with
   |none=>exact ih
   |some b=>exact Rg ⟨_,_,Q,Q,.cons (.code (vq _ l a b e i)) (.cons (.inScope e) f)⟩
  |_=>exact ih
end
section
variable {P:Wv} {ρ:Ren} {X:vx Wy×vx Wy} {w w':Wj}
theorem rJ(h:RVs ρ c c')(a:dT Oper):yielded a c=yielded a c':=by
 funext j;unfold yielded;cases(a[j]?).bind (·.dst)with
 |none=>rfl
 |some d=>
  simp;rcases h.get d with⟨b,e⟩|⟨v,f,b,e,i⟩;rw[b,e];rw[b,e];cases i with
  |dead f h=>cases f<;>first|rfl|simp[jA]at h
  |_=>rfl
theorem RPn.drop{V a:S Ro}(h:RPn ρ V a):RPn ρ (V.dropWhile (!·.goexit)) (a.dropWhile (!·.goexit)):=by
 induction h with
 |nil=>exact .nil
 |cons r g h b ih=>
  cases g with
  |true=>exact .cons r Y h b
  |false=>exact ih
theorem RDs.append{a d b c}(h:RDs ρ a d)(k:RDs ρ b c):RDs ρ (a++b) (d++c):=by
 induction h with
 |nil=>exact k
 |cons h _ e ih=>exact .cons h ih e
variable [Two P]
def Base(X:S Wy×S Wy)(fr:Wy)(a:S Wy):Prop:=a=X.2->fr.mode=.run\/fr.defers≠[]
theorem lF(m:ey){ρ'}{u G}(R:Reach ρ ρ' w w' u G){n}(T:RFr P ρ' f' n){cs f}(hc:RFs P ρ' X cs f)(y:Kd X f' n f)(p:f≠X.2){z}(F:RV ρ' v z)(a:dT Event){E':dT Event}(hE:∀e∈E',kX ρ' e):
  xT u (λu=>wz a (doReturn P m f' cs N v u))/\SR P ρ X w w' (wz a (doReturn P m f' cs N v u)) (wz a (doReturn P.alt m f' cs N v u)) (wz E' (doReturn P m n f N z G)):=by
 have j:∀e∈E'++#[],kX ρ' e:=by grind
 have q:=T.early.1;unfold doReturn;rw[<-y.1 (Rf p)];cases hc with
 | @cons c c' l l' b d i=>
  cases k:f'.kind with
  |normal=>exact⟨aY _ (dp _ _ _),Rg (Rf ⟨Q,.go _ ρ' R ⟨b.finish F,i,d.finish _ _,⟨Q,Q⟩,⟨Q,Q⟩,Q,Q⟩ j⟩)⟩
  |wrapped=>exact⟨aY _ (dp _ _ _),Rg (Rf ⟨Q,.go _ ρ' R ⟨b.finish F,i,d.finish _ _,⟨Q,Q⟩,⟨Q,Q⟩,Q,Q⟩ j⟩)⟩
  |early=>rw[k]at q;simp at q
  |_=>
   dsimp only;have D:=b.mode;cases h1:SV _<;>cases V:SV _<;>rw[h1,V]at D<;>cases D
   exact⟨aY _ (dp _ _ _),Rg (Rf ⟨Q,.go _ ρ' R ⟨b,i,d,⟨Q,Q⟩,⟨Q,Q⟩,Q,Q⟩ j⟩)⟩;exact⟨aY _ (dp _ _ _),Rg (Rf ⟨Q,.go _ ρ' R ⟨b,i,d,⟨Q,Q⟩,⟨Q,Q⟩,Q,Q⟩ j⟩)⟩;rename_i L;cases L with
   |nil=>exact⟨aY _ (dp _ _ _),Rg (Rf ⟨Q,.go _ ρ' R ⟨b,i,d,⟨Q,Q⟩,⟨Q,Q⟩,Q,Q⟩ j⟩)⟩
   |cons r g hv2 x=>
    cases r with
    |false=>exact⟨aY _ (dp _ _ _),Rg (Rf ⟨Q,.go _ ρ' R ⟨b,i,d,⟨Q,Q⟩,⟨Q,Q⟩,Q,Q⟩ j⟩)⟩
    |true=>
     dsimp only;have s:=x.drop;generalize UM _ _=A at s ⊢;generalize UM _ _=B at s ⊢;cases s with
     |nil=>exact⟨aY _ (dp _ _ _),Rg (Rf ⟨Q,.go _ ρ' R ⟨⟨b.fn,b.tmps,b.todo,b.defers,.returning,b.early,b.round⟩,i,d,⟨Q,Q⟩,⟨Q,Q⟩,Q,Q⟩ j⟩)⟩
     |cons r g h t=>exact⟨aY _ (dp _ _ _),Rg (Rf ⟨Q,.go _ ρ' R ⟨⟨b.fn,b.tmps,b.todo,b.defers,.panicking (.cons r g h t),b.early,b.round⟩,i,d,⟨Q,Q⟩,⟨Q,Q⟩,Q,Q⟩ j⟩)⟩
 |base=>exact eW Q p
theorem oX(hI:GId P ρ)(m:ey)(hf:RFr P ρ fr fr'){cs cs':vx Wy}(hc:RFs P ρ X cs cs')(hkd:Kd X fr fr' cs')(hin:cs'≠X.2)(S:cz ρ w w')(hd:Same w w'){l l'}(hl:ρ l l')(j:eV Code)(hj:∀c,j=some c->aP ρ.prog ρ.F c=true):
    SF P ρ X w w' (fun u=>wz (seen P fr.fn ((Ti l j).runT P u #[]).2) (match ((Ti l j).runT P u #[]).1 with
        | .ok v w=>doReturn P m fr cs N v w
        | .halt _ w => .ended (.stuck "range over a function: no such loop" (fr.pos P)) w))
      (λu=>wz (seen P.alt fr.fn ((Ti l j).runT P.alt u #[]).2) (match((Ti l j).runT P.alt u #[]).1 with
        | .ok v w=>doReturn P.alt m fr cs N v w
        | .halt _ w => .ended (.stuck "range over a function: no such loop" (fr.pos P.alt)) w))
      (wz (seen P fr'.fn ((Ti l' j).runT P w' #[]).2) (match((Ti l' j).runT P w' #[]).1 with
        | .ok v w=>doReturn P m fr' cs' N v w
        | .halt _ w => .ended (.stuck "range over a function: no such loop" (fr'.pos P)) w)) := by
  refine pU (yh hl j hj) S hd (F := fun r es => wz (seen P fr.fn es) (match r with
        | .ok v w=>doReturn P m fr cs N v w
        | .halt _ w => .ended (.stuck "range over a function: no such loop" (fr.pos P)) w)) (Fa := fun r es => wz (seen P.alt fr.fn es) (match r with
        | .ok v w=>doReturn P.alt m fr cs N v w
        | .halt _ w => .ended (.stuck "range over a function: no such loop" (fr.pos P.alt)) w)) (F' := fun r es => wz (seen P fr'.fn es) (match r with
        | .ok v w=>doReturn P m fr' cs' N v w
        | .halt _ w => .ended (.stuck "range over a function: no such loop" (fr'.pos P)) w)) ?_ ?_ ?_
  exactλh u es hn=>⟨trivial,trivial⟩
  intro ρ' u u' a b es es' R hq he;have:=lF m R (hf.m R.le) (hc.m R.le) hkd hin hq (seen P fr.fn es) (E':=seen P fr'.fn es') (λe h=>he e (eX h))
  rwa [eC hI]
  exactλρ' u u' v v' es es' R hv he=>⟨lB _ _ (Lost.N7 (Lost.after (x:=.ended _ _) trivial _)),Rf ⟨trivial,trivial⟩⟩
theorem rK p f l(cs:dT Rq)(b:ey)(s:Rr)u:stepG.apply p Y f l N (.pure (.comm cs b s)) u=.comm {frame:=f,callers:=l,status:=Ri,dying:=N} cs b s u #[]:=by
 have a:∀ (p:Wv) (f:Rm) (k:Rz),seen p f (if k == .early then #[]else #[])=#[]:=λp f k=>by split<;>exact je _ _
 simp only[stepG.apply,xb,gI,a,eU]
theorem J7(hZ:cC P)(hE:iH P ρ.F)(hN:cJ P)(hI:GId P ρ)(hf:RFr P ρ fr fr'){cs cs':vx Wy}(hc:RFs P ρ X cs cs')(hkd:Kd X fr fr' cs')(S:cz ρ w w')(hd:Same w w')
  (hmo:∀ (p:Wv) m v,stepG p m {frame:=fr,callers:=cs,status:=Ri,dying:=N} v=stepG.oper p Y fr cs N v) (hmo':∀ (p:Wv) m v,stepG p m {frame:=fr',callers:=cs',status:=Ri,dying:=N} v=stepG.oper p Y fr' cs' N v):
  SF P ρ X w w' (λu=>stepG.oper P Y fr cs N u) (λu=>stepG.oper P.alt Y fr cs N u) (stepG.oper P Y fr' cs' N w'):=by
 unfold stepG.oper;have ht:=hf.todo;have ho:fr.oper?=fr'.oper?/\∀o,fr.oper?=J o->iD P ρ.F o.op=true:=by
  unfold SU;generalize fr.todo=td at ht;generalize fr'.todo=td' at ht;cases ht with
  |nil=>exact⟨rfl,λo h=>by simp at h⟩
  |cons hi hk=>
   cases hi with
   | @inRegion ops l hall=>
    grind
   |_=>exact⟨rfl,λo h=>by simp at h⟩
 obtain⟨ho1,ho2⟩:=ho;rw[<-ho1];cases hx:fr.oper? with
 |none=>exact lq trivial trivial
 |some o=>
  have hok:=ho2 o hx;by_cases hcm:Jr o.op=Y
  have hgo:RGo P ρ X {frame:=fr,callers:=cs,status:=Ri,dying:=N} {frame:=fr',callers:=cs',status:=Ri,dying:=N}:=⟨hf,hc,hkd,⟨rfl,rfl⟩,⟨rfl,rfl⟩,rfl,rfl⟩;have hx':fr'.oper?=J o:=by rw[<-ho1];exact hx
  have hxo:=hx';cases hop:o.op with
  |send c x=>
   rw[hop]at hok;simp[iD]at hok;have e1:∀ (p:Wv) (f:Wy) (l:vx Wy) (u:Wj),f.oper?=J o->stepG.oper p Y f l N u=.comm {frame:=f,callers:=l,status:=Ri,dying:=N} #[{chan:=f.eval c,send:=J (f.eval x),zero:=Re #[]}] Y .send u #[]:=λp f l u h=>by
    have e2:Ru f.eval o=.pure (.comm #[{chan:=f.eval c,send:=J (f.eval x),zero:=Re #[]}] Y .send):=by unfold Ru;rw[hop];rfl
    unfold stepG.oper;rw[h];simp[hop,e2];cases f.roundOf<;>exact rK p f l _ _ _ u
   have he:=hf.env hI;refine jf (g:=λu=>.comm {frame:=fr,callers:=cs,status:=Ri,dying:=N} _ Y .send u #[]) (ga:=λu=>.comm {frame:=fr,callers:=cs,status:=Ri,dying:=N} _ Y .send u #[]) ⟨ng _ (.comm _ _ _ _) _,Rg (Rf ⟨rfl,.comm ⟨λ_=>hok.1.1,λh=>by cases h⟩ .send (Rf ⟨rfl,rfl⟩) ⟨rfl,rfl⟩ _ ρ (Reach.refl S) hgo ⟨he c hok.1.2,Rg ⟨_,_,rfl,rfl,he x hok.2⟩,dG⟩ (λe h=>eW h (SE e)) ⟨λm v=>(hmo P m v).t (e1 P fr cs v hx),λm v=>(hmo P.alt m v).t (e1 P.alt fr cs v hx),λm v=>(hmo' P m v).t (e1 P fr' cs' v hx')⟩⟩)⟩ (λu=>?_) (λu=>?_) ?_;have:=e1 P fr cs u hx;unfold stepG.oper at this;rw[hx]at this;exact this;have:=e1 P.alt fr cs u hx;unfold stepG.oper at this;rw[hx]at this;exact this;have:=e1 P fr' cs' w' hx';unfold stepG.oper at this;rw[hx']at this;exact this
  |recv t c ok=>
   rw[hop]at hok;have hok0:=hok;simp[iD]at hok;by_cases hz:∃dir elem i z,P.underlying t=J (.chan dir elem)/\P.info? elem=J i/\i.zero=J z
   obtain⟨dir,elem,i,z,hu,hi,hzz⟩:=hz;have e2:∀ (p:Wv) (f:Wy) (u:Wj),p.underlying t=P.underlying t->p.info? elem=P.info? elem->(Ru f.eval o).runT p u #[]=(.ok (.comm #[{chan:=f.eval c,send:=N,zero:=z}] Y (.recv ok)) u,#[]):=λp f u h1 h2=>by
    unfold Ru;rw[hop];have a1:∀ {α:Type} (k:RG->Sem α) (es:dT Event),(xt (underlying t) k).runT p u es=(k (.chan dir elem)).runT p u es:=λk es=>by
     have:=h1.t hu
     show xb p (xt (match p.underlying t with | some d => Tf d | none => stuck "no such type") k) u es = _
     rw[this];rfl
    have a2:∀ {α:Type} (k:Wx->Sem α) (es:dT Event),(xt (zeroValue elem) k).runT p u es=(k z).runT p u es:=λk es=>by
     have:=h2.t hi
     show xb p (xt (xt (match p.info? elem with | some i => Tf i | none => stuck "no such type") (fun i => match i.zero with | some v => Tf v | none => unsupported (.resourceLimit "a value of more than 2^22 cells"))) k) u es = _
     rw[this]
     show xb p (xt (match i.zero with | some v => Tf v | none => unsupported (.resourceLimit "a value of more than 2^22 cells")) k) u es = _
     rw[hzz];rfl
    exact(a1 _ _).t ((a2 _ _).t rfl)
   have e1:∀ (p:Wv) (f:Wy) (l:vx Wy) (u:Wj),p.underlying t=P.underlying t->p.info? elem=P.info? elem->(f.kind == .early)=Z->f.oper?=J o->stepG.oper p Y f l N u=.comm {frame:=f,callers:=l,status:=Ri,dying:=N} #[{chan:=f.eval c,send:=N,zero:=z}] Y (.recv ok) u #[]:=λp f l u h1 h2 hk h=>by
    unfold stepG.oper;rw[h];simp[hop];have e3:stepG.apply p Y f l N (Ru f.eval o) u=.comm {frame:=f,callers:=l,status:=Ri,dying:=N} #[{chan:=f.eval c,send:=N,zero:=z}] Y (.recv ok) u #[]:=by
     rw[oW p f hk l (Ru f.eval o) u,e2 p f u h1 h2];simp[mq,je,eU];exact rK p f l _ _ _ u
    cases f.roundOf<;>exact e3
   refine jf (g:=λu=>.comm {frame:=fr,callers:=cs,status:=Ri,dying:=N} _ Y (.recv ok) u #[]) (ga:=λu=>.comm {frame:=fr,callers:=cs,status:=Ri,dying:=N} _ Y (.recv ok) u #[]) ⟨ng _ (.comm _ _ _ _) _,Rg (Rf ⟨rfl,.comm ⟨(λh=>by cases h),λ_=>hok.1⟩ (.recv ok) (Rg ⟨rfl,_,rfl⟩) ⟨rfl,rfl⟩ _ ρ (Reach.refl S) hgo ⟨(hf.env hI) c hok.2,Rf ⟨rfl,rfl⟩,hZ elem i z hi hzz ρ⟩ (λe h=>eW h (SE e)) ⟨λm v=>(hmo P m v).t (e1 P fr cs v rfl rfl hf.early.1 hx),λm v=>(hmo P.alt m v).t (e1 P.alt fr cs v rfl rfl hf.early.1 hx),λm v=>(hmo' P m v).t (e1 P fr' cs' v rfl rfl hf.early.2.1 hx')⟩⟩)⟩ (λu=>?_) (λu=>?_) ?_;have:=e1 P fr cs u rfl rfl hf.early.1 hx;unfold stepG.oper at this;rw[hx]at this;exact this;have:=e1 P.alt fr cs u rfl rfl hf.early.1 hx;unfold stepG.oper at this;rw[hx]at this;exact this;have:=e1 P fr' cs' w' rfl rfl hf.early.2.1 hx';unfold stepG.oper at this;rw[hx']at this;exact this;have hrs:RS P RX1 ρ (Ru fr.eval o) (Ru fr'.eval o):=by
    unfold Ru;rw[hop];refine am (bu t) (λρ1 l1 d d' hd=>?_);obtain⟨rfl,hd⟩:=hd;cases d with
    |chan dir elem=>
     refine am (Q:=QN) ?_ (λ_ _ _ _ h=>h.elim);unfold zeroValue;refine am (cI elem) (λρ2 l2 a b h=>?_);obtain⟨rfl,hi⟩:=h;cases hz':a.zero with
     |none=>exact an _
     |some z=>exact eW ⟨dir,elem,a,z,hd,hi,hz'⟩ hz
    |_=>exact ah _
   simp[hop];cases fr.roundOf<;>cases fr'.roundOf<;>exact ky hI hf hc hkd hrs S hd
  |_=>rw[hop]at hcm;cases hcm
  have hgen:=ky hI hf hc hkd (DM hZ hE hN hI (hf.env hI) (λ_=>rfl) (λ_=>rfl) (DN fr) o hok (by simpa using hcm)) S hd;have hr:=hf.round;dsimp only;generalize hq:fr.roundOf=r at hr;generalize hq':fr'.roundOf=r' at hr;cases hr with
  |none=>exact hgen
  | @some l l' hl=>
   cases hop:o.op with
   |defer c=>
    dsimp only;rw[hop]at hok;simp only[iD]at hok;rw[bT]at hok;refine ky hI hf hc hkd (am (kx hI (hf.env hI) c hok.2 o.type) (λρ1 l1 d d' hd=>am (pP (l1 _ _ hl) (by rw[l1.F];exact hok.1) hd) (λρ2 l2 _ _ _=>ae (.of .skip)))) S hd
   |_=>exact hgen
theorem J8(hZ:cC P)(hE:iH P ρ.F)(hN:cJ P)(hI:GId P ρ)(m:ey)(hf:RFr P ρ fr fr'){cs cs':vx Wy}(hc:RFs P ρ X cs cs')(hkd:Kd X fr fr' cs')(_hin:Base X fr cs')(S:cz ρ w w')(hd:Same w w')(hm:fr.mode=.run/\fr'.mode=.run):
  SF P ρ X w w' (λu=>stepG.exec P m Y fr cs N u) (λu=>stepG.exec P.alt m Y fr cs N u) (stepG.exec P m Y fr' cs' N w'):=by
 have hret:SF P ρ X w w' (λu=>.go {frame:={fr with mode:=.returning},callers:=cs,status:=Ri,dying:=N} u) (λu=>.go {frame:={fr with mode:=.returning},callers:=cs,status:=Ri,dying:=N} u) (.go {frame:={fr' with mode:=.returning},callers:=cs',status:=Ri,dying:=N} w'):=
  G4 ⟨⟨hf.fn,hf.tmps,hf.todo,hf.defers,.returning,hf.early,hf.round⟩,hc,hkd,⟨rfl,rfl⟩,⟨rfl,rfl⟩,rfl,rfl⟩ S
 have hlv:∀ (l l':H),fr.roundOf=J l->fr'.roundOf=J l'->ρ l l':=λl l' h1 h2=>by
  have hr:=hf.round;rw[h1,h2]at hr;cases hr with
  |some h=>exact h
 have hrr:(fr.roundOf=N/\fr'.roundOf=N)\/∃l l',fr.roundOf=J l/\fr'.roundOf=J l'/\ρ l l':=by
  have hr:=hf.round;generalize fr.roundOf=r at hr ⊢;generalize fr'.roundOf=r' at hr ⊢;cases hr with
  |none=>exact Rf ⟨rfl,rfl⟩
  |some h=>exact Rg ⟨_,_,rfl,rfl,h⟩
 have hne:∀ {l:H},fr.roundOf=J l->cs'≠X.2:=fun{l} h e=>by rw[hkd.2 e]at h;cases h
 have ht:=hf.todo;unfold stepG.exec;generalize hx:fr.todo=td at ht;generalize hx':fr'.todo=td' at ht;cases ht with
 |nil=>
  simp only[];rcases hrr with⟨r1,r2⟩|⟨l,l',r1,r2,hl⟩;simp[hx,hx',r1,r2]at hret ⊢;exact hret;simp only[r1,r2];exact oX hI m hf hc hkd (hne r1) S hd hl N (λc e=>by cases e)
 |cons hi hk=>
  cases hi with
  |inBlock id=>simp;exact lE S hf hc hkd hk
  |inLoop hb=>simp;exact lE S hf hc hkd (.cons (.code hb) (.cons (.inLoop hb) hk))
  |inScope hb=>simp;exact lE S hf hc hkd hk
  |inRangeFunc hl=>simp;exact lq trivial trivial
  | @endRangeFunc l l' hl=>
   rename_i k k';simp only[];refine pU (BE hl) S hd (F:=λr es=>wz (seen P fr.fn es) (match r with
    | .ok jump w=>.go {frame:={fr with todo:=(jump.map Item.code).toList++_},callers:=cs,status:=Ri,dying:=N} w
    | .halt (.panic v) w=>.go {frame:=fr.raise [{v,recovered:=Z}],callers:=cs,status:=Ri,dying:=N} w
    | .halt _ w => .ended (.stuck "range over a function: no such loop" (fr.pos P)) w)) (Fa := fun r es => wz (seen P.alt fr.fn es) (match r with
    | .ok jump w=>.go {frame:={fr with todo:=(jump.map Item.code).toList++_},callers:=cs,status:=Ri,dying:=N} w
    | .halt (.panic v) w=>.go {frame:=fr.raise [{v,recovered:=Z}],callers:=cs,status:=Ri,dying:=N} w
    | .halt _ w => .ended (.stuck "range over a function: no such loop" (fr.pos P.alt)) w)) (F' := fun r es => wz (seen P fr'.fn es) (match r with
    | .ok jump w=>.go {frame:={fr' with todo:=(jump.map Item.code).toList++_},callers:=cs',status:=Ri,dying:=N} w
    | .halt (.panic v) w=>.go {frame:=fr'.raise [{v,recovered:=Z}],callers:=cs',status:=Ri,dying:=N} w
    | .halt _ w => .ended (.stuck "range over a function: no such loop" (fr'.pos P)) w)) ?_ ?_ ?_
   intro h u es hn;have key:∀q:Wv,Lost (wz (seen q fr.fn es) (match(Result.halt h u:Result (eV Code))with
    | .ok jump w=>.go {frame:={fr with todo:=(jump.map Item.code).toList++k},callers:=cs,status:=Ri,dying:=N} w
    | .halt (.panic v) w=>.go {frame:=fr.raise [{v,recovered:=Z}],callers:=cs,status:=Ri,dying:=N} w
    | .halt _ w => .ended (.stuck "range over a function: no such loop" (fr.pos q)) w)) := fun q => by
    cases h<;>first|exact trivial|simp[fO]at hn
   exact⟨key P,key P.alt⟩;intro ρ' u u' a b es es' R hq he;obtain⟨rfl,hq⟩:=hq;dsimp only;rw[eC hI];refine⟨aY _ (dp _ _ _),Rg (Rf ⟨rfl,.go _ ρ' R ⟨⟨hf.fn,hf.tmps.m R.le,?_,hf.defers.m R.le,hf.mode.m R.le,hf.early,hf.round.m R.le⟩,hc.m R.le,hkd,⟨rfl,rfl⟩,⟨rfl,rfl⟩,rfl,rfl⟩ (λe h=>he e (eX (by simpa using h)))⟩)⟩;cases a with
   |none=>exact hk.m R.le
   |some c=>
    have:=hq c rfl;rw[R.le.prog,hI.prog]at this;exact .cons (.code this) (hk.m R.le)
   intro ρ' u u' v v' es es' R hv he;dsimp only;rw[eC hI];exact⟨aY _ (dp _ _ _),Rg (Rf ⟨rfl,.go _ ρ' R ⟨(hf.m R.le).Ox hv,hc.m R.le,hkd.raise _ _,⟨rfl,rfl⟩,⟨rfl,rfl⟩,rfl,rfl⟩ (λe h=>he e (eX (by simpa using h)))⟩)⟩
  |beginRound=>
   simp;rcases hrr with⟨r1,r2⟩|⟨l,l',r1,r2,hl⟩;simp[r1];exact ky hI hf hc hkd (am (Q:=QU) (ah _) (λρ1 l1 _ _ _=>ae (.of .skip))) S hd;simp[r1,r2];exact ky hI hf hc hkd (am (tG hl) (λρ1 l1 _ _ _=>ae (.of .skip))) S hd
  |regionEnd a b=>simp;exact lE S hf hc hkd hk
  | @inRegion ops l ho=>
   cases l with
   |nil=>simp;exact lE S hf hc hkd hk
   |cons i l=>
    simp;rw[<-rJ hf.tmps ops];by_cases hw:((ops[i]?).map (Region.wanted · (yielded ops fr.tmps))).getD Z=Y
    simp[hw];exact J7 hZ hE hN hI hf hc hkd S hd (λp m v=>by simp[stepG,hm.1,stepG.exec,hx,hw]) (λp m v=>by simp[stepG,hm.2,stepG.exec,hx',<-(rJ hf.tmps ops),hw]);simp[hw];exact G4 ⟨hf.finish dG,hc,hkd.finish _ _,⟨rfl,rfl⟩,⟨rfl,rfl⟩,rfl,rfl⟩ S
  | @code c hcd=>
   cases c with
   |skip=>simp;exact lE S hf hc hkd hk
   |label l=>simp;exact lE S hf hc hkd hk
   |seq a b=>simp;simp[aP]at hcd;exact lE S hf hc hkd (.cons (.code hcd.1) (.cons (.code hcd.2) hk))
   |block id b=>simp;exact lE S hf hc hkd (.cons (.code hcd) (.cons (.inBlock id) hk))
   |loop b=>simp;exact lE S hf hc hkd (.cons (.code hcd) (.cons (.inLoop hcd) hk))
   |scope b=>simp;exact lE S hf hc hkd (.cons (.code hcd) (.cons (.inScope hcd) hk))
   |cond c a b=>
    simp[aP]at hcd;have hv:=hf.env hI c hcd.1.1;simp;generalize SW fr c=v at hv ⊢;generalize SW fr' c=v' at hv ⊢;cases hv with
    |bool x=>
     refine lE S hf hc hkd (.cons (.code ?_) hk);cases x;exact hcd.2;exact hcd.1.2
    |_=>exact lq trivial trivial
   |rangeFunc f ps a b=>
    simp[aP]at hcd;simp only[];rename_i k k';have call_eq:∀ (e:Operand->Wx) (l:H),resolve e {callee:=.value f,args:=#[.const (.func (.yield l) #[] #[])],argTypes:=#[]} 0=UP (e f) #[e (.const (.func (.yield l) #[] #[]))]:=λe l=>by simp[resolve]
    have hrs:RS P QEn ρ (Tn fr.fn fr.tmps ps a b fr.roundOf) (Tn fr'.fn fr'.tmps ps a b fr'.roundOf):=by
     rw[<-hf.fn];exact uX fr.fn hf.tmps ps a b (by rw[hI.prog];exact hcd.1.2) (by rw[hI.prog];exact hcd.2) hf.round
    refine pU hrs S hd (F:=λr es=>wz (seen P fr.fn es) (match r with
     | .ok (l,mark) w=>stepG.apply P Y {fr with todo:=.inRangeFunc l::k,defers:=mark++fr.defers} cs N (do
       let d <-resolve ({fr with todo:=.inRangeFunc l::k,defers:=mark++fr.defers}:Wy).eval {callee:=.value f,args:=#[.const (.func (.yield l) #[] #[])],argTypes:=#[]} 0
       invoke d.target d.args) w
     | .halt _ w => .ended (.stuck "range over a function: no such loop" (fr.pos P)) w)) (Fa := fun r es => wz (seen P.alt fr.fn es) (match r with
     | .ok (l,mark) w=>stepG.apply P.alt Y {fr with todo:=.inRangeFunc l::k,defers:=mark++fr.defers} cs N (do
       let d <-resolve ({fr with todo:=.inRangeFunc l::k,defers:=mark++fr.defers}:Wy).eval {callee:=.value f,args:=#[.const (.func (.yield l) #[] #[])],argTypes:=#[]} 0
       invoke d.target d.args) w
     | .halt _ w => .ended (.stuck "range over a function: no such loop" (fr.pos P.alt)) w)) (F' := fun r es => wz (seen P fr'.fn es) (match r with
     | .ok (l,mark) w=>stepG.apply P Y {fr' with todo:=.inRangeFunc l::k',defers:=mark++fr'.defers} cs' N (do
       let d <-resolve ({fr' with todo:=.inRangeFunc l::k',defers:=mark++fr'.defers}:Wy).eval {callee:=.value f,args:=#[.const (.func (.yield l) #[] #[])],argTypes:=#[]} 0
       invoke d.target d.args) w
     | .halt _ w => .ended (.stuck "range over a function: no such loop" (fr'.pos P)) w)) ?_ ?_ ?_
    intro h u es hn;exact⟨trivial,trivial⟩;intro ρ' u u' x y es es' R hq he;obtain⟨l,mark⟩:=x;obtain⟨l',mark'⟩:=y;obtain⟨hl,hmk⟩:=hq;simp only at hl hmk;dsimp only;rw[eC hI];have hI':=hI.m R.le;have hf1:=hf.m R.le;have hf2:RFr P ρ' {fr with todo:=.inRangeFunc l::k,defers:=mark++fr.defers} {fr' with todo:=.inRangeFunc l'::k',defers:=mark'++fr'.defers}:=
     ⟨hf1.fn,hf1.tmps,.cons (.inRangeFunc hl) (hk.m R.le),hmk.append hf1.defers,hf1.mode,hf1.early,hf1.round⟩
    have key:=ky (s:=do
      let d <-resolve ({fr with todo:=.inRangeFunc l::k,defers:=mark++fr.defers}:Wy).eval {callee:=.value f,args:=#[.const (.func (.yield l) #[] #[])],argTypes:=#[]} 0
      invoke d.target d.args) (s':=do
      let d <-resolve ({fr' with todo:=.inRangeFunc l'::k',defers:=mark'++fr'.defers}:Wy).eval {callee:=.value f,args:=#[.const (.func (.yield l') #[] #[])],argTypes:=#[]} 0
      invoke d.target d.args) hI' hf2 (hc.m R.le) hkd (am (Q:=λρ d d'=>RD ρ d d') (by rw[call_eq,call_eq];exact rD (hf2.env hI' f (by rw[R.le.F];exact hcd.1.1)) (RVs.nil.push (.func (.yield hl) rfl rfl (λi v v' h=>by simp at h) (λi v v' h=>by simp at h)))) (λρ1 l1 d d' hd=>(nf hZ (by rw[l1.F];exact(by rw[R.le.F];exact hE)) hN (hI'.m l1) hd).imp (λ_ _ _ k=>.of k))) R.NG (R.same hd)
    exact⟨aY _ key.PO,(key.rel.after (seen P fr.fn es) (E':=seen P fr'.fn es') (λρ2 l2 e h=>(he e (eX h)).m l2)).t R⟩;exactλρ' u u' v v' es es' R hv he=>⟨lB _ _ (Lost.N7 (Lost.after (x:=.ended _ _) trivial _)),Rf ⟨trivial,trivial⟩⟩
   |refuse why=>simp;exact lq trivial trivial
   |ret=>
    simp only[];rcases hrr with⟨r1,r2⟩|⟨l,l',r1,r2,hl⟩;simp[hx,hx',r1,r2]at hret ⊢;exact hret;simp only[r1,r2];exact oX hI m hf hc hkd (hne r1) S hd hl (J .ret) (λc e=>by cases e;rfl)
   |exit id=>
    simp only[];rcases BM id hk with⟨h1,h2⟩|⟨t,t',h1,h2,h3⟩;simp only[h1,h2,eV.elim];rcases hrr with⟨r1,r2⟩|⟨l,l',r1,r2,hl⟩;simp[r1];exact lq trivial trivial;simp only[r1,r2];exact oX hI m hf hc hkd (hne r1) S hd hl (J (.exit id)) (λc e=>by cases e;rfl);simp[h1,h2];exact lE S hf hc hkd h3
   |goto l0=>
    simp only[];rcases BN l0 hk with⟨h1,h2⟩|⟨t,t',h1,h2,h3⟩;simp only[h1,h2,eV.elim];rcases hrr with⟨r1,r2⟩|⟨l,l',r1,r2,hl⟩;simp[r1];exact lq trivial trivial;simp only[r1,r2];exact oX hI m hf hc hkd (hne r1) S hd hl (J (.goto l0)) (λc e=>by cases e;rfl);simp[h1,h2];exact lE S hf hc hkd h3
   |region id ops draw=>
    simp only[];cases draw with
    |false=>simp;exact lE S hf hc hkd (.cons (.inRegion _ hcd) hk)
    |true=>
     simp;rename_i k k';refine jf (pU (gF (.order fr.fn id)) S hd (F:=λr _=>match r with
      | .ok t w=>.go {frame:={fr with todo:=.inRegion ops (UQ (P.follows .mixedOrders) ops t)::k},callers:=cs,status:=Ri,dying:=N} w
      | .halt _ w => .ended (.stuck "order" (fr.pos P)) w) (Fa := fun r _ => match r with
      | .ok t w=>.go {frame:={fr with todo:=.inRegion ops (UQ (P.alt.follows .mixedOrders) ops t)::k},callers:=cs,status:=Ri,dying:=N} w
      | .halt _ w => .ended (.stuck "order" (fr.pos P.alt)) w) (F' := fun r _ => match r with
      | .ok t w=>.go {frame:={fr' with todo:=.inRegion ops (UQ (P.follows .mixedOrders) ops t)::k'},callers:=cs',status:=Ri,dying:=N} w
      | .halt _ w => .ended (.stuck "order" (fr'.pos P)) w) ?_ ?_ ?_) (fun u => ?_) (fun u => ?_) ?_
     intro h u es hn;exact⟨trivial,trivial⟩;intro ρ' u u' x y es es' R hq he;cases hq;exact⟨dp _ _ _,Rg (Rf ⟨rfl,.go _ ρ' R ⟨⟨hf.fn,hf.tmps.m R.le,.cons (.inRegion _ (by rw[R.le.F];exact hcd)) (hk.m R.le),hf.defers.m R.le,hf.mode.m R.le,hf.early,hf.round.m R.le⟩,hc.m R.le,hkd,⟨rfl,rfl⟩,⟨rfl,rfl⟩,rfl,rfl⟩ (λe h=>by simp at h)⟩)⟩;exactλρ' u u' v v' es es' R hv he=>⟨lB _ _ (Lost.N7 (x:=.ended _ _) trivial),Rf ⟨trivial,trivial⟩⟩
     simp;rfl;simp;rfl;simp[hf.fn];rfl
end
section
variable {P:Wv} [Two P] {ρ:Ren} {X:vx Wy×vx Wy} {w w':Wj}
theorem G5:∀ (l:S α){ρ:Ren}(f d:α->Sem Wx),(∀ρ',ρ.le ρ'->∀a,RS P QV ρ' (f a) (d a))->RS P (λρ x y=>RVs ρ x.toArray y.toArray) ρ (l.mapM f) (l.mapM d):=by
 intro l;induction l with
 |nil=>intro ρ f d _;exact ae RVs.nil
 |cons x l ih=>
  intro ρ f d j;simp;refine am (j ρ (Ren.le_refl _) x) (λρ1 n b b' q=>(am (ih f d (λρ' p=>j ρ' (Ren.le_trans n p))) (λρ2 o bs bs' c=>ae ⟨by simpa using c.size,λi v k h e=>?_⟩)));cases i with
  |zero=>simp at h e;subst h;subst e;exact q.m o
  |succ i=>exact c.at_ i v k (by simpa using h) (by simpa using e)
theorem rL(fn:Func){j:dT Wx}(h:RVs ρ c' j):RS P QV ρ (results fn c') (results fn j):=by
 unfold results;rw[Sn,Sn];refine am (Q:=QVs) (am (G5 _ _ _ (λρ' l r=>?_)) (λb n x y e=>ae e)) (λb n v i c=>ae ?_);cases r with
 |tmp c'=>exact ae ((h.m l).getD c')
 |cell a c'=>exact am (uT ((h.m l).getD a)) (λρ2 l2 x x' o=>ry c' o)
 show RV b _ _;have k:=c.size;by_cases d:v.size=1
 have f:i.size=1:=by rw[<-k];exact d
 simp[d,f];exact c.at_ 0 _ _ (eG (by omega)) (eG (by omega));have f:¬i.size=1:=by rw[<-k];exact d
 simp[d,f];exact .tuple c.size c.at_
omit [Two P]in
theorem fX{b:Wy}{cs:S Wy}{z u:Wj}{a:Next}{es:dT Event}{g:Wk}(j:((d'.target matches .nil)&&(b.mode matches .panicking _))=Z)(h:(invoke d'.target d'.args).runT p z #[]=(.ok a u,es))
  (e:match a with
   | .enter f c=>g={frame:=SK p f c .deferred,callers:=b::cs,status:=Ri,dying:=N}
   | .round l f t x y=>g={frame:=SN l f t x y .deferred,callers:=b::cs,status:=Ri,dying:=N}
   | .value _| .skip| .defer _| .spawn _| .comm _ _ _=>g={frame:=b,callers:=cs,status:=Ri,dying:=N}
   |_=>nF):callDeferred p b cs N d' z=.go g u (seen p b.fn es):=by
 refine(lk (λi=>eW (i.s.t j) (by decide))).t ?_;simp only[h];cases a<;>first|exact e.elim|(subst e;simp[wz])
omit [Two P]in
theorem tM{a:Wy}{cs:S Wy}{z q:Wj}{es:dT Event}(c:((d'.target matches .nil)&&(a.mode matches .panicking _))=Z)(h:(invoke d'.target d'.args).runT p z #[]=(.halt (.panic v) q,es)):callDeferred p a cs N d' z=.go {frame:=a.raise [{v,recovered:=Z}],callers:=cs,status:=Ri,dying:=N} q (seen p a.fn es):=by
 refine(lk (λb=>eW (b.s.t c) (by decide))).t ?_;simp only[h];simp[wz]
omit [Two P]in
theorem DP{a}{cs}{z q}{x:Halt}{es:dT Event}(c:fO x=Y)(h:(invoke d'.target d'.args).runT p z #[]=(.halt x q,es)):Lost (callDeferred p a cs N d' z):=by
 by_cases b:((d'.target matches .nil)&&(a.mode matches .panicking _))=Y
 have e:∃o,callDeferred p a cs N d' z=.ended o z:=⟨_,by unfold callDeferred;exact sq b⟩;obtain⟨o,e⟩:=e;rw[e];exact trivial;unfold callDeferred;refine Eq.mpr (kr Lost (lk b)) ?_;simp only[h];cases x with
 |stuck s=>exact trivial
 |unsupported x=>exact trivial
 |throw m=>show Lost (RJ a m q);exact⟨⟨_,_,Q,Q,Q⟩,Q⟩
 |_=>simp[fO]at c
theorem jJ(hZ:cC P)(hE:iH P ρ.F)(hN:cJ P)(V:GId P ρ){n}(hf:RFr P ρ f' n){cs}(hc:RFs P ρ X cs L)(B:Kd X f' n L){d:Deferred}(ab:RD ρ d d')(c:cz ρ w w')(hd:Same w w'):
  SF P ρ X w w' (λu=>callDeferred P f' cs N d u) (λu=>callDeferred P.alt f' cs N d u) (callDeferred P n L N d' w'):=by
 have hx:((d.target matches .nil)&&(f'.mode matches .panicking _))=((d'.target matches .nil)&&(n.mode matches .panicking _)):=by
  have h2:=hf.mode;generalize f'.mode=m at h2 ⊢;generalize n.mode=m' at h2 ⊢;cases ab with
  |mk h1 _=>
   generalize d.target=t at h1 ⊢;generalize d'.target=t' at h1 ⊢;cases h1<;>cases h2<;>rfl
  |odd=>cases h2<;>rfl
 by_cases hn:((d.target matches .nil)&&(f'.mode matches .panicking _))=Y
 refine lq ?_ ?_;have e:∃o,callDeferred P f' cs N d w=.ended o w:=⟨_,by unfold callDeferred;exact sq hn⟩;obtain⟨o,e⟩:=e;simp[e];exact trivial;have e:∃o,callDeferred P.alt f' cs N d w=.ended o w:=⟨_,by unfold callDeferred;exact sq hn⟩;obtain⟨o,e⟩:=e;simp[e];exact trivial;have i:((d.target matches .nil)&&(f'.mode matches .panicking _))=false:=by grind
 have D:=hx.s.t i;refine J6 (nf hZ hE hN V ab) c hd ?_ ?_ ?_;exactλh u es aa=>⟨λhr=>DP aa hr,λhr=>DP aa hr⟩
 intro ρ' u u' a b es ac R hq he r;have T:=V.m R.le;have G:=hf.m R.le;have A:=hc.m R.le;have ev:∀e∈seen P n.fn ac,kX ρ' e:=λe h=>he e (eX h)
 cases hq with
 | @enter f hF a a' ha=>
  refine⟨.go {frame:=SK P f a .deferred,callers:=f'::cs,status:=Ri,dying:=N},seen P f'.fn es,λz v k=>fX i k Q,λz v k=>?_,?_⟩;rw[fX (p:=P.alt) i k Q,eC V,vg T f hF];rfl;rw[fX D r Q];exact .go _ ρ' R ⟨RFr.enter T f hF _ Q (by simp) ha,.cons G B A,Kd.push A Q,⟨Q,Q⟩,⟨Q,Q⟩,Q,Q⟩ ev
 | @round l l' hl f t t' ht x y hx hy=>
  refine⟨.go {frame:=SN l f t x y .deferred,callers:=f'::cs,status:=Ri,dying:=N},seen P f'.fn es,λz v k=>fX i k Q,λz v k=>?_,?_⟩;rw[fX (p:=P.alt) i k Q,eC V];rfl;rw[fX D r Q];rw[T.prog]at hx hy;exact .go _ ρ' R ⟨⟨Q,ht,.cons (.code hx) (.cons .beginRound (.cons (.code hy) .nil)),.nil,.run,⟨Q,Q,by simp[SN]⟩,.some hl⟩,.cons G B A,Kd.push A Q,⟨Q,Q⟩,⟨Q,Q⟩,Q,Q⟩ ev
 |_=>
  refine⟨.go {frame:=f',callers:=cs,status:=Ri,dying:=N},seen P f'.fn es,λz v k=>fX i k Q,λz v k=>?_,?_⟩;rw[fX (p:=P.alt) i k Q,eC V];rfl;rw[fX D r Q];exact .go _ ρ' R ⟨G,A,B,⟨Q,Q⟩,⟨Q,Q⟩,Q,Q⟩ ev
 refineλρ' u u' v v' es ac R hv he r=>⟨.go {frame:=f'.raise [{v,recovered:=Z}],callers:=cs,status:=Ri,dying:=N},seen P f'.fn es,λz q k=>tM i k,λz q k=>?_,?_⟩
 rw[tM (p:=P.alt) i k,eC V];rfl;rw[tM D r];exact .go _ ρ' R ⟨(hf.m R.le).Ox hv,hc.m R.le,B.raise _ _,⟨Q,Q⟩,⟨Q,Q⟩,Q,Q⟩ (λe h=>he e (eX h))
theorem pW(e:GId P ρ){a b}(c:P.alt.funcs[f]?=J a)(d:P.funcs[f]?=J b)(t:dT Wx):results a t=results b t:=by
 have h:=e.same f;rw[c,d]at h;simp[strip]at h;unfold results
 grind
theorem nh(a:GId P ρ)(f:Rm):P.alt.funcs[f]?=N↔P.funcs[f]?=none:=by
 have h:=a.same f
 grind
omit [Two P]in
theorem gq{b a}(c:RFr P ρ b a)p:b.catches p=Z/\a.catches p=false:=by
 have h:=c.todo.Oc;unfold Frame.catches
 grind
theorem vr(hZ:cC P)(hE:iH P ρ.F)(hN:cJ P)(hI:GId P ρ)(m:ey)(hf:RFr P ρ fr fr'){cs cs':vx Wy}(hc:RFs P ρ X cs cs')(hkd:Kd X fr fr' cs')(hin:Base X fr cs')(S:cz ρ w w')(hd:Same w w'):
  SF P ρ X w w' (λu=>unwind P m fr cs N u) (λu=>unwind P.alt m fr cs N u) (unwind P m fr' cs' N w'):=by
 unfold unwind;have hds:=hf.defers;generalize hx:fr.defers=ds at hds;generalize hx':fr'.defers=ds' at hds;have hf2:=λds ds' (hl:RDs ρ ds ds')=>(⟨hf.fn,hf.tmps,hf.todo,hl,hf.mode,hf.early,hf.round⟩:RFr P ρ {fr with defers:=ds} {fr' with defers:=ds'})
 cases hds with
 | @cons d d' l l' h hl=>
  have h0:=h;cases h with
  |odd=>exact jJ hZ hE hN hI (hf2 _ _ hl) hc hkd h0 S hd
  |mk ht ha=>
   obtain⟨t,a⟩:=d;obtain⟨t',a'⟩:=d';simp only at ht;cases ht with
   | @collected r r' hr=>
    dsimp only;refine pU (pQ hr) S hd (F:=λx es=>wz (seen P fr.fn es) (match x with
     | .ok calls w=>.go {frame:={fr with defers:=calls++l},callers:=cs,status:=Ri,dying:=N} w
     | .halt _ w => .ended (.stuck "the deferred calls of a range-over-func loop have been taken" (fr.pos P)) w)) (Fa := fun x es => wz (seen P.alt fr.fn es) (match x with
     | .ok calls w=>.go {frame:={fr with defers:=calls++l},callers:=cs,status:=Ri,dying:=N} w
     | .halt _ w => .ended (.stuck "the deferred calls of a range-over-func loop have been taken" (fr.pos P.alt)) w)) (F' := fun x es => wz (seen P fr'.fn es) (match x with
     | .ok calls w=>.go {frame:={fr' with defers:=calls++l'},callers:=cs',status:=Ri,dying:=N} w
     | .halt _ w => .ended (.stuck "the deferred calls of a range-over-func loop have been taken" (fr'.pos P)) w)) ?_ ?_ ?_
    intro h u es hn;exact⟨trivial,trivial⟩;intro ρ' u u' x y es es' R hq he;dsimp only;rw[eC hI];have hf':=hf.m R.le;exact⟨aY _ (dp _ _ _),Rg (Rf ⟨Q,.go _ ρ' R ⟨⟨hf'.fn,hf'.tmps,hf'.todo,hq.append (hl.m R.le),hf'.mode,hf'.early,hf'.round⟩,hc.m R.le,hkd,⟨Q,Q⟩,⟨Q,Q⟩,Q,Q⟩ (λe h=>he e (eX (by simpa using h)))⟩)⟩;exactλρ' u u' v v' es es' R hv he=>⟨lB _ _ (Lost.N7 (Lost.after (x:=.ended _ _) trivial _)),Rf ⟨trivial,trivial⟩⟩
   |_=>exact jJ hZ hE hN hI (hf2 _ _ hl) hc hkd h0 S hd
 |nil=>
  dsimp only;have hne:fr.mode≠.run->cs'≠X.2:=λh e=>by
   rcases hin e with k|k;exact h k;exact k hx
  have hm:=hf.mode;generalize hmd:fr.mode=md at hm hne;generalize fr'.mode=md' at hm;cases hm with
  |run=>exact lq trivial trivial
  |panicking hp=>
   dsimp only;simp[(gq hf P).1,(gq hf P).2,(gq hf P.alt).1];cases hc with
   |cons hk hk2 hl=>exact G4 ⟨hk.raise hp,hl,hk2.raise _ _,⟨Q,Q⟩,⟨Q,Q⟩,Q,Q⟩ S
   |base=>exact eW Q (hne (by simp))
  |returning=>
   dsimp only;have hne:=hne (by simp);rw[<-hf.fn];cases hfn:P.funcs[fr.fn]? with
   |none=>
    simp only[((nh hI fr.fn).2 hfn)];have:=lF m (Reach.refl S) hf hc hkd hne (hf.tmps.getD 0) #[] (E':=#[]) (λe h=>by simp at h);simp only[eU]at this;exact⟨this.1,this.2⟩
   |some fn=>
    cases hfa:P.alt.funcs[fr.fn]? with
    |none=>rw[(nh hI fr.fn).1 hfa]at hfn;cases hfn
    |some fa=>
     dsimp only;rw[pW hI hfa hfn];refine pU (rL fn hf.tmps) S hd (F:=λx es=>wz (seen P fr.fn es) (match x with
      | .ok v w=>doReturn P m fr cs N v w
      | .halt (.stuck s) w=>.ended (.stuck s (fr.pos P)) w
      | .halt _ w => .ended (.stuck "return: the result variables cannot be read" (fr.pos P)) w)) (Fa := fun x es => wz (seen P.alt fr.fn es) (match x with
      | .ok v w=>doReturn P.alt m fr cs N v w
      | .halt (.stuck s) w=>.ended (.stuck s (fr.pos P.alt)) w
      | .halt _ w => .ended (.stuck "return: the result variables cannot be read" (fr.pos P.alt)) w)) (F' := fun x es => wz (seen P fr.fn es) (match x with
      | .ok v w=>doReturn P m fr' cs' N v w
      | .halt (.stuck s) w=>.ended (.stuck s (fr'.pos P)) w
      | .halt _ w => .ended (.stuck "return: the result variables cannot be read" (fr'.pos P)) w)) ?_ ?_ ?_
     intro h u es hn;have key:∀q:Wv,Lost (wz (seen q fr.fn es) (match(Result.halt h u:Result Wx)with
      | .ok v w=>doReturn q m fr cs N v w
      | .halt (.stuck s) w=>.ended (.stuck s (fr.pos q)) w
      | .halt _ w => .ended (.stuck "return: the result variables cannot be read" (fr.pos q)) w)) := fun q => by cases h <;> exact trivial
     exact⟨key P,key P.alt⟩;intro ρ' u u' x y es es' R hq he;dsimp only;rw[eC hI];exact lF m R (hf.m R.le) (hc.m R.le) hkd hne hq (seen P fr.fn es) (E':=seen P fr.fn es') (λe h=>he e (eX h));exactλρ' u u' v v' es es' R hv he=>⟨lB _ _ (Lost.N7 (Lost.after (x:=.ended _ _) trivial _)),Rf ⟨trivial,trivial⟩⟩
theorem kz(n:cC P)(hE:iH P ρ.F)(o:cJ P)(k:GId P ρ)(m:ey){g g'}(r:RGo P ρ X g g')(c:Base X g.frame g'.callers)(a:cz ρ w w')(h:Same w w'):
  SF P ρ X w w' (λu=>stepG P m g u) (λu=>stepG P.alt m g u) (stepG P m g' w'):=by
 obtain⟨s,cs,st,dy,of⟩:=g;obtain⟨l,cs',st',dy',of'⟩:=g';obtain⟨f,p,d,hst,⟨j,i⟩,ho⟩:=r;subst j;subst i;have q:=f.mode;cases b:s.mode<;>cases e:l.mode<;>rw[b,e]at q<;>cases q
 exact jf (J8 n hE o k m f p d c a h ⟨b,e⟩) (λu=>by simp[stepG,b]) (λu=>by simp[stepG,b]) (by simp[stepG,e]);exact jf (vr n hE o k m f p d c a h) (λu=>by simp[stepG,b]) (λu=>by simp[stepG,b]) (by simp[stepG,e]);exact jf (vr n hE o k m f p d c a h) (λu=>by simp[stepG,b]) (λu=>by simp[stepG,b]) (by simp[stepG,e])
end
def solo(g:Wk)(w:Wj):Machine:={world:=w,gs:=#[g],rest:={timers:=#[],alone:=N,slice:=N}}
def away:Wk:={(default:Wk)with status:=.finished}
section
variable {P:Wv} {g g' k:Wk} {w w':Wj} {es:dT Event}
theorem DQ(h:g.status=Ri):move P (solo g w)=.goroutine (solo g w) 0:=by
 simp[move,ask,askOn,solo,R8,due,ahead,Goroutine.canRun,h,UL,choose,pure,xc,Ut]
theorem mr(h:g.status=Ri):step P (solo g w)=(runT P (solo g w) 0).1:=by
 rw[step,stepT,DQ h]
theorem ni(h:g.status=Ri)(a:stepG P Y g w=.go g' w' es):step P (solo g w)=.next (solo g' w'):=by
 rw[mr h];simp[runT,solo,Sx,a]
theorem gr{o:Outcome}(h:g.status=Ri)(a:stepG P Y g w=.ended o w' es):step P (solo g w)=.ended o w':=by
 rw[mr h];simp[runT,solo,Sx,a]
theorem BO(h:g.status=Ri)(a:stepG P Y g w=.spawn g' k w' es):∃m,step P (solo g w)=.next m/\m.gs.size=2:=by
 rw[mr h];refine⟨_,by simp[runT,solo,Sx,a];rfl,?_⟩;simp
theorem vu{c:Rq}{b:ey}{s:Rr}(h:g.status=Ri)(a:stepG P Y g w=.comm g' #[c] b s w' es):step P (solo g w)=(communicate P {timers:=#[],alone:=N,slice:=N} #[away] 0 g' #[c] b s w').1:=by
 rw[mr h];simp[runT,solo,Sx,a,away]
inductive LC (P:Wv)(g:Wk)(c:CommCase)(s:CommShape)(w:Wj):Wk->Wj->Prop
 |send {r cap NQ rcvd:H} {buf:dT Wx} {tm:ey} {v:Wx} (hc:c.chan=.chan (J r)) (hv:c.send=J v) (ho:w.heap[r]?=J (.chan cap buf Z NQ rcvd tm)) (hr:buf.size<cap):
   LC P g c s w (g.finishComm P #[c] s 0 Wo Z) {w with heap:=w.heap.setIfInBounds r (.chan cap (buf.push v) Z (NQ+1) rcvd tm)}
 |recv {r cap NQ rcvd:H} {buf:dT Wx} {cl tm:ey} (hc:c.chan=.chan (J r)) (hv:c.send=N) (ho:w.heap[r]?=J (.chan cap buf cl NQ rcvd tm)) (hr:0<buf.size):
   LC P g c s w (g.finishComm P #[c] s 0 (buf.getD 0 Wo) Y) {w with heap:=w.heap.setIfInBounds r (.chan cap (buf.extract 1 buf.size) cl NQ (rcvd+1) tm)}
 |shut {r cap NQ rcvd:H} {tm:ey} (hc:c.chan=.chan (J r)) (hv:c.send=N) (ho:w.heap[r]?=J (.chan cap #[] Y NQ rcvd tm)):
   LC P g c s w (g.finishComm P #[c] s 0 c.zero Z) w
 |dead {r cap NQ rcvd:H} {buf:dT Wx} {tm:ey} {v:Wx} (hc:c.chan=.chan (J r)) (hv:c.send=J v) (ho:w.heap[r]?=J (.chan cap buf Y NQ rcvd tm)) (hg:g.status=Ri):
   LC P g c s w { g with frame := g.frame.raise [{ v := .iface P.rt.plainError (strVal "send on closed channel"), recovered := Z }] } w
theorem db r(b:ey):partners #[away] r b=[]:=by simp[partners,away]
theorem vw{c:Rq}{s:Rr}{m:Machine}(p:g.status=Ri)(h:(communicate P {timers:=#[],alone:=N,slice:=N} #[away] 0 g #[c] Y s w).1=.next m):
  (∃g' w',LC P g c s w g' w'/\m=solo g' w')\/(m=solo {g with status:=.blocked,offers:=J (#[c],s)} w):=by
 obtain⟨e,f,z⟩:=c;have l:RY {timers:=#[],alone:=N,slice:=N} #[⟨e,f,z⟩] w=J w:=by
  unfold RY timerAhead;cases e with
  |chan o=>cases o<;>simp
  |_=>simp
 have j:RY {timers:=#[],alone:=N,slice:=N} #[(⟨e,f,z⟩:Rq)] w=J w:=l;cases e with
 |chan o=>
  cases o with
  |none=>
   right
   simp[communicate,ways,j]at h;exact h.s
  |some r=>
   cases a:w.heap[r]? with
   |none=>simp[communicate,a]at h
   |some o=>
    cases o with
    |chan i d k NQ rcvd tm=>
     cases f with
     |some v=>
      cases k with
      |true=>
       left
       simp[communicate,ways,a,choose,xc,Ut,bind,xt,pure,Rp,Sa,program]at h;exact⟨_,_,.dead Q Q a p,h.s⟩
      |false=>
       by_cases b:d.size<i
       left
       simp[communicate,ways,a,db,b,choose,xc,Ut,bind,xt,pure]at h;exact⟨_,_,.send Q Q a b,h.s⟩
       right
       simp[communicate,ways,a,db,b,j]at h;exact h.s
     |none=>
      by_cases b:0<d.size
      left
      simp[communicate,ways,a,db,b,choose,xc,Ut,bind,xt,pure]at h;refine⟨_,_,.recv Q Q a b,?_⟩;rw[<-h];simp[solo,b];have n:d=#[]:=Sl (by omega);subst n;cases k with
      |true=>
       left
       simp[communicate,ways,a,db,choose,xc,Ut,bind,xt,pure]at h;exact⟨_,_,.shut Q Q a,h.s⟩
      |false=>
       right
       simp[communicate,ways,a,db,j]at h;exact h.s
    |_=>simp[communicate,a]at h
 |_=>simp[communicate]at h
theorem jK(h:g.status=.blocked):∃o u,step P (solo g w)=.ended o u:=by
 have a:∃o u,move P (solo g w)=.machine (.ended o u):=by
  simp[move,ask,askOn,solo,R8,due,ahead,Goroutine.canRun,h,UL,pure];split
  grind
  grind
 obtain⟨o,u,a⟩:=a;exact⟨o,u,by rw[step,stepT,a]⟩
end
theorem yv{m:ey}{g}(h:vo g)w:(∃o u es,stepG P m g w=.ended o u es)\/∃g' u es,stepG P m g w=.go g' u es/\vo g'/\(g'.status=Ri\/g'.status=.blocked):=by
 obtain⟨l,cs,q,dy,of⟩:=g;obtain⟨d,f,n,k,p⟩:=h;subst n;have e:stepG P m ⟨l,cs,q,J d,of⟩ w=die P l d w:=by
  obtain⟨a,b,c,e,f,i,j⟩:=d;subst k;simp[stepG]
 rw[e];unfold die;simp only[p];unfold writeOn;dsimp only;split
 grind
 split
 exact Rg ⟨_,_,_,Q,⟨_,_,Q,k,Q⟩,Rf Q⟩;exact Rg ⟨_,_,_,Q,⟨_,_,Q,k,Q⟩,Rg Q⟩
 grind
 grind
theorem BP:∀ (n:H)(g g':Wk)(w w':Wj),vo g->(g.status=Ri\/g.status=.blocked)->runN P n (solo g w)=.next (solo g' w')->vo g':=by
 intro n;induction n with
 |zero=>
  intro g g' w w' b _ h;simp[runN]at h;have:#[g]=#[g']:=kr Machine.gs h
  grind
 |succ n ih=>
  intro g g' w w' b a h;simp[runN]at h;rcases a with a|a;rcases yv (P:=P) (m:=Y) b w with⟨o,u,es,e⟩|⟨g1,u,es,e,hd1,hs1⟩;rw[gr a e]at h;simp at h;rw[ni a e]at h
  grind
  have⟨o,u,e⟩:=jK (P:=P) (w:=w) a
  grind
theorem DR:∀ (n:H)(m a:Machine),runN P n m=.next a->m.gs.size<=a.gs.size:=by
 intro n;induction n with
 |zero=>intro m a h;simp[runN]at h;rw[h];exact Q0
 |succ n ih=>
  intro m a h;simp[runN]at h;cases b:step P m with
  |next c=>
   rw[b]at h;exact lT (stepT_size P m c Y b) (ih c a h)
  |ended o w=>rw[b]at h;simp at h
inductive LS (P:Wv)(g:Wk)(w:Wj):Wk->Wj->Prop
 |go {g':Wk} {w':Wj} {es:dT Event} (h:stepG P Y g w=.go g' w' es) (hr:g'.status=Ri) (hd:g'.dying=N):LS P g w g' w'
 |comm {g1:Wk} {c:CommCase} {s:CommShape} {w1:Wj} {es:dT Event} {g':Wk} {w':Wj} (h:stepG P Y g w=.comm g1 #[c] Y s w1 es) (hc:LC P g1 c s w1 g' w'):LS P g w g' w'
theorem LS.fn{g}{w}{a b}{u z}(h:LS P g w a u)(k:LS P g w b z):a=b/\u=z:=by
 cases h with
 |go h hr hd=>
  cases k with
  |go k o p=>rw[h]at k;cases k;exact⟨Q,Q⟩
  |comm k m=>rw[h]at k;cases k
 |comm h q=>
  cases k with
  |go k o p=>rw[h]at k;cases k
  |comm k m=>
   rw[h]at k;cases k;cases q with
   |send i f j n=>
    cases m with
    |send d c e l=>rw[i]at d;cases d;rw[j]at e;cases e;rw[f]at c;cases c;exact⟨Q,Q⟩
    |recv d c e l=>rw[f]at c;cases c
    |shut d c e=>rw[f]at c;cases c
    |dead d c e=>rw[i]at d;cases d;rw[j]at e;cases e
   |recv i f j n=>
    cases m with
    |send d c e l=>rw[f]at c;cases c
    |recv d c e l=>rw[i]at d;cases d;rw[j]at e;cases e;exact⟨Q,Q⟩
    |shut d c e=>rw[i]at d;cases d;rw[j]at e;cases e;simp at n
    |dead d c e=>rw[f]at c;cases c
   |shut i f j=>
    cases m with
    |send d c e l=>rw[f]at c;cases c
    |recv d c e l=>rw[i]at d;cases d;rw[j]at e;cases e;simp at l
    |shut d c e=>exact⟨Q,Q⟩
    |dead d c e=>rw[f]at c;cases c
   |dead i f j=>
    cases m with
    |send d c e l=>rw[i]at d;cases d;rw[j]at e;cases e
    |recv d c e l=>rw[f]at c;cases c
    |shut d c e=>rw[f]at c;cases c
    |dead d c e=>exact⟨Q,Q⟩
inductive Dem (P:Wv)(N T:Wk->Wj->Prop):Wk->Wj->Prop
 |stop {g:Wk} {w:Wj} (h:T g w):Dem P N T g w
 |step {g:Wk} {w:Wj} (hN:N g w) (hT:¬T g w) (h:∀τ d,∃g' w',LS P g (w.on τ d) g' w') (hn:∀τ d g' w',LS P g (w.on τ d) g' w'->Dem P N T g' w'):Dem P N T g w
theorem Dem.imp{a N' R:Wk->Wj->Prop}(c:∀g w,a g w->N' g w){g}{w}(h:Dem P a R g w):Dem P N' R g w:=by
 induction h with
 |stop h=>exact .stop h
 |step b d h _ ih=>exact .step (c _ _ b) d h ih
inductive Pth (P:Wv)(N T:Wk->Wj->Prop):Wk->Wj->Prop
 |stop {g:Wk} {w:Wj} (h:T g w):Pth P N T g w
 |step {g g':Wk} {w w':Wj} (hN:N g w) (hT:¬T g w) (h:LS P g w g' w') (hp:Pth P N T g' w'):Pth P N T g w
def All(P:Wv)(N T:Wk->Wj->Prop)(g:Wk)(w:Wj):Prop:=∀a d,Pth P N T g (w.on a d)
structure Way (P:Wv)(N T:Wk->Wj->Prop):Prop where
 PO:∀g w,N g w->xT w (λu=>stepG P Y g u)
 on:∀g w τ d,N g w->N g (w.on τ d)
 tape:∀g w τ d,T g (w.on τ d)↔T g w
theorem J9(w:Wj)(b a:H->Question->H)(d d':H):(w.on b d).on a d'=w.on a d':=rfl
theorem LC.on{g g'}{c:Rq}{s:Rr}{w w'}(h:LC P g c s w g' w')(i:H->Question->H)d:LC P g c s (w.on i d) g' (w'.on i d):=by
 cases h with
 |send a e b f=>exact .send a e b f
 |recv a e b f=>exact .recv a e b f
 |shut a e b=>exact .shut a e b
 |dead a e b f=>exact .dead a e b f
theorem LC.tape{g g'}{c:Rq}{s:Rr}{w w'}(h:LC P g c s w g' w'):w'.tape=w.tape/\w'.drawn=w.drawn:=by
 cases h<;>exact⟨Q,Q⟩
theorem LS.two{g g'}{w w'}(k:xT w (λu=>stepG P Y g u))(h:LS P g w g' w'):w'.tape=w.tape/\w.drawn<=w'.drawn/\∀a d,Like w w' a d->LS P g (w.on a d) g' (w'.on a (d+(w'.drawn-w.drawn))):=by
 cases h with
 |go h r j=>
  obtain⟨e,l,f⟩:=k (.go g') w' _ j h;exact⟨e,l,λa d b=>.go (f a d b) r j⟩
 | @comm q c s o es _ _ h m=>
  obtain⟨e,l,f⟩:=k (.comm q #[c] Y s) o _ trivial h;have⟨n,p⟩:=m.tape;refine⟨n.t e,by omega,λa d b=>?_⟩;rw[p];exact .comm (f a d (λi hi=>b i (by omega))) (m.on _ _)
theorem Way.many{a N':Wk->Wj->Prop}(W:Way P a N'){g}{w}(h:Pth P a N' g w):∀b d,(∀i,b (d+i)=w.tape (w.drawn+i))->Pth P a N' g (w.on b d):=by
 induction h with
 |stop h=>intro b d _;exact .stop ((W.tape _ _ _ _).2 h)
 | @step g g' w w' e f h _ ih=>
  intro b d c;obtain⟨h1,h2,j⟩:=h.two (W.PO _ _ e);refine .step (W.on _ _ _ _ e) (λk=>f ((W.tape _ _ _ _).1 k)) (j b d (λi _=>c i)) (ih b _ (λi=>?_));have:=c (w'.drawn-w.drawn+i)
  grind
def join(b a:H->Question->H)(m d':H):H->Question->Nat:=λi=>if i<m then b i else a (d'+(i-m))
theorem Way.PH{a N':Wk->Wj->Prop}(W:Way P a N'){g g'}{w w'}{c:H->Question->H}{d}(o:All P a N' g w)(n:¬N' g w)(h:LS P g (w.on c d) g' w'):All P a N' g' w':=by
 intro b e;have j:=o c d;have l:a g (w.on c d):=by
  cases j with
  |stop k=>exact eW ((W.tape _ _ _ _).1 k) n
  |step s _ _ _=>exact s
 obtain⟨h1,q,r⟩:=h.two (W.PO _ _ l);have p:Like (w.on c d) w' (join c b w'.drawn e) d:=λi t=>by
  have:d+i<w'.drawn:=t;show(if d+i<w'.drawn then _ else _)=_;rw[sq this];rfl
 have hd2:d<=w'.drawn:=q;have f:=o (join c b w'.drawn e) d;cases f with
 |stop k=>exact eW ((W.tape _ _ _ _).1 k) n
 |step _ _ m f=>
  obtain⟨rfl,rfl⟩:=m.fn (r _ d p);have:=W.many f b e (λi=>by
   show b (e+i)=(if d+(w'.drawn-d)+i<w'.drawn then _ else b (e+(d+(w'.drawn-d)+i-w'.drawn)));rw[lk (by omega)];congr 1;omega)
  exact this
structure Bad (P:Wv)(N T:Wk->Wj->Prop)(x:Wk×Wj):Prop where
 all:All P N T x.1 x.2
 not:¬Dem P N T x.1 x.2
theorem Way.Ps{a N':Wk->Wj->Prop}(W:Way P a N')(x:{x:Wk×Wj // Bad P a N' x}):
  ∃ (b:H->Question->H) (d:H) (y:{x:Wk×Wj // Bad P a N' x}),a x.1.1 (x.1.2.on b d)/\LS P x.1.1 (x.1.2.on b d) y.1.1 y.1.2:=by
 obtain⟨⟨g,w⟩,l,f⟩:=x;have i:=λh=>f (.stop h)
 have e:∀b d,a g (w.on b d)/\∃g' w',LS P g (w.on b d) g' w':=λb d=>by
  have:=l b d;cases this with
  |stop k=>exact eW ((W.tape _ _ _ _).1 k) i
  |step f _ h _=>exact⟨f,_,_,h⟩
 have j:∃b d g' w',LS P g (w.on b d) g' w'/\¬Dem P a N' g' w':=by
  refine Th λm=>f (.step (e w.tape w.drawn).1 i (λb d=>(e b d).2) λb d g' w' h=>Th λc=>m ⟨b,d,g',w',h,c⟩)
 obtain⟨b,d,g',w',h,c⟩:=j;exact⟨b,d,⟨(g',w'),⟨W.PH l i h,c⟩⟩,(e b d).1,h⟩
theorem Way.dem{N N':Wk->Wj->Prop}(W:Way P N N'){g}{w}(u:All P N N' g w):Dem P N N' g w:=by
 classical
 refine Th λz=>?_
 have q:=W.Ps;obtain⟨p,c,l,d⟩:∃ (p:{x:Wk×Wj // Bad P N N' x}->H->Question->H) (c:{x:Wk×Wj // Bad P N N' x}->H) (l:{x:Wk×Wj // Bad P N N' x}->{x:Wk×Wj // Bad P N N' x}),∀x,N x.1.1 (x.1.2.on (p x) (c x))/\LS P x.1.1 (x.1.2.on (p x) (c x)) (l x).1.1 (l x).1.2:=
  ⟨λx=>(q x).choose,λx=>(q x).choose_spec.choose,λx=>(q x).choose_spec.choose_spec.choose,λx=>(q x).choose_spec.choose_spec.choose_spec⟩
 let b:H->{x:Wk×Wj // Bad P N N' x}:=λk=>UZ ⟨(g,w),⟨u,z⟩⟩ (λ_ x=>l x) k
 have sq0:b 0=⟨(g,w),⟨u,z⟩⟩:=rfl;have s:∀k,b (k+1)=l (b k):=λk=>Q
 let m:=λk=>(b (k+1)).1.2.drawn-c (b k)
 let a:H->Nat:=λk=>UZ 0 (λj n=>n+m j) k
 have Ss:∀k,a (k+1)=a k+m k:=λk=>Q
 have mono:∀j k,j<=k->a j<=a k:=λj k h=>by
  induction h with
  |refl=>exact Q0
  |step _ ih=>rw[Ss];omega
 let o:H->Question->Nat:=λi=>if h:∃k,a k<=i/\i<a (k+1)then p (b h.choose) (c (b h.choose)+(i-a h.choose))elseλ_=>0
 have hτ:∀k i,i<m k->o (a k+i)=p (b k) (c (b k)+i):=λk i y=>by
  have e:∃A,a A<=a k+i/\a k+i<a (A+1):=⟨k,by omega,by rw[Ss];omega⟩;have hk:e.choose=k:=by
   have⟨c1,c2⟩:=e.choose_spec;rcases Nat.lt_trichotomy e.choose k with h|h|h
   grind
   exact h
   grind
  grind
 have r:=λk=>by
  have⟨F,h⟩:=d (b k);rw[<-s]at h;obtain⟨-,-,D⟩:=h.two (W.PO _ _ F);have:=D o (a k) (λi y=>by
   have hi':c (b k)+i<(b (k+1)).1.2.drawn:=y;have:i<m k:=by show i<(b (k+1)).1.2.drawn-c (b k);omega
   exact hτ k i this)
  rw[J9]at this;exact this
 have f:∀ (g':Wk) (w':Wj),Pth P N N' g' w'->∀k,g'=(b k).1.1->w'=(b k).1.2.on o (a k)->nF:=by
  intro g' w' B;induction B with
  |stop h=>intro k t v;subst t;subst v;exact(b k).2.not (.stop ((W.tape _ _ _ _).1 h))
  |step _ _ h _ ih=>
   intro k t v;subst t;subst v;have⟨G,L⟩:=h.fn (r k);exact ih (k+1) G L
 exact f g (w.on o 0) (u o 0) 0 Q Q
def trap(P : Wv) : Wy := { fn := P.funcs.size, tmps := #[], todo := [.code (.refuse "")], defers := [{ target := .nil, args := #[] }], mode := .run, kind := .normal }
def Self(P:Wv) [Two P](X:S Wy×S Wy)(A:H->Prop)(G:Rm->ey)(g:Wk)(w:Wj):Prop:=
 g.status=Ri/\∃ρ g' w',RGo P ρ X g g'/\cz ρ w w'/\GId P ρ/\iH P ρ.F/\ρ.loose=Z/\ρ.wide=Z/\(ρ.ch=A/\(∀c,A c->∃b,ρ c b)/\ρ.F=G)/\(∀c,¬ρ.old c)/\(∀f,¬Mk ρ.F f=Y)
def NB(X:S Wy)(g:Wk):Prop:=g.callers=X->g.frame.mode=.run\/g.frame.defers≠[]
section
variable {P:Wv} [Two P] {X:vx Wy×vx Wy} {A:Nat->Prop} {G:FuncId->ey} {g g':Wk} {w w':Wj}
omit [Two P]in
theorem RFs.tail{ρ}{a}(h:RFs P ρ X l' a)(e:a=X.2):l'=X.1:=by
 cases h with
 |base=>rfl
 |cons _ _ b=>exact eW e b.ne
omit [Two P]in
theorem cz.onL{ρ}{w w'}(a:cz ρ w w')(b:H->Question->H)d:cz ρ (w.on b d) w':=⟨a.obj,a.fix,a.chan,a.os,a.NT⟩
omit [Two P]in
theorem cz.onR{ρ}{w w'}(a:cz ρ w w')(b:H->Question->H)d:cz ρ w (w'.on b d):=⟨a.obj,a.fix,a.chan,a.os,a.NT⟩
theorem Self.on(h:Self P X A G g w)(b:H->Question->H)d:Self P X A G g (w.on b d):=by
 obtain⟨f,ρ,g',w',a,e,c⟩:=h;exact⟨f,ρ,g',w',a,e.onL _ _,c⟩
omit [Two P]in
theorem ew{ρ:Ren}{g g':Wk}(h:RGo P ρ X g g'){c d:Rq}(_hc:RC ρ c d)(s:Rr)(i:(c.send.isSome=Y/\s=.send)\/(c.send=N/\∃a,s=.recv a))(f:RV ρ v x)(a:ey):RGo P ρ X (g.finishComm P #[c] s 0 v a) (g'.finishComm P #[d] s 0 x a):=by
 have b:RV ρ (Se #[c] s 0 v a) (Se #[d] s 0 x a):=by
  rcases i with⟨_,rfl⟩|⟨_,o,rfl⟩;exact dG;cases o with
  |false=>exact f
  |true=>
   have:=(RVs.nil.push f).push (RV.bool a);exact .tuple this.size this.at_
 exact⟨h.frame.finish b,h.callers,h.kind.finish _ _,⟨rfl,rfl⟩,h.dying,rfl,rfl⟩
theorem Self.step(hZ:cC P)(hN:cJ P)(h:Self P X A G g w)(hb:NB X.1 g)(hl:LS P g w g' w'):Self P X A G g' w':=by
 obtain⟨hr,ρ,k,u,hG,S,hI,hE,ho,hwi,⟨hch,hcb,hFG⟩,hold,hmk⟩:=h;rcases(kz hZ hE hN hI Y hG (λe=>hb (hG.callers.tail e)) (S.onR w.tape w.drawn) (λi=>rfl)).rel with⟨h1,-⟩|⟨-,h2⟩|⟨f,_,_,_,_,_,_,_,_,_,_,_,A⟩
 rotate_left 2
 exact eW A.mark (hmk f);cases hl with
 |go h hr hd=>
  rw[h]at h1;obtain⟨⟨d,f,e,-⟩,-⟩:=h1
  grind
 |comm h _=>rw[h]at h1;exact h1.elim
 cases hl with
 |go h hr hd=>
  rw[h]at h2;generalize stepG P Y k (u.on w.tape w.drawn)=y at h2;cases h2 with
  |go es ρ' R hg he=>exact⟨hr,ρ',_,_,hg,R.NG,hI.m R.le,by rw[R.le.F];exact hE,R.le.loose.t ho,R.le.wide.t hwi,⟨R.le.ch.t hch,(λc k=>(hcb c k).imp λb=>R.le _ _),R.le.F.t hFG⟩,by rw[R.le.old];exact hold,by rw[R.le.F];exact hmk⟩
 | @comm g1 c s w1 es _ _ h hc=>
  rw[h]at h2;generalize stepG P Y k (u.on w.tape w.drawn)=y at h2;cases h2 with
  | @comm _ k1 _ c' _ _ hs hrun _ u1 _ es' ρ' R hg hcc he _=>
   have hlo:=R.le.loose.t ho;have hwi':=R.le.wide.t hwi;have hch':ρ'.ch=A/\(∀c,A c->∃b,ρ' c b)/\ρ'.F=G:=⟨R.le.ch.t hch,(λc k=>(hcb c k).imp λb=>R.le _ _),R.le.F.t hFG⟩;have hold':∀c,¬ρ'.old c:=by rw[R.le.old];exact hold
   have fin:∀ (v v':Wx) (ok:ey) (z z':Wj),RV ρ' v v'->cz ρ' z z'->Self P X A G (g1.finishComm P #[c] s 0 v ok) z:=λv v' ok z z' hv hz=>
    ⟨rfl,ρ',_,z',ew hg hcc s hs hv ok,hz,hI.m R.le,by rw[R.le.F];exact hE,hlo,hwi',hch',hold',by rw[R.le.F];exact hmk⟩
   have S':=R.NG;have rel:∀r cap buf cl NQ rcvd tm,c.chan=.chan (J r)->w1.heap[r]?=J (.chan cap buf cl NQ rcvd tm)->∃r' cap' buf' sent' rcvd',ρ' r r'/\RVs ρ' buf buf'/\∀ (b b':dT Wx) (s2 q2:H),RVs ρ' b b'->cz ρ' {w1 with heap:=w1.heap.setIfInBounds r (.chan cap b cl s2 q2 tm)} {u1 with heap:=u1.heap.setIfInBounds r' (.chan cap' b' cl sent' rcvd' tm)}:=λr cap buf cl NQ rcvd tm e eo=>by
    have:=hcc.chan;rw[e]at this;generalize c'.chan=q at this;cases this with
    |chan h=>
     cases h with
     | @some _ r' h=>
      obtain⟨o,o',k1,k2,k3⟩:=S'.obj _ _ h;rw[eo]at k1;cases k1;cases k3 with
      | @chan _ cap' _ b' cl' _ _ _ s' q' _ hb hcl=>
       have hbb:RVs ρ' buf b':=by
        grind
       obtain rfl:=hcl.resolve_left (by rw[hwi'];exactλh=>by cases h);exact⟨r',cap',b',s',q',h,hbb,λb b2 s2 q2 hb2=>S'.put h (.chan _ _ _ _ _ _ _ _ _ (.inr hb2) (.inr rfl)) (hold' r) (λ_=>rfl) (λ_ _ _ k=>by rw[eo]at k;cases k)⟩
   cases hc with
   | @send r cap NQ rcvd buf tm v h1 h2 h3 h4=>
    obtain⟨r',cap',buf',s',q',k1,k2,k3⟩:=rel r _ _ _ _ _ _ h1 h3;rcases hcc.send with⟨e,-⟩|⟨v1,v2,e1,e2,hv⟩
    grind
    rw[h2]at e1;cases e1;exact fin _ _ Z _ _ dG (k3 _ _ _ _ (k2.push hv))
   | @recv r cap NQ rcvd buf cl tm h1 h2 h3 h4=>
    obtain⟨r',cap',buf',s',q',k1,k2,k3⟩:=rel r _ _ _ _ _ _ h1 h3;exact fin _ _ Y _ _ (k2.getD 0) (k3 _ _ _ _ (k2.extract 1 buf.size))
   |shut h1 h2 h3=>exact fin _ _ Z _ _ hcc.zero S'
   |dead h1 h2 h3=>
    exact⟨hrun.1, ρ', { k1 with frame := k1.frame.raise [{ v := .iface P.rt.plainError (strVal "send on closed channel"), recovered := Z }] }, u1, ⟨hg.frame.Ox (.iface _ (.string _)), hg.callers, hg.kind.raise _ _, hg.status, hg.dying, hg.offers⟩, S', hI.m R.le, by rw[R.le.F]; exact hE, hlo, hwi', hch', hold', by rw[R.le.F]; exact hmk⟩
def mt(P:Wv) [Two P](X:S Wy×S Wy)(A:H->Prop)(G:Rm->ey)(g:Wk)(w:Wj):Prop:=Self P X A G g w/\NB X.1 g
theorem mt.PO(f:cC P)(j:cJ P)(h:mt P X A G g w):xT w (λu=>stepG P Y g u):=by
 obtain⟨⟨hr,ρ,k,u,b,a,c,hE,ho,hwi,⟨hch,hcb,hFG⟩,hold,hmk⟩,d⟩:=h;exact(kz f hE j c Y b (λe=>d (b.callers.tail e)) (a.onR w.tape w.drawn) (λi=>Q)).PO
omit [Two P]in
theorem vy(a:f'=trap P\/∃c,f'=(trap P).raise c)w:∃o u es,stepG P Y {frame:=f',callers:=[],status:=Ri,dying:=N} w=.ended o u es:=by
 rcases a with rfl|⟨c,rfl⟩;exact⟨_,_,_,Q⟩;exact⟨_,_,_,Q⟩
omit [Two P]in
theorem lG b(d:(b.kind == .early)=Z)v w:∃a,doReturn P Y b [trap P] N v w=.go {frame:=a,callers:=[],status:=Ri,dying:=N} w/\(a=trap P\/∃c,a=(trap P).raise c):=by
 unfold doReturn;cases h:b.kind with
 |early=>rw[h]at d;simp at d
 |normal=>exact⟨_,Q,Rf Q⟩
 |wrapped=>exact⟨_,Q,Rf Q⟩
 |deferred=>exact⟨_,Q,Rf Q⟩
 |report=>exact⟨_,Q,Rf Q⟩
omit [Two P]in
theorem DS{ρ}(n:RGo P ρ X g g')(m:g.callers=[trap P])(h:g.frame.mode≠.run)(j:g.frame.defers=[])w:
  (∃o u es,stepG P Y g w=.ended o u es)\/∃b u es,stepG P Y g w=.go {frame:=b,callers:=[],status:=Ri,dying:=N} u es/\(b=trap P\/∃c,b=(trap P).raise c):=by
 obtain⟨a,cs,p,dy,of⟩:=g;obtain⟨f,-,-,-,⟨d,-⟩,-⟩:=n;simp only at f d m h j;subst m;subst d;have e:stepG P Y ⟨a,[trap P],p,N,of⟩ w=unwind P Y a [trap P] N w:=by
  cases i:a.mode with
  |run=>exact eW i h
  |returning=>simp[stepG]
  |panicking c=>simp[stepG]
 rw[e];unfold unwind;simp only[j];cases i:a.mode with
 |run=>exact eW i h
 |panicking c=>
  simp only[(gq f P).1,UN,n8]
  grind
 |returning=>
  cases hfn:P.funcs[a.fn]? with
  |none=>
   have⟨b,k,l⟩:=lG (P:=P) a f.early.1 (a.tmps.getD 0 Wo) w
   grind
  |some fn=>
   simp only;cases hr:(results fn a.tmps).runT P w #[]with
   |mk r es=>
    cases r with
    |ok v u=>
     have⟨b,k,l⟩:=lG (P:=P) a f.early.1 v u;simp only[k];exact Rg ⟨b,_,_,Q,l⟩
    |halt x u=>cases x<;>exact Rf ⟨_,_,_,Q⟩
theorem pX(hZ:cC P)(hN:cJ P){T:Wk->Wj->Prop}(hT:∀g w,T g w->g.callers≠[]/\g.dying=N/\g.status=Ri):
  ∀ (n:H) (g:Wk) (w:Wj) (g':Wk) (w':Wj),Self P ([trap P],[]) A G g w->runN P n (solo g w)=.next (solo g' w')->T g' w'->Pth P (mt P ([trap P],[]) A G) T g w:=by
 intro n;induction n with
 |zero=>
  intro g w g' w' _ h l;simp[runN]at h;have D:#[g]=#[g']:=kr Machine.gs h;have e2:=kr Machine.world h;simp at D;subst D;subst e2;exact .stop l
 |succ n ih=>
  intro g w g' w' hS h l;by_cases L:T g w
  exact .stop L;have F:=hS.1;simp[runN]at h;by_cases B:NB [trap P] g
  .have t:=hS;obtain⟨-,ρ,k,u,hG,j,hI,hE,-,-,-,-,ab⟩:=hS;rcases(kz hZ hE hN hI Y hG (λe=>B (hG.callers.tail e)) (j.onR w.tape w.drawn) (λi=>Q)).rel with⟨r,-⟩|⟨-,h2⟩|⟨f,_,_,_,_,_,_,_,_,_,_,_,A⟩
   rotate_left 2
   exact eW A.mark (ab f);cases p:stepG P Y g w with
   |ended o v es=>rw[gr F p]at h;simp at h
   |go a v es=>
    have r:=r;rw[p]at r;rw[ni F p]at h;obtain⟨d,f,e,-⟩:=BP n a g' v w' r.1 (Rf r.2) h
    grind
   |_=>have r:=r;rw[p]at r;exact r.elim
   generalize p:stepG P Y g w=x at h2;generalize stepG P Y k (u.on w.tape w.drawn)=y at h2;cases h2 with
   | @go a a' v v' es aa ρ' R hg he=>
    rw[ni F p]at h;have X:LS P g w a v:=.go p hg.status.1 hg.dying.1;exact .step ⟨t,B⟩ L X (ih a v g' w' (t.step hZ hN B X) h l)
   | @comm a a' c c' _ s hs V v v' es aa ρ' R hg hcc he _=>
    rw[vu F p]at h;cases hy:(communicate P {timers:=#[],alone:=N,slice:=N} #[away] 0 a #[c] Y s v).1 with
    |ended o q=>rw[hy]at h;simp at h
    |next m=>
     rw[hy]at h;rcases vw V.1 hy with⟨b,q,hc,rfl⟩|rfl;have X:LS P g w b q:=.comm p hc;exact .step ⟨t,B⟩ L X (ih b q g' w' (t.step hZ hN B X) h l);cases n with
     |zero=>
      simp[runN]at h;have D:#[({a with status:=.blocked,offers:=J (#[c],s)}:Wk)]=#[g']:=kr Machine.gs h;simp at D;have:=(hT _ _ l).2.2;rw[<-D]at this;cases this
     |succ n=>
      have⟨o,z,e⟩:=jK (P:=P) (w:=v) (g:={a with status:=.blocked,offers:=J (#[c],s)}) Q;simp only[runN,e]at h;simp at h
   | @spawn _ a a' b b' v v' es aa ρ' R hg hk he=>
    have⟨m,e,hm⟩:=BO F p;rw[e]at h;have:=DR n m _ h;rw[hm]at this;simp[solo]at this
  obtain⟨-,ρ,k,u,hG,-⟩:=hS;rcases DS hG (Th λk=>B (λe=>eW e k)) (λk=>B (λ_=>Rf k)) (Th λk=>B (λ_=>Rg k)) w with⟨o,v,es,e⟩|⟨f1,v,es,e,hf⟩;rw[gr F e]at h;simp at h;rw[ni F e]at h;cases n with
  |zero=>
   simp[runN]at h;have D:#[({frame:=f1,callers:=[],status:=Ri,dying:=N}:Wk)]=#[g']:=kr Machine.gs h;simp at D;have:=(hT _ _ l).1;rw[<-D]at this;exact(this Q).elim
  |succ n=>
   have⟨o,z,es2,e2⟩:=vy (P:=P) hf v;simp only[runN,gr (g:={frame:=f1,callers:=[],status:=Ri,dying:=N}) Q e2]at h;simp at h
def Ends(P:Wv)(f:Rm)(R:(H->Question->H)->H->Ending->Wj->Prop)(g:Wk)(w:Wj):Prop:=
 ∃h d a c e b,R h d e (w.on a c)/\g={frame:=b,callers:=[trap P],status:=Ri,dying:=N}/\b.fn=f/\b.leaving P (w.on a c) e/\e≠.outgrown
omit [Two P]in
theorem Ends.on(a:H->Question->H)d:Ends P f R g (w.on a d)↔Ends P f R g w:=Iff.rfl
theorem vz(t:cC P)(r:cJ P){a:dT Wx}(x:∀b d,Calls P f a (w.on b d) (R b d))(l:∀b d u,¬R b d .outgrown u)
  (y:Self P ([trap P],[]) A G {frame:=SK P f a .normal,callers:=[trap P],status:=Ri,dying:=none} w):
  Dem P (mt P ([trap P],[]) A G) (Ends P f R) {frame:=SK P f a .normal,callers:=[trap P],status:=Ri,dying:=none} w:=by
 refine Way.dem (N:=mt P ([trap P],[]) A G) ⟨λg w h=>h.PO t r,λg w b d h=>⟨h.1.on b d,h.2⟩,λg w b d=>Ends.on b d⟩ (λb d=>?_);have⟨e,w',q,s,i,p,j⟩:=x b d [trap P];have m:e≠.outgrown:=λk=>by subst k;exact l b d w' s
 have o:Steps P (lone (SK P f a .normal) [trap P] (w.on b d)) (lone q [trap P] w'):=by
  cases e with
  |returned v=>exact i
  |panicked c=>exact i
  |outgrown=>exact eW Q m
 obtain⟨n,z⟩:=o;refine pX t r (T:=Ends P f R) ?_ n _ _ _ w' (y.on b d) z ⟨b,d,w'.tape,w'.drawn,e,q,s,Q,p,j,m⟩;rintro g w ⟨_,_,_,_,_,q,_,rfl,_⟩
 grind
end
