/- A part. -/
import Derived.Test.YthnlbojplkflaaaGreatDoorQP02
import Derived.KernelRfl
import Derived.RangeFuncNested
import Derived.OrdersIn
import Derived.ArgAppend
import Derived.Laws.IdiomStrings
import Derived.Deep.RegionLaw
import Derived.Deep.DeepCutAuto
import Derived.BigRegion
set_option maxHeartbeats 4000000
set_option maxRecDepth 100000
open Go.Proofs.Tryz renaming prog->dT,f102->ey,f115->eV,f152->eW,f159->gI,f48->gL
open Go.Frame renaming enter->kr,finish_atR->lj,atR->lk
open _root_ renaming UInt8->nF,Option->n8,Array->pt,Bool->sq,absurd->sT,Int->tb,ByteArray->tn,False->uc,if_neg->vf
open Option renaming bind_eq_some_iff->vx,bind_eq_bind->wz,getD->xb
open Go.Region renaming ready->xc,wanted->xt,binds->xv
open Go.Extern.SlicesOverlaps renaming overlaps->yz
open Array renaming replicate->Rj,getElem?_replicate->Rk,getElem?_append->Rl,size_push->Rm,all_eq_true->Rn,getElem?_eq_none->Ro
open List renaming range->Rp,mem_range->Rq,mem_cons->Rr,all_eq_true->Rt,mem_filter->Ru,pairwise_cons->Rv,flatMap_cons->Rw,getElem_append_left->Rx,length_eq_zero_iff->Ry,countP_mono_left->Rz,take_append_drop->RB,mem_of_getElem?->RE,map_cons->RF,flatMap_append->RG,map_nil->RJ,getElem_mem->RN
open UInt8 renaming lt_iff_toNat_lt->RQ,le_iff_toNat_le->RU,lt_asymm->RY
open Go renaming FuncId->RZ,execOp->R3,stepGR_op->R4,step_lone_go->R5,TypeInfo->R6,maxLen->R7,wp_loop_rounds->R8,callDeferred->R9,rounds_succ->Sa,cell_of_row->Sb,globalAddr->Sc
open Go.Extern.BytealgIndexByte renaming indexByte->Sd
open Go.Region.linearise renaming go->Se
open Go.Extern.BytealgIndex renaming index->Sf,maxLen->Sg
open Go.Act renaming eval->Sh,put->Si
open Go.World renaming alloc->Sj,cell?->Sk,size_alloc->Sl,putObj_heap_same->Sm,frozen?->Sn
open Go.Extern renaming findNext->Sp,find->Sq
open Nat renaming not_lt_zero->Su,reduceAdd->Sv,ble->Sx
open Go.Code renaming region->Sy,wpIn->Sz
open Go.Oper renaming semAt_eq->SB
open Option.some renaming injEq->SC
open Go.Addr renaming add_lit->SD
open Go.Extern.Bytes renaming loadBytes->SE,bytesOf->SG,asByte->SH
open Go renaming World->Wj,Value->Wx,Goroutine->Wk,Program->Wv,TypeId->Ww,Frame->Wy,Addr->Wu,undef->Wo
namespace Go.Proofs.Qw
open _root_ renaming rfl->Q
open Go.Proofs.Yq renaming prog->Vp
open _root_ renaming Nat->H,List->S
open Option renaming none->N,some->J
open Bool renaming true->Y,false->Z
open Value renaming int->I,string->U,slice->M,pointer->O,bool->C,agg->Rd,tuple->Re
open IntKind renaming i64->K
open Obj renaming cells->E
open Ending renaming returned->Rc
open Or renaming inl->Rf,inr->Rg
open Operand renaming tmp->Rh
open GoStatus renaming running->Ri
variable {B g i j n:H}{P Q:Wv}{ρ σ:Ren}{hv v z:Wx}{c q r:Exit->Act->Wj->Prop}{o s:Oper}{o':Obj}{V0 W W'' X w:Wj}{b e:Ww->n8 TypeInfo}{A A' D0:H->Prop}{F:FuncId->sq}{a a0:Act}{f f0:FuncId}{R:(H->Question->H)->H->Ending->Wj->Prop}{d:Act->Wj->Prop}{h ks:S (nF×n8 Wu)}
open Tryz
def Ren.plus(ρ:Ren)(n m:H)(I:H->Prop)(hlt:∀a b,ρ a b->a<n/\b<m)(ch:H->Prop)(hS:ρ.F i7=Z):Ren where
 rel:=λa b=>ρ a b\/∃i,I i/\a=n+i/\b=m+i
 fn:=λa b b' h1 h2=>by
  rcases h1 with h1|⟨i,-,h1,h3⟩<;>rcases h2 with h2|⟨j,-,h2,h4⟩
  .exact ρ.fn _ _ _ h1 h2
  .have:=(hlt _ _ h1).1;omega
  .have:=(hlt _ _ h2).1;omega
  .omega
 inj:=λa a' b h1 h2=>by
  rcases h1 with h1|⟨i,-,h1,h3⟩<;>rcases h2 with h2|⟨j,-,h2,h4⟩
  .exact ρ.inj _ _ _ h1 h2
  .have:=(hlt _ _ h1).2;omega
  .have:=(hlt _ _ h2).2;omega
  .omega
 prog:=ρ.prog
 F:=ρ.F
 old:=λ_=>uc
 ch:=ch
 loose:=Y
 wide:=Y
 tight:=λh=>by rw[hS]at h;cases h
 NT:=ρ.NT
 bad:=ρ.bad
 OU:=ρ.OU
section
variable {ρ:Ren} {n m:Nat} {I:Nat->Prop} {hlt:∀a b,ρ a b->a<n/\b<m} {ch:Nat->Prop} {hS:ρ.F i7=false} {V W V' W':Wj}
theorem tR:ρ.PY (ρ.plus n m I hlt ch hS):=⟨λ_ _ h=>Rf h,Q,λ_ h=>h,Q⟩
theorem o9(h:I i):(ρ.plus n m I hlt ch hS) (n+i) (m+i):=Rg ⟨i,h,Q,Q⟩
theorem Hd(d:cz ρ V W)(q:∀a b,ρ a b->V'.heap[a]?=V.heap[a]?)(l:∀b,b<m->W'.heap[b]?=W.heap[b]?)(j:W'.os=V'.os)
  (hnew:∀i,I i->∃o f,V'.heap[n+i]?=J o/\W'.heap[m+i]?=J f/\RO (ρ.plus n m I hlt ch hS) o f) (k:∀c,ch c->∃o,V'.heap[c]?=J o/\o.isChan=Y):cz (ρ.plus n m I hlt ch hS) V' W':=by
 refine⟨λa b e=>?_,λa h=>h.elim,k,j,λx a y r=>?_⟩
 rotate_left
 have⟨b,e,s⟩:=d.NT x a y r;exact⟨b,Rf e,s.same (q a b e) (l b (hlt a b e).2)⟩;rcases e with e|⟨i,hi,rfl,rfl⟩;have⟨o,f,v,u,p⟩:=d.obj a b e;refine⟨o,f,(q a b e).t v,(l b (hlt a b e).2).t u,RO.re tR rfl p (λz=>?_)⟩;cases p with
 |chan=>exact .chan _ _ _ _ _ _ _ _ _ (Rf Q) (Rf Q)
 |_=>cases z
 grind
end
structure iJ (P:Wv) [Two P](F:FuncId->sq):Prop where
 code:∀ (f:FuncId) fn b,F f=Y->P.funcs[f]?=J fn->fn.body=J b->aP P F b=Y
 alt:∀f,F f=Y->P.alt.funcs[f]?=P.funcs[f]?
 same:∀f:H,(P.alt.funcs[f]?).map strip=(P.funcs[f]?).map strip
 size:P.alt.funcs.size=P.funcs.size
 apart:∀f,Mk F f=Y->∃a b,P.alt.funcs[f]?=J a/\P.funcs[f]?=J b/\a.body.isSome=Y/\b.body.isSome=Y/\a.name=b.name
 ext:iH P F
theorem iJ.gid  [Two P]{σ:Ren}(h:iJ P σ.F)(c:∀g,g<P.globals.size->σ g g)(b:σ.prog=P)(d:σ.F oD=Y->∀a,¬σ.old a):GId P σ:=⟨c,b,h.code,h.alt,d,h.same,h.size,h.apart⟩
theorem RV.any{σ':Ren}(hrel:∀a b,σ a b->σ' a b)(hF:∀f,σ.F f=Y->σ'.F f=Y)(p:σ'.bad=σ.bad){v':Wx}(h:RV σ v v'):RV σ' v v':=by
 have d:∀ {a e:n8 Wu},RAo σ a e->RAo σ' a e:=λh=>by
  cases h with
  |none=>exact .none
  |some h=>exact .some ⟨hrel _ _ h.1,h.2⟩
 have i:∀ {a e:n8 H},RNo σ a e->RNo σ' a e:=λh=>by
  cases h with
  |none=>exact .none
  |some h=>exact .some (hrel _ _ h)
 induction h with
 |bool b=>exact .bool b
 |int k n=>exact .int k n
 |string s=>exact .string s
 |pointer h=>exact .pointer (d h)
 |slice n c h=>exact .slice n c (d h)
 |map h=>exact .map (i h)
 |chan h=>exact .chan (i h)
 |func o q j _ _ l m=>
  refine .func ?_ q j l m;cases o with
  |func f h=>exact .func f (hF f h)
  |yield h=>exact .yield (hrel _ _ h)
 |nilFunc=>exact .nilFunc
 |iface t _ ih=>exact .iface t ih
 |nilIface=>exact .nilIface
 |agg j _ ih=>exact .agg j ih
 |tuple j _ ih=>exact .tuple j ih
 |dead v' h=>exact .dead v' h
 |odd n s a c r=>exact .odd n s a c (r.t p.s)
theorem RVs.any{σ'}(hrel:∀a b,σ a b->σ' a b)(hF:∀f,σ.F f=Y->σ'.F f=Y)(k:σ'.bad=σ.bad){c c':pt Wx}(h:RVs σ c c'):RVs σ' c c':=⟨h.size,λi v e d j=>(h.at_ i v e d j).any hrel hF k⟩
theorem RO.any{σ':Ren}(hrel:∀a b,σ a b->σ' a b)(hF:∀f,σ.F f=Y->σ'.F f=Y)(j:σ'.bad=σ.bad)(l:σ'.F oD=σ.F oD){o:Obj}(i:Am o)(h:RO σ o o'):RO σ' o o':=by
 have d:∀ {q:Obj},Am q->(∀c e z,q≠.cells c e z)->Fixed q:=λh k=>by
  rcases h with⟨c,e,z,h⟩|h
  grind
  exact h
 cases h with
 |cells e m h=>exact .cells e (by rw[l];exact m) (h.any hrel hF j)
 |number b h=>exact .number b ⟨hrel _ _ h.1,h.2⟩
 |dead _ h=>exact .dead _ h
 |_=>exact(d i (λ_ _ _ h=>by cases h)).elim
theorem od  [Two P](k:cC P)(j:cJ P){A:H->Prop}{F:RZ->sq}{T:Wk->Wj->Prop}(l:∀g w,T g w->g.callers≠[]/\g.dying=none/\g.status=Ri)(i:∀g w a d,T g (w.on a d)↔T g w){h:Wk}{w:Wj}(hS:Self P ([trap P],[]) A F h w)
  (c:∀a d,∃f b,Steps P (solo h (w.on a d)) (solo f b)/\T f b):Dem P (mt P ([trap P],[]) A F) T h w:=by
 refine Way.dem (N:=mt P ([trap P],[]) A F) ⟨λg w h=>h.PO k j,λg w a d h=>⟨h.1.on a d,h.2⟩,i⟩ (λa d=>?_);have⟨f,b,⟨n,m⟩,e⟩:=c a d;exact pX k j l n _ _ _ b (hS.on a d) m e
def Ren.NX(σ:Ren)(P:Wv)(hb:NoM P σ.bad)(c:H):Ren where
 rel:=σ.rel
 fn:=σ.fn
 inj:=σ.inj
 prog:=P
 F:=σ.F
 old:=λ_=>uc
 ch:=λa=>a=c
 loose:=Z
 wide:=Z
 tight:=λ_=>rfl
 NT:=σ.NT
 bad:=σ.bad
 OU:=hb
theorem Ao{i:NoM P σ.bad}{V W'}(d:cz σ V W){c c'}(z:σ c c')(m:∀a b,σ a b->a≠c->∃o,V.heap[a]?=J o/\Am o)(B:∀b,b≠c'->W'.heap[b]?=W.heap[b]?)(u:W'.os=W.os){id s X q q'}{b A:pt Wx}{D F:sq}(v:V.heap[c]?=J (.chan n b D s q F))(p:W'.heap[c']?=J (.chan id A D X q' F))(r:RVs (σ.NX P i c) b A):cz (σ.NX P i c) V W':=by
 refine⟨λx y f=>?_,λ_ h=>h.elim,λa h=>?_,u.t d.os,λr a c0 R=>?_⟩
 rotate_left 2
 have⟨y,l,G⟩:=d.NT r a c0 R;refine⟨y,l,G.same Q (B y (λe=>?_))⟩;obtain rfl:=σ.inj _ _ _ l (e▸z);obtain⟨_,_,_,_,_,j,-⟩:=G;rw[v]at j;cases j;have f:σ x y:=f;by_cases e:x=c
 subst e;obtain rfl:=σ.fn _ _ _ f z;exact⟨_,_,v,p,.chan _ _ _ _ _ _ _ _ _ (Rg r) (Rg Q)⟩;have⟨o,o',L,h2,h3⟩:=d.obj x y f;have⟨o2,j,k2⟩:=m x y f e;rw[L]at j;cases j;exact⟨o,o',L,(B y (λk=>e (σ.inj _ _ _ f (k▸z)))).t h2,RO.any (σ:=σ) (σ':=σ.NX P i c) (λ_ _ h=>h) (λ_ h=>h) Q Q k2 h3⟩;have h:a=c:=h;subst h;exact⟨_,v,Q⟩
section
open Go.Conc Go.ConcX Go.ConcX.Gen Go.RowKit
structure D2 (Pre:Lst->S Wx->Wj->Prop):Prop where
 low:∀ (ρ:Ren) (V W V':Wj) (l:Lst) (L:S Wx),cz ρ V W->(∃r,RAo ρ l.root r)->(∀g,g<Tryz.prog.globals.size->∃y,ρ g y)->(∀a y i v,ρ a y->V.cell? ⟨a,i,N⟩=J v->Good v->V'.cell? ⟨a,i,N⟩=J v)->V.heap.size<=V'.heap.size->Pre l L V->Pre l L V'
 on:∀ (V V':Wj) (l:Lst) (L:S Wx),(∀a,a.block<V.heap.size->V'.cell? a=V.cell? a)->V.heap.size<=V'.heap.size->Pre l L V->Pre l L V'
 item:∀l L V,Pre l L V->∀v∈L,∃ (a b:tb) (s:tn),v=Rd #[I K a,U s,I K b]
 len:∀l L V,Pre l L V->L.length<=1000
 send:∀ (l:Lst) (L:S Wx) (w:Wj) (c:H),Pre l L w->w.heap[c]?=J (.chan 1000 #[] Z 0 0 Z) ->
  Calls Vp 99 #[qV l.vs l.p l.d l.af,sV l.root,.chan (J c)] w λe w'=>e=Rc (Re #[])/\((∀b,b<w.heap.size->b≠c->w'.heap[b]?=w.heap[b]?)/\w.heap.size<=w'.heap.size/\w'.os=w.os)/\w'.heap[c]?=J (.chan 1000 L.toArray Z L.length 0 Z)
section
variable (V:Wj) (l:Lst)
def dl(a:H):Wj:=itW (pgW V l) l.root l.vs l.p l.d l.af a
theorem Ap:(pgW V l).heap.size=V.heap.size+3:=by simp only[pgW,Sj,Rm]
theorem gw a:(dl V l a).heap.size=V.heap.size+7:=by simp only[dl,itW,pgW,Sj,Rm]
theorem fF b{a}(h:a<V.heap.size):(dl V l b).heap[a]?=V.heap[a]?:=by
 simp only[dl,itW,pgW,Sj,gP,Rm]
 grind
theorem cK a i(h:i<7):(dl V l a).heap[V.heap.size+i]?=(#[E (aT l) 116,E #[M N 0 0,U ⟨#[]⟩] 79,E #[M N 0 0,U ⟨#[]⟩] 79,E #[C l.vs,U l.p,U l.d,U l.af] 84,E #[O l.root] 40,.chan a #[] Z 0 0 Z,E #[.chan (J (V.heap.size+5))] 187]:pt Obj)[i]?:=by
 simp only[dl,itW,pgW,Sj,gP,Rm]
 grind
theorem lI a:Boxes (dl V l a) (V.heap.size+3+3) (V.heap.size+3) (V.heap.size+3+1) (V.heap.size+3+2) l.root l.vs l.p l.d l.af:=by
 have h3:=cK V l a 3 (by omega);have h4:=cK V l a 4 (by omega);have h6:=cK V l a 6 (by omega);have c:∀ (b i:H) (x:pt Wx) (t:Ww),(dl V l a).heap[b]?=J (E x t)->(dl V l a).cell? ⟨b,i,N⟩=x[i]?:=λb i x t h=>by unfold Sk;simp[h]
 refine⟨?_,?_,?_,?_,?_,?_⟩
 grind
 grind
 grind
 grind
 grind
 grind
theorem rT b:∀a:Wu,a.block<V.heap.size->(dl V l b).cell? a=V.cell? a:=λ_a h=>cB (fF V l b h)
end
theorem vK{Pre:Lst->S Wx->Wj->Prop}(hPre:D2 Pre)l(pn:tb)L V cs(hp:Pre l L V)(ht:Region.schedule (Yq.prog.follows .mixedOrders) Yq.NH (V.tape V.drawn (.order 48 100))=[1,0]):
  ∃V4:Wj,Steps Vp (lone (kr Vp 48 #[lV l,I K pn] .normal) cs V) (lone (pF2 V.heap.size l pn (V.heap.size+5)) cs V4) /\
   (∀b,b<V.heap.size+7->b≠V.heap.size+5->V4.heap[b]?=(dl V l 1000).heap[b]?)/\V4.heap[V.heap.size+5]?=J (.chan 1000 L.toArray Y L.length 0 Z)/\V4.os=V.os:=by
 obtain⟨Va,hVa⟩:∃Va:Wj,Va={V with drawn:=V.drawn+1}:=⟨_,Q⟩;have e1:Va.heap=V.heap:=by rw[hVa]
 have s1:=Hb (lV l) (I K pn) cs V ht;rw[<-hVa,<-vF]at s1;have hcall:step Vp (lone ((base 48).at ⟨mB Va.heap.size l pn,[]⟩ (.inRegion vE [4]::n9)) cs (pgW Va l))=.next (lone (kr Vp 76 #[qV l.vs l.p l.d l.af,sV l.root] .normal) (pF Va.heap.size l pn::cs) (pgW Va l)):=by
  refine tP (o := { dst := J 17, op := .call { callee := .value (.func 76), args := #[Rh 14, Rh 16], argTypes := #[84, 40] }, type := 158, pos := "listing.go:108", after := #[{ on := 1, ground := .data }, { on := 3, ground := .data }], guard := N }) rfl rfl ?_
  have := run_call_body (P := Vp) (a := ⟨mB Va.heap.size l pn, []⟩) (w := pgW Va l) (o := { dst := J 17, op := .call { callee := .value (.func 76), args := #[Rh 14, Rh 16], argTypes := #[84, 40] }, type := 158, pos := "listing.go:108", after := #[{ on := 1, ground := .data }, { on := 3, ground := .data }], guard := N }) rfl Yq.func76 rfl rfl
  have e:(#[Rh 14,Rh 16]:pt Operand).map (Sh ⟨mB Va.heap.size l pn,[]⟩)=#[qV l.vs l.p l.d l.af,sV l.root]:=by
   simp only[List.map_toArray,RF,RJ];rfl
  grind
 have s3:=DZ l.root l.vs l.p l.d l.af (pF Va.heap.size l pn::cs) (pgW Va l);have hsz:(pgW Va l).heap.size=V.heap.size+3:=by rw[Ap,e1]
 rw[hsz]at s3;have hcw:dl Va l 1000=itW (pgW Va l) l.root l.vs l.p l.d l.af 1000:=rfl;rw[<-hcw]at s3;have hb:Boxes (dl Va l 1000) (V.heap.size+3+3) (V.heap.size+3) (V.heap.size+3+1) (V.heap.size+3+2) l.root l.vs l.p l.d l.af:=by
  have:=lI Va l 1000
  grind
 have hpa:=hPre.on V _ l L (λa ha=>by
  rw[rT Va l 1000 a (by rw[e1];exact ha)];unfold Sk;rw[e1]) (by rw[gw,e1];omega) hp
 have hrow:(dl Va l 1000).heap[V.heap.size+3+2]?=J (.chan 1000 #[] Z 0 0 Z):=by
  have:=cK Va l 1000 5 (by omega)
  grind
 obtain⟨w',⟨hold,hsize,hos⟩,hr',s4⟩:=vJ (root0:=l.root) hb (hPre.send l L _ _ hpa hrow) (pF Va.heap.size l pn::cs);have heq:∀b:H,(dl Va l 1000).heap[b]?=(dl V l 1000).heap[b]?:=λb=>by
  have:(dl Va l 1000).heap=(dl V l 1000).heap:=by simp only[dl,itW,pgW,Sj,e1]
  rw[this]
 have hot:∀b,b≠V.heap.size+5->(fP w' (V.heap.size+3+2) 1000 L.toArray L.length 0 Z).heap[b]?=w'.heap[b]?:=λb hb=>by
  unfold fP World.setChan
  grind
 have hout:(fP w' (V.heap.size+3+2) 1000 L.toArray L.length 0 Z).cell? ⟨V.heap.size+3+3,0,N⟩=J (.chan (J (V.heap.size+3+2))):=by
  rw[cB (w:=dl Va l 1000) (a:=⟨V.heap.size+3+3,0,N⟩)];exact hb.o;show(fP w' (V.heap.size+3+2) 1000 L.toArray L.length 0 Z).heap[V.heap.size+3+3]?=(dl Va l 1000).heap[V.heap.size+3+3]?;rw[hot _ (by omega)];exact hold _ (by rw[gw,e1];omega) (by omega)
 have s5:=D1 Va.heap.size (V.heap.size+3) l pn cs (fP w' (V.heap.size+3+2) 1000 L.toArray L.length 0 Z) l.root hout;refine⟨fP w' (V.heap.size+3+2) 1000 L.toArray L.length 0 Z,?_,λb h1 h2=>?_,?_,?_⟩;rw[<-e1];refine Steps.t s1 (Steps.t (G9 l pn cs Va) (.head hcall (Steps.t s3 (Steps.t s4 ?_))));rw[e1]at s5 ⊢;exact s5;rw[hot b h2,<-heq];exact hold b (by rw[gw,e1];exact h1) (by omega);exact heap_setChan _ _ _ _ _ _ _ _ (eS hr').1;exact(show w'.os=_ from hos.t (by simp only[dl,itW,pgW,Sj];exact(by rw[hVa])))
inductive RVl (ρ:Ren):S Wx->S Wx->Prop
 |nil:RVl ρ [] []
 |cons {v v':Wx} {l l':S Wx} (h:RV ρ v v') (hl:RVl ρ l l'):RVl ρ (v::l) (v'::l')
theorem RVl.len{l a}(h:RVl ρ l a):l.length=a.length:=by
 induction h with
 |nil=>rfl
 |cons _ _ ih=>simp[ih]
theorem RVl.at_{l b}(h:RVl ρ l b):∀ (i:H) v a,l[i]?=J v->b[i]?=J a->RV ρ v a:=by
 induction h with
 |nil=>intro i v a h;simp at h
 |cons h _ ih=>
  grind
theorem RVl.arr{l a}(h:RVl ρ l a):RVs ρ l.toArray a.toArray:=⟨by simp[h.len],λi v c b d=>h.at_ i v c (by simpa using b) (by simpa using d)⟩
theorem RVl.agg{ρ:Ren}{l a:S Wx}(h:RVl ρ l a):RV ρ (.agg l.toArray) (.agg a.toArray):=.agg h.arr.size h.arr.at_
section
variable {σ:Ren} {l:Lst} {r':n8 Wu}
theorem nt(h:RAo σ l.root r'):RVs σ (aT l) (aT {l with root:=r'}):=
 RVl.arr (.cons (.int _ _) (.cons (.pointer h) (.cons (.bool _) (.cons (.string _) (.cons (.string _) (.cons (.string _) (.cons (.int _ _) (.cons (.int _ _) .nil))))))))
theorem LT(h:RAo σ l.root r'):RV σ (lV l) (lV {l with root:=r'}):=.agg (nt h).size (nt h).at_
theorem LU(a:sq)(p d b:tn):RV σ (qV a p d b) (qV a p d b):=RVl.agg (.cons (.bool _) (.cons (.string _) (.cons (.string _) (.cons (.string _) .nil))))
theorem LV{r:n8 Wu}(h:RAo σ r r'):RV σ (sV r) (sV r'):=RVl.agg (.cons (.pointer h) .nil)
end
theorem LW{l}(h:RV ρ (lV l) v):∃r',RAo ρ l.root r'/\v=lV {l with root:=r'}:=by
 cases h with
 | @agg _ c' y a=>
  have hsz:c'.size=8:=by rw[<-y];rfl
  obtain⟨c⟩:=c';have b:c.length=8:=by grind
  rcases c with - |⟨d,- |⟨x,- |⟨n,- |⟨k,- |⟨f,- |⟨o,- |⟨u,- |⟨m,- |⟨x8,c⟩⟩⟩⟩⟩⟩⟩⟩⟩<;>simp at b
  have i:=a 0 _ d Q Q;have r:=a 1 _ x Q Q;have e:=a 2 _ n Q Q;have j:=a 3 _ k Q Q;have q:=a 4 _ f Q Q;have t:=a 5 _ o Q Q;have p:=a 6 _ u Q Q;have s:=a 7 _ m Q Q;cases i;cases e;cases j;cases q;cases t;cases p;cases s;cases r with
  |pointer h=>exact⟨_,h,Q⟩
theorem He{l}{pn:tb}{a:pt Wx}(h:RVs ρ #[lV l,I K pn] a):∃r',RAo ρ l.root r'/\a=#[lV {l with root:=r'},I K pn]:=by
 obtain⟨c⟩:=a;have b:=h.size;rcases c with - |⟨d,- |⟨f,- |⟨x2,c⟩⟩⟩<;>simp at b
 have e:=h.at_ 1 _ f Q Q;cases e;obtain⟨r',k1,rfl⟩:=LW (h.at_ 0 _ d Q Q)
 grind
section
variable {ρ:Ren} {V W V':Wj} {l:Lst} {r':n8 Wu} {I:Nat->Prop} {ch:Nat->Prop}
theorem tT(d:cz ρ V W)(hS:ρ.F i7=Z)(A:RAo ρ l.root r')(z:∀i,I i->i<7)(n:I 5)(P:∀a b,ρ a b->V'.heap[a]?=V.heap[a]?)(u:∀i,i<7->i≠5->V'.heap[V.heap.size+i]?=(dl V l 1000).heap[V.heap.size+i]?)(m:∃k b x s q,V'.heap[V.heap.size+5]?=J (.chan k b x s q Z))(p:V'.os=V.os)(v:∀c,ch c->∃o,V'.heap[c]?=J o/\o.isChan=Y)(G:H):
  cz (ρ.plus V.heap.size W.heap.size I (λ_ _ h=>d.lt h) ch hS) V' ((dl W {l with root:=r'} 20).at G):=by
 refine Hd d P (λb B=>fF W _ 20 B) (by rw[p];exact d.os) (λi D=>?_) v;have r:=z i D;have e:=cK W {l with root:=r'} 20 i r;by_cases y:i=5
 subst y;obtain⟨k,b,x,s,q,L⟩:=m;exact⟨_,_,L,e,.chan _ _ _ _ _ _ _ _ _ (.inl rfl) (.inl rfl)⟩;have f:=(u i r y).t (cK V l 1000 i r);have j:RAo (ρ.plus V.heap.size W.heap.size I (λ_ _ h=>d.lt h) ch hS) l.root r':=RAo.re tR A;rcases i with - | - | - | - | - | - | - |i;exact⟨_,_,f,e,.cells 116 (.inl rfl) (nt j)⟩;exact⟨_,_,f,e,.cells 79 (.inl rfl) (RVl.arr (.cons (.slice _ _ .none) (.cons (.string _) .nil)))⟩;exact⟨_,_,f,e,.cells 79 (.inl rfl) (RVl.arr (.cons (.slice _ _ .none) (.cons (.string _) .nil)))⟩;exact⟨_,_,f,e,.cells 84 (.inl rfl) (RVl.arr (.cons (.bool _) (.cons (.string _) (.cons (.string _) (.cons (.string _) .nil)))))⟩;exact⟨_,_,f,e,.cells 40 (.inl rfl) (RVl.arr (.cons (.pointer j) .nil))⟩
 grind
 exact⟨_,_,f,e,.cells 187 (.inl rfl) (RVl.arr (.cons (.chan (.some (o9 n))) .nil))⟩;omega
end
section
variable {P:Wv} {σ:Ren} {l:Lst} {r':n8 Wu} {n m c c':Nat} {pn:tb}
theorem yG(d:σ n m)(i:σ (n+1) (m+1))(o:σ (n+2) (m+2))(k:σ c c')(f:RAo σ l.root r')(e:aP P σ.F (dr (i8 cU))=Y/\aP P σ.F (dr cU)=Y):RFr P σ (pF2 n l pn c) (pF2 m {l with root:=r'} pn c'):=by
 refine⟨rfl,?_,.cons (.regionEnd _ _) (.cons (.code e.1) (.cons (.code e.2) .nil)),.nil,.run,⟨rfl,rfl,by simp[pF2,Frame.at,base]⟩,.none⟩;have p:∀ {a b:H} (j:H),σ a b->RV σ (.pointer (J ⟨a,j,N⟩)) (.pointer (J ⟨b,j,N⟩)):=λj h=>.pointer (.some ⟨h,rfl,rfl⟩)
 have u:RV σ Wo Wo:=dG;exact RVl.arr (.cons (LT f) (.cons (.int _ _) (.cons (p 0 d) (.cons u (.cons (p 0 i) (.cons (p 0 o) (.cons (.int _ _) (.cons (.int _ _) (.cons u (.cons (.int _ _) (.cons (p 6 d) (.cons (.int _ _) (.cons (.int _ _) (.cons (p 2 d) (.cons (LU _ _ _ _) (.cons (p 1 d) (.cons (LV f) (.cons (.chan (.some k)) (.cons u (.cons u (.cons u (.cons u (.cons u (.cons u (.cons u (.cons u (.cons u (.cons u (.cons u (.cons u (.cons u (.cons u (.cons u (.cons u (.cons u (.cons u (.cons u (.cons u (.cons u (.cons u (.cons u (.cons u (.cons u (.cons u (.cons u (.cons u (.cons u (.cons u (.cons u .nil)))))))))))))))))))))))))))))))))))))))))))))))))
theorem D3(k:CallKind)(u:(k == .early)=Z/\k≠.report){id n l f o:H}(z:σ id l)(B:σ n f)(y:σ j o){fn:Func}{b:Code}(s:P.funcs[98]?=J fn)(m:Q.funcs[98]?=J fn)(t:fn.body=J b)(x:aP P σ.F b=Y):RFr P σ (kr Q 98 #[ptr id,ptr n,ptr j] .normal) (kr P 98 #[ptr l,ptr f,ptr o] k):=by
 have p:∀ {a b:H},σ a b->RV σ (ptr a) (ptr b):=λh=>.pointer (.some ⟨h,rfl,rfl⟩)
 have c:(kr Q 98 #[ptr id,ptr n,ptr j] .normal).todo=[.code b]:=by simp[kr,m,t]
 have d:(kr P 98 #[ptr l,ptr f,ptr o] k).todo=[.code b]:=by simp[kr,s,t]
 refine⟨rfl,?_,by rw[c,d];exact .cons (.code x) .nil,.nil,.run,⟨rfl,u.1,u.2⟩,.none⟩;have q:(kr Q 98 #[ptr id,ptr n,ptr j] .normal).tmps=#[ptr id,ptr n,ptr j]++Rj (fn.ntmps-3) Wo:=by simp[kr,m]
 have r:(kr P 98 #[ptr l,ptr f,ptr o] k).tmps=#[ptr l,ptr f,ptr o]++Rj (fn.ntmps-3) Wo:=by simp[kr,s]
 rw[q,r];have a:=RVl.arr (.cons (p z) (.cons (p B) (.cons (p y) .nil)));refine⟨by simp,λi v v' c d=>?_⟩;rw[Rl]at c d;by_cases A:i<3
 grind
 rw[vf (by simpa using A)]at c d;simp only[Rk]at c d;split at c
 cases c;split at d
 cases d;exact dG;cases d;cases c
end
theorem D5{c}{cs}{r}(h:a.eval (Rh 17)=.chan (J c)):∃z es,stepG Vp Y (G (mC a (0::r)) cs) w=.comm (G (mC a (0::r)) cs) #[rcase c z] Y (.recv Y) w es:=by
 refine⟨Rd #[I K 0, U ⟨#[]⟩, I K 0], _, stepG_comm (o := { dst := J 18, op := .recv 158 (Rh 17) Y, type := 0, pos := "listing.go:108", after := #[], guard := N }) rfl rfl (by decide) ?_⟩
 have e : R3 a.eval { dst := J 18, op := .recv 158 (Rh 17) Y, type := 0, pos := "listing.go:108", after := #[], guard := N } = (do
  let .chan _ elem ← underlying 158 | stuck "receive: channel type expected"
  pure (.comm #[{chan:=a.eval (Rh 17),send:=N,zero:=<-zeroValue elem}] Y (.recv Y))):=rfl
 rw[e,h];simp[go_sem,rcase]
theorem vM(h:∃ (a b:tb)(s:tn),v=.agg #[.int .i64 a,.string s,.int .i64 b]):Flat v:=by
 obtain⟨a,b,s,rfl⟩:=h;refineλρ=>⟨RVl.agg (.cons (.int _ _) (.cons (.string _) (.cons (.int _ _) .nil))),λv' h=>?_⟩
 cases h with
 | @agg _ c' hc e=>
  obtain⟨d⟩:=c';have c:d.length=3:=by grind
  rcases d with - |⟨f,- |⟨l,- |⟨m,- |⟨x3,d⟩⟩⟩⟩<;>simp at c
  have k:=e 0 _ f rfl rfl;have j:=e 1 _ l rfl rfl;have i:=e 2 _ m rfl rfl;cases k;cases j;cases i;rfl
section
variable [Two Tryz.prog] [Two Vp]
structure tU (G Fs Fr:FuncId->sq):Prop where
 alt:Tryz.prog.alt=Vp
 zero:cC dT
 O0:cC Vp
 count:cJ dT
 ON:cJ Vp
 Pq:iJ dT Fs
 P9:iJ dT Fr
 OX:iJ Vp Fs
 PC:iJ Vp Fr
 mark:∀f,Mk G f=Y->f=48
 s:Fs oD=Z/\Fs LF=Z/\Fs nX=Z
 smk:∀f,¬Mk Fs f=Y
 QJ:Fs 98=Y
 r:Fr oD=Z/\Fr i7=Z/\Fr nX=Z
 rmk:∀f,¬Mk Fr f=Y
 okG:aP dT G (dr (i8 cU))=Y/\aP dT G (dr cU)=Y
 okR:aP dT Fr (dr (i8 cU))=Y/\aP dT Fr (dr cU)=Y
 okR1:aP Vp Fr (dr (i8 cU))=Y/\aP Vp Fr (dr cU)=Y
 notR:aP dT Fr (cD gL)=Z
theorem D6{G Fs Fr:RZ->sq}(a:tU G Fs Fr){n}(h:NoM P n)(b:P=dT):NoM Vp n:=by
 subst b
 rwa [<-a.alt]
def Jt(c:H)(h:Wk)(V:Wj):Prop:=
 ∃a,h=G (mC a [0,1]) [trap Vp]/\a.eval (Rh 17)=.chan (J c)/\∃k s q,V.heap[c]?=J (.chan k #[] Y s q Z)
def Ju(c:H)(L:S Wx)(h:Wk)(V:Wj):Prop:=
 (h.callers=[trap Vp]/\h.frame.fn=98/\h.frame.mode=.returning/\∃at_ t k,h.frame.defers=[{target:=.builtin .close at_ t k,args:=#[.chan (J c)]}])/\(h.dying=N/\h.status=Ri)/\∃k s q,V.heap[c]?=J (.chan k L.toArray Z s q Z)
noncomputable def phD(T:Wk->Wj->Prop)(G Fs Fr:RZ->sq)(L:S Wx)(n m k:H)(X:S Wy×S Wy)(R0:H->H->Prop)(h0:Wk)(V0:Wj)(U:Outer):PhD dT where
 T:=T
 Nr:=mt Vp ([trap Vp],[]) (λa=>a=n+5) Fr
 Tr:=Jt (n+5)
 Ns:=mt Vp ([trap Vp],[]) (λa=>a=n+5) Fs
 Ts:=Ju (n+5) L
 h0:=h0
 V0:=V0
 k:=k
 c:=m+5
 cV:=n+5
 cr:=n+5
 cs:=n+5
 X:=X
 Bs:=[eZ dT]
 L:=L
 R0:=R0
 Fp:=G
 Fr:=Fr
 bo:=m+6
 U:=U
theorem Nm{G Fs Fr:RZ->sq}(c:tU G Fs Fr){T:Wk->Wj->Prop}{Post:Wx->Wj->Prop}{L}{m id}{P x}{cs t}{h0}{i:Outer}(hk:id≠0)(hL:∀v∈L,Flat v)(hT:∀h V,T h V->h.callers.length<=1)
  (hI:GId dT ρ) (hE:iH dT ρ.F) (y:ρ.F=G) (hS:ρ.F i7=Z) (hM:ρ.F nX=Z) (ab:ρ.bad=i.bad) (hX:RFs dT ρ ([trap Tryz.prog.alt],[]) (P::cs) (x::t)) (hlen:1<=cs.length)
  (u:∀h V,LSs Tryz.prog.alt T h0 V0 h V->rM dT i G [] Post h V):Ab dT (phD T G Fs Fr L n m id (P::cs,x::t) ρ.rel h0 V0 i) Post where
 zero:=c.zero
 count:=c.count
 mark:=λf R fn b D X=>by
  obtain rfl:=c.mark f R;rw[func48]at D;cases D;have:cD gL=b:=by unfold cD;rw[X];rfl
  rw[<-this];exact c.notR
 k0:=hk
 flat:=hL
 deep:=by show 2<=(P::cs).length;simp;omega
 Qc:=hT
 nr:=λh V o=>by rw[c.alt];exact o.2
 tr:=λh V o=>by
  obtain⟨a,rfl,aa,kk,s,q,l⟩:=o;refine⟨λ_=>Rf Q,λn1 b s q tm p=>?_,λB d=>?_⟩
  .have p:V.heap[n+5]?=_:=p;rw[l]at p;cases p;rfl
  .have ⟨z,es,e⟩:=D5 (cs:=[trap Vp]) (w:=V.on B d) (r:=[1]) aa;rw[c.alt];exact⟨_,_,_,_,_,_,_,e,.shut (r:=n+5) Q Q l⟩
 ns:=λh V o=>by rw[c.alt];exact o.2
 bs:=by simp[phD]
 grow:=λh V B d h' V' o hl n b cl s q tm p=>by
  rw[c.alt]at hl;exact mt.grow (w:=V.on B d) c.O0 c.ON c.s.2.1 (A:=λa=>a=_) Q ⟨o.1.on B d,o.2⟩ hl p
 ts:=λh V o nn b cl s q tm p=>by
  obtain⟨-,-,k2,s2,q2,l⟩:=o;have p:V.heap[n+5]?=_:=p;rw[l]at p;cases p;exact⟨Q,Q⟩
 close:=λh V ρs g W o j nn b s q tm l=>by
  obtain⟨⟨D,X,h3,h4⟩,-⟩:=o;exact G7 func98 Q j ⟨by rw[c.alt];exact D,X,h3,h4⟩ l
 fin:=DW (ρ0:=ρ) (λ_ _ h=>h) hI hE hS hM (λf R=>by rw[y];exact R) (by rw[y];rfl) ab hX (by show 2<=(P::cs).length;simp;omega) (by show 0<(x::t).length;simp) (by rw[y];exact u)
end
theorem dV V l a:(dl V l a).heap[V.heap.size+5]?=J (.chan a #[] Z 0 0 Z):=cK V l a 5 (by omega)
section
variable [Two Tryz.prog] [Two Vp] {Gf Fs Fr:FuncId->sq} {Pre:Lst->List Wx->Wj->Prop} {ρ:Ren} {V W:Wj} {l:Lst} {r':n8 Wu} {L:List Wx}
def Hf(S:cz ρ V W)(hS:ρ.F i7=Z):Ren:=ρ.plus V.heap.size W.heap.size (λi=>3<=i/\i<7) (λ_ _ h=>S.lt h) (λa=>a=V.heap.size+5) hS
def yH(S:cz ρ V W)(hS:ρ.F i7=Z):Ren:=ρ.plus V.heap.size W.heap.size (λi=>i<7) (λ_ _ h=>S.lt h) (λa=>a=V.heap.size+5) hS
noncomputable def Nc(n:H):Wk:=G (kr Vp 98 #[ptr (n+6),ptr (n+3),ptr (n+4)] .normal) [trap Vp]
noncomputable def Nd(m:H):Wk:=G (kr dT 98 #[ptr (m+6),ptr (m+3),ptr (m+4)] .deferred) [eZ dT]
theorem Hg(e:tU Gf Fs Fr)(r:D2 Pre)(f:cz ρ V W)(hS:ρ.F i7=Z)(hr:RAo ρ l.root r')(hp:Pre l L V)(D:GId dT ρ)(T:H):
  ∃Vs z,Snd dT ([trap Tryz.prog.alt],[eZ dT]) ((Hf f hS).low Fs (λ_=>uc) (V.heap.size+5) Z z) (Nc V.heap.size) (Nd W.heap.size) Vs ((dl W {l with root:=r'} 20).at T) (V.heap.size+5) (W.heap.size+5) [] /\
   Dem Vp (mt Vp ([trap Vp],[]) (λa=>a=V.heap.size+5) Fs) (Ju (V.heap.size+5) L) (Nc V.heap.size) Vs:=by
 have S3:cz (Hf f hS) (dl V l 1000) ((dl W {l with root:=r'} 20).at T):=tT f hS hr (λi h=>h.2) ⟨by omega,by omega⟩ (λa b h=>fF V l 1000 (f.lt h).1) (λ_ _ _=>rfl) ⟨_,_,_,_,_,dV V l 1000⟩ rfl (λc h=>by
  subst h;exact⟨_,dV V l 1000,rfl⟩) T
 have z:Fs i7=Y->Z=false:=λ_=>rfl
 have m:∀i,3<=i->i<7->(Hf f hS) (V.heap.size+i) (W.heap.size+i):=λi h1 h2=>o9 ⟨h1,h2⟩
 obtain⟨Vs,SS,ab,htp,hdr,hos,v,B,j,-,y⟩:=lower (F:=Fs) (live:=λ_=>uc) (c:=V.heap.size+5) (c':=W.heap.size+5) (wide:=Z) (n:=1000) (b:=#[]) (cl:=Z) (s:=0) (q:=0) S3 z e.s.1 (m 5 (by omega) (by omega)) (dV W {l with root:=r'} 20) (.inr rfl) (λa h=>h.elim);refine⟨Vs,z,?_,?_⟩;refine⟨⟨D3 (P:=dT) (σ:=(Hf f hS).low Fs (λ_=>uc) (V.heap.size+5) Z z) (Q:=Vp) .deferred ⟨rfl,by simp⟩ (m 6 (by omega) (by omega)) (m 3 (by omega) (by omega)) (m 4 (by omega) (by omega)) func98 (Yq.nq func98) rfl (e.Pq.code 98 _ _ e.QJ func98 rfl),by rw[e.alt];exact .base,⟨λh=>?_,λ_=>rfl⟩,⟨rfl,rfl⟩,⟨rfl,rfl⟩,rfl,rfl⟩,SS,e.Pq.gid (λg R=>.inl (D.NS g R)) D.prog (λh=>by rw[show(((Hf f hS).low Fs (λ_=>uc) (V.heap.size+5) Z z).F)=Fs from rfl,e.s.1]at h;cases h),e.Pq.ext,⟨e.s.2.1,e.s.2.2⟩,e.smk,⟨rfl,rfl⟩,λx=>Iff.rfl,m 5 (by omega) (by omega),⟨_,_,_,_,_,v,rfl⟩,λa n b s q tm h=>B a _ h rfl⟩;rcases h with h|h;exact sT rfl h
 grind
 have u:Boxes Vs (V.heap.size+6) (V.heap.size+3) (V.heap.size+4) (V.heap.size+5) l.root l.vs l.p l.d l.af:=by
  have u:=lI V l 1000;exact⟨j _ _ _ _ (m 6 (by omega) (by omega)) u.o (.chan _),j _ _ _ _ (m 3 (by omega) (by omega)) u.q0 (.bool _),j _ _ _ _ (m 3 (by omega) (by omega)) u.q1 (.string _),j _ _ _ _ (m 3 (by omega) (by omega)) u.q2 (.string _),j _ _ _ _ (m 3 (by omega) (by omega)) u.q3 (.string _),j _ _ _ _ (m 4 (by omega) (by omega)) u.st (.pointer _)⟩
 refine od e.O0 e.ON (λg w h=>⟨by rw[h.1.1];simp,h.2.1⟩) (λg w X d=>Iff.rfl) ⟨rfl,((Hf f hS).low Fs (λ_=>uc) (V.heap.size+5) Z z).NX Vp (D6 e ρ.OU D.prog) (V.heap.size+5),G (kr Vp 98 #[ptr (W.heap.size+6),ptr (W.heap.size+3),ptr (W.heap.size+4)] .normal) [],(dl W {l with root:=r'} 20).at T,⟨D3 (P:=Vp) (σ:=((Hf f hS).low Fs (λ_=>uc) (V.heap.size+5) Z z).NX Vp (D6 e ρ.OU D.prog) (V.heap.size+5)) (Q:=Vp) .normal ⟨rfl,by simp⟩ (m 6 (by omega) (by omega)) (m 3 (by omega) (by omega)) (m 4 (by omega) (by omega)) (Yq.nq func98) (Yq.nq func98) rfl (e.OX.code 98 _ _ e.QJ (Yq.nq func98) rfl),.base,⟨λ_=>rfl,λ_=>rfl⟩,⟨rfl,rfl⟩,⟨rfl,rfl⟩,rfl,rfl⟩,Ao SS (m 5 (by omega) (by omega)) y (λ_ _=>rfl) rfl v (dV W {l with root:=r'} 20) RVs.nil,e.OX.gid (λg R=>.inl (D.NS g (by rw[Yq.globals_size]at R;exact R))) rfl (λ_ _ h=>h),e.OX.ext,rfl,rfl,⟨rfl,λc h=>⟨W.heap.size+5,by rw[show c=V.heap.size+5 from h];exact m 5 (by omega) (by omega)⟩,rfl⟩,λ_ h=>h,e.smk⟩ (λX d=>?_);obtain⟨fr,w',df,aa,hf,hm,hd,⟨at_,t,k,rfl⟩,-,-,-,A⟩:=vH (w:=Vs.on X d) ⟨u.o,u.q0,u.q1,u.q2,u.q3,u.st⟩ (r.send l L (Vs.on X d) (V.heap.size+5) (r.on Vs _ l L (λ_ _=>rfl) Q0 (r.low _ _ _ _ l L S3 ⟨r',RAo.re tR hr⟩ (λg R=>⟨_,.inl (D.NS g R)⟩) j (by rw[ab];exact Q0) (r.on V _ l L (rT V l 1000) (by rw[gw];omega) hp))) v) [trap Vp];exact⟨_,w',aa,⟨rfl,hf,hm,at_,t,k,hd⟩,⟨rfl,rfl⟩,_,_,_,A⟩
end
def Aq:Prop:=∀ (l:Lst)(pn:tb)(L:S Wx)(n c:H)(w:Wj)(cs:S Wy),(∀v∈L,∃ (a b:tb)(s:tn),v=Rd #[I K a,U s,I K b])->L.length<=1000->n+2<c ->
 w.heap[n]?=J (E (aT l) 116)->w.heap[n+1]?=J (E #[M N 0 0,U ⟨#[]⟩] 79)->w.heap[n+2]?=J (E #[M N 0 0,U ⟨#[]⟩] 79)->(∃k s q,w.heap[c]?=J (.chan k L.toArray Y s q Z)) ->
 ∃a d,Steps Vp (lone (pF2 n l pn c) cs w) (lone (mC a [0,1]) cs d)/\a.eval (Rh 17)=.chan (J c)/\∃k s q,d.heap[c]?=J (.chan k #[] Y s q Z)
theorem yI(l:Lst):∀ (i:H) v,(aT l)[i]?=J v->Good v:=λi v h=>by
 rcases i with - | - | - | - | - | - | - | - |i<;>simp[aT]at h<;>subst h
 .exact .int _ _
 .exact .pointer _
 .exact .bool _
 .exact .string _
 .exact .string _
 .exact .string _
 .exact .int _ _
 .exact .int _ _
theorem vN:∀ (i:H) v,(#[.slice N 0 0,.string ⟨#[]⟩]:pt Wx)[i]?=J v->Good v:=λi v h=>by
 rcases i with - | - |i<;>simp at h<;>subst h
 .exact .slice _ _ _
 .exact .string _
section
variable [Two Tryz.prog] [Two Vp] {Gf Fs Fr:FuncId->sq} {ρ:Ren} {V W:Wj} {l:Lst} {r':n8 Wu} {L:List Wx}
def own3(n a:H):Prop:=a=n\/a=n+1\/a=n+2
theorem Hh(f:tU Gf Fs Fr)(hR:Aq)(j:cz ρ V W)(hS:ρ.F i7=Z)(hr:RAo ρ l.root r')(pn:tb)(hL:∀v∈L,∃ (a b:tb)(s:tn),v=Rd #[I K a,U s,I K b])(ab:L.length<=1000)(X:GId dT ρ)k dd:
  ∃Vr A,Side dT ([trap Tryz.prog.alt],k) ((yH j hS).low Fr (own3 V.heap.size) (V.heap.size+5) Y A) (G (pF2 V.heap.size l pn (V.heap.size+5)) [trap Vp]) (G (pF2 W.heap.size {l with root:=r'} pn (W.heap.size+5)) k) Vr ((dl W {l with root:=r'} 20).at dd) (V.heap.size+5) (W.heap.size+5) L /\
   (∀ (a:H) o,Vr.heap[a]?=J o->o.isChan=Y->a=V.heap.size+5) /\
   Dem Vp (mt Vp ([trap Vp],[]) (λa=>a=V.heap.size+5) Fr) (Jt (V.heap.size+5)) (G (pF2 V.heap.size l pn (V.heap.size+5)) [trap Vp]) Vr:=by
 have S3:cz (yH j hS) (dl V l 1000) ((dl W {l with root:=r'} 20).at dd):=tT j hS hr (λi h=>h) (by omega) (λa b h=>fF V l 1000 (j.lt h).1) (λ_ _ _=>Q) ⟨_,_,_,_,_,dV V l 1000⟩ Q (λc h=>by
  have h:=h;subst h;exact⟨_,dV V l 1000,Q⟩) dd
 have A:Fr i7=Y->Y=false:=λh=>by rw[f.r.2.1]at h;cases h
 have m:∀i,i<7->(yH j hS) (V.heap.size+i) (W.heap.size+i):=λi h=>o9 h
 have r0:=cK V l 1000 0 (by omega);have r1:=cK V l 1000 1 (by omega);have r2:=cK V l 1000 2 (by omega);have R:∀a,own3 V.heap.size a->a≠V.heap.size+5/\∃x e z,(dl V l 1000).heap[a]?=J (E x e z)/\(∀ (i:H) v,x[i]?=J v->Good v)/\∀y,(yH j hS) a y->∃x',((dl W {l with root:=r'} 20).at dd).heap[y]?=J (E x' e z):=λa ha=>by
  rcases ha with rfl|rfl|rfl;refine⟨by omega,_,_,_,r0,yI l,λy hy=>?_⟩;obtain rfl:=(yH j hS).fn _ _ _ hy (m 0 (by omega));exact⟨_,cK W {l with root:=r'} 20 0 (by omega)⟩;refine⟨by omega,_,_,_,r1,vN,λy hy=>?_⟩;obtain rfl:=(yH j hS).fn _ _ _ hy (m 1 (by omega));exact⟨_,cK W {l with root:=r'} 20 1 (by omega)⟩;refine⟨by omega,_,_,_,r2,vN,λy hy=>?_⟩;obtain rfl:=(yH j hS).fn _ _ _ hy (m 2 (by omega));exact⟨_,cK W {l with root:=r'} 20 2 (by omega)⟩
 have⟨Vr,SS,hsz,htp,hdr,hos,p,D,hcell,T,u⟩:=lower (F:=Fr) (live:=own3 V.heap.size) (c:=V.heap.size+5) (c':=W.heap.size+5) (wide:=Y) (n:=1000) (b:=L.toArray) (cl:=Y) (s:=L.length) (q:=0) S3 A f.r.1 (m 5 (by omega)) (dV W {l with root:=r'} 20) (Rf Q) R;have aa:∀ {σ:Ren},(∀a b,(yH j hS) a b->σ a b)->RAo σ l.root r':=λaf=>by
  generalize l.root=x at hr;cases hr with
  |none=>exact .none
  |some h=>exact .some ⟨af _ _ (Rf h.1),h.2⟩
 refine⟨Vr,A,?_,D,?_⟩;refine⟨⟨yG (P:=dT) (σ:=(yH j hS).low Fr (own3 V.heap.size) (V.heap.size+5) Y A) (m 0 (by omega)) (m 1 (by omega)) (m 2 (by omega)) (m 5 (by omega)) (aa λ_ _ h=>h) f.okR,by rw[f.alt];exact .base,⟨λ_=>Q,λ_=>Q⟩,⟨Q,Q⟩,⟨Q,Q⟩,Q,Q⟩,SS,f.P9.gid (λg hg=>Rf (X.NS g hg)) X.prog (λh=>by rw[show(((yH j hS).low Fr (own3 V.heap.size) (V.heap.size+5) Y A).F)=Fr from Q,f.r.1]at h;cases h),f.P9.ext,⟨f.r.2.1,f.r.2.2⟩,⟨Q,Q⟩,Q,m 5 (by omega),⟨_,_,_,_,_,p,Q⟩⟩;have ad:∀ {σ:Ren},RVs σ L.toArray L.toArray:=⟨Q,λi v v' h1 h2=>by
  rw[h1]at h2;cases h2;exact(vM (hL v (by
   have:L[i]?=J v:=by simpa using h1
   exact RE this)) _).1⟩
 refine od f.O0 f.ON (λg w h=>?_) (λg w τ d=>Iff.rfl) ⟨Q,((yH j hS).low Fr (own3 V.heap.size) (V.heap.size+5) Y A).NX Vp (D6 f ρ.OU X.prog) (V.heap.size+5),G (pF2 W.heap.size {l with root:=r'} pn (W.heap.size+5)) [],((dl W {l with root:=r'} 20).at dd).setChan (W.heap.size+5) 20 L.toArray Y 0 0 Z,⟨yG (P:=Vp) (σ:=((yH j hS).low Fr (own3 V.heap.size) (V.heap.size+5) Y A).NX Vp (D6 f ρ.OU X.prog) (V.heap.size+5)) (m 0 (by omega)) (m 1 (by omega)) (m 2 (by omega)) (m 5 (by omega)) (aa λ_ _ h=>h) f.okR1,.base,⟨λ_=>Q,λ_=>Q⟩,⟨Q,Q⟩,⟨Q,Q⟩,Q,Q⟩,Ao SS (m 5 (by omega)) u (λb hb=>aU _ _ _ _ _ _ _ _ hb) Q p (heap_setChan _ _ _ _ _ _ _ _ (eS (dV W {l with root:=r'} 20)).1) ad,f.PC.gid (λg hg=>Rf (X.NS g (by rw[Yq.globals_size]at hg;exact hg))) Q (λ_ _ h=>h),f.PC.ext,Q,Q,⟨Q,λc h=>⟨W.heap.size+5,by rw[show c=V.heap.size+5 from h];exact m 5 (by omega)⟩,Q⟩,λ_ h=>h,f.rmk⟩ (λτ d=>?_);obtain⟨a,rfl,-⟩:=h;exact⟨by simp[G],Q,Q⟩;obtain⟨a,w',hs,ac,B⟩:=hR l pn L V.heap.size (V.heap.size+5) (Vr.on τ d) [trap Vp] hL ab (by omega) ((T _ (Rf Q)).t r0) ((T _ (Rg (Rf Q))).t r1) ((T _ (Rg (Rg Q))).t r2) ⟨_,_,_,p⟩;exact⟨_,w',hs,a,Q,ac,B⟩
end
theorem Kr(m:H)(l:Lst)(root:n8 Wu)(cs:S Wy)(w:Wj):stepG dT Y (G ((base 76).at ⟨gN m root l.vs l.p l.d l.af (fk m),[]⟩ [.inRegion yD [1],.code lr]) cs) w=.spawn (G ((base 76).at ⟨gN m root l.vs l.p l.d l.af (fk m),[]⟩ [.inRegion yD [],.code lr]) cs) (born dT {target:=.fn (.func 98) #[ptr (m+3),ptr m,ptr (m+1)],args:=#[]}) w #[]:=by
 have hr : (R3 (Sh ⟨gN m root l.vs l.p l.d l.af (fk m), []⟩) { dst := N, op := .go { callee := .value (Rh 7), args := #[], argTypes := #[] }, type := 0, pos := "items.go:22", after := #[{ on := 0, ground := .data }], guard := N }).run dT w = .ok (.spawn { target := .fn (.func 98) #[ptr (m + 3), ptr m, ptr (m + 1)], args := #[] }) w := by
  simp[go_sem,Sh,gN,fk]
 have := stepG_spawn (P := dT) (main := Y) (b := base 76) (a := ⟨gN m root l.vs l.p l.d l.af (fk m), []⟩) (k := [.code lr]) (cs := cs) (w := w) (ops := yD) (i := 1) (rest := []) (o := { dst := N, op := .go { callee := .value (Rh 7), args := #[], argTypes := #[] }, type := 0, pos := "items.go:22", after := #[{ on := 0, ground := .data }], guard := N }) rfl rfl (by decide) hr rfl
 rw[this]
 have hl : listed dT (base 76).fn ⟨gN m root l.vs l.p l.d l.af (fk m), []⟩ { dst := N, op := .go { callee := .value (Rh 7), args := #[], argTypes := #[] }, type := 0, pos := "items.go:22", after := #[{ on := 0, ground := .data }], guard := N } w = #[] := listed_nil (by simp[go_sem, Sh, gN, fk])
 rfl
theorem D7{Q : Wv} {i : H} {fn : Func} (h : Q.funcs[i]? = J fn) (hn : (fn.name == "runtime.NumGoroutine") = Z) (hb : fn.body.isNone = Z) (args : pt Wx) (w : Wj) : (callFunc i args).runT Q w #[] = (.ok (.enter i args) w, #[]) := by
 show Sem.runT Q (match Q.funcs[i]? with|none=>_|some fn=>_) w #[]=_;rw[h];simp only[hn,hb];rfl
theorem D8 m w:stepG dT Z (born dT {target:=.fn (.func 98) #[ptr (m+6),ptr (m+3),ptr (m+4)],args:=#[]}) w=.go (Nd m) w #[]:=by
 have hc:(callFunc 98 #[ptr (m+6),ptr (m+3),ptr (m+4)]).runT dT w #[]=(.ok (.enter 98 #[ptr (m+6),ptr (m+3),ptr (m+4)]) w,#[]):=D7 func98 Q Q _ w;have a:(invoke (.fn (.func 98) #[ptr (m+6),ptr (m+3),ptr (m+4)]) #[]).runT dT w #[]=(.ok (.enter 98 #[ptr (m+6),ptr (m+3),ptr (m+4)]) w,#[]):=by
  unfold invoke
  grind
 have b:stepG dT Z (born dT {target:=.fn (.func 98) #[ptr (m+6),ptr (m+3),ptr (m+4)],args:=#[]}) w=R9 dT (eZ dT) [] N {target:=.fn (.func 98) #[ptr (m+6),ptr (m+3),ptr (m+4)],args:=#[]} w:=rfl;rw[b];unfold R9;simp only[a];rfl
section
variable [Two Tryz.prog] [Two Vp] {Gf Fs Fr:FuncId->sq} {Pre:Lst->List Wx->Wj->Prop}
structure Jv (Pre:Lst->S Wx->Wj->Prop)(R:(H->Question->H)->H->Ending->Wj->Prop):Prop where
 stop:∀τ d x y e u,R τ d (.panicked (stopEntry x y::e)) u->∃l pn L,x=lV l/\y=I K pn/\Pre l L u
theorem rn(c:tU Gf Fs Fr)(m:Jv Pre R)(hce:∀l L V u,Ce V u->Pre l L u->Pre l L V){x y:Wx}{p t:Wy}{cs q:S Wy}{V:Wj}{a:Outer}
  (f:Rel dT a Gf [] ρ {frame:=p,callers:=cs,status:=Ri,dying:=N} {frame:=t,callers:=q,status:=Ri,dying:=N} V W)
  (hD:Dem Vp (λg _=>NB [trap Vp] g) (Ends Vp f0 R) {frame:=kr Vp 48 #[x,y] .normal,callers:=p::cs,status:=Ri,dying:=N} V):
  ∃l pn L,x=lV l/\y=I K pn/\Pre l L V:=by
 have j:(ρ.F i7||ρ.F nX)=false:=by rw[f.calm,f.quiet.1];rfl
 have hlen:1<=cs.length:=by
  have:=f.go.callers.PE
  grind
 have i:=f.go.callers;rw[c.alt]at i;obtain⟨B,v,hm,P,T⟩:=vG x y (p::cs) (V.on (λ_ _=>0) 0) LR;obtain⟨k,hk⟩:=v;obtain⟨-,z⟩:=DY (λg w h=>rP h) k _ _ (Dem.on (λ_ _ _ _ h=>h) (λg w s d=>Ends.on s d) hD (λ_ _=>0) 0) Q {frame:=B,callers:=p::cs,status:=Ri,dying:=N} _ hk Q (by simp;omega);have⟨s,d,e,u,hR,hC⟩:=Kj (ρ:=ρ) (en:=stopEntry x y) (V:=V) z [] hm Q (by unfold Frame.catches;rw[T,Yq.func48]) (by rw[P];exactλd h=>by cases h) (.cons (gq f.go.frame _).1 (f.go.frame.defers.marks j) (RFs.fl j i)) (λr b A l0 n=>by
  have⟨o,o',G,X,D⟩:=f.NG.obj r b A;have n:V.heap[r]?=_:=n;rw[G]at n;cases n;cases D with
  |deferred h=>exact h.marks j) ⟨Q,λ_=>Q⟩
 have⟨l,pn,L,G,X,D⟩:=m.stop s d x y e u hR
 grind
theorem BY{Post:Wx->Wj->Prop}{r:Outer}(n:tU Gf Fs Fr)(A:D2 Pre)(bd:Aq)(bi:Jv Pre R)(ca:∀l L V u,Ce V u->Pre l L u->Pre l L V):yw dT r Gf [] (Ends Vp f0 R) Post:=by
 intro f a a' fr ac cs aa V W ρ hM ⟨be,cj⟩ s hD a8 gs sl t q h0 hL hP;obtain rfl:f=48:=n.mark f (by rw[<-s.same];exact hM);obtain⟨al⟩:=a;rcases al with - |⟨x,- |⟨y,- |⟨z,al⟩⟩⟩<;>simp at cj
 have a6:=hD;rw[n.alt]at a6;obtain⟨l,pn,L,rfl,rfl,hp⟩:=rn n bi ca s a6;obtain⟨r',hr,rfl⟩:=He be;have bk:1<=cs.length:=by
  have:=s.go.callers.PE
  grind
 have hS:=s.calm;have bq:=s.quiet.1;obtain⟨V4,⟨k4,cb⟩,av,ar,bp⟩:=vK A l pn L (V.on (λ_ _=>1) 0) (fr::cs) (A.on V _ l L (λ_ _=>Q) Q0 hp) LQ;obtain⟨b3,b4⟩:=DY (λg w h=>rP h) k4 _ _ (Dem.on (λ_ _ _ _ h=>h) (λg w τ d=>Ends.on τ d) a6 (λ_ _=>1) 0) Q {frame:=pF2 V.heap.size l pn (V.heap.size+5),callers:=fr::cs,status:=Ri,dying:=N} V4 cb Q (by simp;omega);have a3:LSs Vp (Ends Vp f0 R) {frame:=kr Vp 48 #[lV l,I K pn] .normal,callers:=fr::cs,status:=Ri,dying:=N} V {frame:=pF2 V.heap.size l pn (V.heap.size+5),callers:=fr::cs,status:=Ri,dying:=N} V4:=by
  rcases LSs.on (λg w τ d=>Ends.on τ d) b3 with⟨e,-⟩|h;exfalso;have:=congrArg (λg:Wk=>g.frame.todo) e;rw[rQ]at this;cases this;exact h
 have av:∀b,b<V.heap.size+7->b≠V.heap.size+5->V4.heap[b]?=(dl V l 1000).heap[b]?:=av;have ar:=ar;have ab:∀a b,ρ a b->V4.heap[a]?=V.heap[a]?:=λa b h=>by
  have:=(s.NG.lt h).1;exact(av a (by omega) (by omega)).t (fF V l 1000 this)
 have hsz:W.heap.size+7=W.heap.size+7:=rfl;refine An (B:=W.heap.size+7) (Kl {l with root:=r'} pn (ac::aa) W (W.heap.size+7) Q (λdd=>?_)) gs sl t q h0 hL (hP.m (by omega));have a2:((pgW W {l with root:=r'}).at dd).heap.size=W.heap.size+3:=Ap W _;refine An (G8 _ _ r' l.vs l.p l.d l.af ((pgW W {l with root:=r'}).at dd) (W.heap.size+7) (by rw[a2]) (λd2=>?_));intro b5 ck t1 q1 T b7 bx;have bv:∀d3,(itW ((pgW W {l with root:=r'}).at dd) r' l.vs l.p l.d l.af 20).at d3=(dl W {l with root:=r'} 20).at d3:=λ_=>Q
 rw[a2]at T;rw[bv];have⟨Vs,bl,bo,cl⟩:=Hg n A s.NG hS hr hp s.gid 0;have⟨Vr,a7,a4,a5,b1⟩:=Hh n bd s.NG hS hr pn (A.item l L V hp) (A.len l L V hp) s.gid (ac::aa) 0;refine DX (W:=dl W {l with root:=r'} 20) (g:=G ((base 76).at ⟨gN (W.heap.size+3) r' l.vs l.p l.d l.af (fk (W.heap.size+3)),[]⟩ [.inRegion yD [1],.code lr]) (pF W.heap.size {l with root:=r'} pn::ac::aa)) Q (λd=>Kr (W.heap.size+3) l r' _ _)
  (ρr:=(yH s.NG hS).low Fr (own3 V.heap.size) (V.heap.size+5) Y a7) (ρs:=(Hf s.NG hS).low Fs (λ_=>uc) (V.heap.size+5) Z bl) (λcd ch t2 q2 d k b6 b0 b8 cp b9=>?_) b5 ck t1 q1 d2 T b7 (by rw[gw];exact bx)
 have O:Ab dT (phD (Ends Vp f0 R) Gf Fs Fr L V.heap.size W.heap.size k (fr::cs,ac::aa) ρ.rel {frame:=kr Vp 48 #[lV l,I K pn] .normal,callers:=fr::cs,status:=Ri,dying:=N} V r) Post:=
  Nm n b6 (λv hv=>vM (A.item l L V hp v hv)) (λh V hT=>by obtain⟨_,_,_,_,_,_,_,rfl,-⟩:=hT;simp) s.gid s.ext s.same hS bq s.o.2.2.2.2 (.cons s.go.frame s.go.kind s.go.callers) bk (λh V2 hl=>a8 h V2 (by rw[n.alt]at hl ⊢;exact hl))
 have bn:∀c,(c=V.heap.size+5\/∃b o,ρ c b/\V.heap[c]?=J o/\o.isChan=Y)->∃o,V4.heap[c]?=J o/\o.isChan=true:=λc h=>by
  rcases h with rfl|⟨b,o,T,h2,h3⟩;exact⟨_,ar,Q⟩
  grind
 have SA:=
  tT s.NG hS hr (λi h=>h) (by omega) ab (λi h h5=>av _ (by omega) (by omega)) ⟨_,_,_,_,_,ar⟩ bp bn d
 have ad:∀i,i<7->(ρ.plus V.heap.size W.heap.size (λi=>i<7) (λ_ _ h=>s.NG.lt h) (λc=>c=V.heap.size+5\/∃b o,ρ c b/\V.heap[c]?=J o/\o.isChan=Y) hS) (V.heap.size+i) (W.heap.size+i):=λi h=>o9 h
 generalize hρA:ρ.plus V.heap.size W.heap.size (λi=>i<7) (λ_ _ h=>s.NG.lt h) (λc=>c=V.heap.size+5\/∃b o,ρ c b/\V.heap[c]?=J o/\o.isChan=Y) hS=X at SA ad;have aj:X.F=Gf:=by subst hρA;exact s.same
 have a1:∀a b,X a b->ρ a b\/∃i,i<7/\a=V.heap.size+i/\b=W.heap.size+i:=λa b h=>by subst hρA;exact h
 have D:∀a b,ρ a b->X a b:=λa b h=>by subst hρA;exact Rf h
 have cc:RAo X l.root r':=by
  generalize l.root=x at hr;cases hr with
  |none=>exact .none
  |some h=>exact .some ⟨D _ _ h.1,h.2⟩
 have RR:qW (phD (Ends Vp f0 R) Gf Fs Fr L V.heap.size W.heap.size k (fr::cs,ac::aa) ρ.rel {frame:=kr Vp 48 #[lV l,I K pn] .normal,callers:=fr::cs,status:=Ri,dying:=N} V r) X ((yH s.NG hS).low Fr (own3 V.heap.size) (V.heap.size+5) Y a7) ((dl W {l with root:=r'} 20).at d) {frame:=pF2 V.heap.size l pn (V.heap.size+5),callers:=fr::cs,status:=Ri,dying:=N} (G (pF2 V.heap.size l pn (V.heap.size+5)) [trap Vp]) (G (pF2 W.heap.size {l with root:=r'} pn (W.heap.size+5)) (ac::aa)) V4 Vr L:=by
  refine⟨⟨⟨yG (P:=dT) (σ:=X) (ad 0 (by omega)) (ad 1 (by omega)) (ad 2 (by omega)) (ad 5 (by omega)) cc (by rw[aj];exact n.okG),.base,⟨λ_=>Q,λ_=>Q⟩,⟨Q,Q⟩,⟨Q,Q⟩,Q,Q⟩,SA,?_,by rw[aj,<-s.same];exact s.ext,⟨by rw[aj,<-s.same];exact hS,by rw[aj,<-s.same];exact bq⟩,by subst hρA;exact⟨Q,Q⟩,by subst hρA;exact Rf Q,ad 5 (by omega),⟨_,_,_,_,_,ar,Q⟩⟩,a4.stays Q (λ_ _ _ _=>Q) Q,a5,λx h=>h,⟨n.rmk,Q⟩,⟨D,aj⟩,λa b o bb ho hc=>?_,λa b a9 bb bw=>?_⟩;have hg:=s.gid;subst hρA;exact⟨λg h=>Rf (hg.NS g h),hg.prog,hg.code,hg.alt,λ_ _ h=>h,hg.same,hg.size,hg.apart⟩;have a9:(a=V.heap.size+5\/∃b o,ρ a b/\V.heap[a]?=J o/\o.isChan=Y):=by
   rcases a1 a b bb with h|⟨i,hi,rfl,rfl⟩;exact Rg ⟨b,o,h,by rw[<-ab a b h];exact ho,hc⟩;by_cases h5:i=5
   subst h5;exact Rf Q;exfalso;rw[av _ (by omega) (by omega),cK V l 1000 i hi]at ho;rcases i with - | - | - | - | - | - | - |i;all_goals first|omega|(cases ho;cases hc)
  subst hρA;exact a9;rcases(by subst hρA;exact a9)with h|⟨b2,o,T,h2,h3⟩;exact sT h bw;obtain rfl:b2=b:=X.fn _ _ _ (D _ _ T) bb;obtain⟨n1,s1,q1',tm1,rfl⟩:=s.quiet.2 a b2 o T h2 h3;have⟨o1,o2,e1,e2,e3⟩:=s.NG.obj a b2 T;rw[h2]at e1;cases e1;cases e3 with
  | @chan _ cap' _ b' _ cl' _ _ s' q' _ hb cm=>
   obtain rfl:=cm.resolve_left (by rw[s.NX.2];exactλh=>by cases h);obtain rfl:b'=#[]:=Array.eq_empty_of_size_eq_zero (by rw[<-(hb.resolve_left (by rw[s.NX.1];exactλh=>by cases h)).size];rfl);exact⟨_,_,_,_,_,_,_,(ab a b2 T).t h2,(fF W _ 20 (s.NG.lt T).2).t e2⟩
 have ai:∀a b,((yH s.NG hS).low Fr (own3 V.heap.size) (V.heap.size+5) Y a7) a b->ρ a b\/∃i,i<7/\a=V.heap.size+i/\b=W.heap.size+i:=λa b h=>h
 have a0:∀a b,((Hf s.NG hS).low Fs (λ_=>uc) (V.heap.size+5) Z bl) a b->ρ a b\/∃i,(3<=i/\i<7)/\a=V.heap.size+i/\b=W.heap.size+i:=λa b h=>h
 have bs:∀x y b,(ρ x b\/∃i,i<7/\x=V.heap.size+i/\b=W.heap.size+i)->(ρ y b\/∃i,(3<=i/\i<7)/\y=V.heap.size+i/\b=W.heap.size+i)->x=y/\¬own3 V.heap.size y:=λx y b T h2=>by
  rcases T with T|⟨i,hi,T,h3⟩<;>rcases h2 with h2|⟨j,hj,h2,h4⟩
  have:=(s.NG.lt h2).1;exact⟨ρ.inj _ _ _ T h2,λh=>by rcases h with h|h|h<;>omega⟩;have:=(s.NG.lt T).2;omega;have:=(s.NG.lt h2).2;omega;exact⟨by omega,λh=>by rcases h with h|h|h<;>omega⟩
 refine Ke O (by rw[n.alt];exact b1) _ _ (by rw[n.alt];exact cl) cd ((dl W {l with root:=r'} 20).at d) ch t2 q2 X _ _ _ _ L [] [] [] 20 0 0 Z 14 2
  (.pre 12 RR (by rw[n.alt];exact b4) (by rw[n.alt];exact a3) ⟨⟨_,Rg ⟨6,by omega,Q,Q⟩,λh=>?_⟩,?_⟩ (yF W.heap.size (W.heap.size+3) {l with root:=r'} pn (ac::aa) ((dl W {l with root:=r'} 20).at d) r' (lI W {l with root:=r'} 20).o))
  (.new (bo.stays Q (λ_ _ _ _=>Q) Q) (λv=>D8 W.heap.size v) Q) ⟨_,dV W {l with root:=r'} 20,Q⟩ (by omega) Q Q ?_ ?_ b0 b8 cp b9
 have h:V.heap.size+6=V.heap.size+5:=h;omega;show W.heap.size+6≠W.heap.size+5;omega;intro b x y hx hy;obtain⟨rfl,ho⟩:=bs x y b (ai _ _ hx) (a0 _ _ hy);by_cases h5:x=V.heap.size+5
 exact Rg ⟨h5,h5⟩;exact Rf ⟨⟨⟨b,hx⟩,ho,h5⟩,⟨b,hy⟩,(λh=>h),h5⟩;have bt:∀i,¬r.Ko (W.heap.size+i):=λi h=>by
  have:=r.lt _ h;have:=s.o.1.1;omega
 have ap:∀a b,(ρ a b\/∃i,i<7/\a=V.heap.size+i/\b=W.heap.size+i)->¬r.Ko b:=λa b h=>by
  rcases h with h|⟨i,-,-,rfl⟩;exact s.o.2.1 a b h;exact bt i
 refine⟨λb x y hx hy=>?_,⟨⟨?_,?_,λb hb=>?_⟩,⟨λa b h=>ap a b (a1 a b h),λa b h=>D a b (s.o.2.2.1 a b h),by rw[<-hρA];exact s.o.2.2.2⟩,⟨λa b h=>ap a b (ai a b h),λa b h=>Rf (s.o.2.2.1 a b h),s.o.2.2.2⟩,bt 5⟩,⟨λa b h=>ap a b ((a0 a b h).imp id (λ⟨i,T,h2⟩=>⟨i,T.2,h2⟩)),λa b h=>Rf (s.o.2.2.1 a b h),s.o.2.2.2⟩⟩;by_cases h5:y=V.heap.size+5
 exact Rg h5;exact Rf ⟨⟨b,hy⟩,(λh=>h),h5⟩;have:=s.o.1.1;show r.W0.heap.size<=(dl W {l with root:=r'} 20).heap.size;rw[gw];omega;exact s.o.1.2.1;have T:=r.lt b hb;have h2:=s.o.1.1;exact(fF W {l with root:=r'} 20 (by omega)).t (s.o.1.2.2 b hb)
end
def vO(P:Wv)(D0:H->Prop)(F:RZ->sq)(NT:H->n8 (pt Wx))(hb:NoM P 3):Ren where
 rel:=λa b=>a=b/\D0 a
 fn:=λ_a _b _b' h1 h2=>h1.1.s.t h2.1
 inj:=λ_a _a' _b h1 h2=>h1.1.t h2.1.s
 prog:=P
 F:=F
 old:=λ_=>uc
 ch:=λ_=>uc
 loose:=Z
 wide:=Z
 tight:=λ_=>rfl
 NT:=NT
 bad:=3
 OU:=hb
structure Start (W:Wj)(D0:H->Prop):Prop where
 rows:∀b,D0 b->∃c e z,W.heap[b]?=J (E c e z)
 NS:∀g,g<Tryz.prog.globals.size->D0 g
theorem Hi(h:oC v=Y):RV ρ v v:=by
 cases v with
 |bool b=>exact .bool b
 |int k n=>exact .int k n
 |string s=>exact .string s
 |pointer a=>cases a with
  |none=>exact .pointer .none
  |some a=>cases h
 |slice a n c=>cases a with
  |none=>exact .slice n c .none
  |some a=>cases h
 |map r=>cases r with
  |none=>exact .map .none
  |some r=>cases h
 |chan r=>cases r with
  |none=>exact .chan .none
  |some r=>cases h
 |nilFunc=>exact .nilFunc
 |nilIface=>exact .nilIface
 |_=>cases h
theorem Hj{a}(h:oC v=Y)(k:RV ρ v a):a=v:=by
 cases k with
 |bool|int|string|nilFunc|nilIface=>rfl
 |pointer k=>cases k with
  |none=>rfl
  |some _=>cases h
 |slice n c k=>cases k with
  |none=>rfl
  |some _=>cases h
 |map k=>cases k with
  |none=>rfl
  |some _=>cases h
 |chan k=>cases k with
  |none=>rfl
  |some _=>cases h
 |_=>cases h
structure oe (u v:Wx):Prop where
 rel:∀ρ:Ren,ρ.bad=3->RV ρ u v
 one:oC v=Y->u=v
 no:oC v=Z->kW u=Z\/∀ (ρ:Ren) v',RV ρ u v'->v'=v
theorem D9:∀ (n:H)(v:Wx),SizeOf.sizeOf v<n->∃u,oe u v:=by
 intro n;induction n with
 |zero=>intro v h;omega
 |succ n ih=>
  intro v hn;have dead:jA v=Y->oC v=Z->∃u,oe u v:=λh1 h2=>⟨.tuple #[],λ_ _=>.dead v h1,(λh=>by rw[h2]at h;cases h),λ_=>.inl rfl⟩
  have self:oC v=Y->∃u,oe u v:=λh=>⟨v,λ_ _=>Hi h,λ_=>rfl,λh2=>by rw[h]at h2;cases h2⟩
  cases v with
  |agg c=>
   obtain⟨c0,h0,h1⟩:=qg (c:=c) (c':=c) (Q:=λv _ u=>oe u v) rfl (λi v v' hv _=>ih v (by
    have:=Array.sizeOf_lt_of_mem (Array.mem_of_getElem? hv);simp at hn;omega))
   refine⟨.agg c0,λρ hb=>.agg h0 (λi u v k1 k2=>?_),λh=>(by cases h),λ_=>.inl rfl⟩;have⟨u2,e,k⟩:=h1 i v v k2 k2;rw[k1]at e;cases e;exact k.rel ρ hb
  |pointer a=>cases a with
   |none=>exact self rfl
   |some a=>exact dead rfl rfl
  |slice a n c=>cases a with
   |none=>exact self rfl
   |some a=>exact dead rfl rfl
  |map a=>cases a with
   |none=>exact self rfl
   |some a=>exact dead rfl rfl
  |chan a=>cases a with
   |none=>exact self rfl
   |some a=>exact dead rfl rfl
  |func f a c=>cases f with
   |method s=>
    refine⟨.func (.method "") #[.iface 3 (.func (.method s) a c)] #[], fun ρ hb => .odd 3 s a c hb.s, fun h => (by cases h), fun _ => .inr (fun ρ v' h => ?_)⟩
    cases h with
    |func hf=>cases hf
    |odd=>rfl
   |_=>exact dead rfl rfl
  |bool|int|string|nilFunc|nilIface=>exact self rfl
  |_=>exact dead rfl rfl
theorem BZ(c:pt Wx):∃a:pt Wx,a.size=c.size/\∀ (i:H) v,c[i]?=J v->∃u,a[i]?=J u/\oe u v:=by
 obtain⟨a,h0,h1⟩:=qg (c:=c) (c':=c) (Q:=λv _ u=>oe u v) rfl (λi v v' _ _=>D9 _ v (Nat.lt_succ_self _))
 grind
structure Clean (D0:H->Prop)(W V:Wj):Prop where
 os:V.os=W.os
 size:V.heap.size=W.heap.size
 rest:∀b,¬D0 b->V.heap[b]?=W.heap[b]?
 row:∀b,D0 b->∃c c0 e z,W.heap[b]?=J (E c e z)/\V.heap[b]?=J (E c0 e z)/\c0.size=c.size/\∀ (i:H) v,c[i]?=J v->∃u,c0[i]?=J u/\oe u v
theorem Hk(h:Start W D0):∃V,Clean D0 W V:=by
 have d:∀b:H,∃o:Obj,(D0 b->∃c j e z,W.heap[b]?=J (E c e z)/\o=E j e z/\j.size=c.size/\∀ (i:H) v,c[i]?=J v->∃u,j[i]?=J u/\oe u v)/\(¬D0 b->b<W.heap.size->W.heap[b]?=J o):=λb=>by
  by_cases p:D0 b
  have⟨c,e,z,m⟩:=h.rows b p;have⟨j,r,q⟩:=BZ c
  grind
  by_cases l:b<W.heap.size
  simp_all
  exact⟨.coro N,λk=>sT k p,λ_ k=>sT k l⟩
 have⟨f,d⟩:=Classical.skolem.1 d;refine⟨{W with heap:=Array.ofFn (n:=W.heap.size) λa=>f a.1},Q,by simp,λb l=>?_,λb l=>?_⟩;by_cases hlt:b<W.heap.size
 simp_all
 simp_all
 have⟨c,j,e,z,m,r,q⟩:=(d b).1 l;exact⟨c,j,e,z,m,by simp[((eS m).1),r],q⟩
theorem Clean.cell{W V}{D0:H->Prop}(h:Clean D0 W V){a}{v}(b:W.cell? a=J v)(k:oC v=Y):V.cell? a=J v:=by
 unfold Sk at b ⊢;by_cases d:D0 a.block
 obtain⟨c,c0,e,z,f,i,-,l⟩:=h.row _ d;rw[f]at b;rw[i];simp only at b ⊢;split at b
 cases b;rename_i m;obtain⟨u,j,n⟩:=l _ _ b;rw[vf m,j,n.one k];rw[h.rest _ d];exact b
noncomputable def nu(W:Wj)(D0:H->Prop)(b:H):n8 (pt Wx):=by
 classical
 exact if D0 b then match W.heap[b]? with|some (E c _ _)=>J c|_=>N else N
theorem vP{V:Wj}(h:Clean D0 W V)(P:Wv)(F:RZ->sq)(t:NoM P 3):cz (vO P D0 F (nu W D0) t) V W:=by
 refine⟨λa b l=>?_,λ_ h=>h.elim,λ_ h=>h.elim,h.os.s,λ_ a m d=>?_⟩;obtain⟨rfl,f⟩:=l;have⟨c,m,e,z,j,k,r,q⟩:=h.row a f;refine⟨_,_,k,j,.cells e (.inl rfl) ⟨r,λi u v o p=>?_⟩⟩;have⟨u2,n,x⟩:=q i v p;rw[o]at n;cases n;exact x.rel _ rfl;have d:nu W D0 a=J m:=d;unfold nu at d;split at d
 rename_i f;obtain⟨c,y,e,z,j,k,-⟩:=h.row a f;rw[j]at d;cases d;exact⟨a,⟨rfl,f⟩,y,e,z,m,z,k,j,λ_ _ _ _=>rfl⟩;cases d
structure vQ (W W':Wj):Prop where
 os:W'.os=W.os
 output:W'.output=W.output
 size:W.heap.size<=W'.heap.size
 block:∀b,b<W.heap.size->W'.heap[b]?=W.heap[b]?
def nv(Pre:Lst->S Wx->Wj->Prop)(W:Wj)(e:Ending)(u:Wj):Prop:=
 (e=Rc (C Y)/\u.os=W.os/\∀b,b<W.heap.size->u.heap[b]?=W.heap[b]?)\/∃x y l,e=.panicked (stopEntry x y::l)/\∃a pn L,x=lV a/\y=I K pn/\Pre a L u
section
variable [Two Tryz.prog] [Two Vp] {Gf Fs Fr Fa:FuncId->sq} {Pre:Lst->List Wx->Wj->Prop}
theorem Ks(k:tU Gf Fs Fr)(sG:iJ dT Gf)(sA:iJ Vp Fa)(bp:∀f,¬Mk Fa f=Y)(hG:Gf i7=Z/\Gf nX=Z/\Gf 48=Z/\Gf oD=Y)(a7:D2 Pre)(a1:Aq)(bi:∀l L V u,Ce V u->Pre l L u->Pre l L V)
  {A:RZ} {fn:Func} {b0:Code} (a9:Tryz.prog.funcs[A]?=J fn) (af:Yq.prog.funcs[A]?=J fn) (ai:fn.body=J b0) (aj:Tryz.prog.inits.idxOf? A=N) (bd:Gf A=Y) (bn:Fa A=Y) {r:pt Wx} {W:Wj} {D0:H->Prop} (av:Start W D0) (ac:∀ (ρ:Ren),(∀b,D0 b->ρ b b)->RVs ρ r r)
  (B:∀V,Clean D0 W V->∀τ d,Calls Vp A r (V.on τ d) (nv Pre V)):Fin dT (λv W'=>v=C Y/\vQ W W') #[G (kr dT A r .normal) []] W N #[]:=by
 have⟨V0,D⟩:=Hk av;replace B:=B V0 D;have aa:NoM dT 3:=by unfold NoM;kernel_rfl
 have a0:=D6 k aa Q;have hA:∀F,RVs (vO dT D0 F (nu W D0) aa) r r:=λF=>ac _ (λb h=>⟨Q,h⟩)
 have bb:∀F,RVs (vO Vp D0 F (nu W D0) a0) r r:=λF=>ac _ (λb h=>⟨Q,h⟩)
 have a8:∀ (P n:Wv) (σ:Ren),P.funcs[A]?=J fn->n.funcs[A]?=J fn->RVs σ r r->aP P σ.F b0=Y->RFr P σ (kr n A r .normal) (kr P A r .normal):=λP n σ hP hQ ha ho=>by
  have e1:(kr n A r .normal).todo=[.code b0]:=by simp[kr,hQ,ai]
  have e2:(kr P A r .normal).todo=[.code b0]:=by simp[kr,hP,ai]
  have t1:(kr n A r .normal).tmps=r++Rj (fn.ntmps-r.size) Wo:=by simp[kr,hQ]
  have t2:(kr P A r .normal).tmps=r++Rj (fn.ntmps-r.size) Wo:=by simp[kr,hP]
  refine⟨Q,?_,by rw[e1,e2];exact .cons (.code ho) .nil,.nil,.run,⟨Q,Q,by simp[kr]⟩,.none⟩;rw[t1,t2];refine⟨Q,λi v v' T h2=>?_⟩;rw[T]at h2;cases h2;rw[Rl]at T;split at T
  exact ha.at_ i v v T T;simp only[Rk]at T;split at T
  cases T;exact dG;cases T
 have a6:∀ (τ:H->Question->H) (d:H) (u:Wj),¬nv Pre V0 .outgrown u:=λτ d u h=>by
  rcases h with⟨h,-⟩|⟨_,_,_,h,-⟩<;>cases h
 have a3:Self Vp ([trap Vp],[]) (λ_=>uc) Fa {frame:=kr Vp A r .normal,callers:=[trap Vp],status:=Ri,dying:=N} V0:=
  ⟨Q,vO Vp D0 Fa (nu W D0) a0,{frame:=kr Vp A r .normal,callers:=[],status:=Ri,dying:=N},W,⟨a8 Vp Vp _ af af (bb _) (sA.code A fn b0 bn af ai),.base,⟨λ_=>Q,λ_=>Q⟩,⟨Q,Q⟩,⟨Q,Q⟩,Q,Q⟩,vP D _ _ _,sA.gid (σ:=vO Vp D0 Fa (nu W D0) a0) (λg hg=>⟨Q,av.NS g (by rw[Yq.globals_size]at hg;exact hg)⟩) Q (λ_ _ h=>h),sA.ext,Q,Q,⟨Q,λ_ h=>h.elim,Q⟩,λ_ h=>h,bp⟩
 let p:Outer:=⟨λb=>b<W.heap.size/\¬D0 b,W,λb h=>h.1,λa b=>a=b/\D0 a,nu W D0,3⟩
 have al:Leaf dT p Gf (Ends Tryz.prog.alt A (λ_ _=>nv Pre V0)) (λv W'=>v=C Y/\vQ W W'):=by
  refine Kg (NI:=48) hG.2.2.1 aj (λτ d e u h=>?_) (λh V ρ g W1 ap W' hE hm ad a2 q hK=>⟨Q,?_⟩);rcases h with⟨h,-⟩|⟨x,y,l,h,-⟩;exact Rf h;exact Rg ⟨_,_,_,_,_,_,h⟩;obtain⟨τ,d,τ',d',e,fr,hR,rfl,-,X,-⟩:=hE;rcases hR with⟨rfl,bl,ab⟩|⟨x,y,l,rfl,-⟩;refine⟨q.os.t (bl.t D.os),hK.2.1,hK.1,λb hb=>?_⟩;by_cases hd:D0 b
  have a5:=a2 _ _ (ad.o.2.2.1 b b ⟨Q,hd⟩);have⟨c,c0,e,z,T,h0,h3,h2⟩:=D.row b hd;have⟨o,o',k1,k2,k3⟩:=q.obj b b a5;have hF:ap.F oD=true:=by rw[a2.F,ad.same];exact hG.2.2.2
  have a4:ap.NT b=J c:=by
   rw[a2.NT,ad.o.2.2.2.1];show nu W D0 b=J c;unfold nu
   grind
  have⟨b2,bk,c1,e1,z1,c2,z2,p1,p2,p3⟩:=q.NT hF b c a4;obtain rfl:=ap.fn _ _ _ a5 bk;have ab:V.heap[b]?=V0.heap[b]?:=ab b (by rw[D.size];exact hb);rw[ab,h0]at k1 p1;cases k1;cases p1;rw[p2]at k2;cases k2;cases k3 with
  |cells e hz hv=>
   rcases hz with rfl|⟨hz,-⟩;rw[p2,T];refine congrArg (λx=>J (Obj.cells x e z)) (Array.ext_getElem? (λi=>?_));by_cases hi:i<c.size
   obtain⟨u,q1,q2⟩:=h2 i _ (eG hi);by_cases ho:oC c[i]=Y
   have q3:i<c2.size:=by rw[<-hv.size,h3];exact hi
   have:=hv.at_ i u _ q1 (eG q3);rw[(q2.one ho)]at this;rw[eG q3,eG hi,Hj ho this];rcases q2.no (by simpa using ho)with q5|q5;exact p3 i u q1 q5;have q3:i<c2.size:=by rw[<-hv.size,h3];exact hi
   rw[eG q3,eG hi,q5 _ _ (hv.at_ i u _ q1 (eG q3))];rw[Ro (by rw[<-hv.size,h3];omega),Ro (by omega)];rw[hF]at hz;cases hz
  exact hK.2.2 b ⟨hb,hd⟩;have X:=X.1;rw[hm]at X;cases X
 have be:yw dT p Gf [] (Ends Tryz.prog.alt A (λ_ _=>nv Pre V0)) (λv W'=>v=C Y/\vQ W W'):=by
  rw[k.alt];refine BY k a7 a1 ⟨λτ d x y e u h=>?_⟩ bi;rcases h with⟨h,-⟩|⟨x',y',l,h,hp⟩;cases h;cases h;exact hp
 have bo:Dem Tryz.prog.alt (λg _=>NB [trap Tryz.prog.alt] g) (Ends Tryz.prog.alt A (λ_ _=>nv Pre V0)) {frame:=kr Vp A r .normal,callers:=[trap Vp],status:=Ri,dying:=N} V0:=by
  rw[k.alt];exact(vz k.O0 k.ON (R:=λ_ _=>nv Pre V0) B a6 a3).imp (N':=λg _=>NB [trap Vp] g) (λg w h=>h.2)
 have hrel:Rel dT p Gf [] (vO dT D0 Gf (nu W D0) aa) {frame:=kr Vp A r .normal,callers:=[trap Vp],status:=Ri,dying:=N} {frame:=kr dT A r .normal,callers:=[],status:=Ri,dying:=N} V0 W:=by
  have hk:∀P:Wv,(kr P A r .normal).kind=.normal/\(kr P A r .normal).roundOf=none:=λ_=>⟨Q,Q⟩
  refine⟨⟨a8 dT Vp (vO dT D0 Gf (nu W D0) aa) a9 af (hA _) (sG.code A fn b0 bd a9 ai),by rw[k.alt];exact .base,⟨λ_=>(hk _).1.t (hk _).1.s,λ_=>(hk _).2⟩,⟨Q,Q⟩,⟨Q,Q⟩,Q,Q⟩,vP D _ _ _,sG.gid (σ:=vO dT D0 Gf (nu W D0) aa) (λg hg=>⟨Q,av.NS g hg⟩) Q (λ_ _ h=>h),sG.ext,hG.1,Q,⟨Q,Q⟩,⟨hG.2.1,λa b o ar ho hc=>?_⟩,⟨⟨Q0,Q,λ_ _=>Q⟩,λa b ar hk=>?_,λa b h=>h,Q,Q⟩⟩;obtain⟨_,c,e,z,-,T,-⟩:=D.row a ar.2;rw[T]at ho;cases ho;cases hc;obtain⟨rfl,hd⟩:=ar;exact hk.2 hd
 have X:Lv dT (λ_=>uc) #[] #[({frame:=kr dT A r .normal,callers:=[],status:=Ri,dying:=N}:Wk)] (λ_=>0):=by
  refine⟨λj y hj _ hy=>?_,λj hj=>?_⟩;cases j with
  |zero=>omega
  |succ j=>simp at hy
  exact(Go.Conc.leavers_one dT {frame:=kr dT A r .normal,callers:=[],status:=Ri,dying:=N}).above j hj
 exact Ka k.zero k.count (DU al) be bo _ _ (.refl _ _) _ _ W N #[] (λ_=>0) _ Q X (Go.Conc.past_nil.m Q8) hrel
end
end
theorem jP(h:oC v=Y)(ρ:Ren):RV ρ v v:=by
 cases v with
 |bool b=>exact .bool b
 |int k n=>exact .int k n
 |string s=>exact .string s
 |pointer a=>cases a with
  |none=>exact .pointer .none
  |some a=>cases h
 |slice a n c=>cases a with
  |none=>exact .slice n c .none
  |some a=>cases h
 |map r=>cases r with
  |none=>exact .map .none
  |some r=>cases h
 |chan r=>cases r with
  |none=>exact .chan .none
  |some r=>cases h
 |nilFunc=>exact .nilFunc
 |nilIface=>exact .nilIface
 |_=>cases h
theorem pa{c:pt Wx}{p:Wx->sq}(h:c.all p=Y)(d:∀v,p v=Y->RV ρ v v):RVs ρ c c:=⟨Q,λi v v' a b=>by
 rw[a]at b;cases b;obtain⟨e,rfl⟩:=eS a;exact d _ (Rn.1 h i e)⟩
theorem lJ(h:pv v=Y)(ρ:Ren):RV ρ v v:=by
 unfold pv at h;split at h
 exact .agg rfl (pa h (λv h=>jP h ρ)).at_;exact .tuple rfl (pa h (λv h=>jP h ρ)).at_;exact .iface _ (jP h ρ);exact jP h ρ
def Hl:Wx->sq
 | Rd c=>c.all pv
 | Re c=>c.all pv
 |v=>pv v
theorem B3(h:Hl v=Y)(ρ:Ren):RV ρ v v:=by
 unfold Hl at h;split at h
 exact .agg rfl (pa h (λv h=>lJ h ρ)).at_;exact .tuple rfl (pa h (λv h=>lJ h ρ)).at_;exact lJ h ρ
theorem rV(h:RV ρ z z):RVs ρ z.cells z.cells:=by
 have b:RVs ρ #[z] #[z]:=⟨Q,λi v v' a d=>by
  rw[a]at d;cases d;cases i with
  |zero=>simp at a;subst a;exact h
  |succ i=>simp at a⟩
 cases z with
 |agg c=>
  cases h with
  |agg hc e=>exact⟨Q,e⟩
 |_=>exact b
theorem RVs.O6{a l b lb:pt Wx}(h:RVs ρ a l)(k:RVs ρ b lb):RVs ρ (a++b) (l++lb):=⟨by simp[h.size,k.size],λi v j c d=>by
 rw[Rl]at c d;by_cases e:i<a.size
 .rw [if_pos e]at c;rw[if_pos (by rw[<-h.size];exact e)]at d;exact h.at_ i v j c d
 .rw [vf e]at c;rw[vf (by rw[<-h.size];exact e),<-h.size]at d;exact k.at_ _ v j c d⟩
def Zi(i:R6):Prop:=∀z,i.zero=J z->∀ρ,RV ρ z z
theorem Ea{c:pt Wx}(h:RVs ρ c c)n:RVs ρ (Rj n c).flatten (Rj n c).flatten:=by
 induction n with
 |zero=>simp;exact RVs.nil
 |succ n ih=>
  rw[Array.replicate_succ,Array.flatten_push];exact ih.O6 h
theorem Eb{α β:Type}(c:α->β->n8 (ForInStep β))(I:β->Prop)(hb:∀a b s,I b->c a b=J s->I (match s with| .done x=>x| .yield x=>x)):∀ (l:S α)(b r:β),I b->forIn l b c=J r->I r:=by
 intro l;induction l with
 |nil=>intro b r d h;simp at h;subst h;exact d
 |cons a l ih=>
  intro b r d h;rw[List.forIn_cons]at h;cases e:c a b with
  |none=>rw[e]at h;cases h
  |some s=>
   grind
theorem nw{d:TypeDesc}{a:String}{c:sq}{b}(h:oC z=Y):Zi (Made.word d a z c b):=λy e ρ=>by
 cases e;exact jP h ρ
theorem Ec(q:∀t i,e t=J i->Zi i){fs:pt Field}{i:R6}(h:Made.reckonStruct e fs=J i):Zi i:=by
 unfold Made.reckonStruct at h;dsimp only at h;rw[<-Array.forIn_toList,wz,vx]at h;obtain⟨r,p,h⟩:=h;have key:=Eb _ (λr=>∀a,r.2.2.2.2.2.2.2.1=J a->∀ρ,RVs ρ a a) (λf b s m c=>by
  rw[wz,vx]at c;obtain⟨i,k,c⟩:=c;have j:∀a,(if b.2.1+i.size > Made.mostCells then N else(b.2.2.2.2.2.2.2.1.bind λx=>i.zero.bind λy=>J (x++y.cells)))=J a->∀ρ,RVs ρ a a:=λa d ρ=>by
   split at d
   cases d;rw[vx]at d;obtain⟨x,u,d⟩:=d;rw[vx]at d;obtain⟨y,n,d⟩:=d;cases d;exact(m x u ρ).O6 (rV (q _ _ k y n ρ))
  simp only[wz,Option.pure_def,Option.bind_none,Option.bind_some]at c;split at c
  cases c;split at c
  cases c;split at c
  grind
  rw[vx]at c;obtain⟨tg,-,c⟩:=c;split at c<;>(cases c;exact j)) _ _ r (λa d ρ=>by cases d;exact RVs.nil) p
 intro z j ρ;have fin:∀ (o:n8 (pt Wx)),(∀a,o=J a->∀ρ,RVs ρ a a)->o.map Value.agg=J z->RV ρ z z:=λo l h=>by
  cases o with
  |none=>cases h
  |some a=>cases h;exact .agg rfl (l a rfl ρ).at_
 grind
theorem Ed(l:∀t i,b t=J i->Zi i){d:TypeDesc}{i:R6}(h:Made.reckon b d=J i):Zi i:=by
 unfold Made.reckon at h;cases d with
 |struct fs=>exact Ec l h
 |array n e=>
  simp[vx]at h;obtain⟨j,c,s,-,h⟩:=h;cases h;intro z a ρ;simp only at a;split at a
  cases a;split at a
  cases a;exact .agg rfl RVs.nil.at_;cases f:j.zero with
  |none=>rw[f]at a;cases a
  |some y=>
   rw[f]at a;cases a;exact .agg rfl (Ea (rV (l _ _ c y f ρ)) n).at_
 |pointer e=>
  simp[vx]at h;obtain⟨j,c,h⟩:=h;split at h
  cases h;split at h
  cases h;rw[vx]at h;obtain⟨s,-,h⟩:=h;cases h;exact nw rfl;rw[vx]at h;obtain⟨s,-,h⟩:=h;cases h;exact nw rfl
 |slice e=>
  simp[vx]at h;obtain⟨j,c,s,-,h⟩:=h;cases h;exact nw rfl
 |map k e=>
  simp[vx]at h;obtain⟨j,c,s,-,j2,-,s2,-,h⟩:=h;cases h;exact nw rfl
 |chan dir e=>
  simp[vx]at h;obtain⟨j,c,s,-,h⟩:=h;cases h;exact nw rfl
 |func ps rs v=>
  simp[vx]at h;obtain⟨s,-,h⟩:=h;cases h;exact nw rfl
 |_=>cases h
theorem Kt(h:∀ (t:H)(i:R6)(z:Wx),P.types[t]?=J i->i.zero=J z->Hl z=Y):cC P:=by
 have e:=λt i a z b ρ=>B3 (h t i z a b) ρ
 have c:∀f t i,Made.infoAt P.toTables f t=J i->Zi i:=λf=>by
  induction f with
  |zero=>intro t i h;cases h
  |succ f ih=>
   intro t i h;unfold Made.infoAt at h;split at h
   exact e t i h;rw[vx]at h;obtain⟨d,-,h⟩:=h;exact Ed (λt i h=>ih t i h) h
 intro t i z a b ρ;unfold Tables.info? at a;split at a
 grind
 exact c _ t i a z b ρ
def rg(a b f:H):sq:=Sx a f&&Sx f b
def Gs(f:H):sq:=rg 3 47 f||rg 49 75 f||rg 77 97 f||rg 100 116 f||rg 120 133 f||rg 137 143 f||rg 146 150 f||rg 155 158 f||rg 161 162 f||f==1000000||f==1000001||f==2000048
def Ss(f:H):sq:=f==43||f==70||f==80||f==90||f==95||rg 98 99 f||rg 101 102 f||rg 112 114 f||rg 117 119 f||f==132||rg 134 136 f||rg 144 145 f||rg 151 154 f||rg 159 160 f||f==1000002
def Rs(f:H):sq:=f==77||f==100||f==120||f==130||f==137||rg 146 149 f||rg 155 158 f||rg 161 162 f||f==1000001
def As(f:H):sq:=rg 3 162 f||rg 1000000 1000003 f
def Hm(P:Wv)(F:RZ->sq):sq:=(Rp 185).all λf=>!F f||(match P.funcs[f]? with|some fn=>(match fn.body with|some b=>aP P F b|none=>f==115||f==152||f==159)|none=>Y)
theorem iK(h:Hm P F=Y)(c:P.funcs.size=185):∀ (f:RZ) fn b,F f=Y->P.funcs[f]?=J fn->fn.body=J b->aP P F b=true:=λf fn b hF a d=>by
 have hlt:f<185:=by rw[<-c];exact(eS a).1
 have:=Rt.1 h f (Rq.2 hlt);rw[hF,a]at this;simp only[d]at this;simpa using this
theorem Ee(h:Hm P F=Y)(b:P.funcs.size=185):∀ (f:RZ) fn,F f=Y->P.funcs[f]?=J fn->fn.body=N->f=115\/f=152\/f=159:=λf fn hF a c=>by
 have hlt:f<185:=by rw[<-b];exact(eS a).1
 have:=Rt.1 h f (Rq.2 hlt);rw[hF,a]at this;simp only[c]at this;have:=this;simp at this;rcases this with(h|h)|h
 .exact Rf h
 .exact Rg (Rf h)
 .exact Rg (Rg h)
theorem qi:Tryz.prog.funcs.size=185:=by kernel_rfl
theorem qj:Yq.prog.funcs.size=185:=by kernel_rfl
theorem LX:Hm dT Gs=true:=by kernel_rfl
theorem LY:Hm dT Ss=true:=by kernel_rfl
theorem LZ:Hm dT Rs=true:=by kernel_rfl
theorem Jw:Hm Vp Ss=true:=by kernel_rfl
theorem Jx:Hm Vp Rs=true:=by kernel_rfl
theorem Jy:Hm Vp As=true:=by kernel_rfl
theorem ML:aP dT Gs (dr (i8 cU))=Y/\aP dT Gs (dr cU)=true:=⟨by kernel_rfl,by kernel_rfl⟩
theorem MM:aP dT Rs (dr (i8 cU))=Y/\aP dT Rs (dr cU)=true:=⟨by kernel_rfl,by kernel_rfl⟩
theorem MN:aP Vp Rs (dr (i8 cU))=Y/\aP Vp Rs (dr cU)=true:=⟨by kernel_rfl,by kernel_rfl⟩
theorem L0:aP dT Rs (cD gL)=false:=by kernel_rfl
def Nn(P:Wv):sq:=P.types.all λi=>match i.zero with|some z=>Hl z|none=>Y
theorem qk(h:Nn P=Y):cC P:=Kt λt i z a c=>by
 obtain⟨b,rfl⟩:=eS a;have:=Rn.1 h t b;simp only[c]at this;exact this
theorem L1:cC dT:=qk (by kernel_rfl)
theorem L3:cC Vp:=qk (by kernel_rfl)
theorem oh{P : Wv} (h : (P.funcs.all fun f => !(f.name == "runtime.NumGoroutine")) = Y) : cJ P := fun f fn hf e => by
 obtain⟨ht,rfl⟩:=eS hf;have:=Rn.1 h f ht;rw[e]at this;cases this
theorem Ku:cJ dT:=oh (by kernel_rfl)
theorem Kv:cJ Vp:=oh (by kernel_rfl)
section
variable {P:Wv} [Two P] {ρ:Ren}
theorem Ef:∀ (n:H){ρ:Ren}{a d:Wu}(c:tn),RA ρ a d->RS P QE ρ (SE a n c) (SE d n c):=by
 intro n;induction n with
 |zero=>intro ρ a d c _;exact ae Q
 |succ n ih=>
  intro ρ a d c h;refine am (pC h _) (λρ1 f v v' e=>?_);cases e with
  |int k b=>cases k<;>first|exact ah _|exact ih _ ((h.m f).add 1)
  |_=>exact ah _
theorem ny{b}(h:RV ρ v b):RS P QE ρ (SG v) (SG b):=by
 cases h with
 |string s=>exact ae Q
 |slice n c a=>
  cases a with
  |none=>exact ae Q
  |some a=>exact Ef n _ a
 |_=>exact ah _
theorem Eg{a}(h:RV ρ v a):RS P QE ρ (SH v) (SH a):=by
 cases h with
 |int k n=>cases k<;>first|exact ah _|exact ae Q
 |_=>exact ah _
theorem Eh{b:Ren->Wx->Wx->Prop}{g:pt Wx->Sem Wx}(h:∀x c y d,RV ρ x c->RV ρ y d->RS P b ρ (g #[x,y]) (g #[c,d]))(m:∀a:pt Wx,a.size≠2->dJ P (g a)){a e:pt Wx}(i:RVs ρ a e):RS P b ρ (g a) (g e):=by
 by_cases j:a.size=2
 obtain⟨l⟩:=a;obtain⟨f⟩:=e;have k:l.length=f.length:=by simpa using i.size
 rcases l with - |⟨x,- |⟨y,- |⟨z,l⟩⟩⟩<;>simp at j
 rcases f with - |⟨c,- |⟨d,- |⟨z',f⟩⟩⟩<;>simp at k
 exact h x c y d (i.at_ 0 x c Q Q) (i.at_ 1 y d Q Q);exact .lost (m a j) _
theorem vR{a d:pt Wx}(j:RVs ρ a d):RS P QV ρ (Sd a) (Sd d):=by
 refine Eh (λx x' y y' e i=>?_) (λa h=>?_) j;refine ak (ny e) (λρ1 f b=>(ak (Eg (i.m f)) (λρ2 l2 c=>?_)));split<;>exact ae (.int _ _)
 obtain⟨l⟩:=a;rcases l with - |⟨x,- |⟨y,- |⟨z,l⟩⟩⟩;exact .halt rfl;exact .halt rfl;simp at h;exact .halt rfl
theorem tV(b:GId P ρ)(a:String):RS P QA ρ (Sc a) (Sc a):=by
 refine bF ?_ Q;cases h:P.globals.findIdx? (·.name==a)with
 |none=>exact ah _
 |some g=>
  exact ae ⟨b.NS g ((Array.findIdx?_eq_some_iff_getElem.1 h).1),Q,Q⟩
theorem Ei(c:GId P ρ):RS P QE ρ Sg Sg:=by
 refine am (tV c _) (λρ1 l1 a a' h=>(am (pC h _) (λρ2 l2 v v' b=>jb b)))
theorem Ej(f:GId P ρ){a d:pt Wx}(k:RVs ρ a d):RS P QV ρ (Sf a) (Sf d):=by
 refine Eh (λx x' y y' n i=>?_) (λa h=>?_) k;refine ak (ny n) (λρ1 e b=>(ak (ny (i.m e)) (λρ2 j c=>(ak (Ei ((f.m e).m j)) (λρ3 l3 m=>(aM (λ_=>cE (an _)) (λ_=>(aM (λ_=>cE (an _)) (λ_=>?_)))))))));split<;>exact ae (.int _ _)
 obtain⟨l⟩:=a;rcases l with - |⟨x,- |⟨y,- |⟨z,l⟩⟩⟩;exact .halt rfl;exact .halt rfl;simp at h;exact .halt rfl
theorem mD(c:ρ.F oD=Y){a b}(h:RA ρ a b):RS P QE ρ (frozen a) (frozen b):=.frozen h (λs=>ae Q) (λe=>by rw[c]at e;cases e)
theorem oi(f:ρ.F oD=Y){a d}(h:RA ρ a d):RS P QE ρ (stringish a) (stringish d):=by
 refine ak (mD f h) (λρ0 b z=>(aM (λ_=>ae Q) (λ_=>(ak (fW (b _ _ h.1)) (λρ1 c s=>?_)))));rcases s with - |⟨e,n⟩;exact ae Q;exact mD (by rw[c.F,b.F];exact f) ⟨c _ _ (b _ _ h.1),Q,Q⟩
theorem yJ(j:ρ.F oD=Y){a h b k}(f:RA ρ a h)(l:RA ρ b k):RS P QE ρ (mayBeOne a b) (mayBeOne h k):=ak (oi j f) (λρ1 c x=>(ak (oi (by rw[c.F];exact j) (l.m c)) (λρ2 i y=>(ak (ak (fW (i _ _ (c _ _ f.1))) (λd n s=>ae Q)) (λd n u=>(ak (ak (fW (n _ _ (i _ _ (c _ _ l.1)))) (λe o s=>ae Q)) (λe o v=>(ae Q))))))))
theorem yK(v:ρ.F oD=Y)(k p:pt Ww){a i:pt Wx}(R:RVs ρ a i):RS P QV ρ (yz k p a) (yz k p i):=by
 refine Eh (g:=yz k p) (λx x' y y' T L=>?_) (λa h=>?_) R;cases T with
 | @slice a i la ca r=>
  cases L with
  | @slice b D lb cb u=>
   unfold yz;cases hp:k[0]? with
   |none=>exact ah _
   |some t=>
    refine ak (aC t) (λρ1 X d=>?_);cases d with
    |slice V=>
     refine ak (bW V) (λρ2 l2 sz=>?_);cases r with
     |none=>exact ae (.bool _)
     | @some a i h=>
      cases u with
      |none=>exact ae (.bool _)
      | @some b D s=>
       have c:=Ren.le_trans X l2;refine aM (λ_=>ae (.bool _)) (λ_=>(ak (mD (by rw[c.F];exact v) (h.m c)) (λρ3 B fa=>(ak (mD (by rw[B.F,c.F];exact v) ((s.m c).m B)) (λρ4 G fb=>?_)))));have f:=Ren.le_trans (Ren.le_trans c B) G;have o:=h.m f;have e:=s.m f;have q:(a.block != b.block)=(i.block != D.block):=by
        have:=iG o.1 e.1
        grind
       rw[<-q,<-h.2.1,<-s.2.1,<-(iG o.1 e.1)];exact aM (λ_=>an _) (λ_=>(aM (λ_=>(am (pI o) (λρ5 j _ _ _=>(am (pI (e.m j)) (λρ6 A _ _ _=>(ak (yJ (by rw[A.F,j.F];exact(by rw[f.F];exact v)) ((o.m j).m A) ((e.m j).m A)) (λρ7 l7 m=>(aM (λ_=>(ak (gF _) (λρ8 l8 n=>ae (.bool _)))) (λ_=>ae (.bool _)))))))))) (λ_=>ae (.bool _))))
    |_=>exact ah _
  |_=>exact ah _
 |_=>exact ah _
 obtain⟨l⟩:=a;rcases l with - |⟨x,- |⟨y,- |⟨z,l⟩⟩⟩;exact .halt rfl;exact .halt rfl;simp at h;exact .halt rfl
end
theorem Hn{P : Wv} [Two P] {F : RZ → sq} (hx : ∀ f fn, F f = Y → P.funcs[f]? = J fn → fn.body = N → fn.name ≠ "runtime.NumGoroutine" ∧ Sp fn = N ∧ ∃ e, Sq fn = J e ∧ ∀ ρ a a', ρ.F = F → GId P ρ → RVs ρ a a' → RS P QV ρ (e a) (e a')) : iH P F := by
 intro f fn hF hf hb ρ a a' hFF hI h;have⟨h1,h2,e,h3,h4⟩:=hx f fn hF hf hb;refine bF ?_ (by simp[hI.alt f (by rw[hFF];exact hF)]);simp[hf,beq_eq_false_iff_ne.2 h1,hb,h2,h3];exact .mark (.extern f) (cT (h4 ρ a a' hFF hI h))
@[reducible] noncomputable def B4:Two dT:=⟨Yq.prog.funcs⟩
@[reducible] noncomputable def B5:Two Vp:=⟨Yq.prog.funcs⟩
theorem L4{q:RZ}{a b}:@Program.alt P ⟨(Sw.prog P f0 q a b).funcs⟩=Sw.prog P f0 q a b:=rfl
theorem Kw:@Program.alt P ⟨P.funcs⟩=P:=rfl
theorem ql:@Program.alt dT B4=Vp:=L4
theorem tW:@Program.alt Vp B5=Vp:=Kw
theorem Kx:Sp eV=none:=by kernel_rfl
theorem Ky:Sp eW=none:=by kernel_rfl
theorem Kz:Sp gI=none:=by kernel_rfl
theorem KA:Sq eV=J (yz Tryz.f115.params Tryz.f115.resultTypes):=by kernel_rfl
theorem KB:Sq eW=J Sf:=by kernel_rfl
theorem KC:Sq gI=J Sd:=by kernel_rfl
theorem rW{P}[Two P]{F:RZ->sq}(n:P.funcs.size=185)(o:Hm P F=Y)(e:P.funcs[115]?=J eV)(i:P.funcs[152]?=J eW)(d:P.funcs[159]?=J gI)(l:F 115=Y->F oD=Y):iH P F:=
 Hn λf fn hF c m=>by
  rcases Ee o n f fn hF c m with rfl|rfl|rfl
  .rw [e]at c;cases c;exact⟨by decide,Kx,_,KA,λρ a k b j h=>yK (by rw[b];exact l hF) _ _ h⟩
  .rw [i]at c;cases c;exact⟨by decide,Ky,_,KB,λρ a k b j h=>Ej j h⟩
  .rw [d]at c;cases c;exact⟨by decide,Kz,_,KC,λρ a k b j h=>vR h⟩
theorem Ho{f}(h1:48≠f)(h2:76≠f):Yq.prog.funcs[f]?=Tryz.prog.funcs[f]?:=by simp_all
theorem size_eq:Yq.prog.funcs.size=Tryz.prog.funcs.size:=qj.t qi.s
theorem tX(f:H):(Yq.prog.funcs[f]?).map strip=(Tryz.prog.funcs[f]?).map strip:=by
 by_cases a:48=f
 subst a;rw[Yq.func48,func48];rfl;by_cases b:76=f
 subst b;rw[Yq.func76,func76];rfl
 simp_all
theorem Nf{f:H}(h:Mk Gs f=Y):f=48:=by
 have h:Gs (2000000+f)=true:=h;unfold Gs rg at h;simp at h;omega
theorem MO(f:H):¬Mk Ss f=true:=λh=>by
 have h:Ss (2000000+f)=true:=h;unfold Ss rg at h;simp at h;omega
theorem MP(f:H):¬Mk Rs f=true:=λh=>by
 have h:Rs (2000000+f)=true:=h;unfold Rs rg at h;simp at h;omega
theorem Ng(f:H):¬Mk As f=true:=λh=>by
 have h:As (2000000+f)=true:=h;unfold As rg at h;simp at h;omega
theorem KD(a:F 48=Z)(b:F 76=Z){f:H}(h:F f=Y):Yq.prog.funcs[f]?=Tryz.prog.funcs[f]?:=
 Ho (λe=>by subst e;rw[a]at h;cases h) (λe=>by subst e;rw[b]at h;cases h)
theorem L5:@iJ dT B4 Gs:=
 @iJ.mk dT B4 Gs (iK LX qi) (λf h=>by rw[ql];exact KD (by decide) (by decide) h) (λf=>by rw[ql];exact tX f) (by rw[ql];exact size_eq) (λf h=>by
  obtain rfl:=Nf h;rw[ql];exact⟨_,_,Yq.func48,func48,Q,Q,Q⟩) (@rW dT B4 Gs qi LX func115 func152 func159 (λ_=>by decide))
theorem L6:@iJ dT B4 Ss:=
 @iJ.mk dT B4 Ss (iK LY qi) (λf h=>by rw[ql];exact KD (by decide) (by decide) h) (λf=>by rw[ql];exact tX f) (by rw[ql];exact size_eq) (λf h=>sT h (MO f)) (@rW dT B4 Ss qi LY func115 func152 func159 (λh=>sT h (by decide)))
theorem L7:@iJ dT B4 Rs:=
 @iJ.mk dT B4 Rs (iK LZ qi) (λf h=>by rw[ql];exact KD (by decide) (by decide) h) (λf=>by rw[ql];exact tX f) (by rw[ql];exact size_eq) (λf h=>sT h (MP f)) (@rW dT B4 Rs qi LZ func115 func152 func159 (λh=>sT h (by decide)))
theorem KE:@iJ Vp B5 Ss:=
 @iJ.mk Vp B5 Ss (iK Jw qj) (λ_ _=>by rw[tW]) (λ_=>by rw[tW]) (by rw[tW]) (λf h=>sT h (MO f)) (@rW Vp B5 Ss qj Jw (Yq.nq func115) (Yq.nq func152) (Yq.nq func159) (λh=>sT h (by decide)))
theorem KF:@iJ Vp B5 Rs:=
 @iJ.mk Vp B5 Rs (iK Jx qj) (λ_ _=>by rw[tW]) (λ_=>by rw[tW]) (by rw[tW]) (λf h=>sT h (MP f)) (@rW Vp B5 Rs qj Jx (Yq.nq func115) (Yq.nq func152) (Yq.nq func159) (λh=>sT h (by decide)))
theorem KG:@iJ Vp B5 As:=
 @iJ.mk Vp B5 As (iK Jy qj) (λ_ _=>by rw[tW]) (λ_=>by rw[tW]) (by rw[tW]) (λf h=>sT h (Ng f)) (@rW Vp B5 As qj Jy (Yq.nq func115) (Yq.nq func152) (Yq.nq func159) (λ_=>by decide))
theorem env:@tU B4 B5 Gs Ss Rs:=
 @tU.mk B4 B5 Gs Ss Rs ql L1 L3 Ku Kv L6 L7 KE KF (λ_f h=>Nf h) ⟨Q,Q,Q⟩ MO Q ⟨Q,Q,Q⟩ MP ML MM MN L0
section
open Go.Conc Go.ConcX Go.ConcX.Gen Go.RowKit
def wf(ro:n8 H):Fence:={Fence.wide with round:=ro}
theorem MQ{ro:n8 H}(m:Machine):m.fenced P (wf ro):=fenced_wide P m
theorem tY{ro:n8 H}{m m':Machine}:StepsIn (Machine.fenced P (wf ro)) P m m'↔Steps P m m':=
 ⟨StepsIn.steps,λh=>(StepsIn.of_steps h).m λm _=>MQ m⟩
theorem KH(ro:n8 H)k:(wf ro).room k:=λ_ h=>by cases h
section
variable {P:Wv} {ops:pt Oper} {ro:n8 Nat}
def B6(P:Wv)(ops:pt Oper)(ro:n8 H)(i:H)(a:Act)(w:Wj)(K:Act->Wj->Prop):Prop:=
 ∀ (b:Wy) (k:S Item) (cs:S Wy) (c:S H),b.roundOf=ro ->
  ∃e d,K e d/\Steps P (lone (b.atR a (.inRegion ops (i::c)::k)) cs w) (lone (b.atR e (.inRegion ops c::k)) cs d)
def B7(P:Wv)(ops:pt Oper)(ro:n8 H)(K:Act->Wj->Prop):S H->Act->Wj->Prop
 | [],a,w=>K a w
 |i::r,a,w=>B6 P ops ro i a w (B7 P ops ro K r)
theorem B6.m{c K':Act->Wj->Prop}(h:B6 P ops ro i a w c)(e:∀a w,c a w->K' a w):B6 P ops ro i a w K':=
 λb k cs d f=>let⟨a',w',h1,h2⟩:=h b k cs d f;⟨a',w',e _ _ h1,h2⟩
theorem lK{c:Act->Wj->Prop}{b:Wy}{k:S Item}{cs:S Wy}(f:b.roundOf=ro):∀ (l:S H)(a:Act)(w:Wj),B7 P ops ro c l a w ->
  ∃e d,c e d/\Steps P (lone (b.atR a (.inRegion ops l::k)) cs w) (lone (b.atR e k) cs d)
 | [],a,w,h=>⟨a,w,h,.one stepR_region_end⟩
 |i::r,a,w,h=>by
  obtain⟨n,j,p,s1⟩:=h b k cs r f;obtain⟨m,q,o,s2⟩:=lK f r n j p;exact⟨m,q,o,s1.t s2⟩
theorem Ek{id}(h:B7 P ops ro (c .normal) (Rp ops.size) a w):(Sy id ops Z).wpIn (wf ro) n P c a w:=by
 intro b k cs j _ _;obtain⟨f,d,i,e⟩:=lK (b:=b) (k:=k) (cs:=cs) j _ _ _ h;exact⟨.normal,f,d,i,tY.2 (.head stepR_region e)⟩
theorem ay{w'}{K:Act->Wj->Prop}(f:ops[i]?=J s)(l:xt s (yielded ops a.tmps)=Y)(j:∀c,s.op≠.defer c)(m:(R3 a.eval s).run P w=.ok (.value v) w')(n:K (a.put s.dst v) w'):B6 P ops ro i a w K:=by
 refineλb k cs d hb=>⟨_,_,n,.one ?_⟩
 have h:=R4 (P:=P) (b:=b) (k:=k) (cs:=cs) (w:=w) (rest:=d) f l;rw[SB _ _ _ j]at h;have e:(b.atR a (.inRegion ops (i::d)::k)).finish v=b.atR (a.put s.dst v) (.inRegion ops d::k):=by rw[lj,f];rfl
 exact R5 (by rw[h,<-e];simp[stepG.apply,m])
theorem jQ{w'}{args:pt Wx}(n:ops[i]?=J o)(r:xt o (yielded ops a.tmps)=Y)(q:∀c,o.op≠.defer c)(x:(R3 a.eval o).run P w=.ok (.enter f args) w')
  (s:Calls P f args w' λe m=>∃v,e=Rc v/\d (a.put o.dst v) m):B6 P ops ro i a w d:=by
 intro b k cs h hb;obtain⟨e,w2,fr,⟨v,rfl,y⟩,z,-,u⟩:=s (b.atR a (.inRegion ops (i::h)::k)::cs);refine⟨_,_,y,?_⟩;have p:=R4 (P:=P) (b:=b) (k:=k) (cs:=cs) (w:=w) (rest:=h) n r;rw[SB _ _ _ q]at p;have j:step P (lone (b.atR a (.inRegion ops (i::h)::k)) cs w)=.next (lone (kr P f args .normal) (b.atR a (.inRegion ops (i::h)::k)::cs) w'):=
  R5 (by rw[p];simp[stepG.apply,x,lk])
 have l:(b.atR a (.inRegion ops (i::h)::k)).finish v=b.atR (a.put o.dst v) (.inRegion ops h::k):=by rw[lj,n];rfl
 refine .head j (z.t (.one ?_));rw[<-l];exact step_leave_returned u
theorem qm{x y:Operand}{c m id r}{n:pt Wx}{A:sq}(u:ops[i]?=J o)(B:xt o (yielded ops a.tmps)=Y)(q:o.op=.send x y)(D:a.eval x=.chan (J c))
  (L:w.heap[c]?=J (.chan m n Z id r A)) (l:n.size<m) (F:d (a.put o.dst Wo) (w.setChan c m (n.push (a.eval y)) Z (id+1) r A)):B6 P ops ro i a w d:=by
 refineλb k cs f hb=>⟨_,_,F,.one ?_⟩
 have z:=R4 (P:=P) (b:=b) (k:=k) (cs:=cs) (w:=w) (rest:=f) u B;rw[SB _ _ _ (by rw[q];exactλc h=>by cases h)]at z;have he:(R3 a.eval o).run P w=.ok (.comm #[scase c (a.eval y) (Re #[])] Y .send) w:=by
  have e:R3 a.eval o=pure (.comm #[{chan:=a.eval x,send:=J (a.eval y),zero:=Re #[]}] Y .send):=by simp[R3,q]
  rw[e,D];rfl
 have p:(b.atR a (.inRegion ops (i::f)::k)).finish Wo=b.atR (a.put o.dst Wo) (.inRegion ops f::k):=by rw[lj,u];rfl
 obtain⟨v,j⟩:∃v,stepG P Y (G (b.atR a (.inRegion ops (i::f)::k)) cs) w=.comm (G (b.atR a (.inRegion ops (i::f)::k)) cs) #[scase c (a.eval y) (Re #[])] Y .send w v:=by
  have t:stepG P Y (G (b.atR a (.inRegion ops (i::f)::k)) cs) w=_:=z;rw[t];simp[stepG.apply,G,GStep.after]
  simp_all
 rw[<-p];exact step_lone_send_room j L l
theorem El{b:Act->Wj->Prop}(I:pt sq->Act->Wj->Prop)(k:∀c a w i,I c a w->i∈xc .any ops c->B6 P ops ro i a w (I (c.setIfInBounds i Y)))(f:∀c a w,I c a w->xc .any ops c=[]->b a w):
  ∀ (d t:H) (c:pt sq) (a:Act) (w:Wj),I c a w->(Rp ops.size).countP (λi=>!c.getD i Y)<=d->B7 P ops ro b (Se .any ops d t c []) a w:=by
 intro d;induction d with
 |zero=>
  intro t c a w o R;have q:xc .any ops c=[]:=by
   unfold xc
   simp_all
  simp[Se];exact f _ _ _ o q
 |succ d ih=>
  intro t c a w o R;simp only[Se];change B7 P ops ro b (match(xc .any ops c)[t%(xc .any ops c).length]? with
   |some i=>Se .any ops d (t/(xc .any ops c).length) (c.setIfInBounds i Y) [i]
   |none=>[].reverse) a w
  cases v:(xc .any ops c)[t%(xc .any ops c).length]? with
  |none=>
   refine f _ _ _ o ?_;cases D:xc .any ops c with
   |nil=>rfl
   |cons x F=>
    rw[D,List.getElem?_eq_none_iff]at v;have:=Nat.mod_lt t (show 0<(x::F).length by simp);omega
  |some i=>
   simp;rw[linearise_go_acc,List.reverse_singleton,List.singleton_append];have y:=RE v;refine(k _ _ _ i o y).m λa' w' r=>ih _ _ _ _ r ?_
   have p:=Ru.1 y;have A:(!c.getD i Y)=true:=by
    grind
   have hls:i<c.size:=by
    grind
   have n:∀j,(!(c.setIfInBounds i Y).getD j Y)=Y->(!c.getD j Y)=true:=λj h=>by
    by_cases z:j=i
    subst z;exact A;rw[gD,sN (λe=>z e.s),<-gD]at h;exact h
   have hlt2:(Rp ops.size).countP (λj=>!(c.setIfInBounds i Y).getD j Y)<(Rp ops.size).countP (λj=>!c.getD j Y):=by
    have u:(!(c.setIfInBounds i Y).getD i Y)=false:=by
     simp_all
    have⟨G,L,B⟩:=List.append_of_mem (Rq.2 (Rq.1 p.1));rw[B];simp only[List.countP_append,List.countP_cons,u,A];have e1:=Rz (l:=G) (λj _=>n j);have e2:=Rz (l:=L) (λj _=>n j);simp only[Bool.false_eq_true,if_false,if_true];omega
   omega
theorem rX{id}(h:P.follows .mixedOrders=Y)(I:pt sq->Act->Wj->Prop)(e:∀d a w i,I d a w->i∈xc .any ops d->B6 P ops ro i a w (I (d.setIfInBounds i Y)))(f:∀d a w,I d a w->xc .any ops d=[]->c .normal a w)
  (r:I (Rj ops.size Z) a {w with drawn:=w.drawn+1}):(Sy id ops Y).wpIn (wf ro) n P c a w:=by
 intro b k cs t _ _;have s:=El (ro:=ro) I e f ops.size (w.tape w.drawn (.order b.fn id)) _ a _ r (by
  have:=List.countP_le_length (p:=λi=>!(Rj ops.size Z).getD i Y) (l:=Rp ops.size);simpa using this)
 obtain⟨o,j,q,m⟩:=lK (b:=b) (k:=k) (cs:=cs) t _ _ _ s;refine⟨.normal,o,j,q,tY.2 (.head stepR_region_draw ?_)⟩;simp[h];exact m
theorem vU{K:Act->Wj->Prop}(f:ops[i]?=J s)(d:xt s (yielded ops a.tmps)=Z)(e:K (a.put s.dst Wo) w):B6 P ops ro i a w K:=by
 refineλb k cs c hb=>⟨_,_,e,.one ?_⟩
 have hs:=stepR_op_skip (P:=P) (b:=b) (a:=a) (k:=k) (cs:=cs) (w:=w) (ops:=ops) (i:=i) (rest:=c) (by simp[f,d])
 grind
theorem B8{w'}{l}{tmps:pt Wx}{assign body:Code}(q:ops[i]?=J o)(t:xt o (yielded ops a.tmps)=Y)(s:∀c,o.op≠.defer c)(x:(R3 a.eval o).run P w=.ok (.round l f tmps assign body) w')
  (u:RoundIn (wf ro) n P l f tmps assign body w' λe p=>∃v,e=Rc v/\d (a.put o.dst v) p):B6 P ops ro i a w d:=by
 intro b k cs h hb;obtain⟨e,w2,⟨v,rfl,y⟩,z⟩:=u.2 (b.atR a (.inRegion ops (i::h)::k)) cs (KH _ _);refine⟨_,_,y,?_⟩;have r:=R4 (P:=P) (b:=b) (k:=k) (cs:=cs) (w:=w) (rest:=h) q t;rw[SB _ _ _ s]at r;have j:step P (lone (b.atR a (.inRegion ops (i::h)::k)) cs w)=.next (lone (Frame.round l f tmps assign body .normal) (b.atR a (.inRegion ops (i::h)::k)::cs) w'):=
  R5 (by rw[r];simp[stepG.apply,x,lk])
 have m:(b.atR a (.inRegion ops (i::h)::k)).finish v=b.atR (a.put o.dst v) (.inRegion ops h::k):=by rw[lj,q];rfl
 rw[<-m];exact .head j (tY.1 (show StepsIn (Machine.fenced P (wf ro)) P _ _ from z))
theorem lu{d t:H}(h:t≠d):(a.put (J d) v).eval (Rh t)=a.eval (Rh t):=by
 simp[Si,Sh]
 grind
theorem tZ{d}(h:d<a.tmps.size):(a.put (J d) v).eval (Rh d)=v:=by
 simp only[Si,Sh,gD]
 grind
theorem kC{d:H}{x:sq}(f:ops[j]?=J s)(e:s.dst=J d)(c:d<a.tmps.size)(b:a.eval (Rh d)=C x):yielded ops a.tmps j=J x:=by
 simp[Sh,eG c]at b;simp[yielded,f,e,c,b]
structure Vals (a0:Act)(base NW:H)(vals:H->Wx)(Wd:(H->sq)->Wj->Prop)(sz:H)(listed:pt sq)(a:Act)(w:Wj):Prop where
 size:a.tmps.size=a0.tmps.size
 defers:a.defers=a0.defers
 old:∀t,t<base->a.eval (Rh t)=a0.eval (Rh t)
 new:∀i,i<NW->listed.getD i Z=Y->a.eval (Rh (base+i))=vals i
 world:Wd (λi=>listed.getD i Z) w
 len:listed.size=sz
theorem nz{a:pt sq}(h:i∈xc .any ops a)(d:ops[i]?=J s):∀e∈s.after,xv .any e=Y->a.getD e.on Z=true:=by
 have b:=(Ru.1 h).2;simp only[d,Option.map_some,Option.getD_some,bT]at b;intro e c hb;have:=Array.all_eq_true'.1 b.2 e c
 grind
theorem dn{a:pt sq}(h:i∈xc .any ops a):i<ops.size/\a.getD i Y=false:=by
 have h1:=Ru.1 h
 grind
def fj(d:H->sq)(i:H):H->sq:=λj=>if j=i then Y else d j
theorem rY{a:pt sq}(h:i<a.size):(λj=>(a.setIfInBounds i Y).getD j Z)=fj (λj=>a.getD j Z) i:=by
 funext j;unfold fj;by_cases b:j=i
 simp_all
 rw[vf b,gD,sN (λe=>b e.s),<-gD]
theorem Vals.step{l}{c NW}{d:H->Wx}{Wd:(H->sq)->Wj->Prop}{b:pt sq}{a}{w w'}{i}{o}(V:Vals l c NW d Wd ops.size b a w)(x:i∈xc .any ops b)(ho:ops[i]?=J o)(q:i<NW->o.dst=J (c+i))(k:¬i<NW->o.dst=N)(hsz:c+NW<=l.tmps.size)
  {v:Wx} (r:i<NW->v=d i) (p:Wd (fj (λj=>b.getD j Z) i) w'):Vals l c NW d Wd ops.size (b.setIfInBounds i Y) (a.put o.dst v) w':=by
 have hlt:i<b.size:=by rw[V.len];exact(dn x).1
 by_cases h:i<NW
 rw[q h];refine⟨by simp[Si,V.size],V.defers,λt u=>(lu (by omega)).t (V.old t u),λj n m=>?_,by rw[rY hlt];exact p,by simp[V.len]⟩;by_cases f:j=i
 subst f;rw[tZ (by rw[V.size];omega)];exact r h;rw[lu (by omega)];refine V.new j n ?_
 rwa [gD,sN (λe=>f e.s),<-gD]at m
 rw[k h];refine⟨V.size,V.defers,V.old,λj n m=>V.new j n ?_,by rw[rY hlt];exact p,by simp[V.len]⟩
 rwa [gD,sN (λe=>h (by omega)),<-gD]at m
def Em(ops:pt Oper):sq:=(Rp ops.size).all λi=>((ops[i]?).map λo=>o.after.toList.all λe=>decide (e.on<i)).getD Y
def KI(ops:pt Oper)(base NW:H):sq:=(Rp ops.size).all λi=>((ops[i]?).map λo=>if i<NW then o.dst==J (base+i)else o.dst==N).getD Y
theorem Ar(c:Em ops=Y){a:pt sq}(hs:a.size=ops.size)(hr:xc .any ops a=[]):∀i,i<ops.size->a.getD i Z=true:=by
 intro i;induction i using Nat.strongRecOn with
 |_ i ih=>
  intro b;by_cases h:a.getD i Z=Y
  exact h;exfalso;have hm:i∈xc .any ops a:=by
   refine Ru.2 ⟨Rq.2 b,?_⟩;have h1:=Rt.1 c i (Rq.2 b)
   grind
  grind
theorem At{a}(b:KI ops a B=Y):∀i o,ops[i]?=J o->(i<B->o.dst=J (a+i))/\(¬i<B->o.dst=N):=by
 intro i o c;have h1:=Rt.1 b i (Rq.2 ((eS c).1))
 grind
theorem lO{id}{b:Exit->Act->Wj->Prop}{w0}(R:P.follows .mixedOrders=Y)f NW(k:H->Wx)(Wd:(H->sq)->Wj->Prop)(y:f+NW<=a0.tmps.size)
  (l:KI ops f NW=Y) (u:Em ops=Y)
  (p:∀ (c:pt sq) (a:Act) (w:Wj) (i:H) (o:Oper),i∈xc .any ops c->ops[i]?=J o->Vals a0 f NW k Wd ops.size c a w->(∀e∈o.after,xv .any e=Y->c.getD e.on Z=Y) ->
   B6 P ops ro i a w (λB A=>∃v,B=a.put o.dst v/\(i<NW->v=k i)/\Wd (fj (λj=>c.getD j Z) i) A))
  (s:∀a w,a.tmps.size=a0.tmps.size->a.defers=a0.defers->(∀t,t<f->a.eval (Rh t)=a0.eval (Rh t))->(∀i,i<NW->i<ops.size->a.eval (Rh (f+i))=k i)->(∃d,(∀i,i<ops.size->d i=Y)/\Wd d w)->b .normal a w)
  (L:Wd (λ_=>Z) {w0 with drawn:=w0.drawn+1}):(Sy id ops Y).wpIn (wf ro) n P b a0 w0:=by
 have z:(λi=>(Rj ops.size Z).getD i Z)=λ_=>false:=by
  funext i;rw[gD,Rk];split<;>rfl
 refine rX R (Vals a0 f NW k Wd ops.size) (λc a w i V q=>?_) (λc a w V G=>?_) ⟨Q,Q,λ_ _=>Q,λi _ h=>?_,by rw[z];exact L,by simp⟩;have r:=eG ((dn q).1);refine(p c a w i _ q r V (nz q r)).m ?_;rintro B A ⟨v,rfl,T,F⟩;exact V.step q r (At l i _ r).1 (At l i _ r).2 y T F;have D:=Ar u V.len G;exact s a w V.size V.defers V.old (λi q x=>V.new i q (D i x)) ⟨_,D,V.world⟩;have:=congrFun z i
 grind
end
end
section
open Go.RowKit
theorem ag{b}(c:Below W.heap.size W b){a}(h:W.cell? a=J v):b.cell? a=J v:=by
 rw[c.cell (bC W a h)];exact h
theorem Au(x y:tb):oB x y<0↔x<y:=by unfold oB;(repeat' split)<;>omega
theorem Jz(x y:tb):(oB x y==0)=decide (x=y):=by unfold oB;(repeat' split)<;>simp<;>omega
theorem KJ b n G(L:H->tb)(p:H->n8 Wu)(t:tb)w(hn:n<=2199023255552)
  (R:∀i,i<n->w.cell? ⟨b,i*2,N⟩=J (I .u8 (L i))/\w.cell? ⟨b,i*2+1,N⟩=J (O (p i)))
  (P:∀i j,i<j->j<n->L i<L j):
  Calls Vp 112 #[M (J ⟨b,0,N⟩) n G,I .u8 t,.func (.func 113) #[] #[]] w λe B=>∃r:H,r<=n/\(∀j,j<r->L j<t)/\(∀j,r<=j->j<n->t<=L j) /\
   e=Rc (Re #[I K r,C (decide (r<n/\L r=t))])/\Below w.heap.size w B:=by
 have HS:=aq P;clear P;go_enter (Yq.nq func112),ntmps112;go_wp2
 go_loopw [9,10,11] (λi j _ wr=>∃x y:H,x<=y/\y<=n/\i=I K x/\j=I K y/\(∀k,k<x->L k<t)/\(∀k,y<=k->k<n->t<=L k)/\Below w.heap.size w wr) (λi j _ _=>(intOf j).toNat-(intOf i).toNat)
 case atStart=>exact⟨0,n,Q8,Q0,Q,Q,λk h=>sT h (Su _),λk h1 T=>sT T (by omega),Q9⟩
 case round=>
  obtain⟨x,y,D,c,rfl,rfl,s,z,a⟩:=hrel;have HL:=aq s;have HH:=aq z;clear s z;by_cases hlt:x<y
  .have ⟨v,A⟩:=R ((x+y)/2) (by omega);replace v:=ag a v;replace A:=ag a A;by_cases f:L ((x+y)/2)<t
   .have u:=(Au _ _).2 f;go_wp2_with (go_at_call 113;refine(tu _ _ _ _).m ?_;rintro e B ⟨rfl,rfl⟩)
    refine⟨⟨(x+y)/2+1,y,by omega,c,by go_num,Q,λk hk=>?_,HH.o,a.alloc a.size _⟩,by simp[intOf];omega⟩;by_cases l:k=(x+y)/2
    rw[l];exact f;have:=HS.o k ((x+y)/2) (by omega) (by omega);omega
   have u:¬oB (L ((x+y)/2)) t<0:=λh=>f ((Au _ _).1 h)
   go_wp2_with (go_at_call 113;refine(tu _ _ _ _).m ?_;rintro e B ⟨rfl,rfl⟩)
   refine⟨⟨x,(x+y)/2,by omega,by omega,Q,by go_num,HL.o,λk hk1 l=>?_,a.alloc a.size _⟩,by simp[intOf];omega⟩;by_cases F:k=(x+y)/2
   rw[F];omega;have:=HS.o ((x+y)/2) k (by omega) (by omega);omega
  have q:x=y:=by omega
  subst q;clear hlt D;by_cases d:x<n
  have⟨v,A⟩:=R x d;replace v:=ag a v;replace A:=ag a A;go_wp2_with (go_at_call 113;refine(tu _ _ _ _).m ?_;rintro e B ⟨rfl,rfl⟩)
  go_ret2
  exact⟨x,c,HL.o,HH.o,by simp[d,Jz],a.alloc a.size _⟩;go_wp2
  go_ret2
  exact⟨x,c,HL.o,HH.o,by simp[d],a⟩
theorem Hp(a:n8 Wu)b(t:tb)w:
  Calls Vp 112 #[M a 0 b,I .u8 t,.func (.func 113) #[] #[]] w λe c=>e=Rc (Re #[I K 0,C Z])/\c=w:=by
 go_enter (Yq.nq func112),ntmps112;go_wp2;refine R8 1 ?_;rw[Sa];go_wp2
 go_ret2
 simp_all
theorem KK b n R(L:H->tb)(a:H->tn)(c:H->sq)(t:tb)w(hn:n<=2199023255552)
  (V:∀i,i<n->w.cell? ⟨b,i*3,N⟩=J (I K (L i))/\w.cell? ⟨b,i*3+1,N⟩=J (U (a i))/\w.cell? ⟨b,i*3+2,N⟩=J (C (c i)))
  (T:∀i j,i<j->j<n->L i<L j):
  Calls Vp 91 #[M (J ⟨b,0,N⟩) n R,I K t,.func (.func 92) #[] #[]] w λe F=>∃r:H,r<=n/\(∀j,j<r->L j<t)/\(∀j,r<=j->j<n->t<=L j) /\
   e=Rc (Re #[I K r,C (decide (r<n/\L r=t))])/\Below w.heap.size w F:=by
 have HS:=aq T;clear T;go_enter (Yq.nq func91),ntmps91;go_wp2
 go_loopw [9,10,11] (λi j _ wr=>∃x y:H,x<=y/\y<=n/\i=I K x/\j=I K y/\(∀k,k<x->L k<t)/\(∀k,y<=k->k<n->t<=L k)/\Below w.heap.size w wr) (λi j _ _=>(intOf j).toNat-(intOf i).toNat)
 case atStart=>exact⟨0,n,Q8,Q0,Q,Q,λk h=>sT h (Su _),λk h1 X=>sT X (by omega),Q9⟩
 case round=>
  obtain⟨x,y,G,f,rfl,rfl,v,B,d⟩:=hrel;have HL:=aq v;have HH:=aq B;clear v B;by_cases hlt:x<y
  .have ⟨A,D,q⟩:=V ((x+y)/2) (by omega);replace A:=ag d A;replace D:=ag d D;replace q:=ag d q;by_cases p:L ((x+y)/2)<t
   .have z:=(Au _ _).2 p;go_wp2_with (go_at_call 92;refine(tw _ _ _ _ _).m ?_;rintro e F ⟨rfl,rfl⟩)
    refine⟨⟨(x+y)/2+1,y,by omega,f,by go_num,Q,λk hk=>?_,HH.o,d.alloc d.size _⟩,by simp[intOf];omega⟩;by_cases s:k=(x+y)/2
    rw[s];exact p;have:=HS.o k ((x+y)/2) (by omega) (by omega);omega
   have z:¬oB (L ((x+y)/2)) t<0:=λh=>p ((Au _ _).1 h)
   go_wp2_with (go_at_call 92;refine(tw _ _ _ _ _).m ?_;rintro e F ⟨rfl,rfl⟩)
   refine⟨⟨x,(x+y)/2,by omega,by omega,Q,by go_num,HL.o,λk hk1 s=>?_,d.alloc d.size _⟩,by simp[intOf];omega⟩;by_cases P:k=(x+y)/2
   rw[P];omega;have:=HS.o ((x+y)/2) k (by omega) (by omega);omega
  have u:x=y:=by omega
  subst u;clear hlt G;by_cases l:x<n
  have⟨A,D,q⟩:=V x l;replace A:=ag d A;replace D:=ag d D;replace q:=ag d q;go_wp2_with (go_at_call 92;refine(tw _ _ _ _ _).m ?_;rintro e F ⟨rfl,rfl⟩)
  go_ret2
  exact⟨x,f,HL.o,HH.o,by simp[l,Jz],d.alloc d.size _⟩;go_wp2
  go_ret2
  exact⟨x,f,HL.o,HH.o,by simp[l],d⟩
theorem Hr(a:n8 Wu)b(t:tb)w:
  Calls Vp 91 #[M a 0 b,I K t,.func (.func 92) #[] #[]] w λe c=>e=Rc (Re #[I K 0,C Z])/\c=w:=by
 go_enter (Yq.nq func91),ntmps91;go_wp2;refine R8 1 ?_;rw[Sa];go_wp2
 go_ret2
 simp_all
structure Ver where
 num:tb
 body:tn
 mark:sq
def aA(h:S Ver):S Wx:=h.flatMap λv=>[I K v.num,U v.body,C v.mark]
def aI(ks:S (nF×n8 Wu)):S Wx:=ks.flatMap λk=>[I .u8 (k.1.toNat:tb),O k.2]
def dW(A:H->Prop)(w:Wj)(v:Wx)(n:H)(xs:S Wx):Prop:=
 ∃a b,v=M a n b/\(a=N->b=0)/\(xs≠[]->∃g,a=J ⟨g,0,N⟩/\A g/\g<w.heap.size/\∀j,j<xs.length->w.cell? ⟨g,j,N⟩=xs[j]?)
def bX(A:H->Prop)(w:Wj)(v:Wx)(h:S Ver):Prop:=dW A w v h.length (aA h)
def jR(A:H->Prop)(w:Wj)(v:Wx)(ks:S (nF×n8 Wu)):Prop:=dW A w v ks.length (aI ks)
def au(A:H->Prop):H->Wj->n8 Wu->(S nF->S Ver)->Prop
 | 0,_,p,f=>p=N/\∀k,f k=[]
 |n+1,w,p,f=>(p=N/\∀k,f k=[])\/∃g e h d,p=J ⟨g,0,N⟩/\A g/\w.cell? ⟨g,0,N⟩=J (C (!(f []).isEmpty))/\w.cell? ⟨g,1,N⟩=J e /\
   w.cell? ⟨g,2,N⟩=J h/\bX A w e (f [])/\jR A w h d/\d.Pairwise (λa b=>a.1<b.1) /\
   (∀c q,(c,q)∈d->au A n w q (λk=>f (c::k)))/\(∀c,(∀q,(c,q) ∉ d)->∀k,f (c::k)=[])/\∀c q,(c,q)∈d->q≠N
theorem dW.Nx{w'}{xs}(h:dW A w v n xs)
  (i:∀b,A b->b<w.heap.size->A' b/\w'.heap[b]?=w.heap[b]?):dW A' w' v n xs:=by
 obtain⟨a,e,m,d,t⟩:=h;refine⟨a,e,m,d,λc=>?_⟩;have⟨g,o,s,r,q⟩:=t c;have⟨p,l⟩:=i g s r;refine⟨g,o,p,?_,λj k=>?_⟩
 grind
 rw[cB (w:=w) (w':=w') (a:=⟨g,j,N⟩) l];exact q j k
theorem au.Nx{w'}(j:∀b,A b->b<w.heap.size->A' b/\w'.heap[b]?=w.heap[b]?):
  ∀ (n:H) (p:n8 Wu) (f:S nF->S Ver),au A n w p f->au A' n w' p f:=by
 intro n;induction n with
 |zero=>intro p f h;exact h
 |succ n ih=>
  intro p f h;rcases h with h|⟨g,x,u,s,m,B,l,z,o,r,i,t,k,d⟩;exact Or.inl h;obtain⟨y,e⟩:=j g B (bC w _ l);refine Or.inr ⟨g,x,u,s,m,y,?_,?_,?_,r.Nx j,i.Nx j,t,λc q v=>ih q _ (k c q v),d⟩;rw[cB (w:=w) (w':=w') (a:=⟨g,0,N⟩) e];exact l;rw[cB (w:=w) (w':=w') (a:=⟨g,1,N⟩) e];exact z;rw[cB (w:=w) (w':=w') (a:=⟨g,2,N⟩) e];exact o
theorem vV{a}(d:Below w.heap.size w a):∀b,A b->b<w.heap.size->A b/\a.heap[b]?=w.heap[b]?:=
 λb c hlt=>⟨c,d.block b hlt⟩
theorem au.on{w'}{p:n8 Wu}{f:S nF->S Ver}(h:au A n w p f)(a:Below w.heap.size w w'):au A n w' p f:=
 au.Nx (vV a) n p f h
theorem dW.on{w'}{xs}(h:dW A w v n xs)(a:Below w.heap.size w w'):dW A w' v n xs:=h.Nx (vV a)
theorem cF{α:Type}(m:H)(g:α->S Wx)(b:∀a,(g a).length=m)(l:S α):(l.flatMap g).length=l.length*m:=by
 induction l with
 |nil=>simp
 |cons a l ih=>simp[ih,b];rw[Nat.add_mul,Nat.one_mul,Nat.add_comm]
theorem bL{α:Type}(m:H)(g:α->S Wx)(c:∀a,(g a).length=m)(l:S α)(i j:H)(d:i<l.length)(b:j<m):
  (l.flatMap g)[i*m+j]?=(g l[i])[j]?:=by
 induction l generalizing i with
 |nil=>simp at d
 |cons a l ih=>
  cases i with
  |zero=>simp;rw[List.getElem?_append_left (by rw[c];exact b)]
  |succ i=>
   grind
theorem fG h:(aA h).length=h.length*3:=cF 3 _ (λ_=>Q) h
theorem fH a:(aI a).length=a.length*2:=cF 2 _ (λ_=>Q) a
theorem yL{h}(a:h≠[]):aA h≠[]:=by
 intro e;have:=fG h;rw[e]at this;simp at this;exact a (Ry.1 (by omega))
theorem yM(a:h≠[]):aI h≠[]:=by
 intro e;have:=fH h;rw[e]at this;simp at this;exact a (Ry.1 (by omega))
theorem bX.cells{A:H->Prop}{w:Wj}{v:Wx}{h:S Ver}(l:bX A w v h)(e:h≠[]):
  ∃g b,v=M (J ⟨g,0,N⟩) h.length b/\A g/\g<w.heap.size/\(∀i (d:i<h.length),w.cell? ⟨g,i*3,N⟩=J (I K h[i].num)/\w.cell? ⟨g,i*3+1,N⟩=J (U h[i].body)/\w.cell? ⟨g,i*3+2,N⟩=J (C h[i].mark)) /\
   ∀j,j<(aA h).length->w.cell? ⟨g,j,N⟩=(aA h)[j]?:=by
 obtain⟨a,b,f,-,o⟩:=l;have⟨g,k,n,m,c⟩:=o (yL e);subst k;refine⟨g,b,f,n,m,λi d=>?_,c⟩;have hl:=fG h;refine⟨?_,?_,?_⟩;rw[c (i*3) (by omega)];exact bL 3 _ (λ_=>Q) h i 0 d (by omega);rw[c (i*3+1) (by omega)];exact bL 3 _ (λ_=>Q) h i 1 d (by omega);rw[c (i*3+2) (by omega)];exact bL 3 _ (λ_=>Q) h i 2 d (by omega)
theorem jR.cells{A:H->Prop}{w:Wj}{v:Wx}{h:S (nF×n8 Wu)}(l:jR A w v h)(c:h≠[]):
  ∃g b,v=M (J ⟨g,0,N⟩) h.length b/\A g/\g<w.heap.size/\(∀i (e:i<h.length),w.cell? ⟨g,i*2,N⟩=J (I .u8 (h[i].1.toNat:tb))/\w.cell? ⟨g,i*2+1,N⟩=J (O h[i].2)) /\
   ∀j,j<(aI h).length->w.cell? ⟨g,j,N⟩=(aI h)[j]?:=by
 obtain⟨a,b,f,-,o⟩:=l;have⟨g,k,n,m,d⟩:=o (yM c);subst k;refine⟨g,b,f,n,m,λi e=>?_,d⟩;have hl:=fH h;refine⟨?_,?_⟩;rw[d (i*2) (by omega)];exact bL 2 _ (λ_=>Q) h i 0 e (by omega);rw[d (i*2+1) (by omega)];exact bL 2 _ (λ_=>Q) h i 1 e (by omega)
theorem yN(c:S (nF×n8 Wu))(m:H)(i:c.Pairwise (λa b=>a.1<b.1))(f:∀k∈c,m<=k.1.toNat)(d:m<=256):c.length+m<=256:=by
 induction c generalizing m with
 |nil=>simpa using d
 |cons a c ih=>
  have⟨e,j⟩:=Rv.1 i;have ha:=f a (List.mem_cons_self ..);have hlt:=a.1.toNat_lt;have:=ih (a.1.toNat+1) j (λk h=>by have:=RQ.1 (e k h);omega) (by omega);simp;omega
theorem nA(c:S (nF×n8 Wu))(d:c.Pairwise (λa b=>a.1<b.1)):c.length<=256:=by
 have:=yN c 0 d (λ_ _=>Q8) (by omega);omega
theorem lQ{c:S (nF×n8 Wu)}(e:c.Pairwise (λa b=>a.1<b.1))(i j:H)(d:i<j)(f:j<c.length):(c[i].1.toNat:tb)<(c[j].1.toNat:tb):=by
 have:=List.pairwise_iff_getElem.1 e i j (by omega) f d;have:=RQ.1 this;omega
end
section
open Go.Conc Go.ConcX Go.ConcX.Gen Go.RowKit
structure jy (B:H)(w:Wj)(g cap:H)(bs:S nF):Prop where
 base:B<=g
 obj:∃x e z,w.heap[g]?=J (E x e z)
 le:bs.length<=cap
 cells:∀j (hj:j<bs.length),w.cell? ⟨g,j,N⟩=J (I .u8 (bs[j].toNat:tb))
 room:∀j,j<cap->(w.cell? ⟨g,j,N⟩).isSome=Y/\w.frozen? ⟨g,j,N⟩=Z
theorem jy.lt{b}{c}(a:jy B w g b c):g<w.heap.size:=by
 have⟨x,e,z,h⟩:=a.obj
 grind
def qX(g cap:H)(bs:S nF):Wx:=M (J ⟨g,0,N⟩) bs.length cap
theorem jy.same{w'}{c}{bs}(b:jy B w g c bs)(h:w'.heap[g]?=w.heap[g]?):jy B w' g c bs:=by
 exact⟨b.base,by rw[h];exact b.obj,b.le,λj d=>(cB (a:=⟨g,j,N⟩) h).t (b.cells j d),λj d=>by
  rw[cB (a:=⟨g,j,N⟩) h,fB (a:=⟨g,j,N⟩) h];exact b.room j d⟩
theorem jy.take{c}{bs}{b:nF}(a:jy B w g c (bs++[b])):jy B w g c bs:=by
 refine⟨a.base,a.obj,by have:=a.le;simp at this;omega,λj d=>?_,a.room⟩;rw[a.cells j (by simp;omega),Rx d]
theorem Yq.N4:(Yq.prog.info? 5).map (λi=>(i.zero,i.size,i.bytes))=J (J (I .u8 0),1,1):=by kernel_rfl
theorem bI(h:i≠j):(⟨g,i,N⟩:Wu)≠⟨g,j,N⟩:=by simp
theorem B9{m}{d}(a:jy B w g m d)(hB:B<=w.heap.size)(hl:d.length<=1000)F(b:nF)(hb:w.cell? ⟨F,0,N⟩=J (I .u8 (b.toNat:tb)))ty:
  ∃t c v,(Builtin.append_ #[125,125] ty #[qX g m d,M (J ⟨F,0,N⟩) 1 1]).run Vp w=.ok (qX t c (d++[b])) v/\jy B v t c (d++[b])/\(t=g/\c=m\/w.heap.size<=t/\v.heap[g]?=w.heap[g]?) /\
   (∀k,k<w.heap.size->k≠g->v.heap[k]?=w.heap[k]?)/\w.heap.size<=v.heap.size/\v.os=w.os:=by
 have⟨i0,hi,T,q,ac⟩:=info_parts Yq.N4;have r:∀j u,[Value.int .u8 (b.toNat:tb)][j]?=J u->w.cell? ((⟨F,0,N⟩:Wu).add j)=J u:=λj u f=>by
  cases j with
  |zero=>simp at f;subst f;rw[SD];exact hb
  |succ j=>simp at f
 have h1:∀u∈[Value.int .u8 (b.toNat:tb)],u.oneCell'=true:=λu hu=>by simp at hu;subst hu;rfl
 by_cases hr:d.length+1<=m
 have l:=a.room d.length (by omega);have L:∀j,j < [Value.int .u8 (b.toNat:tb)].length->j=0:=λj f=>by simp at f;omega
 have o:=run_append_room_cells (P:=Vp) w 125 ty 5 i0 (Yq.u underlying125) hi g 0 d.length m ⟨F,0,N⟩ 1 1 [I .u8 (b.toNat:tb)] (by simp[q]) r h1 hr (λj f=>by rw[L j f];simpa[q]using l.1) (λj f=>by rw[L j f];simpa[q]using l.2);have e:w.setCells g (0+d.length*i0.size) [I .u8 (b.toNat:tb)]=w.setCell ⟨g,d.length,N⟩ (I .u8 (b.toNat:tb)):=by simp[World.setCells,q]
 rw[e]at o;have⟨u0,G⟩:=Option.isSome_iff_exists.1 l.1;have aa:(w.setCell ⟨g,d.length,N⟩ (I .u8 (b.toNat:tb))).heap.size=w.heap.size:=by simp
 have X:∃x e z,(w.setCell ⟨g,d.length,N⟩ (I .u8 (b.toNat:tb))).heap[g]?=J (E x e z):=by
  have⟨x,e,z,h⟩:=a.obj;refine⟨x.setIfInBounds d.length (I .u8 (b.toNat:tb)),e,z,?_⟩;have⟨h1,h2⟩:=eS h;show(w.heap.modify g _)[g]?=_
  grind
 refine⟨g,m,_,by simpa[qX]using o,⟨a.base,X,by simpa using hr,λj f=>?_,λj f=>?_⟩,Rf ⟨Q,Q⟩,λk _ V=>Ra V,by rw[aa];exact Q0,((bR 0 w).setCell (p:=⟨g,d.length,N⟩) Q8 _).os⟩;by_cases n:j=d.length
 subst n;rw[cS _ _ _ (by rw[G];rfl)];simp;rw[cO _ _ _ _ (bI λe=>n e.s),a.cells j (by simp at f;omega),Rx (by simp at f;omega)];have:=a.room j f;refine⟨?_,by rw[World.frozen?_setCell];exact this.2⟩;by_cases n:j=d.length
 subst n;rw[cS _ _ _ (by rw[G];rfl)];rfl;rw[cO _ _ _ _ (bI λe=>n e.s)];exact this.1;obtain⟨v',v,o,y,i⟩:=run_append_arg_grows (P:=Vp) w 125 ty 5 i0 _ 1 1 (Yq.u underlying125) hi T q ac Q (by decide) ⟨g,0,N⟩ d.length m (d.map λb=>Value.int .u8 (b.toNat:tb)) (by simp) (λj u f=>by
  rw[SD,zA];have⟨D,n⟩:=sL f;simp at D;rw[a.cells j D,<-n];simp) ⟨F,0,N⟩ 1 1 [I .u8 (b.toNat:tb)] Q r (by omega) (by simp[R7];omega) (by omega)
 rcases y.2 with⟨-,h⟩|⟨t,c,ad,rfl,R,A,af,hm,hs,htake⟩;omega;refine⟨t,c,v,?_,⟨lT hB R,⟨_,_,_,A⟩,by simpa using af,λj f=>?_,λj f=>?_⟩,Rg ⟨R,i.block g a.lt (by simp)⟩,λk V _=>i.block k V (by simp),i.size,i.os⟩;rw[show qX t c (d++[b])=M (J ⟨t,0,N⟩) (d.length+1) c by simp[qX]];exact o;have hc:=y.cells (g:=t) Q j (I .u8 ((d++[b])[j].toNat:tb)) (by
  rw[List.getElem?_append];by_cases h:j<d.length
  simp[h];have:j=d.length:=by simp at f;omega
  subst this;simp)
 rw[SD,zA]at hc;exact hc;rw[(λj=>Sb v t j ad 5 (0,0) A),Sn,A];simp[hs,f]
def Dn:S nF:=(Rp 256).map UInt8.ofNat
def dF:H->(S nF->S Ver)->S nF->S (S nF×S Ver)
 | 0,_,_=>[]
 |n+1,f,bs=>(if(f []).isEmpty then[]else[(bs,f [])])++Dn.flatMap λb=>dF n (λk=>f (b::k)) (bs++[b])
theorem qn n(f:S nF->S Ver)a(h:∀k,f k=[]):dF n f a=[]:=by
 induction n generalizing f a with
 |zero=>rfl
 |succ n ih=>simp[dF,h,ih]
theorem jl{α β:Type}(g:nF->S β):∀ (l:S nF)(e:S (nF×α)),l.Pairwise (· < ·)->e.Pairwise (λa b=>a.1<b.1)->(∀k∈e,k.1∈l)->(∀b∈l,(∀q,(b,q) ∉ e)->g b=[])->l.flatMap g=e.flatMap λk=>g k.1
 | [],e,_,_,hk,_=>by
  cases e with
  |nil=>rfl
  |cons a e=>exact sT (hk a (by simp)) (by simp)
 |b::l,e,hl,hs,hk,hg=>by
  have⟨n,j⟩:=Rv.1 hl;cases e with
  |nil=>
   rw[Rw,hg b (by simp) (by simp)];exact jl g l [] j hs (by simp) (λb x h=>hg b (by simp[x]) h)
  |cons a e=>
   have⟨i,r⟩:=Rv.1 hs;rw[Rw];by_cases d:a.1=b
   .rw [Rw,d];congr 1;refine jl g l e j r (λk f=>?_) (λc p h=>hg c (by simp[p]) (λq t=>?_))
    .have y:=hk k (by simp[f]);have u:=i k f;rcases Rr.1 y with h|h
     .rw [h,<-d]at u;exact sT u (by simp)
     .exact h
    .rcases Rr.1 t with s|s
     .have v:=n c p;rw[<-d,<-s]at v;exact sT v (by simp)
     .exact h q s
   .have hlt:b<a.1:=by
     rcases Rr.1 (hk a (by simp))with h|h
     .exact sT h d
     .exact n _ h
    rw[hg b (by simp) (λq t=>?_),List.nil_append]
    .refine jl g l (a::e) j hs (λk f=>?_) (λc p h=>hg c (by simp[p]) h);rcases Rr.1 (hk k f)with h|h
     .exfalso;rcases Rr.1 f with m|m
      .rw [m]at h;exact d h
      .have o:=i k m;rw[h]at o;exact sT o (RY hlt)
     .exact h
    .rcases Rr.1 t with m|m
     .exact d (by rw[<-m])
     .have o:=i _ m;exact sT o (RY hlt)
theorem pd(b:nF):b∈Dn:=List.mem_map.2 ⟨b.toNat,Rq.2 b.toNat_lt,by simp⟩
theorem lU:Dn.Pairwise (· < ·):=by
 rw[Dn,List.pairwise_map];refine List.pairwise_lt_range.imp_of_mem λha a h=>?_
 have:=Rq.1 a;rw[RQ];simp;omega
theorem Ca(n:H)(f:S nF->S Ver)(e:S nF)(d:S (nF×n8 Wu))(j:d.Pairwise (λa b=>a.1<b.1))(i:∀c,(∀q,(c,q) ∉ d)->∀k,f (c::k)=[]):
  dF (n+1) f e=(if(f []).isEmpty then[]else[(e,f [])])++d.flatMap λk=>dF n (λx=>f (k.1::x)) (e++[k.1]):=by
 rw[dF];congr 1;exact jl (λb=>dF n (λx=>f (b::x)) (e++[b])) Dn d lU j (λk _=>pd _) (λb _ h=>qn _ _ _ (i b h))
abbrev KVs:=S (S nF×S Ver)
def eN(t:H)(W W':Wj):Prop:=W.heap.size<=W'.heap.size/\W'.os=W.os/\∀ (b:H)(o:Obj),W.heap[b]?=J o->o.isCells=Y->b≠t->W'.heap[b]?=J o
theorem eN.refl t W:eN t W W:=⟨Q0,Q,λ_ _ h _ _=>h⟩
theorem eN.t{t}{W'}(h:eN t W W')(k:eN t W' W''):eN t W W'':=⟨lT h.1 k.1,k.2.1.t h.2.1,λb o d c a=>k.2.2 b o (h.2.2 b o d c a) c a⟩
def gR(O:Wj->H->Prop)(t:H)(W W':Wj):Prop:=W.heap.size<=W'.heap.size/\W'.os=W.os/\(∀b,O W' b->O W b\/W.heap.size<=b)/\∀ (b:H)(o:Obj),W.heap[b]?=J o->o.isCells=Y->b≠t->¬O W b->W'.heap[b]?=J o
theorem gR.refl(O:Wj->H->Prop)t W:gR O t W W:=⟨Q0,Q,λ_ h=>Rf h,λ_ _ h _ _ _=>h⟩
theorem En{O:Wj->H->Prop}{W' w'}(hs:W.heap.size<=W'.heap.size)(h:∀b,O W' b->O W b\/W.heap.size<=b)(k:∀b,O w' b->O W' b\/W'.heap.size<=b):∀b,O w' b->O W b\/W.heap.size<=b:=by grind
theorem vW{O:Wj->H->Prop}{W'}{b}(h:∀b,O W' b->O W b\/W.heap.size<=b)(hb:W.heap[b]?=J o')(hn:¬O W b):¬O W' b:=by grind
theorem gR.t{O:Wj->H->Prop}{t}{W'}(h:gR O t W W')(k:gR O t W' W''):gR O t W W'':=⟨lT h.1 k.1,k.2.1.t h.2.1,En h.1 h.2.2.1 k.2.2.1,λb o e d a c=>k.2.2.2 b o (h.2.2.2 b o e d a c) d a (vW h.2.2.1 e c)⟩
def kY(O:Wj->H->Prop)(g t:H)(W W':Wj):Prop:=W.heap.size<=W'.heap.size/\W'.os=W.os/\(∀b,O W' b->O W b\/W.heap.size<=b)/\∀ (b:H)(o:Obj),W.heap[b]?=J o->o.isCells=Y->b≠t->b≠g->¬O W b->W'.heap[b]?=J o
theorem kY.t{O:Wj->H->Prop}{t}{W'}(h:kY O g t W W')(k:kY O g t W' W''):kY O g t W W'':=⟨lT h.1 k.1,k.2.1.t h.2.1,En h.1 h.2.2.1 k.2.2.1,λb o d c a e f=>k.2.2.2 b o (h.2.2.2 b o d c a e f) c a e (vW h.2.2.1 d f)⟩
theorem gR.row{O:Wj->H->Prop}{t}{W'}(h:gR O t W W')g:kY O g t W W':=⟨h.1,h.2.1,h.2.2.1,λb o e d a _ c=>h.2.2.2 b o e d a c⟩
structure iL (O:Wj->H->Prop)(B:H)(w:Wj)(g cap:H)(bs:S nF):Prop extends jy B w g cap bs where
 no:¬O w g
theorem iL.same{O:Wj->H->Prop}{w'}{b}{bs}(a:iL O B w g b bs)(h:w'.heap[g]?=w.heap[g]?)(d:O w' g->O w g):iL O B w' g b bs:=⟨a.tojy.same h,λc=>a.no (d c)⟩
structure yO (A:H->Prop)(w0:Wj)(B0 t l:H)(O:Wj->H->Prop)(total:KVs)(J:KVs->Wj->Prop):Prop where
 tree:∀b,A b->b<B0/\b≠t/\∃o:Obj,w0.heap[b]?=some o/\o.isCells=true
 box:t<B0
 own:∀X Y b,Y.heap[t]?=X.heap[t]?->O Y b->O X b
 Oz:∀pre X b,J pre X->O X b->B0<=b/\b<X.heap.size
 N0:∀pre X Y,J pre X->(∀b,b<B0->Y.heap[b]?=X.heap[b]?)->(∀b,O X b->Y.heap[b]?=X.heap[b]?)->X.heap.size<=Y.heap.size->Y.os=X.os->J pre Y
 size:∀pre X,J pre X->B0<=X.heap.size
 Ql:∀pre k h hv X,pre++[(k,h)] <+:total->bX A w0 hv h->h≠[]->J pre X->YieldAt (wf N) 0 Vp l #[U ⟨k.toArray⟩,hv] X λe X'=>e=Rc (C true)/\J (pre++[(k,h)]) X'/\gR O t X X'
def Ag(A:H->Prop)(w0 W:Wj):Prop:=∀b,A b->W.heap[b]?=w0.heap[b]?
noncomputable def yP:pt Oper:=qh (i8 (i8 (dr (cD ey))))
def yf(l:H):Wx:=.func (.yield l) #[] #[]
section
variable {A:Nat->Prop} {w0:Wj} {B0 t l:Nat} {O:Wj->Nat->Prop} {total:KVs} {J:KVs->Wj->Prop}
theorem Ag.QZ(a:yO A w0 B0 t l O total J){W'}{c:KVs}(j:J c W)(h:Ag A w0 W)(k:kY O g t W W')(hg:B0<=g):Ag A w0 W':=λb e=>by
 have⟨h1,f,o,d,i⟩:=a.tree b e;rw[d];exact k.2.2.2 b o ((h b e).t d) i f (by omega) (λm=>by have:=(a.Oz _ _ _ j m).1;omega)
theorem mixed:Yq.prog.follows .mixedOrders=true:=by rfl
theorem Ht(k:yO A w0 B0 t l O total J){id}{z P}{h}{bs}{done:KVs}(hs:a0.tmps.size=44)(e0:a0.eval (Rh 0)=.pointer (some ⟨z,0,N⟩))(e1:a0.eval (Rh 1)=qX g P bs)(e2:a0.eval (Rh 2)=yf l)
  (c0:W.cell? ⟨z,0,N⟩=some (C (!h.isEmpty))) (c1:W.cell? ⟨z,1,N⟩=some hv) (a1:z≠t) (hgB:z<B0) (hh:bX A w0 hv h) (af:done++(if h.isEmpty then[]else[(bs,h)]) <+:total) (p:iL O B0 W g P bs) (hJ:J done W)
  (aa:∀a w,a.tmps.size=44->a.defers=a0.defers->(∀t,t<9->a.eval (Rh t)=a0.eval (Rh t))->a.eval (Rh 23)=C Z->J (done++(if h.isEmpty then[]else[(bs,h)])) w->gR O t W w->q .normal a w):
  (Sy id yP Y).wpIn (wf N) n Vp q a0 W:=by
 obtain⟨W1,ab⟩:∃W1:Wj,W1={W with drawn:=W.drawn+1}:=⟨_,Q⟩;have B:W1.heap=W.heap:=by rw[ab]
 have ad:W1.os=W.os:=by rw[ab]
 have d0:W1.cell? ⟨z,0,N⟩=some (C (!h.isEmpty)):=(cB (a:=⟨z,0,N⟩) (by rw[B])).t c0;have L:∀b,O W1 b->O W b:=λb=>k.own _ _ b (by rw[B])
 have K1:iL O B0 W1 g P bs:=p.same (by rw[B]) (L g);have J1:J done W1:=k.N0 done W W1 hJ (λb _=>by rw[B]) (λb _=>by rw[B]) (by rw[B];exact Q0) ad;have k1:gR O t W W1:=⟨by rw[B];exact Q0,ad,λb h=>Rf (L b h),λb o hb _ _ _=>by rw[B];exact hb⟩;have av:¬O W1 z:=λh=>by have:=(k.Oz _ _ _ J1 h).1;omega
 by_cases hf:h.isEmpty=Y
 .rw [hf]at d0 aa;refine lO (ro:=N) (a0:=a0) (w0:=W) mixed 9 15
   (λi=>match i with| 0=>.pointer (some ⟨z,0,N⟩)| 1=>.pointer (some ⟨z,0,N⟩)| 2=>.pointer (some ⟨z,0,N⟩)| 3=>C Z| 4=>C Z| 14=>C Z|_=>Wo)
   (λd w=>w=W1) (by omega) (by rfl) (by rfl) (λF a w i o hi D V r=>?_) (λa w h1 h2 h3 h4 h5=>?_) (by rw[ab])
  .obtain rfl:w=W1:=V.world;have hlt:i<15:=(dn hi).1;rcases i with - | - | - | - | - | - | - | - | - | - | - | - | - | - | - |i;all_goals first|omega|(have L:=D;dsimp only[yP,cD,ey,i8,dr,qh,xb]at L;simp only[gA,gS,gZ,SC,Sv,zA]at L;subst L)
   .have y:a.eval (Rh 0)=.pointer (some ⟨z,0,N⟩):=(V.old 0 (by omega)).t e0;refine ay D Q (λc h=>by cases h) (v:=.pointer (some ⟨z,0,N⟩)) (w':=w) (by generalize a.eval=ρ at y ⊢;simp[go_sem,y]) ⟨_,Q,λ_=>Q,V.world⟩
   .have y:a.eval (Rh 9)=.pointer (some ⟨z,0,N⟩):=V.new 0 (by omega) (r ⟨0,.data⟩ (by simp) Q);refine ay D Q (λc h=>by cases h) (v:=.pointer (some ⟨z,0,N⟩)) (w':=w) (by generalize a.eval=ρ at y ⊢;simp[go_sem,y]) ⟨_,Q,λ_=>Q,V.world⟩
   .have y:a.eval (Rh 10)=.pointer (some ⟨z,0,N⟩):=V.new 1 (by omega) (r ⟨1,.data⟩ (by simp) Q);refine ay D Q (λc h=>by cases h) (v:=.pointer (some ⟨z,0,N⟩)) (w':=w) (by generalize a.eval=ρ at y ⊢;simp[go_sem,y]) ⟨_,Q,λ_=>Q,V.world⟩
   .have y:a.eval (Rh 11)=.pointer (some ⟨z,0,N⟩):=V.new 2 (by omega) (r ⟨2,.data⟩ (by simp) Q);refine ay D Q (λc h=>by cases h) (v:=C Z) (w':=w) (by generalize a.eval=ρ at y ⊢;simp[go_sem,y,d0]) ⟨_,Q,λ_=>Q,V.world⟩
   .have y:a.eval (Rh 12)=C false:=V.new 3 (by omega) (r ⟨3,.data⟩ (by simp) Q);refine ay D Q (λc h=>by cases h) (v:=C Z) (w':=w) (by generalize a.eval=ρ at y ⊢;simp[go_sem,y]) ⟨_,Q,λ_=>Q,V.world⟩
   iterate 9 exact vU D (by simp[xt,(λh=>kC (ops:=yP) (a:=a) (j:=4) (x:=Z) (show yP[4]?=some _ from Q) Q (by rw[V.size,hs];omega) (V.new 4 (by omega) h)) (r ⟨4,.guard⟩ (by simp) Q)]) ⟨_,Q,λ_=>Q,V.world⟩
   .have y:a.eval (Rh 13)=C false:=V.new 4 (by omega) (r ⟨4,.data⟩ (by simp) Q);have q1:a.eval (Rh 22)=Wo:=V.new 13 (by omega) (r ⟨13,.data⟩ (by simp) Q);have q2:a.eval (.const (C Z))=C false:=rfl;refine ay D Q (λc h=>by cases h) (v:=C Z) (w':=w) (by generalize a.eval=ρ at y q1 q2 ⊢;simp[go_sem,y,q1,q2]) ⟨_,Q,λ_=>Q,V.world⟩
  .obtain ⟨d,-,rfl⟩:=h5;exact aa a _ (h1.t hs) h2 h3 (h4 14 (by omega) (by decide)) (by simpa using J1) k1
 .have bb:h.isEmpty=false:=by simpa using hf
  rw[bb]at d0;have bd:∀ (d:H->sq) w,((d 12=Z->w=W1)/\(d 12=Y->J (done++[(bs,h)]) w/\gR O t W1 w))->gR O t W1 w:=λd w T=>by
   cases hd:d 12 with
   |false=>rw[T.1 hd];exact gR.refl _ _ _
   |true=>exact(T.2 hd).2
  have R:∀ (d:H->sq) w,((d 12=Z->w=W1)/\(d 12=Y->J (done++[(bs,h)]) w/\gR O t W1 w))->∀ (b j:H) v,b≠t->¬O W1 b->W1.cell? ⟨b,j,N⟩=some v->w.cell? ⟨b,j,N⟩=some v:=λd w T b j v hb hn hv=>by
   obtain⟨o,D,a4⟩:∃o:Obj,W1.heap[b]?=some o/\o.isCells=true:=by
    unfold Sk at hv;cases D:W1.heap[b]? with
    |none=>simp[D]at hv
    |some o=>exact⟨o,Q,by cases o<;>simp_all[Obj.isCells]⟩
   rw[cB (w:=W1) (a:=⟨b,j,N⟩) (((bd d w T).2.2.2 b o D a4 hb hn).t D.s)];exact hv
  have a5:∀ {d:H->sq} w,((d 12=Z->w=W1)/\(d 12=Y->J (done++[(bs,h)]) w/\gR O t W1 w))->w.cell? ⟨z,0,N⟩=some (C Y):=λw T=>R _ w T z 0 _ a1 av d0
  have bi:∀ {d:H->sq} w,((d 12=Z->w=W1)/\(d 12=Y->J (done++[(bs,h)]) w/\gR O t W1 w))->w.cell? ⟨z,1,N⟩=some hv:=λw T=>R _ w T z 1 _ a1 av ((cB (a:=⟨z,1,N⟩) (by rw[B])).t c1)
  have be:∀ {d:H->sq} w,((d 12=Z->w=W1)/\(d 12=Y->J (done++[(bs,h)]) w/\gR O t W1 w))->(convert 125 9 (qX g P bs)).run Vp w=.ok (U ⟨bs.toArray⟩) w:=λw T=>
   run_convert_bytes_back w 125 9 5 ⟨g,0,N⟩ P bs (Yq.u underlying125) (Yq.u underlying5) (Yq.u underlying9) (λj hj=>by rw[SD,zA];exact R _ w T g j _ (by have:=p.base;have:=k.box;omega) K1.no (K1.cells j hj))
  refine lO (ro:=N) (a0:=a0) (w0:=W) mixed 9 15
   (λi=>match i with| 0=>.pointer (some ⟨z,0,N⟩)| 1=>.pointer (some ⟨z,0,N⟩)| 2=>.pointer (some ⟨z,0,N⟩)| 3=>C Y| 4=>C Y| 5=>yf l| 6=>qX g P bs| 7=>U ⟨bs.toArray⟩| 8=>.pointer (some ⟨z,0,N⟩)| 9=>.pointer (some ⟨z,0,N⟩)| 10=>.pointer (some ⟨z,1,N⟩)| 11=>hv| 12=>C Y| 13=>C Z| 14=>C Z|_=>Wo)
   (λd w=>(d 12=Z->w=W1)/\(d 12=Y->J (done++[(bs,h)]) w/\gR O t W1 w)) (by omega) (by rfl) (by rfl) (λF a w i o hi D V r=>?_) (λa w h1 h2 h3 h4 h5=>?_) ⟨λ_=>by rw[ab],λh=>by cases h⟩
  .have hlt:i<15:=(dn hi).1;have HY:=λh=>kC (ops:=yP) (a:=a) (j:=4) (x:=Y) (show yP[4]?=some _ from Q) Q (by rw[V.size,hs];omega) (V.new 4 (by omega) h)
   rcases i with - | - | - | - | - | - | - | - | - | - | - | - | - | - | - |i;all_goals first|omega|(have L:=D;dsimp only[yP,cD,ey,i8,dr,qh,xb]at L;simp only[gA,gS,gZ,SC,Sv,zA]at L;subst L)
   have y:a.eval (Rh 0)=.pointer (some ⟨z,0,N⟩):=(V.old 0 (by omega)).t e0;refine ay D Q (λc h=>by cases h) (v:=.pointer (some ⟨z,0,N⟩)) (w':=w) (by generalize a.eval=ρ at y ⊢;simp[go_sem,y]) ⟨_,Q,λ_=>Q,⟨λh=>V.world.1 (by simpa[fj]using h),λh=>V.world.2 (by simpa[fj]using h)⟩⟩;have y:a.eval (Rh 9)=.pointer (some ⟨z,0,N⟩):=V.new 0 (by omega) (r ⟨0,.data⟩ (by simp) Q);refine ay D Q (λc h=>by cases h) (v:=.pointer (some ⟨z,0,N⟩)) (w':=w) (by generalize a.eval=ρ at y ⊢;simp[go_sem,y]) ⟨_,Q,λ_=>Q,⟨λh=>V.world.1 (by simpa[fj]using h),λh=>V.world.2 (by simpa[fj]using h)⟩⟩;have y:a.eval (Rh 10)=.pointer (some ⟨z,0,N⟩):=V.new 1 (by omega) (r ⟨1,.data⟩ (by simp) Q);refine ay D Q (λc h=>by cases h) (v:=.pointer (some ⟨z,0,N⟩)) (w':=w) (by generalize a.eval=ρ at y ⊢;simp[go_sem,y]) ⟨_,Q,λ_=>Q,⟨λh=>V.world.1 (by simpa[fj]using h),λh=>V.world.2 (by simpa[fj]using h)⟩⟩;have y:a.eval (Rh 11)=.pointer (some ⟨z,0,N⟩):=V.new 2 (by omega) (r ⟨2,.data⟩ (by simp) Q);refine ay D Q (λc h=>by cases h) (v:=C Y) (w':=w) (by generalize a.eval=ρ at y ⊢;simp[go_sem,y,a5 (d:=λi=>F.getD i Z) w V.world]) ⟨_,Q,λ_=>Q,⟨λh=>V.world.1 (by simpa[fj]using h),λh=>V.world.2 (by simpa[fj]using h)⟩⟩;have y:a.eval (Rh 12)=C true:=V.new 3 (by omega) (r ⟨3,.data⟩ (by simp) Q);refine ay D Q (λc h=>by cases h) (v:=C Y) (w':=w) (by generalize a.eval=ρ at y ⊢;simp[go_sem,y]) ⟨_,Q,λ_=>Q,⟨λh=>V.world.1 (by simpa[fj]using h),λh=>V.world.2 (by simpa[fj]using h)⟩⟩;have y:a.eval (Rh 2)=yf l:=(V.old 2 (by omega)).t e2;refine ay D (by simp[xt,HY (r ⟨4,.guard⟩ (by simp) Q)]) (λc h=>by cases h) (v:=yf l) (w':=w) (by generalize a.eval=ρ at y ⊢;simp[go_sem,y]) ⟨_,Q,λ_=>Q,⟨λh=>V.world.1 (by simpa[fj]using h),λh=>V.world.2 (by simpa[fj]using h)⟩⟩;have y:a.eval (Rh 1)=qX g P bs:=(V.old 1 (by omega)).t e1;refine ay D (by simp[xt,HY (r ⟨4,.guard⟩ (by simp) Q)]) (λc h=>by cases h) (v:=qX g P bs) (w':=w) (by generalize a.eval=ρ at y ⊢;simp[go_sem,y]) ⟨_,Q,λ_=>Q,⟨λh=>V.world.1 (by simpa[fj]using h),λh=>V.world.2 (by simpa[fj]using h)⟩⟩;have y:a.eval (Rh 15)=qX g P bs:=V.new 6 (by omega) (r ⟨6,.data⟩ (by simp) Q);refine ay D (by simp[xt,HY (r ⟨4,.guard⟩ (by simp) Q)]) (λc h=>by cases h) (v:=U ⟨bs.toArray⟩) (w':=w) (by generalize a.eval=ρ at y ⊢;simp[go_sem,y,be (d:=λi=>F.getD i Z) w V.world]) ⟨_,Q,λ_=>Q,⟨λh=>V.world.1 (by simpa[fj]using h),λh=>V.world.2 (by simpa[fj]using h)⟩⟩;have y:a.eval (Rh 0)=.pointer (some ⟨z,0,N⟩):=(V.old 0 (by omega)).t e0;refine ay D (by simp[xt,HY (r ⟨4,.guard⟩ (by simp) Q)]) (λc h=>by cases h) (v:=.pointer (some ⟨z,0,N⟩)) (w':=w) (by generalize a.eval=ρ at y ⊢;simp[go_sem,y]) ⟨_,Q,λ_=>Q,⟨λh=>V.world.1 (by simpa[fj]using h),λh=>V.world.2 (by simpa[fj]using h)⟩⟩;have y:a.eval (Rh 17)=.pointer (some ⟨z,0,N⟩):=V.new 8 (by omega) (r ⟨8,.data⟩ (by simp) Q);refine ay D (by simp[xt,HY (r ⟨4,.guard⟩ (by simp) Q)]) (λc h=>by cases h) (v:=.pointer (some ⟨z,0,N⟩)) (w':=w) (by generalize a.eval=ρ at y ⊢;simp[go_sem,y]) ⟨_,Q,λ_=>Q,⟨λh=>V.world.1 (by simpa[fj]using h),λh=>V.world.2 (by simpa[fj]using h)⟩⟩;have y:a.eval (Rh 18)=.pointer (some ⟨z,0,N⟩):=V.new 9 (by omega) (r ⟨9,.data⟩ (by simp) Q);refine ay D (by simp[xt,HY (r ⟨4,.guard⟩ (by simp) Q)]) (λc h=>by cases h) (v:=.pointer (some ⟨z,1,N⟩)) (w':=w) (by generalize a.eval=ρ at y ⊢;simp[go_sem,y]) ⟨_,Q,λ_=>Q,⟨λh=>V.world.1 (by simpa[fj]using h),λh=>V.world.2 (by simpa[fj]using h)⟩⟩;have y:a.eval (Rh 19)=.pointer (some ⟨z,1,N⟩):=V.new 10 (by omega) (r ⟨10,.data⟩ (by simp) Q);refine ay D (by simp[xt,HY (r ⟨4,.guard⟩ (by simp) Q)]) (λc h=>by cases h) (v:=hv) (w':=w) (by generalize a.eval=ρ at y ⊢;simp[go_sem,y,bi (d:=λi=>F.getD i Z) w V.world]) ⟨_,Q,λ_=>Q,⟨λh=>V.world.1 (by simpa[fj]using h),λh=>V.world.2 (by simpa[fj]using h)⟩⟩;have ai:a.eval (Rh 14)=yf l:=V.new 5 (by omega) (r ⟨5,.data⟩ (by simp) Q);have a2:a.eval (Rh 16)=U ⟨bs.toArray⟩:=V.new 7 (by omega) (r ⟨7,.data⟩ (by simp) Q);have al:a.eval (Rh 20)=hv:=V.new 11 (by omega) (r ⟨11,.data⟩ (by simp) Q);have ap:F.getD 12 Z=false:=by
    have:=(dn hi).2;rw[gD]at this ⊢;rw[eG (by rw[V.len];exact(dn hi).1)]at this ⊢;exact this
   obtain rfl:w=W1:=V.world.1 ap;have⟨fn,ar,ac,aj,a8,hR⟩:=k.Ql done bs h hv w (by rw[vf hf]at af;exact af) hh (λe=>hf (by rw[e];rfl)) J1;refine B8 (l:=l) (f:=fn) (tmps:=ar) (assign:=ac) (body:=aj) (n:=0) (w':=w) D (by simp[xt,HY (r ⟨4,.guard⟩ (by simp) Q)]) (λc h=>by cases h) (by generalize a.eval=ρ at ai a2 al ⊢;unfold yf at ai;simp[go_sem,ai,a2,al,a8]) (hR.m ?_);rintro e X ⟨rfl,a3,a6⟩;exact⟨_,Q,_,Q,λ_=>Q,λh=>by simp[fj]at h,λ_=>⟨a3,a6⟩⟩;have y:a.eval (Rh 21)=C true:=V.new 12 (by omega) (r ⟨12,.data⟩ (by simp) Q);refine ay D (by simp[xt,HY (r ⟨4,.guard⟩ (by simp) Q)]) (λc h=>by cases h) (v:=C Z) (w':=w) (by generalize a.eval=ρ at y ⊢;simp[go_sem,y]) ⟨_,Q,λ_=>Q,⟨λh=>V.world.1 (by simpa[fj]using h),λh=>V.world.2 (by simpa[fj]using h)⟩⟩;have y:a.eval (Rh 13)=C true:=V.new 4 (by omega) (r ⟨4,.data⟩ (by simp) Q);have q1:a.eval (Rh 22)=C false:=V.new 13 (by omega) (r ⟨13,.data⟩ (by simp) Q);refine ay D Q (λc h=>by cases h) (v:=C Z) (w':=w) (by generalize a.eval=ρ at y q1 ⊢;simp[go_sem,y,q1]) ⟨_,Q,λ_=>Q,⟨λh=>V.world.1 (by simpa[fj]using h),λh=>V.world.2 (by simpa[fj]using h)⟩⟩
  obtain⟨d,hd,T⟩:=h5;have⟨a7,a9⟩:=T.2 (hd 12 (by decide));exact aa a _ (h1.t hs) h2 h3 (h4 14 (by omega) (by decide)) (by rw[vf hf];exact a7) (k1.t a9)
end
noncomputable def JA:Code:=cIn (cIn (dr (i8 (dr (dr (cD ey))))))
noncomputable def JB:pt Oper:=qh (i8 (dr (cIn (i8 (dr (dr JA))))))
structure Wd6 (W1 Wb Wc:Wj)(Post:Wj->Prop)(d:H->sq)(w:Wj):Prop where
 w1:d 5=Z->w=W1
 w2:d 5=Y->d 6=Z->w=Wb
 w3:d 6=Y->d 8=Z->w=Wc
 w4:d 8=Y->Post w
 c6:d 6=Y->d 5=Y
 c8:d 8=Y->d 6=Y
theorem eH{d:H->sq}(h:j≠i):fj d i j=d j:=by simp[fj,h]
theorem ub{d:H->sq}:fj d i i=true:=by simp[fj]
section
variable {W1 Wb Wc w:Wj} {Post:Wj->Prop} {d:Nat->sq}
theorem Wd6.other(h:Wd6 W1 Wb Wc Post d w)(f:i≠5)(j:i≠6)(k:i≠8):Wd6 W1 Wb Wc Post (fj d i) w:=by
 have c:fj d i 5=d 5:=eH (λe=>f e.s);have a:fj d i 6=d 6:=eH (λe=>j e.s);have b:fj d i 8=d 8:=eH (λe=>k e.s);exact⟨by rw[c];exact h.w1,by rw[c,a];exact h.w2,by rw[a,b];exact h.w3,by rw[b];exact h.w4,by rw[c,a];exact h.c6,by rw[a,b];exact h.c8⟩
theorem Wd6.at5(h:Wd6 W1 Wb Wc Post d w)(b:d 5=Z):Wd6 W1 Wb Wc Post (fj d 5) Wb:=by
 have a:d 6=false:=by
  cases e:d 6 with
  |false=>rfl
  |true=>rw[h.c6 e]at b;cases b
 have f:d 8=false:=by
  cases e:d 8 with
  |false=>rfl
  |true=>rw[h.c8 e]at a;cases a
 have c:fj d 5 8=false:=(eH (by decide)).t f;exact⟨λk=>by(rw[ub]at k;cases k),λ_ _=>Q,λk=>(by rw[((eH (by decide)).t a)]at k;cases k),λk=>(by rw[c]at k;cases k),λ_=>ub,λk=>(by rw[c]at k;cases k)⟩
theorem Wd6.at6(h:Wd6 W1 Wb Wc Post d w)(i:d 5=Y)(c:d 6=Z):Wd6 W1 Wb Wc Post (fj d 6) Wc:=by
 have f:d 8=false:=by
  cases e:d 8 with
  |false=>rfl
  |true=>rw[h.c8 e]at c;cases c
 have b:fj d 6 5=true:=(eH (by decide)).t i;have a:fj d 6 8=false:=(eH (by decide)).t f;exact⟨λk=>(by rw[b]at k;cases k),λ_ k=>(by rw[ub]at k;cases k),λ_ _=>Q,λk=>(by rw[a]at k;cases k),λ_=>b,λk=>(by rw[a]at k;cases k)⟩
theorem Wd6.at8(h:Wd6 W1 Wb Wc Post d w)(b:d 6=Y)(e:Post X):Wd6 W1 Wb Wc Post (fj d 8) X:=by
 have c:fj d 8 5=true:=(eH (by decide)).t (h.c6 b);have a:fj d 8 6=true:=(eH (by decide)).t b;exact⟨λk=>(by rw[c]at k;cases k),λ_ k=>(by rw[a]at k;cases k),λ_ k=>(by rw[ub]at k;cases k),λ_=>e,λ_=>c,λ_=>a⟩
end
theorem hfun{ρ:Operand->Wx}(a:Act)(h:a.eval=ρ)(f:RZ):ρ (.func f)=.func (.func f) #[] #[]:=by rw[<-h];rfl
theorem hnot{ops:pt Oper}{a:pt sq}(b:i∈xc .any ops a)(hl:a.size=ops.size):a.getD i Z=false:=by
 have h:=(dn b).2;have hlt:=(dn b).1
 grind
theorem vX{b}(h:W.cell? ⟨b,j,N⟩=J v):∃o:Obj,W.heap[b]?=J o/\o.isCells=true:=by
 unfold Sk at h;cases a:W.heap[b]? with
 |none=>simp[a]at h
 |some o=>exact⟨o,Q,by cases o<;>simp_all[Obj.isCells]⟩
section
variable {A:Nat->Prop} {w0:Wj} {B0 t l:Nat} {O:Wj->Nat->Prop} {total:KVs} {J:KVs->Wj->Prop}
theorem Hu(k:yO A w0 B0 t l O total J){id}{kb R}{c:nF}{q:n8 Wu}{L}{pre sub:KVs}(hs:a0.tmps.size=44)(e1:a0.eval (Rh 1)=qX g R L)(e2:a0.eval (Rh 2)=yf l)(e8:a0.eval (Rh 8)=.pointer (some ⟨kb,0,N⟩))
  (bd:W.cell? ⟨kb,0,N⟩=some (I .u8 (c.toNat:tb))) (bo:W.cell? ⟨kb,1,N⟩=some (.pointer q)) (bn:kb≠t) (bp:¬O W kb) (bk:kb≠g) (hl:L.length<=1000) (bi:Ag A w0 W) (p:iL O B0 W g R L) (hJ:J pre W)
  (ai:∀X P u,Ag A w0 X->iL O B0 X P u (L++[c])->J pre X->Calls Vp 102 #[.pointer q,qX P u (L++[c]),yf l] X λe X'=>e=Rc (C Y)/\J (pre++sub) X'/\iL O B0 X' P u (L++[c])/\kY O P t X X')
  (a2:∀a w,a.tmps.size=44->a.defers=a0.defers->(∀t,t<33->a.eval (Rh t)=a0.eval (Rh t))->a.eval (Rh 42)=C Z->J (pre++sub) w->iL O B0 w g R L->kY O g t W w->r .normal a w):
  (Sy id JB Y).wpIn (wf N) n Vp r a0 W:=by
 obtain⟨W1,ar⟩:∃W1:Wj,W1={W with drawn:=W.drawn+1}:=⟨_,Q⟩;have F:W1.heap=W.heap:=by rw[ar]
 have a8:W1.os=W.os:=by rw[ar]
 have hB:B0<=W.heap.size:=k.size pre W hJ;obtain⟨Wb,ad⟩:∃Wb:Wj,Wb=W1.alloc (E #[I .u8 (c.toNat:tb)] 5):=⟨_,Q⟩;have y:∀b,b<W.heap.size->Wb.heap[b]?=W.heap[b]?:=λb hb=>by rw[ad,Rb (by rw[F];exact hb),F]
 have hbsz:Wb.heap.size=W.heap.size+1:=by rw[ad,Sl,F]
 have htB:=k.box;have a9:∀b,O Wb b->O W b:=λb=>k.own _ _ b (y t (by omega))
 have Kb:iL O B0 Wb g R L:=p.same (y g p.lt) (a9 g);obtain⟨P,u,Wc,a3,Kc',a1,G,hcsz,al⟩:=B9 Kb.tojy (by omega) hl W1.heap.size c (by rw[ad,cA (w:=W1) _ _ W1.heap.size 0 Q];rfl) 125;have be:Wb.os=W.os:=by rw[ad];exact a8
 have hgB:=p.base;have ab:∀b,O Wc b->O W b:=λb h=>a9 b (k.own _ _ b (G t (by omega) (by omega)) h)
 have Kc:iL O B0 Wc P u (L++[c]):=⟨Kc',λh=>by
  have h1:=ab _ h;rcases a1 with⟨rfl,-⟩|⟨h2,-⟩;exact p.no h1;have:=(k.Oz _ _ _ hJ h1).2;omega⟩
 have Ac:Ag A w0 Wc:=λb hb=>by
  have⟨h1,h2,h3⟩:=k.tree b hb;rw[G b (by omega) (by omega),y b (by omega)];exact bi b hb
 have Jc:J pre Wc:=k.N0 pre W Wc hJ (λb hb=>by rw[G b (by omega) (by omega),y b (by omega)]) (λb hb=>by
  have h1:=(k.Oz _ _ _ hJ hb).2;rw[G b (by omega) (λe=>p.no (e▸hb)),y b h1]) (by omega) (al.t be)
 have a4:=ai Wc P u Ac Kc Jc;have hg'':P=g\/W.heap.size<P:=by
  rcases a1 with h|h;exact Rf h.1;exact Rg (by omega)
 have aj:∀w,(J (pre++sub) w/\iL O B0 w P u (L++[c])/\kY O P t Wc w)->iL O B0 w g R L/\kY O g t W w:=λw h=>by
  obtain⟨hJ',a5,aa⟩:=h;refine⟨?_,⟨by have:=aa.1;omega,aa.2.1.t (al.t be),λb h=>(aa.2.2.1 b h).elim (λh=>Rf (ab b h)) (λh=>Rg (by omega)),λb o hb T ht hg hn=>?_⟩⟩;rcases a1 with⟨rfl,rfl⟩|⟨h1,h2⟩;exact⟨a5.tojy.take,a5.no⟩;have⟨x,e,z,hx⟩:=Kb.obj;have a6:¬O Wc g:=λh=>p.no (ab _ h)
  refine⟨Kb.tojy.same ((aa.2.2.2 g _ (h2.t hx) Q ?_ ?_ a6).t hx.s),vW aa.2.2.1 (h2.t hx) a6⟩;have:=k.box;omega;have:=Kb.lt;omega;have hlt:b<W.heap.size:=(eS hb).1;exact aa.2.2.2 b o ((G b (by omega) hg).t ((y b hlt).t hb)) T ht (by omega) (λh=>hn (ab _ h))
 have bl:kb<W.heap.size:=by
  obtain⟨o,h,-⟩:=vX bd;exact(eS h).1
 have ac:∀ {d:H->sq} w,Wd6 W1 Wb Wc (λw=>J (pre++sub) w/\iL O B0 w P u (L++[c])/\kY O P t Wc w) d w->∀ (j:H) v,W1.cell? ⟨kb,j,N⟩=some v->w.cell? ⟨kb,j,N⟩=some v:=fun{d} w hw j v hv=>by
  have a7:Wb.cell? ⟨kb,j,N⟩=some v:=(cB (a:=⟨kb,j,N⟩) (y kb bl)).t ((cB (a:=⟨kb,j,N⟩) (by rw[F])).t hv);have ap:Wc.cell? ⟨kb,j,N⟩=some v:=(cB (a:=⟨kb,j,N⟩) (G kb (by omega) bk)).t a7;cases h5:d 5 with
  |false=>rw[hw.w1 h5];exact hv
  |true=>cases h6:d 6 with
   |false=>rw[hw.w2 h5 h6];exact a7
   |true=>cases h8:d 8 with
    |false=>rw[hw.w3 h6 h8];exact ap
    |true=>
     have⟨o,T,bb⟩:=vX ap;have:=(hw.w4 h8).2.2.2.2.2 kb o T bb bn (by omega) (λh=>bp (ab _ h));exact(cB (a:=⟨kb,j,N⟩) (this.t T.s)).t ap
 refine lO (ro:=N) (a0:=a0) (w0:=W) mixed 33 10
  (λi=>match i with| 0=>.pointer (some ⟨kb,1,N⟩)| 1=>.pointer q| 2=>qX g R L| 3=>.pointer (some ⟨kb,0,N⟩)| 4=>I .u8 (c.toNat:tb)| 5=>M (some ⟨W1.heap.size,0,N⟩) 1 1| 6=>qX P u (L++[c])| 7=>yf l| 8=>C Y| 9=>C Z|_=>Wo)
  (Wd6 W1 Wb Wc (λw=>J (pre++sub) w/\iL O B0 w P u (L++[c])/\kY O P t Wc w)) (by omega) (by rfl) (by rfl) (λaf a w i o hi T V D=>?_) (λa w h1 h2 h3 h4 h5=>?_) ⟨λ_=>(by rw[ar]),λh=>(by cases h),λh=>(by cases h),λh=>(by cases h),λh=>(by cases h),λh=>(by cases h)⟩
 .have hlt:i<10:=(dn hi).1;have hnot:af.getD i Z=false:=hnot hi V.len;rcases i with - | - | - | - | - | - | - | - | - | - |i;all_goals first|omega|(have av:=T;dsimp only[JB,JA,cD,ey,i8,dr,cIn,qh,xb]at av;simp only[gA,gS,gZ,SC,Sv,zA]at av;subst av)
  have B:a.eval (Rh 8)=.pointer (some ⟨kb,0,N⟩):=(V.old 8 (by omega)).t e8;refine ay T Q (λc h=>by cases h) (v:=.pointer (some ⟨kb,1,N⟩)) (w':=w) (by generalize a.eval=ρ at B ⊢;simp[go_sem,B]) ⟨_,Q,λ_=>Q,V.world.other (by omega) (by omega) (by omega)⟩;have B:a.eval (Rh 33)=.pointer (some ⟨kb,1,N⟩):=V.new 0 (by omega) (D ⟨0,.data⟩ (by simp) Q);refine ay T Q (λc h=>by cases h) (v:=.pointer q) (w':=w) (by generalize a.eval=ρ at B ⊢;simp[go_sem,B,ac w V.world 1 _ ((cB (a:=⟨kb,1,N⟩) (by rw[F])).t bo)]) ⟨_,Q,λ_=>Q,V.world.other (by omega) (by omega) (by omega)⟩;have B:a.eval (Rh 1)=qX g R L:=(V.old 1 (by omega)).t e1;refine ay T Q (λc h=>by cases h) (v:=qX g R L) (w':=w) (by generalize a.eval=ρ at B ⊢;simp[go_sem,B]) ⟨_,Q,λ_=>Q,V.world.other (by omega) (by omega) (by omega)⟩;have B:a.eval (Rh 8)=.pointer (some ⟨kb,0,N⟩):=(V.old 8 (by omega)).t e8;refine ay T Q (λc h=>by cases h) (v:=.pointer (some ⟨kb,0,N⟩)) (w':=w) (by generalize a.eval=ρ at B ⊢;simp[go_sem,B]) ⟨_,Q,λ_=>Q,V.world.other (by omega) (by omega) (by omega)⟩;have B:a.eval (Rh 36)=.pointer (some ⟨kb,0,N⟩):=V.new 3 (by omega) (D ⟨3,.data⟩ (by simp) Q);refine ay T Q (λc h=>by cases h) (v:=I .u8 (c.toNat:tb)) (w':=w) (by generalize a.eval=ρ at B ⊢;simp[go_sem,B,ac w V.world 0 _ ((cB (a:=⟨kb,0,N⟩) (by rw[F])).t bd)]) ⟨_,Q,λ_=>Q,V.world.other (by omega) (by omega) (by omega)⟩;have B:a.eval (Rh 37)=I .u8 (c.toNat:tb):=V.new 4 (by omega) (D ⟨4,.data⟩ (by simp) Q);have hw:=V.world.w1 hnot;subst hw;refine ay T Q (λc h=>by cases h) (v:=M (some ⟨w.heap.size,0,N⟩) 1 1) (w':=w.alloc (E #[I .u8 (c.toNat:tb)] 5)) (by generalize a.eval=ρ at B ⊢;simp[go_sem,B]) ⟨_,Q,λ_=>Q,(by rw[<-ad];exact V.world.at5 hnot)⟩;have B:a.eval (Rh 35)=qX g R L:=V.new 2 (by omega) (D ⟨2,.data⟩ (by simp) Q);have h5:=D ⟨5,.data⟩ (by simp) Q;have q1:a.eval (Rh 38)=M (some ⟨W1.heap.size,0,N⟩) 1 1:=V.new 5 (by omega) h5;have hw:=V.world.w2 h5 hnot;subst hw;refine ay T Q (λc h=>by cases h) (v:=qX P u (L++[c])) (w':=Wc) (by generalize a.eval=ρ at B q1 ⊢;simp[R3,resolve,invoke,builtin,B,q1,a3,Result.andThen]) ⟨_,Q,λ_=>Q,V.world.at6 h5 hnot⟩;have B:a.eval (Rh 2)=yf l:=(V.old 2 (by omega)).t e2;refine ay T Q (λc h=>by cases h) (v:=yf l) (w':=w) (by generalize a.eval=ρ at B ⊢;simp[go_sem,B]) ⟨_,Q,λ_=>Q,V.world.other (by omega) (by omega) (by omega)⟩;have B:a.eval (Rh 34)=.pointer q:=V.new 1 (by omega) (D ⟨1,.data⟩ (by simp) Q);have h6:=D ⟨6,.data⟩ (by simp) Q;have q1:a.eval (Rh 39)=qX P u (L++[c]):=V.new 6 (by omega) h6;have q2:a.eval (Rh 40)=yf l:=V.new 7 (by omega) (D ⟨7,.data⟩ (by simp) Q);have hw:=V.world.w3 h6 hnot;subst hw;refine jQ (f:=102) (args:=#[.pointer q,qX P u (L++[c]),yf l]) (w':=w) T Q (λc h=>by cases h) (by generalize bq:a.eval=ρ at B q1 q2 ⊢;have qf:=hfun a bq 102;simp[go_sem,B,q1,q2,qf]) (a4.m ?_);rintro e X ⟨rfl,hX⟩;exact⟨_,Q,_,Q,λ_=>Q,V.world.at8 h6 hX⟩;have B:a.eval (Rh 41)=C true:=V.new 8 (by omega) (D ⟨8,.data⟩ (by simp) Q);refine ay T Q (λc h=>by cases h) (v:=C Z) (w':=w) (by generalize a.eval=ρ at B ⊢;simp[go_sem,B]) ⟨_,Q,λ_=>Q,V.world.other (by omega) (by omega) (by omega)⟩
 obtain⟨d,hd,hw⟩:=h5;have hP:=hw.w4 (hd 8 (by decide));exact a2 a w (h1.t hs) h2 h3 (h4 9 (by omega) (by decide)) hP.1 (aj w hP).1 (aj w hP).2
end
end
section
open Go.RowKit
structure Place (ks:S (nF×n8 Wu))(c:nF)(r:H):Prop where
 le:r<=ks.length
 lo:∀j (h:j<ks.length),j<r->ks[j].1<c
 hi:∀j (h:j<ks.length),r<=j->c<=ks[j].1
def rp(ks:S (nF×n8 Wu))(c:nF)(r:H):sq:=(ks[r]?.map (·.1))==J c
def labs(ks:S (nF×n8 Wu))(i:H):tb:=((ks.getD i (0,N)).1.toNat:tb)
def ptrs(ks:S (nF×n8 Wu))(i:H):n8 Wu:=(ks.getD i (0,N)).2
theorem nB{a:S (nF×n8 Wu)}(h:i<a.length):labs a i=(a[i].1.toNat:tb):=by simp[labs,h]
theorem KL{a:S (nF×n8 Wu)}(h:i<a.length):ptrs a i=a[i].2:=by simp[ptrs,h]
theorem KM a(c:nF)r:decide (r<a.length/\labs a r=(c.toNat:tb))=rp a c r:=by
 unfold rp;by_cases b:r<a.length
 rw[Bool.eq_iff_iff];simp[b,nB b];exact⟨λh=>UInt8.toNat_inj.1 (by omega),λh=>by rw[h]⟩;simp[b]
theorem qo(A:H->Prop)g v d(c:nF)w
  (c2:w.cell? ⟨g,2,N⟩=J v) (y:jR A w v d) (u:d.Pairwise (λa b=>a.1<b.1)):
  Calls Vp 95 #[O (J ⟨g,0,N⟩),I .u8 (c.toNat:tb)] w λe l=>∃r:H,Place d c r /\
   e=Rc (Re #[I K r,C (rp d c r)])/\Below w.heap.size w l:=by
 by_cases n:d=[]
 subst n;obtain⟨a,k,rfl,-,-⟩:=y;go_enter (Yq.nq func95),ntmps95;go_wp2_with (go_at_call 112;refine(Hp _ _ _ _).m ?_;rintro e l ⟨rfl,rfl⟩)
 go_ret2
 exact⟨0,⟨Q0,λj h=>sT h (Su _),λj h=>sT h (Su _)⟩,by simp[rp],Q9⟩;obtain⟨x,k,rfl,-,-,D,-⟩:=y.cells n;have hle:=nA d u;have p:Calls Vp 112 #[M (J ⟨x,0,N⟩) d.length k,I .u8 (c.toNat:tb),.func (.func 113) #[] #[]] w λe l=>∃r:H,Place d c r /\
   e=Rc (Re #[I K r,C (rp d c r)])/\Below w.heap.size w l:=by
  refine(KJ x d.length k (labs d) (ptrs d) (c.toNat:tb) w (by omega)
   (λi q=>by rw[nB q,KL q];exact D i q) (λi j o f=>by rw[nB f,nB (Nat.lt_trans o f)];exact lQ u i j o f)).m ?_
  rintro e l ⟨r,s,z,B,rfl,t⟩;refine⟨r,⟨s,λj h f=>?_,λj h f=>?_⟩,by rw[KM],t⟩;have:=z j f;rw[nB h]at this;exact RQ.2 (by omega);have:=B j f h;rw[nB h]at this;exact RU.2 (by omega)
 go_enter (Yq.nq func95),ntmps95;go_wp2_with (go_at_call 112;refine p.m ?_;rintro e l ⟨r,s,rfl,t⟩)
 go_ret2
 exact⟨r,s,Q,t⟩
theorem Place.mem{a:S (nF×n8 Wu)}{c:nF}(h:rp a c i=Y):∃hr:i<a.length,a[i].1=c:=by
 unfold rp at h
 grind
theorem Place.O3{c:nF}(k:Place ks c B)(m:ks.Pairwise (λa b=>a.1<b.1))(h:rp ks c B=Z):∀q,(c,q) ∉ ks:=by
 intro q l;have⟨j,f,e⟩:=gM l;by_cases i:j<B
 have:=k.lo j f i;rw[e]at this;have:=RQ.1 this;simp only at this;omega;by_cases d:j=B
 subst d;simp[rp,f,e]at h;have h2:=lQ m B j (by omega) f;have:=RU.1 (k.hi B (by omega) Q0)
 grind
theorem au.nil{f:S nF->S Ver}(h:∀k,f k=[]):au A n w N f:=by
 cases n with
 |zero=>exact⟨Q,h⟩
 |succ n=>exact Or.inl ⟨Q,h⟩
theorem au.of_nil{f:S nF->S Ver}(h:au A n w N f):∀k,f k=[]:=by
 cases n with
 |zero=>exact h.2
 |succ n=>
  rcases h with h|⟨g,hv,kv,ks,a,_⟩;exact h.2;cases a
theorem Eo(A:H->Prop)g j d(c:nF)w
  (k:w.cell? ⟨g,2,N⟩=J j) (l:jR A w j d) (p:d.Pairwise (λa b=>a.1<b.1)):
  Calls Vp 90 #[O (J ⟨g,0,N⟩),I .u8 (c.toNat:tb)] w λe n=>∃q,e=Rc (O q)/\((c,q)∈d\/(q=N/\∀u,(c,u) ∉ d))/\Below w.heap.size w n:=by
 go_enter (Yq.nq func90),ntmps90;go_wp2_with fail
 refine(qo A g j d c w k l p).m ?_;rintro e n ⟨r,s,rfl,h⟩;by_cases f:rp d c r=Y
 have⟨o,i⟩:=Place.mem f;obtain⟨gk,cap,rfl,-,-,v,-⟩:=l.cells (by grind);have⟨d0,t⟩:=v r o;have d1':=ag h t;have c2':=ag h k;go_wp2;go_ret;exact⟨_,Q,Or.inl (by have:=RN o;rw[<-i];exact this),h⟩;go_wp2;go_ret;exact⟨_,Q,Or.inr ⟨Q,s.O3 p (by simpa using f)⟩,h⟩
theorem Ep(A:H->Prop)n a(f:S nF->S Ver)(c:nF)w(h:au A (n+1) w (J a) f):
  Calls Vp 90 #[O (J a),I .u8 (c.toNat:tb)] w λe j=>∃q,e=Rc (O q)/\au A n w q (λk=>f (c::k))/\Below w.heap.size w j:=by
 rcases h with h|⟨g,hv,u,r,l,hA,c0,c1,o,hh,i,t,hch,d⟩;cases h.1;cases l;refine(Eo A g u r c w o i t).m (λe j ⟨q,p,b,s⟩=>⟨q,p,?_,s⟩);rcases b with b|⟨rfl,b⟩
 grind
 exact au.nil (d.1 c b)
theorem Er(s:tn)(k:H)(h:k<s.size):s.data.toList.take (k+1)=s.data.toList.take k++[s[k]]:=by
 rw[tS (by simpa using h)];rfl
theorem pe(A:H->Prop)w:bX A w (M N 0 0) []:=⟨N,0,Q,λ_=>Q,λh=>sT Q h⟩
theorem r6(A:H->Prop)n(p:n8 Wu)(f:S nF->S Ver)(c:tn)w(F:c.size<=R7)(h:au A n w p f):
  Calls Vp 70 #[O p,U c] w λe z=>∃q,e=Rc (O q)/\au A (n-c.size) z q (λx=>f (c.data.toList++x))/\Below w.heap.size w z:=by
 unfold R7 at F;have b:=aq h;clear h;go_enter (Yq.nq func70),ntmps70;go_wp2
 go_loopw [0,5] (λq i wr=>∃ (k:H) (u:n8 Wu),k<=c.size/\q=O u/\i=I K k/\au A (n-k) wr u (λx=>f (c.data.toList.take k++x))/\Below w.heap.size w wr) (λ_ i _=>c.size-(intOf i).toNat)
 case atStart=>exact⟨0,p,Q8,Q,Q,by simpa using b.o,Q9⟩
 case round=>
  obtain⟨k,u,hk,rfl,rfl,d,v⟩:=hrel;cases u with
  |none=>
   have j:∀x,f (c.data.toList++x)=[]:=λx=>by
    have:=d.of_nil (c.data.toList.drop k++x)
    rwa [<-pA,RB]at this
   have HN:=aq j;clear j d;go_wp2;go_ret;exact⟨N,Q,au.nil HN.o,v⟩
  |some a=>
   by_cases hlt:k<c.size
   obtain⟨m,y⟩:∃m,n-k=m+1:=by
    cases D:n-k with
    |zero=>rw[D]at d;exact sT d.1 (by simp)
    |succ m=>exact⟨m,Q⟩
   rw[y]at d;have HM:=aq y;clear y;have B:=Ep A m a _ c[k] wr d;clear d;go_wp2_with (go_at_call 90;refine B.m ?_;rintro e z ⟨q,rfl,G,r⟩)
   refine⟨⟨k+1,q,by omega,Q,by go_num,?_,v.t (r.m v.size)⟩,by simp[intOf];omega⟩;have e:n-(k+1)=m:=by have:=HM.o;omega
   rw[e,Er c k hlt];simpa using G.on r;have l:c.data.toList.take k=c.data.toList:=by
    rw[tO];have:c.data.toList.length=c.size:=by simp
    omega
   have s:k=c.size:=by omega
   rw[l,s]at d;have HQ:=aq d;clear d l s;go_wp2;go_ret;exact⟨J a,Q,HQ.o,v⟩
theorem pf(A:H->Prop)n(p:n8 Wu)(f:S nF->S Ver)(c:tn)w(hn:c.size<n)(y:c.size<=R7)(h:au A n w p f):
  Calls Vp 42 #[Rd #[O p],U c] w λe r=>∃s,e=Rc (Re #[s,C (!(f c.data.toList).isEmpty)])/\bX A r s (f c.data.toList)/\Below w.heap.size w r:=by
 have b:=aq h;clear h;go_enter (Yq.nq func42),ntmps42;go_wp2_with fail
 refine((λr (P:au A n r p f)=>r6 A n p f c r y P) _ (b.o.on ((Q9).alloc Q0 _))).m ?_;rintro e B ⟨q,rfl,k,d⟩;have j:Below w.heap.size w B:=((bR _ w).alloc Q0 _).t (d.m (by simp));cases q with
 |none=>
  have i:f c.data.toList=[]:=by
   have:=k.of_nil [];simpa using this
  have HN:=bJ i j;clear i k j d;go_wp2
  go_ret2
  refine⟨M N 0 0,?_,?_,HN.o.2⟩;rw[HN.o.1];rfl;rw[HN.o.1];exact pe A _
 |some a=>
  obtain⟨m,F⟩:∃m,n-c.size=m+1:=⟨n-c.size-1,by omega⟩;rw[F]at k;rcases k with k|⟨g,s,kv,ks,G,hA,x,c1,c2,D,v,L,z,u⟩;cases k.1;cases G;simp only[List.append_nil]at x D;clear z u L v F;cases l:(f c.data.toList).isEmpty with
  |true=>
   rw[l]at x;have HE:=bJ l j;clear l j d;go_wp2
   go_ret2
   refine⟨M N 0 0,?_,?_,HE.o.2⟩;rw[HE.o.1];rfl;rw[(List.isEmpty_iff.1 HE.o.1)];exact pe A _
  |false=>
   rw[l]at x;have HE:Hid ((f c.data.toList).isEmpty=Z/\Below w.heap.size w B):=⟨l,j⟩;clear l j d;go_wp2
   go_ret2
   refine⟨s,?_,D,HE.o.2⟩;rw[HE.o.1];rfl
end
section
open Go.Conc Go.ConcX Go.ConcX.Gen Go.RowKit
theorem jS(a:Act)(n:H)(h:a.tmps.size=n):a=⟨((Rp n).map λi=>a.eval (Rh i)).toArray,a.defers⟩:=by
 obtain⟨t,d⟩:=a;have:t=((Rp n).map λi=>Sh ⟨t,d⟩ (Rh i)).toArray:=by
  refine Array.ext (by simpa using h) (λi b h2=>?_);simp[Sh,Array.getD_eq_getD_getElem?,b]
 rw[<-this]
section
variable {A:Nat->Prop} {w0:Wj} {B0 t l:Nat} {O:Wj->Nat->Prop} {total:KVs} {J:KVs->Wj->Prop}
theorem KN(m:yO A w0 B0 t l O total J):∀ (n:H)(p:n8 Wu)(f:S nF->S Ver)(G:S nF)(done:KVs)(W:Wj)(g L:H),au A n w0 p f->p≠N->G.length+n<=1000->done++dF n f G <+:total->Ag A w0 W->iL O B0 W g L G->J done W ->
  Calls Vp 102 #[.pointer p,qX g L G,yf l] W λe W'=>e=Rc (C Y)/\J (done++dF n f G) W'/\iL O B0 W' g L G/\kY O g t W W':=by
 intro n;induction n with
 |zero=>intro p f G done W g L h hp;exact sT h.1 hp
 |succ n ih=>
  intro p f G done W g L h hp hlen P ac d hJ;rcases h with h|⟨gn,hv,kv,R,rfl,hA,c0,c1,c2,hh,b0,hs,b8,b9,cj⟩;exact sT h.1 hp;rw[Ca n f G R hs b9]at P ⊢;have a3:=(m.tree gn hA);have al:∀X,Ag A w0 X->∀b j,A b->X.cell? ⟨b,j,N⟩=w0.cell? ⟨b,j,N⟩:=λX hX b j T=>cB (a:=⟨b,j,N⟩) (hX b T)
  obtain⟨af,v⟩:∃af:KVs,(if(f []).isEmpty then[]else[(G,f [])])=af:=⟨_,Q⟩;have c5:=v;rw[v]at P ⊢;go_enter (Yq.nq func102),ntmps102
  go_upto_region 1 with fail
  rename_i K1 cu K2 ap;refine wpIn_wide.1 (show Sz (wf N) 0 _ _ _ _ _ from Ht (id:=1) (n:=0) m Q Q Q Q ((al W ac gn 0 hA).t c0) ((al W ac gn 1 hA).t c1) a3.2.1 a3.1 hh (by rw[v];exact(List.prefix_append _ _).t (by rw[pA];exact P)) d hJ (λa w h1 h2 r h4 V F=>?_));rw[v]at V;have h2:=h2;have ha:=jS a 44 h1;have f0:=r 0 (by decide);have f1:=r 1 (by decide);have f2:=r 2 (by decide);have f6:=r 6 (by decide);refine ap _ _ ?_;rw[ha,h2];clear ha h1 h2 r;generalize a.eval=ρ at f0 f1 f2 f6 h4 ⊢;simp only[Rp,List.range.loop,RF,RJ,f0,f1,f2,f6,h4];clear f0 f1 f2 f6 h4 ap K2;have cb:=b0;obtain⟨ka,kc,rfl,cv,cp⟩:=cb;have A1:=ac.QZ m hJ (F.row g) d.base;have KR1:iL O B0 w g L G:=by
   have⟨x,e,z,ho⟩:=d.obj;exact⟨d.tojy.same ((F.2.2.2 g _ ho Q (by have:=d.base;have:=m.box;omega) d.no).t ho.s),vW F.2.2.1 ho d.no⟩
  have d2:=(al w A1 gn 2 hA).t c2;have HX:=ig V KR1 (F.row g) A1;have hkl:=nA R hs;have bl:=eM b8 cj b0;obtain⟨u,ab⟩:∃u:H->KVs,u=λi=>done++(af++(R.take i).flatMap λk=>dF n (λx=>f (k.1::x)) (G++[k.1])):=⟨_,Q⟩
  have HL:=aq ab;have cl:=aq P;have cm:=show Hid _ from ih;have D:=aq m;have bk:=bJ d.base m.box;clear V KR1 A1 F b8 cj cp P d hJ ac hh b9 cv hs b0 ih m ab al a3;go_wp2_with fail
  go_loopw [8,29] (λ_ s29 wr=>∃i:H,i<=R.length/\s29=I K i/\J (u i) wr/\iL O B0 wr g L G/\kY O g t W wr/\Ag A w0 wr) (λ_ s29 _=>R.length-(intOf s29).toNat)
  case atStart=>exact⟨0,Q8,Q,by rw[HL.o];simpa using HX.o.1,HX.o.2.1,HX.o.2.2.1,HX.o.2.2.2⟩
  case round=>
   obtain⟨i,hi,rfl,hJ,hK,hR,aj⟩:=hrel;have HR:=ig hJ hK hR aj;by_cases hlt:i<R.length
   obtain⟨gk,capk,he,b6,hgl,bo,-⟩:=bl.o.2.2.cells (by intro e;rw[e]at hlt;simp at hlt);cases he;have c0:=(cB (a:=⟨gk,i*2,N⟩) (aj gk b6)).t (bo i hlt).1;have c1:=(cB (a:=⟨gk,i*2+1,N⟩) (aj gk b6)).t (bo i hlt).2;have a0:=aq (RN hlt);have ch:u (i+1)=u i++dF n (λx=>f (R[i].1::x)) (G++[R[i].1]):=by
    rw[HL.o];simp only;rw[tS hlt,RG,List.flatMap_singleton];simp only[pA]
   have be:=aq ch;clear ch;have c4:Hid (u (i+1) <+:total):=by
    rw[HL.o];simp only;refine List.IsPrefix.t ?_ cl.o
    conv=>rhs;rw[<-RB (i+1) R,RG]
    refine⟨(R.drop (i+1)).flatMap λk=>dF n (λx=>f (k.1::x)) (G++[k.1]),?_⟩;simp
   generalize R[i]=c3 at *;obtain⟨B,kq⟩:=c3;simp only at c0 c1 a0 be;clear hJ hK hR aj bo
   go_upto_region 6 with fail
   rename_i K1 cu K2 ap;have⟨aa,ai,ca,b1⟩:=HR.o;have y:∀b,b<wr.heap.size->(wr.alloc (E #[I .u8 (B.toNat:tb),.pointer kq] 184)).heap[b]?=wr.heap[b]?:=λb T=>Rb T
   have hBr:=D.o.size _ _ aa;have v:=λb=>D.o.own _ _ b (y t (by have:=bk.o;omega))
   refine wpIn_wide.1 (show Sz (wf N) 0 _ _ _ _ _ from Hu (id:=6) (n:=0) (kb:=wr.heap.size) (c:=B) (q:=kq) (pre:=u i) (sub:=dF n (λx=>f (B::x)) (G++[B])) D.o Q Q Q Q
    (by rw[cA (w:=wr) _ _ wr.heap.size 0 Q];rfl) (by rw[cA (w:=wr) _ _ wr.heap.size 1 Q];rfl) (by have:=bk.o;omega) (λhO=>by have:=(D.o.Oz _ _ _ aa (v _ hO)).2;omega) (by have:=ai.lt;omega) (by omega)
    (λb T=>(y b (by have:=D.o.tree b T;omega)).t (b1 b T)) (ai.same (y g ai.lt) (v g)) (D.o.N0 _ _ _ aa (λb T=>y b (by omega)) (λb T=>y b (D.o.Oz _ _ _ aa T).2) (by simp) Q)
    (λX g' cc hX cr ck=>cm.o kq (λx=>f (B::x)) (G++[B]) (u i) X g' cc (bl.o.1 B kq a0.o) (bl.o.2.1 B kq a0.o) (by simp;omega) (by rw[<-be.o];exact c4.o) hX cr ck)
    (λa w h1 h2 r h4 V ar F=>?_))
   rw[<-be.o]at V;have b7:kY O g t wr (wr.alloc (E #[I .u8 (B.toNat:tb),.pointer kq] 184)):=⟨by simp,Q,λb h=>Rf (v b h),λb o T _ _ _ _=>(y b (eS T).1).t T⟩;have cd:=ca.t (b7.t F);clear b7;have ad:Hid (J (u (i+1)) w/\iL O B0 w g L G/\kY O g t W w/\Ag A w0 w):=⟨V,ar,cd,λb T=>by
    have⟨h5,h6,o,h7,h8⟩:=D.o.tree b T;rw[h7];exact F.2.2.2 b o ((y b (by omega)).t ((b1 b T).t h7)) h8 h6 (by have:=bk.o;omega) (λhO=>by have:=(D.o.Oz _ _ _ aa (v b hO)).1;omega)⟩
   have h2:=h2;have ha:=jS a 44 h1;have f0:=r 0 (by decide);have f1:=r 1 (by decide);have f2:=r 2 (by decide);have f3:=r 3 (by decide);have f4:=r 4 (by decide);have f5:=r 5 (by decide);have f6:=r 6 (by decide);have f7:=r 7 (by decide);have f8:=r 8 (by decide);have f9:=r 9 (by decide);have bx:=r 10 (by decide);have bi:=r 11 (by decide);have a6:=r 12 (by decide);have b5:=r 13 (by decide);have a2:=r 14 (by decide);have b2:=r 15 (by decide);have a4:=r 16 (by decide);have a9:=r 17 (by decide);have bd:=r 18 (by decide);have bt:=r 19 (by decide);have b3:=r 20 (by decide);have av:=r 21 (by decide);have a5:a.eval (Rh 22)=ρ (Rh 22):=r 22 (by decide);have bq:a.eval (Rh 23)=C false:=r 23 (by decide);have bn:a.eval (Rh 24)=.pointer (some ⟨gn,0,N⟩):=r 24 (by decide);have a1:a.eval (Rh 25)=.pointer (some ⟨gn,0,N⟩):=r 25 (by decide);have a8:a.eval (Rh 26)=.pointer (some ⟨gn,2,N⟩):=r 26 (by decide);have a7:a.eval (Rh 27)=M (some ⟨gk,0,N⟩) R.length kc:=r 27 (by decide);have bb:a.eval (Rh 28)=I K (R.length:tb):=r 28 (by decide);have bp:a.eval (Rh 29)=I K (i:tb):=r 29 (by decide);have b4:a.eval (Rh 30)=C true:=r 30 (by decide);have bw:a.eval (Rh 31)=.pointer (some ⟨gk,i*2,N⟩):=r 31 (by decide);have bv:a.eval (Rh 32)=Rd #[I .u8 (B.toNat:tb),.pointer kq]:=r 32 (by decide);refine ap _ _ ?_;rw[ha,h2];clear ha h1 h2 r aa ai ca b1 V ar F cd y;generalize a.eval=σ at f0 f1 f2 f3 f4 f5 f6 f7 f8 f9 bx bi a6 b5 a2 b2 a4 a9 bd bt b3 av a5 bq bn a1 a8 a7 bb bp b4 bw bv h4 ⊢;simp only[Rp,List.range.loop,RF,RJ,f0,f1,f2,f3,f4,f5,f6,f7,f8,f9,bx,bi,a6,b5,a2,b2,a4,a9,bd,bt,b3,av,a5,bq,bn,a1,a8,a7,bb,bp,b4,bw,bv,h4];clear f0 f1 f2 f3 f4 f5 f6 f7 f8 f9 bx bi a6 b5 a2 b2 a4 a9 bd bt b3 av a5 bq bn a1 a8 a7 bb bp b4 bw bv h4;go_wp2_with fail
   exact⟨⟨_,_,_,⟨i+1,by omega,by simp,ad.o.1,ad.o.2.1,ad.o.2.2.1,ad.o.2.2.2⟩,Q,Q,Q⟩,by simp[intOf];omega⟩;go_wp2_with fail
   have ct:i=R.length:=by omega
   subst ct;have e1:u R.length=done++(af++R.flatMap λk=>dF n (λx=>f (k.1::x)) (G++[k.1])):=by rw[HL.o];simp
   rw[e1]at hJ;go_ret;exact⟨Q,hJ,hK,hR⟩
end
def bV(f:S nF->S Ver)(p:S nF):KVs:=dF (41-p.length) (λk=>f (p++k)) p
theorem r7(w:Wj)(s:tn)(a:H)(f:B<=w.heap.size)(h:s.size<=a):
  jy B (w.drew.alloc (E (bytesRow s a) 5 ((bytesRow s a).size,(bytesRow s a).size+1))) w.heap.size a s.data.toList:=by
 have b:(w.drew.alloc (E (bytesRow s a) 5 ((bytesRow s a).size,(bytesRow s a).size+1))).heap[w.heap.size]?=J (E (bytesRow s a) 5 ((bytesRow s a).size,(bytesRow s a).size+1)):=by
  have:=aN w.drew (E (bytesRow s a) 5 ((bytesRow s a).size,(bytesRow s a).size+1));exact this
 have hsz:(bytesRow s a).size=a:=by simp[bytesRow];omega
 have d:s.data.toList.length=s.size:=by simp
 have c:=λj=>Sb _ w.heap.size j _ 5 _ b
 refine⟨f,⟨_,_,_,b⟩,by rw[d];exact h,λj e=>?_,λj e=>?_⟩;rw[c,bytesRow,Array.getElem?_append_left (by simpa using e)]
 grind
 rw[c,Sn,b]
 grind
section
variable {A:Nat->Prop} {w0:Wj} {B0 t l:Nat} {O:Wj->Nat->Prop} {total:KVs} {J:KVs->Wj->Prop}
theorem Av(a:yO A w0 B0 t l O total J)(i:n8 Wu)(f:S nF->S Ver)(p:tn)W L R(hN:au A 41 w0 i f)(F:total=bV f p.data.toList)(n:Ag A w0 W)(c1:W.cell? ⟨L,0,N⟩=some (.pointer i))(V:W.cell? ⟨R,0,N⟩=some (U p))(X:p.size<=R7)(y:J [] W):
  Calls Vp 101 #[yf l,.pointer (some ⟨L,0,N⟩),.pointer (some ⟨R,0,N⟩)] W λe W'=>(∃v,e=Rc v)/\J total W':=by
 have hB:=a.size _ _ y;have HF:=r6 A 41 i f p W X (au.Nx (λb d _=>⟨d,n b d⟩) 41 i f hN);have HT:=aq F;go_enter (Yq.nq func101),ntmps101;have HW:Hid (∀ (c:Wj) (q:n8 Wu),q.isSome=Y->au A (41-p.size) c q (λx=>f (p.data.toList++x))->Below W.heap.size W c ->
   Calls Vp 102 #[.pointer q,M (some ⟨c.heap.size,0,N⟩) p.size (grownCap c p.size 0 5),yf l] (c.drew.alloc (E (bytesRow p (grownCap c p.size 0 5)) 5 ((bytesRow p (grownCap c p.size 0 5)).size,(bytesRow p (grownCap c p.size 0 5)).size+1))) λe W'=>e=Rc (C Y)/\J total W'):=λc q j B d=>by
  have r:∀b,b<W.heap.size->(c.drew.alloc (E (bytesRow p (grownCap c p.size 0 5)) 5 ((bytesRow p (grownCap c p.size 0 5)).size,(bytesRow p (grownCap c p.size 0 5)).size+1))).heap[b]?=W.heap[b]?:=λb h=>by
   rw[Rb (by show b<c.heap.size;have:=d.size;omega)];exact d.block b h
  have G:∀b,A b->b<W.heap.size:=λb h=>by have:=(a.tree b h).1;omega
  have z:p.data.toList.length=p.size:=by simp
  have hn:p.size<=40:=by
   rcases Nat.lt_or_ge 40 p.size with h|h;have e:41-p.size=0:=by omega
   rw[e]at B;rw[B.1]at j;cases j;exact h
  have:=KN a (41-p.size) q (λx=>f (p.data.toList++x)) p.data.toList [] _ c.heap.size (grownCap c p.size 0 5) (au.Nx (λb D _=>⟨D,((d.block b (G b D)).t (n b D)).s⟩) _ q _ B) (by intro e;rw[e]at j;cases j) (by omega) (by rw[HT.o,bV,z];exact List.prefix_refl _)
   (λb D=>(r b (G b D)).t (n b D)) ⟨r7 c p _ (by have:=d.size;omega) (grownCap_ge _ _ _ _),λh=>by
    have T:=(a.Oz _ _ _ y (a.own _ _ _ (r t (by have:=a.box;omega)) h)).2;have:=d.size;omega⟩ (a.N0 _ _ _ y (λb h=>r b (by omega)) (λb h=>r b (a.Oz _ _ _ y h).2) (by have:=d.size;rw[Sl];show W.heap.size<=c.heap.size+1;omega) d.os)
  refine this.m ?_;rintro e W' ⟨rfl,T,-⟩;refine⟨Q,?_⟩;rw[HT.o,bV,z];exact T
 go_wp2_with (first|(go_at_call 70;refine HF.m ?_;clear HF;rintro e c ⟨q,rfl,B,d⟩;have c2':=ag d V;have hcv:=run_bytes_of_string (P:=Vp) c 9 125 5 p (Yq.u underlying9) (Yq.u underlying125) (Yq.u underlying5))|(go_at_call 102;refine(HW.o c q (by assumption) B d).m ?_;rintro e w2 ⟨rfl,hJ2⟩))
 go_end0
 grind
 have j:q=none:=by
  simp_all
 subst j;go_end0;refine⟨⟨_,Q⟩,?_⟩;obtain⟨a,y,-⟩:=(eM a y n).o;rw[HT.o,bV,qn _ _ _ (λk=>B.of_nil k)];exact a.N0 _ _ _ y (λb h=>d.block b (by omega)) (λb h=>d.block b (a.Oz _ _ _ y h).2) d.size d.os
end
def oO(c t:H)(W W':Wj):Prop:=W.heap.size<=W'.heap.size/\W'.os=W.os/\∀b,b<W.heap.size->b≠c->b≠t->W'.heap[b]?=W.heap[b]?
theorem oO.below{c t}{W'}(h:Below W.heap.size W W'):oO c t W W':=⟨h.size,h.os,λb a _ _=>h.block b a⟩
theorem oO.cells{c t}{W W'}(h:oO c t W W')(k:∃o:Obj,W.heap[c]?=J o/\o.isCells=Z):eN t W W':=⟨h.1,h.2.1,λb o a j i=>by
 refine(h.2.2 b (eS a).1 (λe=>?_) i).t a;subst e;obtain⟨o',d,f⟩:=k;rw[a]at d;cases d;rw[j]at f;cases f⟩
theorem ip{t l}(h:W.heap[l]?=J o')(f:o'.isCells=Z)d:eN t W (W.putObj l d):=⟨by simp,Q,λb x a c _=>by
 by_cases e:b=l
 .subst e;rw[h]at a;cases a;rw[f]at c;cases c
 .exact (pO e).t a⟩
def gU(O:Wj->H->Prop)(c t:H)(W W':Wj):Prop:=W.heap.size<=W'.heap.size/\W'.os=W.os/\(∀b,O W' b->O W b\/W.heap.size<=b)/\∀b,b<W.heap.size->b≠c->b≠t->¬O W b->W'.heap[b]?=W.heap[b]?
def noO(_:Wj)(_:H):Prop:=uc
theorem oO.own{c t}{W'}(h:oO c t W W'):gU noO c t W W':=⟨h.1,h.2.1,λ_ h=>h.elim,λb a d e _=>h.2.2 b a d e⟩
theorem gU.cells{O:Wj->H->Prop}{c t}{W W'}(h:gU O c t W W')(l:c=t\/∃o:Obj,W.heap[c]?=J o/\o.isCells=Z):gR O t W W':=⟨h.1,h.2.1,h.2.2.1,λb o a j i m=>by
 refine(h.2.2.2 b (eS a).1 (λe=>?_) i m).t a;subst e;rcases l with k|⟨o',f,d⟩
 .exact i k
 rw[a]at f;cases f;rw[j]at d;cases d⟩
theorem oj{O:Wj->H->Prop}{t l}(j:∀X a b,a.heap[t]?=X.heap[t]?->O a b->O X b)(d:t≠l)(h:W.heap[l]?=J o')(i:o'.isCells=Z)k:gR O t W (W.putObj l k):=⟨by simp,Q,λb c=>Rf (j _ _ b (pO d) c),λb x c f _ _=>by
 by_cases e:b=l
 .subst e;rw[h]at c;cases c;rw[i]at f;cases f
 .exact (pO e).t c⟩
section
variable {P:Wv} {α β:Type}
theorem vY{g:Operand}{ps:pt Tmp}{assign body:Code}{i:Exit->Act->Wj->Prop}{gf:H}{lb:pt Wx}{encs:β->pt Wx}(π:β->α)(hg:a.eval g=.func (.func gf) #[] lb)(eg:∀T w,(callFunc gf T).run P w=.ok (.enter gf T) w)(a6:∀x,(encs x).size=ps.size)
  (c t:H) (ht:t<w.heap.size) (O:Wj->H->Prop) (hO:∀X d b,d.heap[t]?=X.heap[t]?->O d b->O X b) (I:S α->Wj->Prop) (Oi:S α->β->Prop) (total:S α)
  (ad:∀k X b,I k X->O X b->w.heap.size<=b/\∃o:Obj,X.heap[b]?=some o/\o.isCells=Y)
  (hI:∀k X d,I k X->(∀b,b<w.heap.size->d.heap[b]?=X.heap[b]?)->(∀b,O X b->d.heap[b]?=X.heap[b]?)->X.heap.size<=d.heap.size->d.os=X.os->I k d) (a1:∀k X,I k X->(c=t\/c<w.heap.size)/\(c=t\/∃o:Obj,X.heap[c]?=some o/\o.isCells=Z)) (h0:I [] w) (V:β->Act)
  (ai:∀ (l:H) (J:S α->Wj->Prop) (W:Wj),W.heap.size=w.heap.size+2->(∀b,b<w.heap.size->W.heap[b]?=w.heap[b]?) ->
   (∀k X b,J k X->O X b->w.heap.size+2<=b/\b<X.heap.size)->(∀k X d,J k X->(∀b,b<w.heap.size+2->d.heap[b]?=X.heap[b]?)->(∀b,O X b->d.heap[b]?=X.heap[b]?)->X.heap.size<=d.heap.size->d.os=X.os->J k d)->(∀k X,J k X->w.heap.size+2<=X.heap.size) ->
   (∀k x X,Oi k x->J k X->YieldAt (wf N) 0 P l (encs x) X λe X'=>e=Rc (C Y)/\J (k++[π x]) X'/\gR O t X X')->J [] W ->
   Calls P gf (#[.func (.yield l) #[] #[]]++lb) W λe W'=>(∃v,e=Rc v)/\J total W')
  (B:∀ (l:H) (x:β) (W:Wj) (f:Act->Wj->Prop),f (V x) W->assign.wpIn (wf (some l)) 0 P (Exit.then f (λ_ _ _=>uc)) {tmps:=(ps.zip (encs x)).foldl (λt (p,v)=>t.setIfInBounds p v) a.tmps,defers:=[]} W)
  (af:∀ (l:H) (k:S α) (x:β) (W:Wj),Oi k x->I k W->body.wpIn (wf (some l)) 0 P (λe _ W'=>e=.normal/\gU O c t W W'/\I (k++[π x]) W') (V x) W)
  (ab:∀ (D:H) (W:Wj),w.heap.size<=D->I total W->W.heap[D]?=some (.deferred (some []))->i .normal {a with defers:={target:=.collected D,args:=#[]} :: a.defers} W):
  (Code.rangeFunc g ps assign body).wpIn (wf N) n P i a w:=by
 refine wpIn_rangeFunc ?_;intro fn hfn;obtain⟨q,r⟩:∃q:LoopState->Loop,q=λst=>{state:=st,pending:=N,fn,tmps:=a.tmps,params:=ps,assign,body,defers:=w.heap.size}:=⟨_,Q⟩
 obtain⟨W1,y⟩:∃W1,(w.alloc (.deferred (some []))).alloc (.loop (q .ready))=W1:=⟨_,Q⟩;have a4:W1.heap[w.heap.size+1]?=some (.loop (q .ready)):=by
  rw[<-y];have:=aN (w.alloc (.deferred (some []))) (.loop (q .ready));rwa [Sl]at this
 have a7:W1.heap[w.heap.size]?=some (.deferred (some [])):=by
  rw[<-y];exact(Rb (by simp)).t (aN w _)
 have A:∀b,b<w.heap.size->W1.heap[b]?=w.heap[b]?:=λb s=>by
  rw[<-y,Rb (by simp;omega),Rb s]
 have av:W1.heap.size=w.heap.size+2:=by rw[<-y];simp
 have hcl:c<w.heap.size:=by
  grind
 have u:∀k X b,I k X->O X b->∀ {j:H} {o:Obj},X.heap[j]?=some o->o.isCells=Z->b≠j:=λk X b hi s j o hj hc e=>by
  grind
 refine⟨w.heap.size+1,[{target:=.collected w.heap.size,args:=#[]}],W1,{target:=.fn (.func gf) lb,args:=#[.func (.yield (w.heap.size+1)) #[] #[]]},W1,gf,
  #[.func (.yield (w.heap.size+1)) #[] #[]]++lb,W1,?_,?_,λ_ _=>trivial,?_,(λh=>by cases h),?_⟩
 rw[<-y,r];exact run_enterLoop_outer _ _ _ _ _;simp[resolve,hg];simp[go_sem];simp[invoke,go_sem,eg];refine callsIn_wide.2 ((ai (w.heap.size+1) (λk W=>I k W/\W.heap[w.heap.size+1]?=some (.loop (q .ready))/\W.heap[w.heap.size]?=some (.deferred (some []))) W1 av A (λk X b h s=>by
  have h1:=(ad _ _ _ h.1 s).1;have h2:=u _ _ _ h.1 s h.2.1 Q;have h3:=u _ _ _ h.1 s h.2.2 Q;exact⟨by omega,(eS (ad _ _ _ h.1 s).2.choose_spec.1).1⟩) (λk X d h h1 a5 h2 h3=>⟨hI k X d h.1 (λb s=>h1 b (by omega)) a5 h2 h3,(h1 _ (by omega)).t h.2.1,(h1 _ (by omega)).t h.2.2⟩) (λk X h=>(eS h.2.1).1) ?_ ⟨hI _ _ _ h0 A (λb s=>A b (eS (ad _ _ _ h0 s).2.choose_spec.1).1) (by omega) (by rw[<-y];rfl),a4,a7⟩).m ?_)
 rintro k x X aa ⟨hi,hl,hk⟩;have hlt:=(eS hl).1;have hy:=run_yield (P:=P) (args:=encs x) hl (by rw[r];exact a6 x);rw[r]at hy;refine⟨fn,_,assign,body,hy,roundIn_of_wpIn (F:=wf N) trivial (B _ x X _ ⟨_,run_beginRound hl (by rw[r]),?_⟩)⟩;obtain⟨X2,z⟩:∃X2,X.putObj (w.heap.size+1) (.loop {q .ready with state:=.busy})=X2:=⟨_,Q⟩;have al:X2.heap[w.heap.size+1]?=some (.loop {q .ready with state:=.busy}):=by rw[<-z];exact Sm hlt
 have R:∀b,b≠w.heap.size+1->X2.heap[b]?=X.heap[b]?:=λb s=>by rw[<-z];exact pO s
 have hsz2:X2.heap.size=X.heap.size:=by rw[<-z];simp
 have G:=hI _ _ _ hi (λb s=>R b (by omega)) (λb s=>R b (u _ _ _ hi s hl Q)) (by omega) (by rw[<-z];rfl);have ar:gR O t X X2:=by rw[<-z];exact oj hO (by omega) hl Q _
 rw[z];refine wpIn_mono (af _ k x _ aa G) ?_;rintro e a3 X3 ⟨rfl,ac,a0⟩;have L:=(ac.2.2.2 _ (by omega) (by omega) (by omega) (λh=>u _ _ _ G h al Q Q)).t al;have aj:=run_endRound (P:=P) N L;have hfin:({q .ready with state:=.busy}:Loop)={q .ready with state:=.busy}:=rfl;have e4:({({q .ready with state:=.busy}:Loop)with state:=if(N:n8 Code).isNone then .ready else .done,pending:=N}:Loop)=q .ready:=by rw[r];rfl
 rw[e4]at aj;refine⟨_,_,aj,Q,⟨hI _ _ _ a0 (λb s=>pO (by omega)) (λb s=>pO (u _ _ _ a0 s L Q)) (by simp) Q,Sm ((eS L).1),(pO (by omega)).t ((ac.2.2.2 _ (by omega) (by omega) (by omega) (λh=>u _ _ _ G h ((R _ (by omega)).t hk) Q Q)).t ((R _ (by omega)).t hk))⟩,ar.t ((ac.cells (a1 _ _ G).2).t (oj hO (by omega) L Q _))⟩;rintro e W2 ⟨⟨v,rfl⟩,hi,hl,hk⟩;have ap:=run_endLoop (P:=P) hl (by rw[r];simp);have a2:(q .ready).pending=none:=by rw[r]
 rw[a2]at ap;exact⟨N,_,ap,ab w.heap.size _ Q0 (hI _ _ _ hi (λb s=>pO (by omega)) (λb s=>pO (u _ _ _ hi s hl Q)) (by simp) Q) ((pO (by omega)).t hk)⟩
end
end
