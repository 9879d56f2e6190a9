/- A part. -/
import Derived.Test.YtenhoolepfelcaaGreatDoorQP01
import Derived.Conc.Beside
import Derived.Conc.CrowdComm
import Derived.Conc.CrowdTrace
import Derived.Conc.BesideWords
import Derived.Conc.LoneCalls
set_option maxHeartbeats 4000000
set_option maxRecDepth 100000
theorem Go.Conc.Past.m:type_of% @Go.Conc.Past.mono:=@Go.Conc.Past.mono
theorem Go.Conc.Before.t:type_of% @Go.Conc.Before.trans:=@Go.Conc.Before.trans
open _root_ renaming Array->dT,Bool->ey,Option->eV,absurd->eW,ByteArray->gI,False->gL,congrArg->g6,String->jp,Int->kr,List->lj
open Go.Conc.Goes renaming step->lk,stop->nF
open Go.MemOp renaming ofEvents->n8
open Go.Conc renaming offersAt_of_not_blocked->pt,stepG_region_end->sq,getElem?_append_cases->sT,again_running->ta,mem_ofEvents->tb,stepG_region->tn,Deaf_other->uc,awake_of->vf,stepG_seq->vx,noRace_append->wd,touchAt_of->xb,crowd_pick->xc,mem_listed->xt,touch_of->xv,crowd_recv_closed->yz,offersAt->NE,getElem?_stand->Pi,evL_cell->PA,goes_go->PB,offersAt_ph->PI,crowd_waits->PJ,enter_at->PK,LoneTo->PL,runT_crowd_comm->PM,again_recv_open->PN,crowd_send_room->PO,runT_crowd_go->PP,deaf_old->PQ,crowd_recv_buf->PR,ways_send_none->PS,partners_nil->PT,touch_mute->PU,stand_get->PV,low_mute->PW,act?_of->PX,run_makeChan->PY,goes_leave1->PZ,woken->P0,stepG_cond->P9,stepG_ret'->Qg,Good->Qh
open Go.Frame renaming enter->Qi,finish_at->Qj,catches->Qk,raise->Ql
open Go.MemAct renaming ofEvent->Qm,touch?->Qn,low_mono->Qo
open Array renaming mem_append->Qp,append_assoc->Qq,getElem?_map->Qr,toList_inj->Qs,append_empty->Qt,mem_iff_getElem->Qu,toList_push->Qv,toList_extract->Qx,replicate->Qz,ofFn->QB,ext->QC
open Nat renaming eq_zero_or_pos->QD,strongRecOn->QG,reduceAdd->QH
open Go.Region renaming schedule->QI,wanted->QJ,linearise->QK,departs->QM
open Go renaming FuncId->QQ,CommShape->QR,doReturn->QS,step_lone_go->QT,PanicEntry->QW,step_leave_returned->QX,CommCase->QY,stepG_op->QZ,execOp->Q0,offeredValue->Q8,callDeferred->Q9,TypeId->Ra
open Go.Sem renaming runT->Rb,bind->Rc,run->Rd,getObj->Re,setObj->Rf
open Go.Act renaming eval->Rg
open Go.Conc.LoneTo renaming goes->Rh,done->Ri
open Go.Question renaming forced->Rj
open Go.Stepped.next renaming injEq->Rk
open Go.Instr renaming takeDeferred->Rl
open Go.Proofs.Tryz renaming prog->Rm,f72->Rn,f44->Ro,f94->Rp
open Option renaming map_eq_some_iff->Rq,getD->Rr
open Go.Trace renaming g?->Rt
open List.range renaming loop->Ru
open Go.World renaming setChan->Rv,cell?->Rw
open Bool renaming or_eq_true->Rx
open List renaming range->Ry,prefix_append->Rz,size_toArray->RB
open Go renaming World->Wj,Value->Wx,Goroutine->Wk,Program->Wv,Frame->Wy,Addr->Wu,undef->Wo
namespace Go.Proofs.Qw
open _root_ renaming rfl->Q
open Go.Proofs.Yq renaming prog->Vp
open _root_ renaming Nat->H,List->S
open Option renaming none->N,some->J
open Bool renaming true->Y,false->Z
open Value renaming int->I,string->U,slice->M,pointer->O,bool->C,agg->Qa,tuple->Qb
open IntKind renaming i64->K
open Obj renaming cells->E
open Ending renaming returned->Nm
open Or renaming inl->Qc,inr->Qd
open Operand renaming tmp->Qe
open GoStatus renaming running->Qf
variable {P:Wv}{c:CommCase}{V W w w2:Wj}{d:dT Oper}{a:MemAct}{B i j n n' n0 q q' r s':H}{al g h x:Wk}{o:Oper}{v z:Wx}{ρ ρ0 σ:Ren}{e:Event}{T:Wk->Wj->Prop}{L b:S Wx}{f:FuncId}{k:S Item}{A cl:ey}{b' c':dT Wx}{R:(H->Question->H)->H->Ending->Wj->Prop}
open Tryz
section
open Go.Conc (crowd Past EvL Deaf QuitsD woken awake crowd_pick runT_crowd_go rcase scase parked ph)
open Go.ConcN (sumTo upd sumTo_upd upd_ne upd_same)
def Fin(P:Wv)(Post:Wx->Wj->Prop)(gs:dT Wk)(w:Wj)(sl:eV (H×H))(t:Trace):Prop:=
 ∃N a o w' b,runNT P (N+1) (crowd gs w sl) t=(.ended o w',b)/\runN P N (crowd gs w sl)=.next a/\step P a=.ended o w'/\Qh P Post a o w' b
theorem Fin.next{Post:Wx->Wj->Prop}{gs c:dT Wk}{w'}{sl d:eV (H×H)}{t}{a:dT MemOp}(hs:stepT P (crowd gs w sl)=(.next (crowd c w' d),a))(h:Fin P Post c w' d (t++a)):Fin P Post gs w sl t:=by
 obtain⟨N,b,o,k,e,h1,f,j,i⟩:=h;exact⟨N+1,b,o,k,e,by rw[runNT];simp[hs];exact h1,by rw[runN];simp[step,hs];exact f,j,i⟩
theorem Fin.last{P}{Post:Wx->Wj->Prop}{gs:dT Wk}{w w'}{sl:eV (H×H)}{t}{a:dT MemOp}{o:Outcome}(hs:stepT P (crowd gs w sl)=(.ended o w',a))(h:Qh P Post (crowd gs w sl) o w' (t++a)):Fin P Post gs w sl t:=
 ⟨0,crowd gs w sl,o,w',t++a,by simp[runNT,hs],Q,by simp[step,hs],h⟩
structure Lv (P:Wv)(K:H->Prop)(t:Trace)(gs:dT Wk)(q:H->H):Prop where
 old:∀i g,0<i->¬K i->gs[i]?=J g->QuitsD P (q i) (Deaf t i) g
 above:∀j,gs.size<=j->Deaf t j=0
theorem kU{d}(h:QuitsD P n d g)w:g.again w=g:=ta _ h.status
section
variable {P:Wv} {K:Nat->Prop} {Shun:Loc->Prop} {gs:dT Wk} {w:Wj} {sl:eV (Nat×Nat)} {t:Trace} {q:Nat->Nat}
theorem gK{g' o}(h:o.again w=o):woken P g g' w o=o:=by
 unfold P0;split
 .exact h
 .rfl
theorem slip(V:Lv P K t gs q){Pa:Trace->Prop}(hP:Pa t)(m:∀ (t:Trace)(i:H)(fn:QQ)(ab:jp)(es:dT Event),i≠0->¬K i->Pa t->(∀e∈es,e.mute=Y)->Pa (t++n8 i fn ab es)){d}{p:eV (H×H)}(X:gs[i]?=J g)(hg:g.status=Qf)(v:0<i)(T:¬K i)
  (l:∀j o,(j=0\/K j)->gs[j]?=J o->o.again (w.at d)=o) (R:stepT P (crowd gs w sl)=runT P (crowd gs (w.at d) p) i):
  ∃b q' f,stepT P (crowd gs w sl)=(.next (crowd b (w.at d) p),f)/\b.size=gs.size/\(∀j,(j=0\/K j)->b[j]?=gs[j]?)/\Lv P K (t++f) b q'/\Pa (t++f)/\sumTo b.size q'<sumTo gs.size q/\(∀G∈f,G.g=i):=by
 have D:=V.old i g v T X;have ac:(i==0)=false:=by simp;omega
 have u:=(eS X).1;cases A:q i with
 |zero=>rw[A]at D;rw[D.1]at hg;cases hg
 |succ k=>
  rw[A]at D;rcases D with⟨hf,_⟩|⟨_,g',es,hm,r,aa⟩
  grind
  have z:((gs.map (woken P g g' (w.at d))).setIfInBounds i g').size=gs.size:=by simp
  have hsum:sumTo gs.size (upd q i k)+(k+1)=sumTo gs.size q+k:=by
   have:=sumTo_upd q k id u
   simp_all
  refine⟨_,upd q i k,_,R.t (PP (P:=P) (sl:=p) (i:=i) X (by rw[ac];exact r (w.at d))),z,λj n=>?_,⟨λj x n ad F=>?_,λj n=>?_⟩,m t i _ _ es (by omega) T hP hm,by rw[z];omega,λG a=>by obtain⟨e,_,rfl⟩:=tb a;rfl⟩;have L:i≠j:=λe=>by subst e;rcases n with h|h<;>first|omega|exact T h
  rw[sN L,Qr];cases ho:gs[j]? with
  |none=>rfl
  |some o=>simp;rw[gK (l j o n ho)]
  by_cases c:i=j
  subst c;rw[sS (by simpa using u)]at F;obtain rfl:=oJ F;rw[upd_same,Conc.Deaf_own];exact aa;rw[sN c,Qr]at F;obtain⟨y,hy,rfl⟩:=Rq.1 F;have B:=V.old j y n ad hy;rw[gK (kU B _),upd_ne q k (Ne.s c),uc t c _ (λG a=>by obtain⟨e,_,rfl⟩:=tb a;rfl)];exact B;rw[uc t (g':=i) (by simp at n;omega) _ (λG a=>by obtain⟨e,_,rfl⟩:=tb a;rfl)];exact V.above j (by simpa using n)
theorem sK(F:Lv P K t gs q){z}{w'}{es:dT Event}{d}{l:eV (H×H)}(A:gs[i]?=J al)(T:i=0\/K i)(v:stepT P (crowd gs w sl)=runT P (crowd gs (w.at d) l) i)(u:stepG P (i==0) al (w.at d)=.go z w' es):
  ∃b c,stepT P (crowd gs w sl)=(.next (crowd b w' l),c)/\c=n8 i al.frame.fn al.frame.place es/\b.size=gs.size/\b[i]?=J z/\(∀j o,j≠i->gs[j]?=J o->b[j]?=J (woken P al z w' o))/\Lv P K (t++c) b q:=by
 have k:=PP (P:=P) (sl:=l) (i:=i) A u;have r:i<gs.size:=(eS A).1;refine⟨_,_,v.t k,Q,by simp,by simp[r],λj o m G=>?_,⟨λj x m p B=>?_,λj m=>?_⟩⟩
 .rw [sN (Ne.s m),Qr,G];rfl
 .have n:i≠j:=λe=>by subst e;rcases T with h|h<;>first|omega|exact p h
  rw[sN n,Qr]at B;obtain⟨y,L,rfl⟩:=Rq.1 B;have D:=F.old j y m p L;rw[gK (kU D _),uc t n _ (λR f=>by obtain⟨e,_,rfl⟩:=tb f;rfl)];exact D
 .rw [uc t (g':=i) (by simp at m;omega) _ (λR f=>by obtain⟨e,_,rfl⟩:=tb f;rfl)];exact F.above j (by simpa using m)
def dG(B:H):MemAct->Prop
 | .send c _| .sendDone c _| .recv c _ _| .recvDone c _| .close c| .recvClosed c=>c<B
 |_=>gL
theorem dG.low(h:dG B a):a.low B:=by cases a<;>first|exact h|exact h.elim
theorem dG.none(h:dG B a):a.touch?=none:=by cases a<;>first|rfl|exact h.elim
theorem dG.still(h:dG B a):a≠.mark .disable/\a≠.mark .enable:=by cases a<;>first|exact h.elim|exact⟨by simp,by simp⟩
theorem ce t g u(c:∀b∈u,b.act≠.mark .disable/\b.act≠.mark .enable):Deaf (t++u) g=Deaf t g:=by
 obtain⟨l⟩:=u;rw[Conc.Deaf_append];induction l generalizing t with
 |nil=>rfl
 |cons x l ih=>
  have d:=c x (by simp);have e:Conc.deafStep g (Deaf t g) x=Deaf t g:=by
   obtain⟨xg,xf,xp,f⟩:=x;cases f with
   |mark m=>cases m<;>first|rfl|exact eW Q d.1|exact eW Q d.2
   |_=>rfl
  rw[List.foldl_cons,e];exact ih t (λb a=>c b (by simp at a ⊢;exact Qd a))
theorem Lv.put(d:Lv P K t gs q){a:dT Wk}{u}(c:∀op∈u,op.act≠.mark .disable/\op.act≠.mark .enable)(hsz:a.size=gs.size)(hs:∀j,0<j->¬K j->a[j]?=gs[j]?):Lv P K (t++u) a q:=
 ⟨λi g e b f=>by rw[ce t i u c];exact d.old i g e b (by rw[<-hs i e b];exact f),λj hj=>by rw[ce t j u c];exact d.above j (by omega)⟩
theorem C0(h:Past Shun B t){u}(d:∀c∈u,c.g=0/\dG B c.act):Past Shun B (t++u):=
 h.app0 (λc a=>(d c a).1) (λc a b e=>by rw[(d c a).2.none]at e;cases e) (ce t 0 u (λc a=>(d c a).2.still)) (λc a=>(d c a).2.low)
theorem Lv.alone(c:Lv P (λ_=>gL) t gs q)r(b:ey):partners (gs.setIfInBounds 0 ph) r b=[]:=by
 refine PT (λj x a=>?_);rcases Pi gs 0 j x a with⟨-,rfl⟩|⟨hne,a⟩
 .exact PI r b
 .refine pt (λe=>?_) r b;rcases(c.old j x (by omega) (λk=>k) a).status with h|h<;>rw[h]at e<;>cases e
end
def i7:Loc->Prop:=λ_=>gL
theorem lO(b:cg ρ V W)(h:ku ρ e):EvL i7 W.heap.size e:=by
 obtain⟨c,wr,d⟩:=e;cases c with
 |cell a=>
  obtain⟨x,h1,-⟩:=h;exact⟨λ_ _ k=>k.elim,by simp,by simp,(b.lt h1).2⟩
 |obj r=>
  obtain⟨x,h1,-⟩:=h;refine⟨λ_ _ k=>k.elim,by simp,by simp,?_⟩;have:=(b.lt h1).2;cases wr<;>cases d<;>exact this
 |mark m=>
  cases h with
  |extern f=>exact⟨λ_ _ k=>k.elim,by simp,by simp,trivial⟩
  |noRoom=>exact⟨λ_ _ k=>k.elim,by simp,by simp,trivial⟩
 |output=>exact⟨λ_ _ k=>k.elim,by simp,by simp,trivial⟩
 |goroutines=>exact h.elim
inductive LSs (P:Wv)(T:Wk->Wj->Prop):Wk->Wj->Wk->Wj->Prop
 |refl (g:Wk) (w:Wj):LSs P T g w g w
 |step {g g1 g2:Wk} {w w1 w2:Wj} (hT:¬T g w) (τ:H->Question->H) (d:H) (h:LS P g (w.on τ d) g1 w1) (hs:LSs P T g1 w1 g2 w2):LSs P T g w g2 w2
theorem LSs.t{a b c}{u v}(h:LSs P T a u b v)(k:LSs P T b v c w):LSs P T a u c w:=by
 induction h with
 |refl=>exact k
 |step f e d h _ ih=>exact .step f e d h (ih k)
def Quiet(ρ:Ren)(V:Wj):Prop:=ρ.F nA=Z/\∀a b o,ρ a b->V.heap[a]?=J o->o.isChan=Y->∃n s q c,o=.chan n #[] Y s q c
theorem Quiet.reach{ρ'}{w' u f}(h:Quiet ρ w)(j:ρ.F iF=Z)(R:Reach ρ ρ' w w' u f):Quiet ρ' u:=⟨by rw[R.le.F];exact h.1,λa b o c i e=>by
 rcases R.Oh.only h.1 a o i e with k|⟨k,-⟩
 .rcases R.new a b c with d|⟨d,-⟩
  .exact h.2 a b o d k e
  .have:=(eS k).1;omega
 .rw [j]at k;cases k⟩
structure Outer where
 Ko:H->Prop
 W0:Wj
 lt:∀b,Ko b->b<W0.heap.size
 R:H->H->Prop
 ML:H->eV (dT Wx)
 bad:TypeId
def Kp(U:Outer)(W:Wj):Prop:=U.W0.heap.size<=W.heap.size/\W.output=U.W0.output/\∀b,U.Ko b->W.heap[b]?=U.W0.heap[b]?
def Off(U:Outer)(ρ:Ren):Prop:=(∀a b,ρ a b->¬U.Ko b)/\(∀a b,U.R a b->ρ a b)/\ρ.ML=U.ML/\ρ.bad=U.bad
theorem Kp.Mr{c:Outer}{W1}(h:Kp c W)(e:Off c ρ)(K:Keep ρ W W1):Kp c W1:=
 ⟨lT h.1 K.size,K.output.t h.2.1,λb d=>(K.block b (lL (c.lt b d) h.1) (λa f=>eW d (e.1 a b f))).t (h.2.2 b d)⟩
theorem Off.new{c:Outer}{W}{ρ ρ'}(d:Off c ρ)(h:Kp c W)(e:∀a b,ρ a b->ρ' a b)(l:∀a b,ρ' a b->ρ a b\/W.heap.size<=b)(i:ρ'.ML=ρ.ML/\ρ'.bad=ρ.bad):Off c ρ':=⟨λa b f j=>by
 rcases l a b f with k|k
 .exact d.1 a b k j
 .have:=c.lt b j;have:=h.1;omega,λa b k=>e a b (d.2.1 a b k),i.1.t d.2.2.1,i.2.t d.2.2.2⟩
theorem Kp.reach{c:Outer}{ρ'}{w' u}(h:Kp c w'/\Off c ρ)(R:Reach ρ ρ' w w' u w2):Kp c w2/\Off c ρ':=⟨h.1.Mr h.2 R.Mr,h.2.new h.1 R.le.sub (λa b k=>(R.new a b k).imp id (·.2)) ⟨R.le.ML,R.le.bad⟩⟩
structure Rel (P:Wv) [Two P](U:Outer)(G:FuncId->ey)(Y:S Wy)(ρ:Ren)(h g:Wk)(V W:Wj):Prop where
 go:RGo P ρ ([trap P.alt],Y) h g
 Mx:cg ρ V W
 gid:GId P ρ
 ext:ij P ρ.F
 calm:ρ.F iF=Z
 same:ρ.F=G
 MP:ρ.loose=Z/\ρ.wide=Z
 quiet:Quiet ρ V
 o:Kp U W/\Off U ρ
section
variable {P:Wv} [Two P]
def qY(P:Wv) [Two P](U:Outer)(G:QQ->ey)(Y:S Wy)(Post:Wx->Wj->Prop)(h:Wk)(V:Wj):Prop:=
 ∀ (gs:dT Wk) (g:Wk) (W:Wj) (sl:eV (H×H)) (t:Trace) (q:H->H) (ρ:Ren),gs[0]?=J g->Lv P (λ_=>gL) t gs q->Past i7 W.heap.size t->Rel P U G Y ρ h g V W->Fin P Post gs W sl t
def xL(P:Wv) [Two P](U:Outer)(G:QQ->ey)(Y:S Wy)(T:Wk->Wj->Prop)(Post:Wx->Wj->Prop):Prop:=
 ∀ (f:QQ) (a h:dT Wx) (d b:Wy) (cs c:S Wy) (V W:Wj) (ρ:Ren),Mk ρ.F f=true->RVs ρ a h/\a.size=2->Rel P U G Y ρ {frame:=d,callers:=cs,status:=Qf,dying:=N} {frame:=b,callers:=c,status:=Qf,dying:=N} V W ->
  Dem P.alt (λg _=>NB [trap P.alt] g) T {frame:=Qi P.alt f a .normal,callers:=d::cs,status:=Qf,dying:=N} V ->
  (∀e V2,LSs P.alt T {frame:=Qi P.alt f a .normal,callers:=d::cs,status:=Qf,dying:=N} V e V2->qY P U G Y Post e V2) ->
  ∀ (gs:dT Wk) (sl:eV (H×H)) (t:Trace) (q:H->H),gs[0]?=J {frame:=Qi P f h .normal,callers:=b::c,status:=Qf,dying:=N}->Lv P (λ_=>gL) t gs q->Past i7 W.heap.size t->Fin P Post gs W sl t
omit [Two P]in
theorem RFs.Pn{x}{k'}(h:RFs P ρ ([x],[]) [x] k'):k'=[]:=by
 generalize b:(([x],[]):S Wy×S Wy)=X at h;generalize c:[x]=l at h;cases h with
 |base=>rw[<-b]
 |cons _ _ a=>
  subst b;generalize b:(([x],[]):S Wy×S Wy)=X at a;cases a with
  |base=>rw[<-b]at c;cases c
  |cons _ _ _=>cases c
theorem lQ B:∀ (t:Trace)(i:H)(fn:QQ)(a:jp)(es:dT Event),i≠0->¬(λ_:H=>gL) i->Past i7 B t->(∀e∈es,e.mute=Y)->Past i7 B (t++n8 i fn a es):=
 λ_ _ _ _ _ c _ h b=>h.mute c b
def Leaf(P:Wv) [Two P](U:Outer)(G:QQ->ey)(T:Wk->Wj->Prop)(Post:Wx->Wj->Prop):Prop:=
 ∀ (h g:Wk) (V W:Wj) (ρ:Ren),T h V->Rel P U G [] ρ h g V W->∀d,∃v es ρ' V' W',stepG P Y g (W.at d)=.ended (.done v) W' es/\Post v W'/\cg ρ' V' W'/\W.heap.size<=W'.heap.size/\∀e∈es,ku ρ' e
theorem sM(a:cg ρ V W){m:QY}(n:RC ρ c m){p l}{buf:dT Wx}{u v:ey}(L:c.chan=.chan (J r))(t:V.heap[r]?=J (.chan p buf u q' l v)):
  ∃j b e d f i,m.chan=.chan (J j)/\ρ r j/\W.heap[j]?=J (.chan b e d f i v)/\(ρ.loose=Y\/RVs ρ buf e)/\(ρ.wide=Y\/u=d)/\¬ρ.old r:=by
 have h:=n.chan;rw[L]at h;generalize m.chan=x at h;cases h with
 |chan h=>
  cases h with
  | @some _ j h=>
   obtain⟨o,o',s,D,F⟩:=a.obj _ _ h;rw[t]at s;cases s;cases F with
   |chan _ b _ d _ _ z G _ A q=>
    refine⟨j,b,_,d,z,G,Q,h,D,A,q,λk=>?_⟩;obtain⟨o,y,B⟩:=a.fix _ k;rw[t]at y;cases y;exact B
theorem zm(h:c.chan=.chan (J r))(hs:c.send=N):c=rcase r c.zero:=by
 obtain⟨a,b,z⟩:=c;subst h;subst hs;rfl
theorem C3{b:Outer}{Post:Wx->Wj->Prop}{G:QQ->ey}(n:Leaf P b G T Post):∀h V,T h V->qY P b G [] Post h V:=by
 have MP:∀ (gs:dT Wk) (g:Wk) (w:Wj),gs[0]?=J g->g.status=Qf->∀j o,(j=0\/gL)->gs[j]?=J o->o.again w=o:=λgs g w l hr j o u ho=>by
  rcases u with rfl|u;rw[l]at ho;cases ho;exact ta _ (Qc hr)
  grind
 have aa:∀ (gs:dT Wk) (g:Wk) (t:Trace) (q:H->H),gs[0]?=J g->g.status=Qf->Lv P (λ_=>gL) t gs q->∀x∈gs,awake x:=λgs g t q l hr z x hx=>by
  obtain⟨i,p,rfl⟩:=Qu.1 hx;rcases QD i with rfl|f;have:gs[0]=g:=by simpa[eG p]using l
  rw[this];exact vf (Qc hr);exact vf ((z.old i _ f (λk=>k) (eG p)).status.elim Qc λx=>Qd (Qd x))
 intro h V hT gs g W sl t q ρ l z hP c;obtain⟨a,hM⟩:∃a,sumTo gs.size q<=a:=⟨_,lR _⟩;induction a using QG generalizing gs W sl t q with
 |_ a ih=>
  have hr:=c.go.status.2;have⟨i,x,d,B,p,hx,A⟩:=xc (P:=P) (w:=W) (sl:=sl) (aa gs g t q l hr z) ⟨0,g,l,hr⟩;rcases QD i with rfl|f;obtain rfl:x=g:=by rw[l]at p;exact(oJ p).s
  have⟨v,es,ρ',V',W',he,r,F,ad,ab⟩:=n h x V W ρ hT c d;have D:=(hP.m ad).own (fn:=x.frame.fn) (pos:=x.frame.place) (λe he=>lO F (ab e he));refine Fin.last (A.t (Conc.runT_many_ended (P:=P) (sl:=B) (i:=0) p (show stepG P (0==0) x (W.at d)=_ from he))) ⟨v,Q,r,D.clean,D.over,⟨λy R=>?_,Q⟩,λj y R u=>?_⟩;have⟨j,u⟩:=List.mem_iff_getElem?.1 R;rw[List.getElem?_drop]at u;exact⟨_,(z.old (1+j) y (by omega) (λk=>k) (by simpa[crowd]using u)).leaves⟩;refine⟨q j,?_⟩;have e:(t++n8 0 x.frame.fn x.frame.place es).deaf j (t++n8 0 x.frame.fn x.frame.place es).size=Deaf t j:=
   uc t (g:=j) (g':=0) (by omega) _ (λop X=>by obtain⟨e,_,rfl⟩:=tb X;rfl)
  rw[e];exact(z.old j y (by omega) (λk=>k) R).hears _;obtain⟨ac,q',L,e1,e2,e3,e4,e5,e6,-⟩:=slip z hP (lQ W.heap.size) p hx f (λk=>k) (MP gs g _ l hr) A;exact Fin.next e1 (ih _ (by omega) ac (W.at d) B (t++L) q' ((e3 0 (Qc Q)).t l) e4 e5 ⟨c.go,⟨c.Mx.obj,c.Mx.fix,c.Mx.chan,c.Mx.os,c.Mx.ML⟩,c.gid,c.ext,c.calm,c.same,c.MP,c.quiet,c.o⟩ (lR _))
theorem Jh(hZ:ci P)(hN:cE P){b:Outer}{Post:Wx->Wj->Prop}{G:QQ->ey}{p:S Wy}(a7:∀h V,T h V->qY P b G p Post h V)(bn:xL P b G p T Post)(hD:Dem P.alt (λg _=>NB [trap P.alt] g) T h V):∀h2 V2,LSs P.alt T h V h2 V2->qY P b G p Post h2 V2:=by
 have MP:∀ (gs:dT Wk) (g:Wk) (w:Wj),gs[0]?=J g->g.status=Qf->∀j o,(j=0\/gL)->gs[j]?=J o->o.again w=o:=λgs g w h0 hr j o hj ho=>by
  rcases hj with rfl|hj;rw[h0]at ho;cases ho;exact ta _ (Qc hr)
  grind
 have b0:∀ (gs:dT Wk) (g:Wk) (t:Trace) (q:H->H),gs[0]?=J g->g.status=Qf->Lv P (λ_=>gL) t gs q->∀x∈gs,awake x:=λgs g t q h0 hr hL x hx=>by
  obtain⟨i,hi,rfl⟩:=Qu.1 hx;rcases QD i with rfl|a0;have:gs[0]=g:=by simpa[eG hi]using h0
  rw[this];exact vf (Qc hr);exact vf ((hL.old i _ a0 (λk=>k) (eG hi)).status.elim Qc λx=>Qd (Qd x))
 induction hD with
 | @stop h V hT=>
  intro h2 V2 hs;cases hs with
  |step bl _ _ _ _=>exact eW hT bl
  |refl=>exact a7 _ _ hT
 | @step h V bt hT bw hn a1=>
  intro h2 V2 hs;cases hs with
  |step bl τ d hl hs=>exact a1 τ d _ _ hl h2 V2 hs
  |refl=>
   intro gs g W sl t q ρ h0 hL hP B;obtain⟨l,hM⟩:∃l,sumTo gs.size q<=l:=⟨_,lR _⟩;induction l using QG generalizing gs W sl t q with
   |_ l ih=>
    have hr:=B.go.status.2;have⟨i,x,d,al,hi,hx,a3⟩:=xc (P:=P) (w:=W) (sl:=sl) (b0 gs g t q h0 hr hL) ⟨0,g,h0,hr⟩;rcases QD i with rfl|a0;obtain rfl:x=g:=by rw[h0]at hi;exact(oJ hi).s
    have z:cg ρ (V.on W.tape d) (W.at d):=⟨B.Mx.obj,B.Mx.fix,B.Mx.chan,B.Mx.os,B.Mx.ML⟩;have⟨h',V',ap⟩:=bw W.tape d;have L:=B.calm;rcases(jW hZ B.ext hN B.gid Y B.go (λe=>bt (B.go.callers.tail e)) z (λi=>Q)).rel with⟨-,ab⟩|⟨ai,D⟩|⟨f,ρ',a,a',fr,bx,cs,bp,u,u',es,a4,A⟩;cases ap with
    |go e bb a9=>
     have ab:=ab;rw[e]at ab;obtain⟨⟨_,_,e2,-⟩,-⟩:=ab
     grind
    |comm e _=>
     have ab:=ab;rw[e]at ab;exact ab.elim
    have ai:=ai;have aa:=ap;cases ap with
    | @go _ _ es e bb a9=>
     rw[ai]at e;have D:=D;rw[e]at D;generalize hy:stepG P Y x (W.at d)=y at D;cases D with
     | @go _ g' _ W' _ a4 ρ' R hg he=>
      obtain⟨av,a8,e1,e2,e3,e4,-,e6⟩:=sK hL hi (Qc Q) a3 (show stepG P (0==0) x (W.at d)=_ from hy);subst e2;exact Fin.next e1 (a1 W.tape d _ _ aa _ _ (.refl _ _) av g' W' al _ q ρ' e4 e6 ((hP.m (show W.heap.size<=W'.heap.size from R.Mr.size)).own (fn:=x.frame.fn) (pos:=x.frame.place) (λe k=>lO R.Mx (he e k))) ⟨hg,R.Mx,B.gid.m R.le,by rw[R.le.F];exact B.ext,by rw[R.le.F];exact L,R.le.F.t B.same,⟨R.le.loose.t B.MP.1,R.le.wide.t B.MP.2⟩,Quiet.reach (w:=V.on W.tape d) B.quiet L R,Kp.reach (w':=W.at d) B.o R⟩)
    | @comm h1 c sh V1 es _ _ e hc=>
     rw[ai]at e;have D:=D;rw[e]at D;generalize hy:stepG P Y x (W.at d)=y at D;cases D with
     | @comm _ g' _ c' hC _ b1 hrun _ W1 _ a4 ρ' R hg ar he _=>
      have ac:c.send=none:=by
       grind
      have a2:c'.send=none:=by
       rcases ar.send with⟨-,k⟩|⟨v,_,k,-⟩;exact k;rw[ac]at k;cases k
      have af:=Quiet.reach (w:=V.on W.tape d) B.quiet L R;have X:ρ'.loose=Z/\ρ'.wide=false:=⟨R.le.loose.t B.MP.1,R.le.wide.t B.MP.2⟩;have a6:∀op∈n8 0 x.frame.fn x.frame.place a4,op.act≠.mark .disable/\op.act≠.mark .enable:=λop aj=>by
       obtain⟨e,k,rfl⟩:=tb aj;have k:=he e k;obtain⟨b3,wr,sy⟩:=e;cases b3 with
       |mark m=>cases(show RMk m from k)<;>exact⟨by simp[Qm],by simp[Qm]⟩
       |goroutines=>exact k.elim
       |_=>cases wr<;>cases sy<;>exact⟨by simp[Qm],by simp[Qm]⟩
      have bd:∀ (g2:Wk) (W2:Wj) (u:Trace),runT P (crowd gs (W.at d) al) 0=(.next (crowd (gs.setIfInBounds 0 g2) W2 al),n8 0 x.frame.fn x.frame.place a4++u)->(∀op∈u,op.g=0/\dG W1.heap.size op.act)->W2.heap.size=W1.heap.size->Rel P b G p ρ' _ g2 _ W2->Fin P Post gs W sl t:=λg2 W2 u bs hu bo b2=>by
       refine Fin.next (a3.t bs) (a1 W.tape d _ _ aa _ _ (.refl _ _) (gs.setIfInBounds 0 g2) g2 W2 al _ q ρ' (by simp[((eS h0).1)]) ?_ ?_ b2)
       refine hL.put (λop aj=>?_) (by simp) (λj hj _=>by rw[sN (by omega)]);rcases Qp.1 aj with k|k;exact a6 op k;exact(hu op k).2.still;rw[<-Qq,bo];exact C0 ((hP.m (show W.heap.size<=W1.heap.size from R.Mr.size)).own (fn:=x.frame.fn) (pos:=x.frame.place) (λe k=>lO R.Mx (he e k))) hu
      cases hc with
      |send k1 k2 k3 k4=>rw[ac]at k2;cases k2
      |dead k1 k2 k3=>rw[ac]at k2;cases k2
      | @recv r bv MH be buf cl tm k1 k2 k3 k4=>
       exfalso;have⟨r',bi,a5,bq,s',q',m1,m2,m3,m4,m5,m6⟩:=sM R.Mx ar k1 k3;obtain⟨n,s0,q0,tm0,e0⟩:=af.2 r r' _ m2 k3 Q;cases e0;simp at k4
      | @shut r bv MH be tm k1 k2 k3=>
       have⟨r',bi,a5,bq,s',q',m1,m2,m3,m4,m5,m6⟩:=sM R.Mx ar k1 k3;obtain rfl:=m5.resolve_left (by rw[X.2];exactλh=>by cases h);obtain rfl:a5=#[]:=Array.eq_empty_of_size_eq_zero (by rw[<-(m4.resolve_left (by rw[X.1];exactλh=>by cases h)).size];rfl);have bk:=zm m1 a2;rw[bk]at hy;refine bd _ _ _ (yz (i:=0) hi (show stepG P (0==0) x (W.at d)=_ from hy) m3 (hL.alone r' Y)) (λop aj=>?_) Q ⟨?_,R.Mx,B.gid.m R.le,by rw[R.le.F];exact B.ext,by rw[R.le.F];exact L,R.le.F.t B.same,X,af,Kp.reach (w':=W.at d) B.o R⟩;simp at aj;subst aj;exact⟨Q,(R.Mx.lt m2).2⟩;rw[<-bk];exact ec hg ar sh b1 ar.zero Z
    have aa:=ap;have ho:=A.other;cases ap with
    |comm e _=>rw[ho]at e;cases e
    |go e bb a9=>
     rw[ho]at e;cases e;obtain⟨av,a8,e1,e2,e3,e4,-,e6⟩:=sK hL hi (Qc Q) a3 (show stepG P (0==0) x (W.at d)=_ from A.there);subst e2;have ad:=A.reach.le;refine Fin.next e1 (bn f a a' fr bx cs bp _ u' ρ' (by rw[ad.F];exact A.mark) A.args ⟨⟨A.frame,A.callers,A.kind,⟨Q,Q⟩,⟨Q,Q⟩,Q,Q⟩,A.reach.Mx,B.gid.m ad,by rw[ad.F];exact B.ext,by rw[ad.F];exact L,ad.F.t B.same,⟨ad.loose.t B.MP.1,ad.wide.t B.MP.2⟩,Quiet.reach (w:=V.on W.tape d) B.quiet L A.reach,Kp.reach (w':=W.at d) B.o A.reach⟩ (hn _ _ _ _ aa) (λh2 V2 hs=>a1 _ _ _ _ aa h2 V2 hs) av al _ q e4 e6 ((hP.m (show W.heap.size<=u'.heap.size from A.reach.Mr.size)).own (fn:=x.frame.fn) (pos:=x.frame.place) (λe k=>lO A.reach.Mx (A.ev e k))))
    obtain⟨av,q',a8,e1,e2,e3,e4,e5,e6,-⟩:=slip hL hP (lQ W.heap.size) hi hx a0 (λk=>k) (MP gs g _ h0 hr) a3;exact Fin.next e1 (ih _ (by omega) av (W.at d) al (t++a8) q' ((e3 0 (Qc Q)).t h0) e4 e5 ⟨B.go,⟨B.Mx.obj,B.Mx.fix,B.Mx.chan,B.Mx.os,B.Mx.ML⟩,B.gid,B.ext,B.calm,B.same,B.MP,B.quiet,B.o⟩ (lR _))
end
end
section
open Go.Conc (crowd Past EvL Deaf QuitsD woken awake crowd_pick runT_crowd_go rcase scase parked ph Knows Before touchAt touch_of touchAt_of getElem?_append_cases getElem?_append_old knows_own noRace_append lt_size_of_getElem?)
def Tk(ρ:Ren)(a:Touch):Prop:=
 match a.loc with
 | .cell b=>∃x,ρ x b.block/\(a.write=Y->¬ρ.old x)/\¬ρ.ch x
 | .obj r=>∃x,ρ x r/\(a.write=Y->¬ρ.old x)/\(a.kind≠.atomic->¬ρ.ch x)
 |_=>True
theorem Tk.m{ρ'}(l:ρ.le ρ'){a:Touch}(h:Tk ρ a):Tk ρ' a:=by
 obtain⟨d,wr,kd⟩:=a;cases d with
 |cell ad=>obtain⟨x,h1,b,c⟩:=h;exact⟨x,l _ _ h1,by rw[l.old];exact b,by rw[l.ch];exact c⟩
 |obj r=>obtain⟨x,h1,b,c⟩:=h;exact⟨x,l _ _ h1,by rw[l.old];exact b,by rw[l.ch];exact c⟩
 |_=>trivial
theorem LM(h:ku ρ e){a:Touch}(b:(Qm e).touch?=J a):Tk ρ a:=by
 obtain⟨c,wr,f⟩:=e;cases c with
 |cell ad=>
  simp[Qm,Qn]at b;subst b;exact h
 |obj r=>
  obtain⟨x,h1,i,d⟩:=h;cases wr<;>cases f<;>simp[Qm,Qn]at b<;>first|cases b;done|(subst b;exact⟨x,h1,i,λk=>d (by first|rfl|exact eW Q k)⟩)
 |mark m=>
  cases h<;>simp[Qm,Qn]at b
 |output=>
  simp[Qm,Qn]at b;subst b;trivial
 |goroutines=>exact h.elim
def Far(ρ ρ':Ren):Prop:=∀b x y,ρ x b->ρ' y b->(ρ.old x/\ρ'.old y)\/(ρ.ch x/\ρ'.ch y)
theorem Far.s{ρ'}(h:Far ρ ρ'):Far ρ' ρ:=λb x y h1 a=>(h b y x a h1).imp (λk=>⟨k.2,k.1⟩) (λk=>⟨k.2,k.1⟩)
theorem Far.no{ρ'}(h:Far ρ ρ'){a b:Touch}(j:Tk ρ a)(k:Tk ρ' b)(c:ey):¬a.conflicts c b:=by
 obtain⟨p,wa,ka⟩:=a;obtain⟨lb,wb,kb⟩:=b;rintro⟨h1,n,h3,h4⟩;subst h1;cases p with
 |cell ad=>
  obtain⟨x,e,q,l⟩:=j;obtain⟨y,f,o,m⟩:=k;rcases h _ x y e f with⟨d,i⟩|⟨d,-⟩
  grind
  exact l d
 |obj r=>
  obtain⟨x,e,q,l⟩:=j;obtain⟨y,f,o,m⟩:=k;rcases h _ x y e f with⟨d,i⟩|⟨d,i⟩
  grind
  grind
 |_=>simp[Loc.isMemory]at n
structure PhT (p q:H)(ρ ρ':Ren)(B:H)(t:Trace):Prop where
 ne:p≠q
 clean:∀said,¬Race said t
 kp:∀i a,touchAt t i=J a->a.loc.isMemory=Y->Knows t p i\/(t.g? i=J q/\Tk ρ' a)
 kq:∀i a,touchAt t i=J a->a.loc.isMemory=Y->Knows t q i\/(t.g? i=J p/\Tk ρ a)
 hp:Deaf t p=0
 hq:Deaf t q=0
 seen:∀op∈t,op.act.low B
section
variable {p q:Nat} {ρ ρ' ρ1:Ren} {B B':Nat} {t u:Trace}
theorem PhT.s(h:PhT p q ρ ρ' B t):PhT q p ρ' ρ B t:=⟨h.ne.s,h.clean,h.kq,h.kp,h.hq,h.hp,h.seen⟩
theorem g?_old{g}(h:t.g? i=J g):(t++u).g? i=J g:=by
 unfold Rt at h ⊢
 grind
theorem PhT.app(h:PhT p q ρ ρ' B t)(l:ρ.le ρ1)(hF:Far ρ1 ρ')(A:B<=B')(o:∀d∈u,d.g=p/\d.act.low B'/\(d.act≠.mark .disable/\d.act≠.mark .enable)/\∀a,d.act.touch?=J a->Tk ρ1 a):PhT p q ρ1 ρ' B' (t++u):=by
 refine⟨h.ne,λf=>wd (h.clean f) (λd c=>(o d c).1) (λi a r d c b D z=>?_),λi a r y=>?_,λi a r y=>?_,?_,?_,λd c=>?_⟩;rcases h.kp i a r z.2.1 with k|⟨-,k⟩;exact k;exact eW z (hF.s.no k ((o d c).2.2.2 b D) f);have⟨x,v,e⟩:=xv r;rcases sT v with⟨_,j⟩|⟨_,n⟩;exact(h.kp i a (by rw[xb j];exact e) y).imp (·.app u) (λk=>⟨g?_old k.1,k.2⟩);have:=knows_own v
 grind
 have⟨x,v,e⟩:=xv r;rcases sT v with⟨_,j⟩|⟨_,n⟩;exact(h.kq i a (by rw[xb j];exact e) y).imp (·.app u) (λk=>⟨g?_old k.1,k.2.m l⟩);exact Qd ⟨by simp[Rt,v,(o x n).1],(o x n).2.2.2 a e⟩;rw[ce t p u (λd c=>(o d c).2.2.1)];exact h.hp;rw[ce t q u (λd c=>(o d c).2.2.1)];exact h.hq;rcases Qp.1 c with k|k;exact Qo A (h.seen d k)
 grind
theorem A4(h:ku ρ e):Qm e≠.mark .disable/\Qm e≠.mark .enable:=by
 obtain⟨a,wr,b⟩:=e;cases a with
 |mark m=>cases(show RMk m from h)<;>exact⟨by simp[Qm],by simp[Qm]⟩
 |goroutines=>exact h.elim
 |_=>cases wr<;>cases b<;>exact⟨by simp[Qm],by simp[Qm]⟩
theorem lU(b:cg ρ V W){es:dT Event}(c:∀e∈es,ku ρ e)g(fn:QQ)(f:jp):∀d∈n8 g fn f es,d.g=g/\d.act.low W.heap.size/\(d.act≠.mark .disable/\d.act≠.mark .enable)/\∀a,d.act.touch?=J a->Tk ρ a:=λd i=>by
 obtain⟨e,h,rfl⟩:=tb i;exact⟨Q,(lO b (c e h)).2.2.2,A4 (c e h),λa j=>LM (c e h) j⟩
theorem xM{b:MemOp}(h:dG B b.act):b.act.low B/\(b.act≠.mark .disable/\b.act≠.mark .enable)/\∀a,b.act.touch?=J a->Tk ρ a:=⟨h.low,h.still,λa c=>by rw[h.none]at c;cases c⟩
theorem PhT.mute(h:PhT p q ρ ρ' B t){g}(h1:g≠p)(A:g≠q){fn:QQ}{j:jp}{es:dT Event}(m:∀e∈es,e.mute=Y):PhT p q ρ ρ' B (t++n8 g fn j es):=by
 have o:∀d∈n8 g fn j es,d.g=g/\d.act.touch?=N/\d.act.low B:=λd c=>by
  obtain⟨e,y,rfl⟩:=tb c;exact⟨Q,PU (m e y),PW (m e y) B⟩
 generalize n8 g fn j es=u at o;refine⟨h.ne,λn=>wd (h.clean n) (λd c=>(o d c).1) (λi a r d c b z hc=>by rw[(o d c).2.1]at z;cases z),λi a r m=>?_,λi a r m=>?_,?_,?_,λd c=>?_⟩;have⟨x,v,l⟩:=xv r;rcases sT v with⟨_,f⟩|⟨_,s⟩;exact(h.kp i a (by rw[xb f];exact l) m).imp (·.app u) (λk=>⟨g?_old k.1,k.2⟩)
 grind
 have⟨x,v,l⟩:=xv r;rcases sT v with⟨_,f⟩|⟨_,s⟩;exact(h.kq i a (by rw[xb f];exact l) m).imp (·.app u) (λk=>⟨g?_old k.1,k.2⟩)
 grind
 rw[uc t h1 u (λd c=>(o d c).1)];exact h.hp;rw[uc t A u (λd c=>(o d c).1)];exact h.hq;rcases Qp.1 c with k|k;exact h.seen d k
 grind
theorem PhT.start(h:Past i7 B t){k}(D:k≠0)(u:Deaf t k=0){x y:MemOp}(q:x.g=0/\x.act=.go k)(o:y.g=k/\y.act=.start):PhT 0 k ρ ρ' B (t++#[x,y]):=by
 have v:∀d∈(#[x,y]:Trace),d.act.touch?=N/\d.act.low B/\(d.act≠.mark .disable/\d.act≠.mark .enable):=λd c=>by
  simp at c;rcases c with rfl|rfl;rw[q.2];exact⟨Q,trivial,by simp,by simp⟩;rw[o.2];exact⟨Q,trivial,by simp,by simp⟩
 have e:t++#[x,y]=(t++#[x])++#[y]:=by grind
 have l:∀i a,touchAt (t++#[x,y]) i=J a->touchAt t i=J a:=λi a j=>by
  have⟨z,F,p⟩:=xv j;rcases sT F with⟨_,r⟩|⟨_,hzu⟩;rw[xb r];exact p
  grind
 have f:=λi a j m=>(h.known i a j m).resolve_right (λk=>k.1)
 refine⟨D.s,λn=>?_,λi a j m=>Qc ((f i a (l i a j) m).app _),λi a j m=>Qc (ConcN.fork_knows q o h.hears u (f i a (l i a j) m)),?_,?_,λd c=>?_⟩;rw[e];refine wd (g:=k) (wd (g:=0) (h.clean n) (λd c=>by simp at c;subst c;exact q.1) (λi a _ d c b A _=>?_)) (λd c=>by simp at c;subst c;exact o.1) (λi a _ d c b A _=>?_)
 grind
 grind
 rw[ce t 0 _ (λd c=>(v d c).2.2)];exact h.hears;rw[ce t k _ (λd c=>(v d c).2.2)];exact u;rcases Qp.1 c with k|k;exact h.seen d k
 grind
structure PhC (c pc:H)(ρ':Ren)(B:H)(t:Trace):Prop where
 clean:∀said,¬Race said t
 k0:∀i a,touchAt t i=J a->a.loc.isMemory=Y->Knows t 0 i\/(Before t i pc/\Tk ρ' a)
 act:t.act? pc=J (.close c)
 heard:t.heard pc
 h0:Deaf t 0=0
 seen:∀op∈t,op.act.low B
variable {c pc:Nat}
theorem py(h:t.heard i):(t++u).heard i:=by
 obtain⟨g,h1,a⟩:=h;have hi:i<t.size:=by
  unfold Rt at h1
  grind
 exact⟨g,g?_old h1,by rw[PQ (by omega)];exact a⟩
theorem act?_keep(h:t.act? i=J a):(t++u).act? i=J a:=by rw[Conc.act?_old (Conc.lt_of_act? h)];exact h
theorem PhT.close(h:PhT 0 q ρ ρ' B t){y:MemOp}(f:y.g=q/\y.act=.close c)(v:c<B):PhC c t.size ρ' B (t++#[y]):=by
 have e:(t++#[y])[t.size]?=J y:=by grind
 refine⟨λm=>wd (g:=q) (h.clean m) (λo d=>by simp at d;subst d;exact f.1) (λi a _ o d b p _=>by simp at d;subst d;rw[f.2]at p;cases p),λi a u s=>?_,by rw[PX e,f.2],⟨q,by simp[Rt,f.1],by rw[PQ (lR _)];exact h.hq⟩,?_,λo d=>?_⟩;have⟨x,r,j⟩:=xv u;rcases sT r with⟨z,l⟩|⟨_,n⟩;rcases h.kp i a (by rw[xb l];exact j) s with k|⟨k1,k2⟩;exact Qc (k.app _);refine Qd ⟨Qd (Conc.hb_po z r e ?_),k2⟩;have:x.g=q:=by simpa[Rt,l]using k1
 grind
 simp at n;subst n;rw[f.2]at j;cases j;rw[ce t 0 _ (λo d=>by simp at d;subst d;rw[f.2];exact⟨by simp,by simp⟩)];exact h.hp;rcases Qp.1 d with k|k;exact h.seen o k;simp at k;subst k;rw[f.2];exact v
theorem PhC.app(h:PhC c pc ρ' B t)(hF:Far ρ1 ρ')(r:B<=B')(m:∀e∈u,e.g=0/\e.act.low B'/\(e.act≠.mark .disable/\e.act≠.mark .enable)/\∀a,e.act.touch?=J a->Tk ρ1 a):PhC c pc ρ' B' (t++u):=by
 refine⟨λf=>wd (h.clean f) (λe d=>(m e d).1) (λi a l e d b v o=>?_),λi a l q=>?_,act?_keep h.act,py h.heard,?_,λe d=>?_⟩;rcases h.k0 i a l o.2.1 with k|⟨-,k⟩;exact k;exact eW o (hF.s.no k ((m e d).2.2.2 b v) f);have⟨x,p,n⟩:=xv l;rcases sT p with⟨_,j⟩|⟨_,hxu⟩;exact(h.k0 i a (by rw[xb j];exact n) q).imp (·.app u) (λk=>⟨k.1.app u,k.2⟩);have:=knows_own p
 grind
 rw[ce t 0 u (λe d=>(m e d).2.2.1)];exact h.h0;rcases Qp.1 d with k|k;exact Qo r (h.seen e k)
 grind
theorem PhC.mute(h:PhC c pc ρ' B t){g}(h1:g≠0){fn:QQ}{j:jp}{es:dT Event}(m:∀e∈es,e.mute=Y):PhC c pc ρ' B (t++n8 g fn j es):=by
 have n:∀f∈n8 g fn j es,f.g=g/\f.act.touch?=N/\f.act.low B:=λf d=>by
  obtain⟨e,q,rfl⟩:=tb d;exact⟨Q,PU (m e q),PW (m e q) B⟩
 generalize n8 g fn j es=u at n;refine⟨λl=>wd (h.clean l) (λf d=>(n f d).1) (λi a r f d b s hc=>by rw[(n f d).2.1]at s;cases s),λi a r m=>?_,act?_keep h.act,py h.heard,?_,λf d=>?_⟩;have⟨x,v,p⟩:=xv r;rcases sT v with⟨_,o⟩|⟨_,hxu⟩;exact(h.k0 i a (by rw[xb o];exact p) m).imp (·.app u) (λk=>⟨k.1.app u,k.2⟩)
 grind
 rw[uc t h1 u (λf d=>(n f d).1)];exact h.h0;rcases Qp.1 d with k|k;exact h.seen f k
 grind
theorem PhC.done(h:PhC c pc ρ' B t){y:MemOp}(l:y.g=0/\y.act=.recvClosed c)(L:c<B):Past i7 B (t++#[y]):=by
 have f:(t++#[y])[t.size]?=J y:=by grind
 have e:∀i a,touchAt (t++#[y]) i=J a->a.loc.isMemory=Y->Knows (t++#[y]) 0 i:=λi a r p=>by
  have⟨x,G,m⟩:=xv r;rcases sT G with⟨_,u⟩|⟨_,o⟩;rcases h.k0 i a (by rw[xb u];exact m) p with k|⟨k,-⟩;exact k.app _;exact⟨t.size,y,f,l.1,(k.app _).t (Qd (.single (Qd ⟨.closed (act?_keep h.act) (by rw[PX f,l.2]),py h.heard,⟨0,by simp[Rt,l.1],by rw[PQ (lR _)];exact h.h0⟩⟩)))⟩;simp at o;subst o;rw[l.2]at m;cases m
 refine⟨λq=>wd (g:=0) (h.clean q) (λs d=>by simp at d;subst d;exact l.1) (λi a _ s d b n _=>by simp at d;subst d;rw[l.2]at n;cases n),λi a r p=>Qc (e i a r p),λi g F hne v=>?_,?_,λs d=>?_⟩;obtain⟨a,r,p,-⟩:=v;have⟨j,z,D,A,n⟩:=e i a r p;refine⟨j,by unfold Rt;rw[D];exact g6 J A,?_⟩;rcases n with rfl|n;rw[Rt,D]at F
 grind
 exact n;rw[ce t 0 _ (λs d=>by simp at d;subst d;rw[l.2];exact⟨by simp,by simp⟩)];exact h.h0;rcases Qp.1 d with k|k;exact h.seen s k;simp at k;subst k;rw[l.2];exact L
end
end
section
open Go.Conc (crowd Past EvL Deaf QuitsD woken awake crowd_pick runT_crowd_go rcase scase parked ph)
theorem A5 p g(h:g.callers≠[])w:stepG p Y g w=stepG p Z g w:=by
 obtain⟨a,cs,st,dy,of⟩:=g;cases cs with
 |nil=>exact eW Q h
 |cons c cs=>
  have b:∀ (d:eV Dying) (v:Wx) (u:Wj),QS p Y a (c::cs) d v u=QS p Z a (c::cs) d v u:=λd v u=>Q
  have f:∀ (d:eV Dying),unwind p Y a (c::cs) d w=unwind p Z a (c::cs) d w:=λd=>by
   unfold unwind;simp[b]
  have e:∀ (d:eV Dying),stepG.exec p Y Y a (c::cs) d w=stepG.exec p Z Y a (c::cs) d w:=λd=>by
   unfold stepG.exec;simp[b]
  simp[stepG,f,e]
def Flat(v:Wx):Prop:=∀ρ,RV ρ v v/\∀a,RV ρ v a->a=v
structure Side (P:Wv) [Two P](X:S Wy×S Wy)(ρ:Ren)(h g:Wk)(V W:Wj)(cV c:H)(L:S Wx):Prop where
 go:RGo P ρ X h g
 Mx:cg ρ V W
 gid:GId P ρ
 ext:ij P ρ.F
 calm:ρ.F iF=Z/\ρ.F nA=Z
 loose:ρ.loose=Y/\ρ.wide=Y
 ch:ρ.ch cV
 pair:ρ cV c
 row:∃n b s q tm,V.heap[cV]?=J (.chan n b Y s q tm)/\b.toList=L
structure Snd (P:Wv) [Two P](X:S Wy×S Wy)(ρ:Ren)(h g:Wk)(V W:Wj)(cs c:H)(L:S Wx):Prop where
 go:RGo P ρ X h g
 Mx:cg ρ V W
 gid:GId P ρ
 ext:ij P ρ.F
 calm:ρ.F KG=Z/\ρ.F nA=Z
 Nb:∀f,¬Mk ρ.F f=Y
 loose:ρ.loose=Y/\ρ.wide=Z
 ch:∀x,ρ.ch x↔x=cs
 pair:ρ cs c
 row:∃n b s q tm,V.heap[cs]?=J (.chan n b Z s q tm)/\b.toList=L
 only:∀ (a n:H) b s q tm,V.heap[a]?=J (.chan n b Z s q tm)->a=cs
section
variable {P:Wv} [Two P] {X:lj Wy×lj Wy} {ρ:Ren} {h g h':Wk} {V V' W:Wj} {cV c:Nat} {L:lj Wx}
omit [Two P]in
theorem RFs.OA{X}{l k'}(h:RFs P ρ X l k'):X.1.length<=l.length:=by
 induction h with
 |base=>exact lR _
 |cons _ _ _ ih=>simp only[lC];omega
theorem pz(z:ci P)(G:cE P)(m:ey)(n:RGo P ρ X h g)(y:Base X h.frame g.callers)(a:cg ρ V W)(v:GId P ρ)(hE:ij P ρ.F)d(q:stepG P.alt m h (V.on W.tape d)=stepG P.alt Y h (V.on W.tape d))(x:LS P.alt h (V.on W.tape d) h' V')(o:∀f B p l L r,Mk ρ.F f=Y->stepG P m g (W.at d)=.go {frame:=Qi P f B .normal,callers:=p::l,status:=Qf,dying:=N} L r->gL):
  stepG P m h (V.on W.tape d)=stepG P.alt Y h (V.on W.tape d)/\ez P ρ X (V.on W.tape d) (W.at d) (stepG P.alt Y h (V.on W.tape d)) (stepG P m g (W.at d)):=by
 have S':cg ρ (V.on W.tape d) (W.at d):=⟨a.obj,a.fix,a.chan,a.os,a.ML⟩;have D:=jW z hE G v m n y S' (λi=>Q);rcases D.rel with⟨-,b⟩|⟨c,j⟩|⟨f,_,_,_,_,_,_,_,_,_,_,_,A⟩
 .exfalso;have b:Lost (stepG P.alt m h (V.on W.tape d)):=b;rw[q]at b;cases x with
  |go e hr2 k=>
   rw[e]at b;obtain⟨⟨_,_,u,-⟩,-⟩:=b;rw[k]at u;cases u
  |comm e _=>rw[e]at b;exact b.elim
 .have c:stepG P.alt m h (V.on W.tape d)=stepG P m h (V.on W.tape d):=c;have j:ez P ρ X (V.on W.tape d) (W.at d) (stepG P m h (V.on W.tape d)) (stepG P m g (W.at d)):=j;rw[<-c,q]at j;exact⟨c.s.t q,j⟩
 .exact (o f _ _ _ _ _ A.mark A.there).elim
theorem oA(l:ci P)(n:cE P)(m:ey)(b:RGo P ρ X h g)(k:Base X h.frame g.callers)(a:cg ρ V W)(i:GId P ρ)(hE:ij P ρ.F)(c:∀f,¬Mk ρ.F f=Y)d(e:stepG P.alt m h (V.on W.tape d)=stepG P.alt Y h (V.on W.tape d))(j:LS P.alt h (V.on W.tape d) h' V'):
  stepG P m h (V.on W.tape d)=stepG P.alt Y h (V.on W.tape d)/\ez P ρ X (V.on W.tape d) (W.at d) (stepG P.alt Y h (V.on W.tape d)) (stepG P m g (W.at d)):=
 pz l n m b k a i hE d e j (λf _ _ _ _ _ h _=>c f h)
omit [Two P]in
theorem cg.other(d:cg ρ V W){W'}{m}(r:ρ m i)(p:W'.os=W.os)(hs:∀x b,ρ x b->b≠i->W'.heap[b]?=W.heap[b]?)(A:∀o h,V.heap[m]?=J o->W.heap[i]?=J h->RO ρ o h->∃k,W'.heap[i]?=J k/\RO ρ o k)(n:∀c e z,V.heap[m]?≠J (E c e z)):cg ρ V W':=by
 refine⟨λa b f=>?_,d.fix,d.chan,p.t d.os,λj a B v=>?_⟩
 rotate_left
 .have ⟨b,f,u⟩:=d.ML j a B v;refine⟨b,f,u.same Q (hs a b f (λe=>?_))⟩;subst e;obtain rfl:=ρ.inj _ _ _ f r;obtain⟨c,t,z,_,_,l,-⟩:=u;exact n c t z l
 have⟨o,h,h1,q,s⟩:=d.obj a b f;by_cases j:b=i
 .subst j;obtain rfl:=ρ.inj _ _ _ f r;have⟨k,l,y⟩:=A o h h1 q s;exact⟨o,k,h1,l,y⟩
 .exact ⟨o,h,h1,by rw[hs a b f j];exact q,s⟩
def mF(W:Wj)(c n:H)(b:S Wx)(cl:ey)(s q:H)(tm:ey):Prop:=∃a,W.heap[c]?=J (.chan n a cl s q tm)/\a.toList=b
theorem Side.O6(a:Side P X ρ h g V W cV c L):∃n b f s q e,mF W c n b f s q e:=by
 have⟨n,b,s,q,e,h1,h2⟩:=a.row;obtain⟨o,o',d,i,j⟩:=a.Mx.obj _ _ a.pair;rw[h1]at d;cases d;cases j with
 |chan=>exact⟨_,_,_,_,_,_,_,i,Q⟩
theorem Side.other(d:Side P X ρ h g V W cV c L){W'}(f:W'.os=W.os)(hs:∀x b,ρ x b->b≠c->W'.heap[b]?=W.heap[b]?){m}{u}{j:ey}{s p v}{tm:ey}(h1:mF W c n b cl s q tm)(i:mF W' c m u j p v tm):Side P X ρ h g V W' cV c L:=by
 obtain⟨a,h1,-⟩:=h1;obtain⟨a',i,-⟩:=i;refine⟨d.go,d.Mx.other d.pair f hs (λo o' l e t=>?_) (λ_ _ _ k=>by obtain⟨_,_,_,_,_,e,-⟩:=d.row;rw[e]at k;cases k),d.gid,d.ext,d.calm,d.loose,d.ch,d.pair,d.row⟩;rw[h1]at e;cases e;refine⟨_,i,?_⟩;cases t with
 |chan=>exact .chan _ _ _ _ _ _ _ _ _ (Qc d.loose.1) (Qc d.loose.2)
 |dead=>obtain⟨_,_,_,_,_,k,-⟩:=d.row;rw[k]at l;cases l
theorem Snd.O6{cs}(a:Snd P X ρ h g V W cs c L):∃n b s q e,mF W c n b Z s q e:=by
 have⟨n,b,s,q,e,h1,h2⟩:=a.row;obtain⟨o,o',d,f,i⟩:=a.Mx.obj _ _ a.pair;rw[h1]at d;cases d;cases i with
 |chan _ _ _ cl' _ _ _ _ _ hb j=>
  obtain rfl:=j.resolve_left (by rw[a.loose.2];exactλh=>by cases h);exact⟨_,_,_,_,_,_,f,Q⟩
theorem Snd.other{cs}(d:Snd P X ρ h g V W cs c L){W'}(f:W'.os=W.os)(hs:∀x b,ρ x b->b≠c->W'.heap[b]?=W.heap[b]?){l}{r}{s m t}{tm:ey}(h1:mF W c n b Z s q tm)(i:mF W' c l r Z m t tm):Snd P X ρ h g V W' cs c L:=by
 obtain⟨a,h1,-⟩:=h1;obtain⟨a',i,-⟩:=i;refine⟨d.go,d.Mx.other d.pair f hs (λo o' j e p=>?_) (λ_ _ _ k=>by obtain⟨_,_,_,_,_,e,-⟩:=d.row;rw[e]at k;cases k),d.gid,d.ext,d.calm,d.Nb,d.loose,d.ch,d.pair,d.row,d.only⟩;rw[h1]at e;cases e;refine⟨_,i,?_⟩;cases p with
 |chan _ _ _ _ _ _ _ _ _ hb u=>exact .chan _ _ _ _ _ _ _ _ _ (Qc d.loose.1) u
 |dead=>obtain⟨_,_,_,_,_,k,-⟩:=d.row;rw[k]at j;cases j
theorem Side.stays(d:Side P X ρ h g V W cV c L){W'}(e:W'.os=W.os)(hs:∀x b,ρ x b->b≠c->W'.heap[b]?=W.heap[b]?)(i:W'.heap[c]?=W.heap[c]?):Side P X ρ h g V W' cV c L:=by
 have⟨n,b,cl,s,q,tm,a,h1,f⟩:=d.O6;exact d.other e hs ⟨a,h1,f⟩ ⟨a,i.t h1,f⟩
theorem Snd.stays{cs}(d:Snd P X ρ h g V W cs c L){W'}(e:W'.os=W.os)(hs:∀x b,ρ x b->b≠c->W'.heap[b]?=W.heap[b]?)(i:W'.heap[c]?=W.heap[c]?):Snd P X ρ h g V W' cs c L:=by
 have⟨n,b,s,q,tm,a,h1,f⟩:=d.O6;exact d.other e hs ⟨a,h1,f⟩ ⟨a,i.t h1,f⟩
end
end
section
open Go.Conc (crowd Past EvL Deaf QuitsD woken awake crowd_pick runT_crowd_go rcase scase parked ph)
section
variable {P:Wv} [Two P] {X:lj Wy×lj Wy} {ρ:Ren} {h1 g1 h:Wk} {V1 V W W':Wj} {cV c:Nat} {L:lj Wx} {cc:CommCase} {v z:Wx} {sh:CommShape}
theorem Side.NF(a:Side P X ρ h1 g1 V1 W cV c L)(b:RC ρ cc (rcase c z)):cc.send=N/\(cc.chan=.chan (J cV)\/cc.chan=Qb #[]):=by
 refine⟨?_,?_⟩;rcases b.send with⟨k,-⟩|⟨_,_,-,k,-⟩;exact k;cases k;have:=b.chan;simp only[rcase]at this;generalize cc.chan=x at this;cases this with
 |chan k=>
  cases k with
  |some k=>exact Qc (by rw[ρ.inj _ _ _ k a.pair])
 |dead=>exact Qd Q
theorem Side.take(d:Side P X ρ h1 g1 V1 W cV c (v::L))(t:RC ρ cc (rcase c z))(af:∃ok,sh=.recv ok)(ad:LC P.alt h1 cc sh V1 h V)(hv:Flat v)(ai:W'.os=W.os)(hs:∀b,b≠c->W'.heap[b]?=W.heap[b]?){b'}{tm:ey}{s}(F:mF W c n b cl s q A)(G:mF W' c n' b' tm s' q' A):
  Side P X ρ h (g1.finishComm P #[rcase c z] sh 0 v Y) V W' cV c L:=by
 have⟨l,e⟩:=d.NF t;have⟨n0,i,s0,q0,j,T,e2⟩:=d.row;have S2:=d.other ai (λ_ b _ hb=>hs b hb) F G;cases ad with
 |send D p x k4=>rw[l]at p;cases p
 |dead D p x=>rw[l]at p;cases p
 | @shut r ab MH B A D p x=>
  grind
 | @recv r ab MH B buf cl A D p x k4=>
  rw[D]at e;rcases e with e|e;cases e;rw[T]at x;cases x;have ac:i.getD 0 Wo=v:=by
   rw[gD,<-gT,e2];rfl
  have aa:(i.extract 1 i.size).toList=L:=by
   have hl:i.toList.length=i.size:=lY;rw[Qx,e2]at *
   grind
  refine⟨?_,?_,d.gid,d.ext,d.calm,d.loose,d.ch,d.pair,⟨_,_,_,_,_,sS ((d.Mx.lt d.pair).1),aa⟩⟩;rw[ac];exact ec d.go t sh (Qd ⟨l,af⟩) (hv ρ).1 Y;obtain⟨a',G,-⟩:=G;have f:=S2.Mx.put d.pair (o:=.chan n0 (i.extract 1 i.size) Y s0 (q0+1) j) (o':=.chan n' a' tm s' q' _) (.chan _ _ _ _ _ _ _ _ _ (Qc d.loose.1) (Qc d.loose.2)) (λy=>by
   obtain⟨o,u,R⟩:=d.Mx.fix _ y;rw[T]at u;cases u;exact R) (λ_=>Q) (λ_ _ _ k=>by rw[T]at k;cases k)
  have aj:j=A:=by
   obtain⟨o,o',u,R,f3⟩:=d.Mx.obj _ _ d.pair;obtain⟨a,F,-⟩:=F;rw[T]at u;cases u;rw[F]at R;cases R;cases f3;rfl
  subst aj;have hlt':=(eS G).1;have e3:W'.heap.setIfInBounds c (.chan n' a' tm s' q' j)=W'.heap:=by
   grind
  rw[e3]at f;exact f;cases e
theorem Side.nothing(a:Side P X ρ h1 g1 V1 W cV c [])(f:RC ρ cc (rcase c z))(l:∃o,sh=.recv o)(k:LC P.alt h1 cc sh V1 h V):Side P X ρ h (g1.finishComm P #[rcase c z] sh 0 z Z) V W cV c []:=by
 have⟨e,b⟩:=a.NF f;have⟨n0,p,s0,q0,tm0,n,q⟩:=a.row;cases k with
 |send j d i m=>rw[e]at d;cases d
 |dead j d i=>rw[e]at d;cases d
 |recv j d i m=>
  rw[j]at b;rcases b with b|b;cases b;rw[n]at i;cases i;have:p=#[]:=Qs.1 (by simpa using q);rw[this]at m;simp at m;cases b
 |shut j d i=>exact⟨ec a.go f sh (Qd ⟨e,l⟩) f.zero Z,a.Mx,a.gid,a.ext,a.calm,a.loose,a.ch,a.pair,a.row⟩
end
section
variable {P:Wv} [Two P] {X:lj Wy×lj Wy} {ρ:Ren} {h1 g1 h:Wk} {V1 V W W':Wj} {cs c:Nat} {L:lj Wx} {cc:CommCase} {v z:Wx}
theorem Snd.NF(a:Snd P X ρ h1 g1 V1 W cs c L)(b:RC ρ cc (scase c v z)):(∃d,cc.send=J d/\RV ρ d v)/\(cc.chan=.chan (J cs)\/cc.chan=Qb #[]):=by
 refine⟨?_,?_⟩;rcases b.send with⟨-,k⟩|⟨d,v1,k,f,e⟩;cases k;cases f;exact⟨d,k,e⟩;have:=b.chan;simp only[scase]at this;generalize cc.chan=x at this;cases this with
 |chan k=>
  cases k with
  |some k=>exact Qc (by rw[ρ.inj _ _ _ k a.pair])
 |dead=>exact Qd Q
theorem Snd.push(d:Snd P X ρ h1 g1 V1 W cs c L)(m:RC ρ cc (scase c v z))(aa:LC P.alt h1 cc .send V1 h V)(ab:W'.os=W.os)(hs:∀b,b≠c->W'.heap[b]?=W.heap[b]?){G}{b'}{s}{x:ey}(B:mF W c n b Z s q x)(r2:mF W' c G b' Z n' q' x):
  ∃y,RV ρ y v/\Snd P X ρ h (g1.finishComm P #[scase c v z] .send 0 Wo Z) V W' cs c (L++[y]):=by
 have⟨⟨y,i,T⟩,e⟩:=d.NF m;have⟨n0,b0,s0,q0,f,F,e2⟩:=d.row;have S2:=d.other ab (λ_ b _ hb=>hs b hb) B r2;cases aa with
 |recv A j t k4=>rw[i]at j;cases j
 |shut A j t=>rw[i]at j;cases j
 |dead A j t=>
  grind
 | @send r cap MH rcvd buf tm1 v1 A j t k4=>
  rw[i]at j;cases j;rw[A]at e;rcases e with e|e;cases e;rw[F]at t;cases t;refine⟨y,T,?_,?_,d.gid,d.ext,d.calm,d.Nb,d.loose,d.ch,d.pair,⟨_,_,_,_,_,sS ((d.Mx.lt d.pair).1),by simp[e2]⟩,λa n b s q x ho=>?_⟩;exact ec d.go m .send (Qc ⟨by rw[i];rfl,Q⟩) dD Z;obtain⟨a',r2,-⟩:=r2;have htm:f=x:=by
   obtain⟨o,o',p,D,f3⟩:=d.Mx.obj _ _ d.pair;obtain⟨a,B,-⟩:=B;rw[F]at p;cases p;rw[B]at D;cases D;cases f3;rfl
  have l:=S2.Mx.put d.pair (o:=.chan n0 (b0.push y) Z (s0+1) q0 f) (o':=.chan G a' Z n' q' f) (.chan _ _ _ _ _ _ _ _ _ (Qc d.loose.1) (Qd Q)) (λu=>by
   obtain⟨o,p,D⟩:=d.Mx.fix _ u;rw[F]at p;cases p;exact D) (λ_=>Q) (λ_ _ _ k=>by rw[F]at k;cases k)
  have e3:W'.heap.setIfInBounds c (.chan G a' Z n' q' f)=W'.heap:=by
   grind
  rw[e3]at l;exact l;by_cases ha:cs=a
  grind
  simp[sN ha]at ho;exact d.only a n b s q x ho;cases e
end
structure PhD (P:Wv) where
 T:Wk->Wj->Prop
 Nr:Wk->Wj->Prop
 Tr:Wk->Wj->Prop
 Ns:Wk->Wj->Prop
 Ts:Wk->Wj->Prop
 h0:Wk
 V0:Wj
 k:H
 c:H
 cV:H
 cr:H
 cs:H
 X:S Wy×S Wy
 Bs:S Wy
 L:S Wx
 R0:H->H->Prop
 Fp:FuncId->ey
 Fr:FuncId->ey
 bo:H
 U:Outer
variable {P:Wv} [Two P] (D:PhD P)
def fD(W:Wj)(c n:H)(b:dT Wx)(s q:H)(tm:ey):Wj:=W.setChan c n b Y s q tm
structure C4 (D:PhD P)(ρ:Ren)(V W:Wj):Prop where
 base:(∀a b,D.R0 a b->ρ a b)/\ρ.F=D.Fp
 all:∀a b o,ρ a b->V.heap[a]?=J o->o.isChan=Y->ρ.ch a
 rest:∀a b,ρ.ch a->ρ a b->a≠D.cV->∃n s q tm n' s' q',V.heap[a]?=J (.chan n #[] Y s q tm)/\W.heap[b]?=J (.chan n' #[] Y s' q' tm)
structure zo (P:Wv) [Two P](D:PhD P)(Post:Wx->Wj->Prop):Prop where
 zero:ci P
 count:cE P
 mark:∀f,Mk D.Fp f=Y->∀fn b,P.funcs[f]?=J fn->fn.body=J b->aM P D.Fr b=Z
 k0:D.k≠0
 flat:∀v∈D.L,Flat v
 deep:2<=D.X.1.length
 OY:∀h V,D.T h V->h.callers.length<=1
 nr:∀h V,D.Nr h V->NB [trap P.alt] h
 tr:∀h V,D.Tr h V->NB [trap P.alt] h/\(∀n b s q tm,V.heap[D.cr]?=J (.chan n b Y s q tm)->b.toList=[])/\∀τ d,∃h1 cc s V1 es h' V',stepG P.alt Y h (V.on τ d)=.comm h1 #[cc] Y s V1 es/\LC P.alt h1 cc s V1 h' V'
 ns:∀h V,D.Ns h V->NB [trap P.alt] h
 bs:D.Bs≠[]
 grow:∀h V τ d h' V',D.Ns h V->LS P.alt h (V.on τ d) h' V'->∀n b cl s q tm,V.heap[D.cs]?=J (.chan n b cl s q tm)->∃n' b' cl' s' q' tm',V'.heap[D.cs]?=J (.chan n' b' cl' s' q' tm')/\((b.toList <+:b'.toList/\(cl=Y->cl'=Y))\/cl'=Y)
 ts:∀h V,D.Ts h V->∀n b cl s q tm,V.heap[D.cs]?=J (.chan n b cl s q tm)->cl=Z/\b.toList=D.L
 close:∀h V ρ g W,D.Ts h V->Snd P ([trap P.alt],D.Bs) ρ h g V W D.cs D.c D.L->∀n b s q tm,W.heap[D.c]?=J (.chan n b Z s q tm)->∃g',mayWake P g=Y/\g'.status=Qf/\stepG P Z g W=.go g' (fD W D.c n b s q tm) #[⟨.obj D.c,Z,Y⟩,⟨.obj D.c,Y,Y⟩]/\∃m,QuitsD P m 0 g'
 fin:∀ρ h g V W n s q tm gs sl t qs,Side P D.X ρ h g V W D.cV D.c []->C4 D ρ V W->Kp D.U W/\Off D.U ρ->W.heap[D.c]?=J (.chan n #[] Y s q tm)->LSs P.alt D.T D.h0 D.V0 h V->gs[0]?=J g->Lv P (λ_=>gL) t gs qs->Past i7 W.heap.size t->Fin P Post gs W sl t
section
variable {D} {Post:Wx->Wj->Prop}
theorem zo.pre(a:zo P D Post){h}{V}(l:Dem P.alt D.Ns D.Ts h V):∀n b c s q d,V.heap[D.cs]?=J (.chan n b c s q d)->c=Z/\b.toList <+:D.L:=by
 induction l with
 |stop f=>
  intro n b c s q d hr;obtain⟨h1,j⟩:=a.ts _ _ f n b c s q d hr
  grind
 | @step g w k f e _ ih=>
  intro n b c s q d hr;have⟨h',V',i⟩:=e w.tape w.drawn;obtain⟨n',b',cl',s',q',tm',h1,j⟩:=a.grow g w _ _ h' V' k i n b c s q d hr
  grind
end
end
section
open Go.Conc (crowd Past EvL Deaf QuitsD woken awake crowd_pick runT_crowd_go rcase scase parked ph)
section
variable {P:Wv} {gs:dT Wk} {w w₁:Wj} {sl:eV (Nat×Nat)} {i j:Nat} {g g₂ gj:Wk} {es:dT Event} {shape shj:CommShape} {blocking:ey}
 {c cap s r:Nat} {buf:dT Wx} {closed tm:ey} {v z zj:Wx}
theorem pB(n:gs[i]?=J g)(h:stepG P (i==0) g w=.comm g₂ #[rcase c z] blocking shape w₁ es)(m:w₁.heap[c]?=J (.chan cap buf closed s r tm))(a:0<buf.size)
  (e:j≠i) (l:gs[j]?=J (parked gj #[scase c v zj] shj)) (k:partners (gs.setIfInBounds i ph) c Y=[(j,0)]):
  runT P (crowd gs w sl) i=(.next (crowd ((gs.setIfInBounds j (gj.finishComm P #[scase c v zj] shj 0 Wo Z)).setIfInBounds i (g₂.finishComm P #[rcase c z] shape 0 (buf.getD 0 Wo) Y)) (w₁.setChan c cap ((buf.extract 1 buf.size).push v) closed (s+1) (r+1) tm) sl),
   n8 i g.frame.fn g.frame.place es++#[{g:=i,fn:=g₂.frame.fn,pos:=g₂.frame.place,act:=.recv c r cap},{g:=i,fn:=g₂.frame.fn,pos:=g₂.frame.place,act:=.recvDone c r},
    {g:=j,fn:=gj.frame.fn,pos:=gj.frame.place,act:=.send c s},{g:=j,fn:=gj.frame.fn,pos:=gj.frame.place,act:=.sendDone c s}]):=by
 rw[PM n h];have b:=PV (i:=i) e l;have d:(gs.setIfInBounds i ph).getD j default=parked gj #[scase c v zj] shj:=by simp_all
 have f:Q8 (gs.setIfInBounds i ph) j 0=v:=by simp[Q8,b,parked,scase]
 simp[communicate,ways,rcase,m,k,a,choose,Rd,Rj,bind,Rc,pure,Rv,crowd,Conc.finishPartner_at P (gs.setIfInBounds i ph) b (cs:=#[scase c v zj]) (sh:=shj) Q 0 Wo,d,f,Conc.set_stand2,scase,parked];rfl
end
def lW(P : Wv) : S QW := [{ v := .iface P.rt.plainError (strVal "send on closed channel"), recovered := Z }]
theorem pC{gs:dT Wk}{w₁}{sl:eV (H×H)}{g₂}{es:dT Event}{shape:QR}{blocking:ey}{c m s}{buf:dT Wx}{tm:ey}(d:gs[i]?=J g)(h:stepG P (i==0) g w=.comm g₂ #[scase c v z] blocking shape w₁ es)(b:w₁.heap[c]?=J (.chan m buf Y s r tm)):
  runT P (crowd gs w sl) i=(.next (crowd (gs.setIfInBounds i {g₂ with frame:=g₂.frame.raise (lW P)}) w₁ sl),n8 i g.frame.fn g.frame.place es):=by
 rw[PM d h];simp[communicate,ways,scase,b,choose,Rd,Rj,bind,Rc,pure,runtimePanic,goPanic,program,crowd,lW]
variable {P:Wv} [Two P]
structure Moved (ρ ρ' ρr ρr':Ren)(W W1:Wj)(c:H)(es:dT Event):Prop where
 le:ρ.le ρ'
 Pf:ρr.le ρr'
 new:∀a b,ρ' a b->ρ a b\/W.heap.size<=b
 PF:∀a b,ρr' a b->ρr a b\/W.heap.size<=b
 Mr:Keep ρr W W1
 row:W1.heap[c]?=W.heap[c]?
 ev:∀e∈es,ku ρr' e
structure qx (D:PhD P)(ρ ρr:Ren)(W:Wj)(h hr g:Wk)(V Vr:Wj)(L:S Wx):Prop where
 side:Side P D.X ρ h g V W D.cV D.c L
 MB:Side P ([trap P.alt],D.X.2) ρr hr g Vr W D.cr D.c L
 only:∀ (a:H) o,Vr.heap[a]?=J o->o.isChan=Y->a=D.cr
 OH:∀x,ρr.ch x->x=D.cr
 Nb:(∀f,¬Mk ρr.F f=Y)/\ρr.F=D.Fr
 base:(∀a b,D.R0 a b->ρ a b)/\ρ.F=D.Fp
 all:∀a b o,ρ a b->V.heap[a]?=J o->o.isChan=Y->ρ.ch a
 rest:∀a b,ρ.ch a->ρ a b->a≠D.cV->∃n s q tm n' s' q',V.heap[a]?=J (.chan n #[] Y s q tm)/\W.heap[b]?=J (.chan n' #[] Y s' q' tm)
structure KH (D:PhD P)(ρ ρr:Ren)(W:Wj)(h1 hr1 g1:Wk)(V1 Vr1:Wj)(L:S Wx)(z:Wx)(s:CommShape)(h hr:Wk)(V Vr:Wj):Prop where
 Nh:qx D ρ ρr W h1 hr1 g1 V1 Vr1 L
 sh:∃ok,s=.recv ok
 Px:AtC P g1 (rcase D.c z) s
 rc:∃cc,RC ρ cc (rcase D.c z)/\LC P.alt h1 cc s V1 h V
 Pu:∃cc,RC ρr cc (rcase D.c z)/\LC P.alt hr1 cc s Vr1 hr Vr
section
variable {D:PhD P} {Post:Wx->Wj->Prop} {ρ ρr:Ren} {W:Wj} {h hr g:Wk} {V Vr:Wj} {L:lj Wx}
omit [Two P]in
theorem LC.only{g'}{cc:QY}{s:QR}{V'}(h:LC P g cc s V g' V')(d:∀ (a:H) o,V.heap[a]?=J o->o.isChan=Y->a=j):∀ (a:H) o,V'.heap[a]?=J o->o.isChan=Y->a=j:=by
 intro a o c k;cases h with
 |shut=>exact d a o c k
 |dead=>exact d a o c k
 | @send r f MH b buf l v h1 m i n=>
  by_cases e:r=a
  subst e;exact d _ _ i Q
  grind
 | @recv r f MH b buf cl l h1 m i n=>
  by_cases e:r=a
  subst e;exact d _ _ i Q
  grind
theorem zp(j:zo P D Post)(R:qx D ρ ρr W h hr g V Vr L)(bq:NB [trap P.alt] hr)d{h'}{V'}(hl:LS P.alt h (V.on W.tape d) h' V')(a2:LS P.alt hr (Vr.on W.tape d) al w2):
    ∃g1 W1 es ρ' ρr',Moved ρ ρ' ρr ρr' W W1 D.c es /\
      ((stepG P Y g (W.at d)=.go g1 W1 es/\qx D ρ' ρr' W1 h' al g1 V' w2 L) \/
       (∃h1 ar V1 Vr1 z s,stepG P Y g (W.at d)=.comm g1 #[rcase D.c z] Y s W1 es/\KH D ρ' ρr' W1 h1 ar g1 V1 Vr1 L z s h' al V' w2)):=by
  have i:=R.side;have Sr:=R.MB;have a7:=λe=>bq (Sr.go.callers.tail e)
  have hb:Base D.X h.frame g.callers:=λe=>by
    rcases a7 e with k|k;have B:=Sr.go.frame.mode;have m2:=i.go.frame.mode;rw[k]at B;cases hm:g.frame.mode<;>rw[hm]at B<;>cases B
    rw[hm]at m2
    left
    generalize h.frame.mode=x at m2;cases m2;rfl
    right
    have B:=Sr.go.frame.defers;have m2:=i.go.frame.defers;intro hn;rw[hn]at m2;generalize g.frame.defers=x at B m2;cases m2;generalize hr.frame.defers=y at B k;cases B;exact k Q
  obtain⟨-,sr⟩:=oA j.zero j.count Y Sr.go a7 Sr.Mx Sr.gid Sr.ext R.Nb.1 d Q a2;obtain⟨-,sv⟩:=pz j.zero j.count Y i.go hb i.Mx i.gid i.ext d Q hl (λf a' fr' cs' u' es' hM bl=>by
    rw[bl]at sr;obtain⟨-,fn,-,a3,-,bd,-⟩:=i.gid.apart f hM;have⟨b,a8⟩:=Option.isSome_iff_exists.1 bd;generalize stepG P.alt Y hr (Vr.on W.tape d)=z at sr;cases sr with
    | @go hx _ _ _ _ _ ρ2 R2 G _=>
      have ht:=G.frame.todo;have e:(Qi P f a' .normal).todo=[.code b]:=by simp[Qi,a3,a8]
      simp[e]at ht;generalize hx.frame.todo=td at ht;cases ht with
      |cons hi _=>
        cases hi with
        |code h=>
          rw[R2.le.F,R.Nb.2,(j.mark f (by rw[<-R.base.2];exact hM) fn b a3 a8)]at h;cases h)
  have aa:∀ {ρ':Ren},ρ.le ρ'->(ρ'.F iF=Z/\ρ'.F nA=Z)/\(ρ'.loose=Y/\ρ'.wide=Y)/\ρ'.ch D.cV:=λl=>⟨by rw[l.F];exact i.calm,by rw[l.loose,l.wide];exact i.loose,by rw[l.ch];exact i.ch⟩
  have T:∀ {ρ':Ren},ρr.le ρ'->(ρ'.F iF=Z/\ρ'.F nA=Z)/\(ρ'.loose=Y/\ρ'.wide=Y)/\ρ'.ch D.cr:=λl=>⟨by rw[l.F];exact Sr.calm,by rw[l.loose,l.wide];exact Sr.loose,by rw[l.ch];exact Sr.ch⟩
  have ai:∀ {ρ':Ren} {u u':Wj},Reach ρ ρ' (V.on W.tape d) (W.at d) u u'->∃n b s q r,u.heap[D.cV]?=J (.chan n b Y s q r)/\b.toList=L:=λR=>by
    have⟨n,b,s,q,r,h1,h2⟩:=i.row;rcases R.Oh.row D.cV D.c i.ch i.pair with⟨k,-⟩|⟨k,-⟩;exact⟨n,b,s,q,r,k.t h1,h2⟩;rw[i.calm.1]at k;cases k
  have p:∀ {ρ':Ren} {u u':Wj},Reach ρ ρ' (V.on W.tape d) (W.at d) u u'->(∀a b o,ρ' a b->u.heap[a]?=J o->o.isChan=Y->ρ'.ch a)/\∀a b,ρ'.ch a->ρ' a b->a≠D.cV->∃n s q r n' s' q',u.heap[a]?=J (.chan n #[] Y s q r)/\u'.heap[b]?=J (.chan n' #[] Y s' q' r):=λR1=>by
    refine⟨λa b o av ho hc=>?_,λa b ac av be=>?_⟩;rw[R1.le.ch];rcases R1.Oh.only i.calm.2 a o ho hc with k|⟨k,-⟩;rcases R1.new a b av with k2|⟨k2,-⟩;exact R.all a b o k2 k hc
    grind
    rw[i.calm.1]at k;cases k;rw[R1.le.ch]at ac;rcases R1.new a b av with k2|⟨k2,-⟩;have⟨n,s,q,r,n',s',q',e1,e2⟩:=R.rest a b ac k2 be;rcases R1.Oh.row a b ac k2 with⟨k,k3⟩|⟨k,-⟩;exact⟨n,s,q,r,n',s',q',k.t e1,k3.t e2⟩;rw[i.calm.1]at k;cases k;obtain⟨o,e1,-⟩:=i.Mx.chan a ac;have:=(eS e1).1;exact eW k2 (by show¬V.heap.size<=a;omega)
  have aj:∀ {ρ':Ren} {u u':Wj},Reach ρr ρ' (Vr.on W.tape d) (W.at d) u u'->(∃n b s q r,u.heap[D.cr]?=J (.chan n b Y s q r)/\b.toList=L)/\u'.heap[D.c]?=W.heap[D.c]?/\∀ (a:H) o,u.heap[a]?=J o->o.isChan=Y->a=D.cr:=λR1=>by
    have⟨n,b,s,q,r,h1,h2⟩:=Sr.row;refine⟨?_,?_,λa o ho hc=>?_⟩;rcases R1.Oh.row D.cr D.c Sr.ch Sr.pair with⟨k,-⟩|⟨k,-⟩;exact⟨n,b,s,q,r,k.t h1,h2⟩;rw[Sr.calm.1]at k;cases k;rcases R1.Oh.row D.cr D.c Sr.ch Sr.pair with⟨-,k⟩|⟨k,-⟩;exact k;rw[Sr.calm.1]at k;cases k;rcases R1.Oh.only Sr.calm.2 a o ho hc with k|⟨k,-⟩;exact R.only a o k hc;rw[Sr.calm.1]at k;cases k
  cases a2 with
  | @go _ _ bk er hr2 hd2=>
    rw[er]at sr;generalize hy:stepG P Y g (W.at d)=y at sr sv;cases sr with
    | @go _ g1 _ W1 _ es ρr' R1 a0 ap=>
      cases hl with
      | @go _ _ bi ev hrv hdv=>
        rw[ev]at sv;cases sv with
        |go _ ρ' R2 G bn=>
          have⟨k1,k3,k4⟩:=aa R2.le;have⟨B,m3,m4⟩:=T R1.le;have⟨r1,r2,r3⟩:=aj R1;exact⟨g1,W1,es,ρ',ρr',⟨R2.le,R1.le,λa b h=>(R2.new a b h).imp id (·.2),λa b h=>(R1.new a b h).imp id (·.2),⟨R1.Mr.os,R1.Mr.output,R1.Mr.tape,R1.Mr.size,R1.Mr.block⟩,r2,ap⟩,Qc ⟨Q,
            ⟨⟨G,R2.Mx,i.gid.m R2.le,by rw[R2.le.F];exact i.ext,k1,k3,k4,R2.le _ _ i.pair,ai R2⟩,⟨a0,R1.Mx,Sr.gid.m R1.le,by rw[R1.le.F];exact Sr.ext,B,m3,m4,R1.le _ _ Sr.pair,r1⟩,r3,(by rw[R1.le.ch];exact R.OH),(by rw[R1.le.F];exact R.Nb),⟨λa b k=>R2.le _ _ (R.base.1 a b k),R2.le.F.t R.base.2⟩,(p R2).1,(p R2).2⟩⟩⟩
      |comm ev _=>
        rw[ev]at sv;cases sv
  | @comm ar ab s Vr1 bk _ _ er a9=>
    rw[er]at sr;generalize hy:stepG P Y g (W.at d)=y at sr sv;cases sr with
    | @comm _ g1 _ c' hC _ bo hrun _ W1 _ es ρr' R1 a0 A ap bb=>
      cases hl with
      |go ev _ _=>rw[ev]at sv;cases sv
      | @comm h1 cc sv' V1 bi _ _ ev bp=>
        rw[ev]at sv;cases sv with
        |comm hC2 _ hsh2 hrun2 _ ρ' R2 G a6 bn ha2=>
          have⟨k1,k3,k4⟩:=aa R2.le;have⟨B,m3,m4⟩:=T R1.le;have⟨r1,r2,r3⟩:=aj R1;have ad:ab.send=none:=by
            cases hx:ab.send with
            |none=>rfl
            |some v=>have:=hC.1 (by rw[hx];rfl);rw[Sr.calm.1]at this;cases this
          have a4:c'.send=none:=by
            rcases A.send with⟨-,k⟩|⟨v,_,k,-⟩;exact k;rw[ad]at k;cases k
          have a1:ab.chan=.chan (J D.cr):=by
            cases a9 with
            |send q1 q2 q3 q4=>rw[ad]at q2;cases q2
            |dead q1 q2 q3=>rw[ad]at q2;cases q2
            |recv q1 q2 q3 q4=>rw[q1,r3 _ _ q3 Q]
            |shut q1 q2 q3=>rw[q1,r3 _ _ q3 Q]
          have af:c'=rcase D.c c'.zero:=by
            refine zm ?_ a4;have:=A.chan;rw[a1]at this;generalize c'.chan=x at this;cases this with
            |chan k=>cases k with
              |some k=>rw[ρr'.fn _ _ _ k (R1.le _ _ Sr.pair)]
          have a5:∃ok,s=.recv ok:=by
            rcases bo with⟨k,-⟩|⟨-,k⟩;rw[ad]at k;cases k;exact k
          refine⟨g1,W1,es,ρ',ρr',⟨R2.le,R1.le,λa b h=>(R2.new a b h).imp id (·.2),λa b h=>(R1.new a b h).imp id (·.2),⟨R1.Mr.os,R1.Mr.output,R1.Mr.tape,R1.Mr.size,R1.Mr.block⟩,r2,ap⟩,Qd ⟨h1,ar,V1,Vr1,c'.zero,s,by rw[<-af],
            ⟨⟨⟨G,R2.Mx,i.gid.m R2.le,by rw[R2.le.F];exact i.ext,k1,k3,k4,R2.le _ _ i.pair,ai R2⟩,⟨a0,R1.Mx,Sr.gid.m R1.le,by rw[R1.le.F];exact Sr.ext,B,m3,m4,R1.le _ _ Sr.pair,r1⟩,r3,(by rw[R1.le.ch];exact R.OH),(by rw[R1.le.F];exact R.Nb),⟨λa b k=>R2.le _ _ (R.base.1 a b k),R2.le.F.t R.base.2⟩,(p R2).1,(p R2).2⟩,a5,by rw[<-af];exact bb.2.2,⟨cc,by rw[<-af];exact a6,bp⟩,⟨ab,by rw[<-af];exact A,a9⟩⟩⟩⟩
structure lX (ρs ρs':Ren)(W W1:Wj)(c:H)(es:dT Event):Prop where
 le:ρs.le ρs'
 new:∀a b,ρs' a b->ρs a b\/W.heap.size<=b
 Mr:Keep ρs W W1
 row:W1.heap[c]?=W.heap[c]?
 ev:∀e∈es,ku ρs' e
theorem F9 (j:zo P D Post){ρs:Ren}{hs s:Wk}{Vs:Wj}(i:Snd P ([trap P.alt],D.Bs) ρs hs s Vs W D.cs D.c L)(a3:NB [trap P.alt] hs)(d:Nat){G:Wk}(hl:LS P.alt hs (Vs.on W.tape d) G w2)(ac:∀n b cl s q o,w2.heap[D.cs]?=some (.chan n b cl s q o)->cl=false):
    ∃s1 W1 es ρs',lX ρs ρs' W W1 D.c es /\
      ((stepG P Z s (W.at d)=.go s1 W1 es/\Snd P ([trap P.alt],D.Bs) ρs' G s1 w2 W1 D.cs D.c L) \/
       (∃h1 V1 cc v z,stepG P Z s (W.at d)=.comm s1 #[scase D.c v z] Y .send W1 es/\Snd P ([trap P.alt],D.Bs) ρs' h1 s1 V1 W1 D.cs D.c L/\RC ρs' cc (scase D.c v z)/\LC P.alt h1 cc .send V1 G w2) \/
       (∃r v z n b s' q o,stepG P Z s (W.at d)=.comm s1 #[scase r v z] Y .send W1 es/\W1.heap[r]?=J (.chan n b Y s' q o)/\Snd P ([trap P.alt],D.Bs) ρs' G {s1 with frame:=s1.frame.raise (lW P)} w2 W1 D.cs D.c L)):=by
  have av:hs.callers≠[]:=λe=>by
    have:=i.go.callers.OA
    grind
  obtain⟨-,sr⟩:=oA j.zero j.count Z i.go (λe=>a3 (i.go.callers.tail e)) i.Mx i.gid i.ext i.Nb d (A5 _ _ av _).s hl;have X:∀ {ρ':Ren},ρs.le ρ'->(ρ'.F KG=Z/\ρ'.F nA=Z)/\(∀f,¬Mk ρ'.F f=Y)/\(ρ'.loose=Y/\ρ'.wide=Z)/\∀x,ρ'.ch x↔x=D.cs:=λl=>⟨by rw[l.F];exact i.calm,by rw[l.F];exact i.Nb,by rw[l.loose,l.wide];exact i.loose,by rw[l.ch];exact i.ch⟩
  have ab:∀ {ρ':Ren} {u u':Wj},Reach ρs ρ' (Vs.on W.tape d) (W.at d) u u'->(∀n b s q o,u.heap[D.cs]?=J (.chan n b Y s q o)->gL)->(∃n b s q o,u.heap[D.cs]?=J (.chan n b Z s q o)/\b.toList=L)/\u'.heap[D.c]?=W.heap[D.c]?/\∀ (a n:H) b s q o,u.heap[a]?=J (.chan n b Z s q o)->a=D.cs:=λR1 ai=>by
    have⟨n,b,s,q,o,h1,h2⟩:=i.row;have al:=R1.Oh.row D.cs D.c ((i.ch _).2 rfl) i.pair;refine⟨?_,?_,λa n b s q o ho=>?_⟩;rcases al with⟨k,-⟩|⟨-,_,_,_,_,_,k⟩;exact⟨n,b,s,q,o,k.t h1,h2⟩
    grind
    rcases al with⟨-,k⟩|⟨-,_,_,_,_,_,k⟩;exact k
    grind
    rcases R1.Oh.only i.calm.2 a _ ho rfl with k|⟨-,_,_,_,_,_,k⟩;exact i.only a n b s q o k
    grind
  cases hl with
  | @go _ _ a1 er hr2 hd2=>
    rw[er]at sr;generalize hy:stepG P Z s (W.at d)=y at sr;cases sr with
    | @go _ g1 _ W1 _ es ρ' R1 p ad=>
      have⟨m1,m2,m3,m4⟩:=X R1.le;obtain⟨r1,r2,r3⟩:=ab R1 (λn b s q o k=>by cases ac _ _ _ _ _ _ k);exact⟨g1,W1,es,ρ',⟨R1.le,λa b h=>(R1.new a b h).imp id (·.2),⟨R1.Mr.os,R1.Mr.output,R1.Mr.tape,R1.Mr.size,R1.Mr.block⟩,r2,ad⟩,.inl ⟨rfl,⟨p,R1.Mx,i.gid.m R1.le,by rw[R1.le.F];exact i.ext,m1,m2,m3,m4,R1.le _ _ i.pair,r1,r3⟩⟩⟩
  | @comm h1 cc sh V1 a1 _ _ er af=>
    rw[er]at sr;generalize hy:stepG P Z s (W.at d)=y at sr;cases sr with
    | @comm _ g1 _ T hC _ a2 hrun _ W1 _ es ρ' R1 p B ad ha1=>
      have⟨m1,m2,m3,m4⟩:=X R1.le;have R:cc.send≠none:=λk=>by have:=hC.2 k;rw[i.calm.1]at this;cases this
      have ai:∀n b s q o,V1.heap[D.cs]?=J (.chan n b Y s q o)->gL:=λn b s q o k=>by
        cases af with
        |recv q1 q2 V q4=>exact R q2
        |shut q1 q2 V=>exact R q2
        |dead q1 q2 V=>cases ac _ _ _ _ _ _ k
        | @send r cap MH rcvd buf tm0 v0 q1 q2 V q4=>
          by_cases e:r=D.cs
          subst e;rw[k]at V;cases V;cases ac n b Y s q o (by simpa[e]using k)
      have⟨r1,r2,r3⟩:=ab R1 ai;have aj:sh=.send:=by
        rcases a2 with⟨-,k⟩|⟨k,-⟩;exact k;exact eW k R
      subst aj;obtain⟨v,hv⟩:∃v,T.send=J v:=by
        rcases B.send with⟨k,-⟩|⟨_,v,-,k,-⟩;exact eW k R;exact⟨v,k⟩
      have mv:lX ρs ρ' W W1 D.c es:=⟨R1.le,λa b h=>(R1.new a b h).imp id (·.2),⟨R1.Mr.os,R1.Mr.output,R1.Mr.tape,R1.Mr.size,R1.Mr.block⟩,r2,ad⟩;have a0:(∃h' V',G=h'/\w2=V'/\cc.chan=.chan (J D.cs))\/(w2=V1/\G={h1 with frame:=h1.frame.raise (lW P)}/\∃r n b s q o,cc.chan=.chan (J r)/\V1.heap[r]?=J (.chan n b Y s q o)):=by
        cases af with
        |recv q1 q2 V q4=>exact eW q2 R
        |shut q1 q2 V=>exact eW q2 R
        |send q1 q2 V q4=>exact .inl ⟨_,_,rfl,rfl,by rw[q1,r3 _ _ _ _ _ _ V]⟩
        |dead q1 q2 V=>exact .inr ⟨rfl,rfl,_,_,_,_,_,_,q1,V⟩
      rcases a0 with⟨_,_,-,-,A⟩|⟨rfl,rfl,r,n,b,s',q,o,A,ap⟩
      rotate_left
      obtain⟨r',cap',buf',cl',s'',q'',c1,c2,c3,-,c5,-⟩:=sM R1.Mx B A ap;obtain rfl:=c5.resolve_left (by rw[m3.2];exactλh=>by cases h);have aa:T=scase r' v T.zero:=by
        obtain⟨a,b,z⟩:=T;simp only at c1 hv;subst c1;subst hv;rfl
      refine⟨g1,W1,es,ρ',mv,.inr (.inr ⟨r',v,T.zero,_,_,_,_,_,by rw[<-aa],c3,⟨⟨p.frame.Ny (.iface _ (.string _)),p.callers,p.kind.raise _ _,p.status,p.dying,p.offers⟩,R1.Mx,i.gid.m R1.le,by rw[R1.le.F];exact i.ext,m1,m2,m3,m4,R1.le _ _ i.pair,r1,r3⟩⟩)⟩;have aa:T=scase D.c v T.zero:=by
        have ar:T.chan=.chan (J D.c):=by
          have:=B.chan;rw[A]at this;generalize T.chan=x at this;cases this with
          |chan k=>cases k with
            |some k=>rw[ρ'.fn _ _ _ k (R1.le _ _ i.pair)]
        obtain⟨a,b,z⟩:=T;simp only at ar hv;subst ar;subst hv;rfl
      exact⟨g1,W1,es,ρ',mv,.inr (.inl ⟨h1,V1,cc,v,T.zero,by rw[<-aa],⟨p,R1.Mx,i.gid.m R1.le,by rw[R1.le.F];exact i.ext,m1,m2,m3,m4,R1.le _ _ i.pair,r1,r3⟩,by rw[<-aa];exact B,af⟩)⟩
end
end
section
open Go.Conc (crowd Past EvL Deaf QuitsD woken awake crowd_pick runT_crowd_go rcase scase parked ph)
open Go.ConcN (sumTo upd sumTo_upd upd_ne upd_same)
variable {P:Wv} [Two P] {D:PhD P} {Post:Wx->Wj->Prop}
theorem Moved.MV{ρ' ρr ρr' ρs}{W1}{c}{es:dT Event}(m:Moved ρ ρ' ρr ρr' W W1 c es)(hF:Far ρr ρs)(d:∀y b,ρs y b->b<W.heap.size):Far ρr' ρs:=λb x y h1 a=>by
 rcases m.PF x b h1 with k|k
 .rw [m.Pf.old,m.Pf.ch];exact hF b x y k a
 .have:=d y b a;omega
theorem qx.at{ρr}{hr}{Vr}(R:qx D ρ ρr W h hr g V Vr L)d:qx D ρ ρr (W.at d) h hr g V Vr L:=⟨R.side.stays Q (λ_ _ _ _=>Q) Q,R.MB.stays Q (λ_ _ _ _=>Q) Q,R.only,R.OH,R.Nb,R.base,R.all,R.rest⟩
omit [Two P]in
theorem jn{gs:dT Wk}{t}{q:H->H}(d:Lv P (λ_=>gL) t gs q)(c:gs[0]?=J x)(hr:x.status=Qf):∀y∈gs,awake y:=λy e=>by
 obtain⟨i,b,rfl⟩:=Qu.1 e;rcases QD i with rfl|a
 .have:gs[0]=x:=by simpa[eG b]using c
  rw[this];exact vf (Qc hr)
 .exact vf ((d.old i _ a (λk=>k) (eG b)).status.elim Qc λx=>Qd (Qd x))
theorem firm0{gs:dT Wk}(c:gs[0]?=J x)(hr:x.status=Qf)w:∀j o,(j=0\/gL)->gs[j]?=J o->o.again w=o:=λj o a b=>by
 rcases a with rfl|a
 .rw [c]at b;cases b;exact ta _ (Qc hr)
 .exact a.elim
theorem qx.run{ρ ρr}{W}{h hr g}{V Vr}{L}(R:qx D ρ ρr W h hr g V Vr L):g.status=Qf:=R.side.go.status.2
theorem uI(a:zo P D Post){ρr}{hr}{Vr}(R:qx D ρ ρr W h hr g V Vr L)(f:Dem P.alt (λg _=>NB [trap P.alt] g) D.T h V)(i:LSs P.alt D.T D.h0 D.V0 h V)d:
  ∃h' V',LS P.alt h (V.on W.tape d) h' V'/\Dem P.alt (λg _=>NB [trap P.alt] g) D.T h' V'/\LSs P.alt D.T D.h0 D.V0 h' V':=by
 have e:¬D.T h V:=λk=>by
  have h1:=a.OY _ _ k;have h2:=R.side.go.callers.OA;have h3:=a.deep;omega
 cases f with
 |stop k=>exact eW k e
 |step _ _ c j=>
  have⟨h',V',b⟩:=c W.tape d;exact⟨h',V',b,j _ _ _ _ b,i.t (.step e _ _ b (.refl _ _))⟩
theorem KH.take(f:zo P D Post){ρr}{W'}{h1 ab g1 hr}{V1 Vr}{sh:QR}(d:KH D ρ ρr W h1 ab g1 V1 w2 (v::L) z sh h hr V Vr)(hv:v∈D.L)(y:W'.os=W.os)(hs:∀b,b≠D.c->W'.heap[b]?=W.heap[b]?){T}{b'}{aa:ey}{s X}{B:ey}(r1:mF W D.c n b cl s q B)(r2:mF W' D.c T b' aa X q' B):
  qx D ρ ρr W' h hr (g1.finishComm P #[rcase D.c z] sh 0 v Y) V Vr L:=by
 have⟨cc,c1,R⟩:=d.rc;have⟨cr,d1,d2⟩:=d.Pu;have l:∀ (a:H) (o:Obj),V.heap[a]?=J o->o.isChan=Y->∃G:Obj,V1.heap[a]?=J G/\G.isChan=true:=λa o A F=>by
  cases R with
  |shut=>exact⟨o,A,F⟩
  |dead=>exact⟨o,A,F⟩
  | @send r _ _ _ _ _ _ j u x k4=>
   by_cases e:r=a
   subst e;exact⟨_,x,Q⟩
   grind
  | @recv r _ _ _ _ _ _ j u x k4=>
   by_cases e:r=a
   subst e;exact⟨_,x,Q⟩
   grind
 have m:∀a:H,a≠D.cV->V.heap[a]?=V1.heap[a]?:=λa ha=>by
  obtain⟨-,p⟩:=d.Nh.side.NF c1;have hr:∀r,cc.chan=.chan (J r)->r≠a:=λr e=>by
   grind
  cases R with
  |shut=>rfl
  |dead=>rfl
  |send j u x k4=>simp[hr _ j]
  |recv j u x k4=>simp[hr _ j]
 refine⟨d.Nh.side.take c1 d.sh R (f.flat v hv) y hs r1 r2,d.Nh.MB.take d1 d.sh d2 (f.flat v hv) y hs r1 r2,d2.only d.Nh.only,d.Nh.OH,d.Nh.Nb,d.Nh.base,λa b o i A F=>?_,λa b p i k=>?_⟩;have⟨G,j,u⟩:=l a o A F;exact d.Nh.all a b G i j u;have⟨n,s,q,B,T,X,q',e1,e2⟩:=d.Nh.rest a b p i k;refine⟨n,s,q,B,T,X,q',(m a k).t e1,?_⟩
 rwa [hs b (λe=>k (ρ.inj _ _ _ i (e▸d.Nh.side.pair)))]
theorem aR(W:Wj)(c n:H)(b:dT Wx)(a:ey)(s q:H)(d:ey)(h:j≠c):(W.setChan c n b a s q d).heap[j]?=W.heap[j]?:=by
 unfold Rv
 grind
theorem eA(W:Wj)(c n:H)(b:dT Wx)(a:ey)(s q:H)(tm:ey)(h:c<W.heap.size):mF (W.setChan c n b a s q tm) c n b.toList a s q tm:=⟨b,by unfold Rv;exact sS h,Q⟩
theorem cR(W:Wj)(c n:H)(b:dT Wx)(a:ey)(s q:H)(d:ey):(W.setChan c n b a s q d).heap.size=W.heap.size:=by simp[Rv]
theorem jo g(fn:QQ)(a:jp):n8 g fn a #[]=#[]:=rfl
theorem zq{ρr}{h1 f g1}{V1}{sh:QR}{cc:QY}(R:qx D ρ ρr W h1 f g1 V1 w2 [])(e:RC ρ cc (rcase D.c z))(_hsh:∃k,sh=.recv k)(a:LC P.alt h1 cc sh V1 h V):C4 D ρ V W:=by
 have m:V=V1:=by
  have⟨d,hch⟩:=R.side.NF e;have⟨n0,b0,s0,q0,tm0,e1,e2⟩:=R.side.row;cases a with
  |send i b j l=>rw[d]at b;cases b
  |dead=>rfl
  |shut=>rfl
  |recv i b j l=>
   simp_all
 rw[m];exact⟨R.base,R.all,R.rest⟩
structure A6 (D:PhD P)(ρ ρr:Ren)(W:Wj):Prop where
 kp:Kp D.U W
 off:Off D.U ρ
 NL:Off D.U ρr
 chan:¬D.U.Ko D.c
omit [Two P]in
theorem A6.Po{D:PhD P}{ρr ρ' ρr'}{W1}{es:dT Event}(h:A6 D ρ ρr W)(m:Moved ρ ρ' ρr ρr' W W1 D.c es):A6 D ρ' ρr' W1:=⟨h.kp.Mr h.NL m.Mr,h.off.new h.kp m.le.sub m.new ⟨m.le.ML,m.le.bad⟩,h.NL.new h.kp m.Pf.sub m.PF ⟨m.Pf.ML,m.Pf.bad⟩,h.chan⟩
omit [Two P]in
theorem Kp.setChan{a:Outer}{c}(h:Kp a W)(f:¬a.Ko c)n(b:dT Wx)(i:ey)s q(k:ey):Kp a (W.setChan c n b i s q k):=⟨by rw[cR];exact h.1,h.2.1,λx d=>(aR (j:=x) _ _ _ _ _ _ _ _ (λe=>f (by rw[<-e];exact d))).t (h.2.2 x d)⟩
omit [Two P]in
theorem A6.set{D:PhD P}{ρr}(h:A6 D ρ ρr W)n(b:dT Wx)(a:ey)s q(d:ey):A6 D ρ ρr (W.setChan D.c n b a s q d):=⟨h.kp.setChan h.chan _ _ _ _ _ _,h.off,h.NL,h.chan⟩
theorem xN(f:zo P D Post){ρr ρs}{h1 R g1 hr}{V1 Vr}{sh:QR}(hp:LSs P.alt D.T D.h0 D.V0 h V){s}{tm:ey}{pc}:
  ∀ (e:H) (gs:dT Wk) (W:Wj) (sl:eV (H×H)) (t:Trace) (B:H->H),sumTo gs.size B<=e->KH D ρ ρr W h1 R g1 V1 w2 [] z sh h hr V Vr->mF W D.c n [] Y s q tm->A6 D ρ ρr W->gs[0]?=J {parked g1 #[rcase D.c z] sh with status:=Qf}->Lv P (λ_=>gL) t gs B->PhC D.c pc ρs W.heap.size t->Fin P Post gs W sl t:=by
 intro e;induction e using QG with
 |_ e ih=>
  intro gs W sl t B hM b r o m G hP;have⟨i,x,d,A,F,hx,u⟩:=xc (P:=P) (w:=W) (sl:=sl) (jn G m Q) ⟨0,_,m,Q⟩;rcases QD i with rfl|y;rw[m]at F;obtain⟨a,l,X⟩:=r;have X:=Qs.1 (by simpa using X);subst X;have v:=yz (sl:=A) (i:=0) m (b.Px Y (W.at d)) l (G.alone D.c Y);rw[jo,Array.empty_append]at v;have⟨cc,c1,c2⟩:=b.rc;exact Fin.next (u.t v) (f.fin ρ h _ V (W.at d) n s q tm _ _ _ B (((b.Nh.at d).side).nothing c1 b.sh c2) (zq (b.Nh.at d) c1 b.sh c2) ⟨o.kp,o.off⟩ l hp (by simp[(eS m).1])
   (G.put (λop p=>by simp at p;subst p;exact⟨by simp,by simp⟩) (by simp) (λj hj _=>sN (by omega)))
   (hP.done ⟨Q,Q⟩ ((eS l).1)))
  obtain⟨aa,q',L,e1,e2,e3,e4,e5,e6,-⟩:=slip G hP (λt i fn pos es F _ h hm=>h.mute F hm) F hx y (λk=>k) (firm0 m Q _) u;exact Fin.next e1 (ih _ (by omega) aa (W.at d) A (t++L) q' (lR _) ⟨b.Nh.at d,b.sh,b.Px,b.rc,b.Pu⟩ r ⟨o.kp,o.off,o.NL,o.chan⟩ ((e3 0 (Qc Q)).t m) e4 e5)
def gm(P:Wv) [Two P](D:PhD P)(Post:Wx->Wj->Prop)(hr:Wk)(Vr:Wj):Prop:=
 ∀ (gs:dT Wk) (W:Wj) (sl:eV (H×H)) (t:Trace) (d:H->H) (ρ ρr ρs:Ren) (h g:Wk) (V:Wj) (L:S Wx) (n s q:H) (a:ey) (pc:H),qx D ρ ρr W h hr g V Vr L->Dem P.alt (λg _=>NB [trap P.alt] g) D.T h V->LSs P.alt D.T D.h0 D.V0 h V->(∀v∈L,v∈D.L)->mF W D.c n L Y s q a->Far ρr ρs->A6 D ρ ρr W->(∀y b,ρs y b->b<W.heap.size)->gs[0]?=J g->Lv P (λ_=>gL) t gs d->PhC D.c pc ρs W.heap.size t->Fin P Post gs W sl t
theorem qZ(l:zo P D Post){hr}{Vr}(a2:NB [trap P.alt] hr)(a5:∀τ d,∃u Vr',LS P.alt hr (Vr.on τ d) u Vr')
  (hn:∀τ d u Vr',LS P.alt hr (Vr.on τ d) u Vr'->gm P D Post u Vr'\/((∀n b s q tm,Vr.heap[D.cr]?=J (.chan n b Y s q tm)->b.toList=[])/\∃h1 cc s V1 es,stepG P.alt Y hr (Vr.on τ d)=.comm h1 cc Y s V1 es)):gm P D Post hr Vr:=by
 intro gs W sl t qs ρ ρr ρs h g V L n s q tm pc R hd hp ad r hF hU hB h0 hL hP;obtain⟨o,hM⟩:∃o,sumTo gs.size qs<=o:=⟨_,lR _⟩;induction o using QG generalizing gs W sl t qs with
 |_ o ih=>
  have⟨i,x,d,T,hi,hx,aa⟩:=xc (P:=P) (w:=W) (sl:=sl) (jn hL h0 R.run) ⟨0,_,h0,R.run⟩;rcases QD i with rfl|ap;obtain rfl:x=g:=by rw[h0]at hi;exact(oJ hi).s
  have⟨h',V',hl,a1,ai⟩:=uI l R hd hp d;have⟨u,Vr',al⟩:=a5 W.tape d;have av:=hn _ _ _ _ al;have⟨g1,W1,es,ρ',ρr',m,ab⟩:=zp l R a2 d hl al;have A:=m.MV hF hB;have F:=m.Mr.size;have r1:mF W1 D.c n L Y s q tm:=by
   obtain⟨a,k1,k2⟩:=r;exact⟨a,m.row.t k1,k2⟩
  rcases ab with⟨hg,R'⟩|⟨h1,hr1,V1,Vr1,z,sh,hg,f⟩;have hC:gm P D Post u Vr':=by
   rcases av with k|⟨-,_,_,_,_,_,k⟩;exact k;exfalso;obtain⟨-,sr⟩:=oA l.zero l.count Y R.MB.go (λe=>a2 (R.MB.go.callers.tail e)) R.MB.Mx R.MB.gid R.MB.ext R.Nb.1 d Q al;rw[k,hg]at sr;cases sr
  obtain⟨aj,ar,e1,e2,e3,e4,-,e6⟩:=sK hL hi (Qc Q) aa (show stepG P (0==0) x (W.at d)=_ from hg);subst e2;exact Fin.next e1 (hC aj W1 T _ qs ρ' ρr' ρs h' g1 V' L n s q tm pc R' a1 ai ad r1 A (hU.Po m) (λy b k=>lL (hB y b k) F) e4 e6 (hP.app A F (lU R'.MB.Mx m.ev 0 _ _)))
  obtain⟨a,B,G⟩:=r1;have ac:=(eS B).1;have af:=lU f.Nh.MB.Mx m.ev 0 x.frame.fn x.frame.place;cases L with
  |nil=>
   have ha:=Qs.1 (by simpa using G);subst ha;have⟨cc,c1,c2⟩:=f.rc;refine Fin.next (aa.t (yz (sl:=T) (i:=0) h0 (show stepG P (0==0) x (W.at d)=_ from hg) B (hL.alone D.c Y))) (l.fin ρ' h' _ V' W1 n s q tm _ _ _ qs (f.Nh.side.nothing c1 f.sh c2) (zq f.Nh c1 f.sh c2) ⟨(hU.Po m).kp,(hU.Po m).off⟩ B ai (by simp[(eS h0).1]) (hL.put (λX p=>?_) (by simp) (λj hj _=>sN (by omega))) ?_)
   grind
   rw[<-Qq];exact(hP.app A F af).done ⟨Q,Q⟩ ac
  |cons v L=>
   have hC:gm P D Post u Vr':=by
    rcases av with k|⟨k,-⟩;exact k;exfalso;have⟨n0,b0,s0,q0,tm0,k1,k2⟩:=R.MB.row
    grind
   have a4:a.getD 0 Wo=v:=by rw[gD,<-gT,G];rfl
   have a3:(a.extract 1 a.size).toList=L:=by
    have hl:a.toList.length=a.size:=lY;rw[Qx,G]at *
    grind
   have a0:=PR (sl:=T) (i:=0) h0 (show stepG P (0==0) x (W.at d)=_ from hg) B (by rw[<-lY,G];simp) (hL.alone D.c Y);rw[a4]at a0;have r2:=eA W1 D.c n (a.extract 1 a.size) Y s (q+1) tm ac;rw[a3]at r2;have hu:∀X∈(#[{g:=0,fn:=g1.frame.fn,pos:=g1.frame.place,act:=.recv D.c q n},{g:=0,fn:=g1.frame.fn,pos:=g1.frame.place,act:=.recvDone D.c q}]:Trace),X.g=0/\dG W1.heap.size X.act:=λX p=>by
    simp at p;rcases p with rfl|rfl<;>exact⟨Q,ac⟩
   refine Fin.next (aa.t a0) (hC _ _ T _ qs ρ' ρr' ρs h' _ V' L n s (q+1) tm pc (f.take l (ad v (by simp)) (W':=W1.setChan D.c n (a.extract 1 a.size) Y s (q+1) tm) Q (λb hb=>aR _ _ _ _ _ _ _ _ hb) ⟨a,B,G⟩ r2) a1 ai (λv hv=>ad v (by simp[hv])) r2 A ((hU.Po m).set _ _ _ _ _ _) (λy b k=>by rw[cR];exact lL (hB y b k) F) (by simp[(eS h0).1]) (hL.put (λX p=>?_) (by simp) (λj hj _=>sN (by omega))) ?_)
   rcases Qp.1 p with k|k;exact(af X k).2.2.1;exact(hu X k).2.still;rw[<-Qq,cR];exact(hP.app A F af).app A (lR _) (λX p=>⟨(hu X p).1,xM (hu X p).2⟩)
  obtain⟨aj,q',ar,e1,e2,e3,e4,e5,e6,-⟩:=slip hL hP (λt i fn pos es hi _ h hm=>h.mute hi hm) hi hx ap (λk=>k) (firm0 h0 R.run _) aa;exact Fin.next e1 (ih _ (by omega) aj (W.at d) T (t++ar) q' (R.at d) r ⟨hU.kp,hU.off,hU.NL,hU.chan⟩ hB ((e3 0 (Qc Q)).t h0) e4 e5 (lR _))
theorem uJ(a:zo P D Post){hr}{Vr}(n:Dem P.alt D.Nr D.Tr hr Vr):gm P D Post hr Vr:=by
 induction n with
 | @stop g w h=>
  have⟨h1,k,i⟩:=a.tr g w h;refine qZ a h1 (λc d=>?_) (λc d b Vr' _=>Qd ⟨k,?_⟩);have⟨_,_,_,_,_,h',V',e,l⟩:=i c d;exact⟨h',V',.comm e l⟩;have⟨_,_,_,_,_,h',V',e,l⟩:=i c d
  grind
 | @step g w m h f _ ih=>exact qZ a (a.nr g w m) f (λc d b Vr' j=>Qc (ih c d b Vr' j))
def Alone(P:Wv)(bo:H)(g:Wk):H->Wk->Wj->Prop:=
 Go.Conc.Goes P Y (λw v=>v.heap[bo]?=w.heap[bo]?) (λw w' es=>w'=w/\∀e∈es,∃a:Wu,e=⟨.cell a,Z,Z⟩/\a.block=bo) (λg' _=>g'=g)
section
variable {bo k:Nat} {g y:Wk} {W W1:Wj}
omit [Two P]in
theorem Alone.rely(h:Alone P bo g k y W)(a:W1.heap[bo]?=W.heap[bo]?):Alone P bo g k y W1:=
 Go.Conc.Goes.rely (λ_ _ _ h k=>k.t h) h a
omit [Two P]in
theorem Alone.next(h:Alone P bo g k y W):y=g\/(y.status=Qf/\∃f,k=f+1/\∀d,∃b es,stepG P Y y (W.at d)=.go b (W.at d) es/\(∀e∈es,∃a:Wu,e=⟨.cell a,Z,Z⟩/\a.block=bo)/\Alone P bo g f b (W.at d)):=by
 cases k with
 |zero=>exact Qc (h W Q)
 |succ k=>
  rcases h with h|⟨c,h⟩
  grind
  refine Qd ⟨c,k,Q,λd=>?_⟩;obtain⟨b,w',es,h1,⟨rfl,j⟩,i⟩:=Go.Conc.goes_elim (h (W.at d) Q);exact⟨b,es,h1,j,i⟩
omit [Two P]in
theorem Alone.status(h:Alone P bo g k y W)(a:g.status=Qf):y.status=Qf:=by
 rcases h.next with rfl|⟨h,-⟩
 exact a;exact h
theorem zr{ρr}(b:∃x,ρr x bo/\¬ρr.ch x){es:dT Event}(h:∀e∈es,∃a:Wu,e=⟨.cell a,Z,Z⟩/\a.block=bo):∀e∈es,ku ρr e:=λe c=>by
 obtain⟨a,rfl,rfl⟩:=h e c;obtain⟨x,h1,d⟩:=b;exact⟨x,h1,(λh=>by cases h),d⟩
end
theorem A7{hr}{Vr}(hC:gm P D Post hr Vr){ρr ρs}{s}{tm:ey}{pc}(hd:Dem P.alt (λg _=>NB [trap P.alt] g) D.T h V)(hp:LSs P.alt D.T D.h0 D.V0 h V)(z:∀v∈L,v∈D.L)(hF:Far ρr ρs)(ab:∃x,ρr x D.bo/\¬ρr.ch x):
  ∀ (k:H) (gs:dT Wk) (W:Wj) (sl:eV (H×H)) (t:Trace) (m:H->H) (y:Wk),qx D ρ ρr W h hr g V Vr L->Alone P D.bo g k y W->mF W D.c n L Y s q tm->A6 D ρ ρr W->(∀y b,ρs y b->b<W.heap.size)->gs[0]?=J y->Lv P (λ_=>gL) t gs m->PhC D.c pc ρs W.heap.size t->Fin P Post gs W sl t:=by
 intro k;induction k with
 |zero=>
  intro gs W sl t m y R hy r f X l p G;rcases hy.next with rfl|⟨-,k',e,-⟩
  exact hC gs W sl t m ρ ρr ρs h y V L n s q tm pc R hd hp z r hF f X l p G;cases e
 |succ k ai=>
  intro gs W sl t m y R hy r f X l p G;obtain⟨a,hM⟩:∃a,sumTo gs.size m<=a:=⟨_,lR _⟩;induction a using QG generalizing gs W sl t m with
  |_ a ih=>
   rcases hy.next with rfl|⟨j,k',e,ad⟩
   exact hC gs W sl t m ρ ρr ρs h y V L n s q tm pc R hd hp z r hF f X l p G;cases e;have⟨i,x,d,aa,u,hx,A⟩:=xc (P:=P) (w:=W) (sl:=sl) (jn p l j) ⟨0,_,l,j⟩;rcases QD i with rfl|B;obtain rfl:x=y:=by rw[l]at u;exact(oJ u).s
   have⟨y',es,hg,ac,af⟩:=ad d;obtain⟨o,F,e1,e2,e3,e4,-,e6⟩:=sK p u (Qc Q) A (show stepG P (0==0) x (W.at d)=_ from hg);subst e2;exact Fin.next e1 (ai o (W.at d) aa _ m y' (R.at d) af r ⟨f.kp,f.off,f.NL,f.chan⟩ X e4 e6 (G.app hF (lR _) (lU (R.at d).MB.Mx (zr ab ac) 0 _ _)))
   obtain⟨o,q',F,e1,e2,e3,e4,e5,e6,-⟩:=slip p G (λt i fn pos es u _ h hm=>h.mute u hm) u hx B (λk=>k) (firm0 l j _) A;exact Fin.next e1 (ih _ (by omega) o (W.at d) aa (t++F) q' (R.at d) (hy.rely Q) r ⟨f.kp,f.off,f.NL,f.chan⟩ X ((e3 0 (Qc Q)).t l) e4 e5 (lR _))
end
section
open Go.Conc (crowd Past EvL Deaf QuitsD woken awake crowd_pick runT_crowd_go rcase scase parked ph)
open Go.ConcN (sumTo upd sumTo_upd upd_ne upd_same)
variable {P:Wv} [Two P] {D:PhD P} {Post:Wx->Wj->Prop}
def Half(ρ ρs:Ren):Prop:=∀b x y,ρ x b->ρs y b->ρs.old y\/ρs.ch y
inductive lZ (D:PhD P)(ρ ρr:Ren)(W:Wj)(buf:S Wx)(hr:Wk)(Vr:Wj):Wk->S Wx->H->Prop
 |run {h g:Wk} {V:Wj} {L:S Wx} (R:qx D ρ ρr W h hr g V Vr L) (hd:Dem P.alt (λg _=>NB [trap P.alt] g) D.T h V) (hp:LSs P.alt D.T D.h0 D.V0 h V):lZ D ρ ρr W buf hr Vr g L 1
 |park {h1 hr1 g1 h:Wk} {V1 Vr1 V:Wj} {v z:Wx} {L:S Wx} {sh:CommShape} (C:KH D ρ ρr W h1 hr1 g1 V1 Vr1 (v::L) z sh h hr V Vr) (hb:buf=[]) (hd:Dem P.alt (λg _=>NB [trap P.alt] g) D.T h V) (hp:LSs P.alt D.T D.h0 D.V0 h V):lZ D ρ ρr W buf hr Vr (parked g1 #[rcase D.c z] sh) (v::L) 0
 |last {h1 hr1 g1 h hr':Wk} {V1 Vr1 V Vr':Wj} {z:Wx} {sh:CommShape} (C:KH D ρ ρr W h1 hr1 g1 V1 Vr1 [] z sh h hr' V Vr') (hb:buf=[]) (hp:LSs P.alt D.T D.h0 D.V0 h V):lZ D ρ ρr W buf hr Vr (parked g1 #[rcase D.c z] sh) [] 0
 |pre {h g y:Wk} {V:Wj} {L:S Wx} (k:H) (R:qx D ρ ρr W h hr g V Vr L) (hd:Dem P.alt (λg _=>NB [trap P.alt] g) D.T h V) (hp:LSs P.alt D.T D.h0 D.V0 h V) (hbo:(∃x,ρr x D.bo/\¬ρr.ch x)/\D.bo≠D.c) (hy:Alone P D.bo g k y W):lZ D ρ ρr W buf hr Vr y L (k+2)
inductive iN (D:PhD P)(ρs:Ren)(W:Wj)(n:H)(buf:lj Wx)(hs:Wk)(Vs:Wj):Wk->lj Wx->H->Prop
 |run {s:Wk} {L:lj Wx} (S:Snd P ([trap P.alt],D.Bs) ρs hs s Vs W D.cs D.c L):iN D ρs W n buf hs Vs s L 1
 |new {y s:Wk} {L:lj Wx} (S:Snd P ([trap P.alt],D.Bs) ρs hs s Vs W D.cs D.c L) (hy:∀v,stepG P Z y v=.go s v #[]) (hst:y.status=Qf):iN D ρs W n buf hs Vs y L 2
 |park {h1 s1:Wk} {V1:Wj} {L:lj Wx} {cc:CommCase} {v z:Wx} (S:Snd P ([trap P.alt],D.Bs) ρs h1 s1 V1 W D.cs D.c L) (rc:RC ρs cc (scase D.c v z)) (lc:LC P.alt h1 cc .send V1 hs Vs) (hf:n<=buf.length):iN D ρs W n buf hs Vs (parked s1 #[scase D.c v z] .send) L 0
section
variable {ρ ρr ρs ρ' ρr' ρs':Ren} {W W1:Wj} {n:Nat} {buf:lj Wx} {hr hs x:Wk} {Vr Vs:Wj} {L:lj Wx} {f:Nat} {es:dT Event}
theorem qx.stays(R:qx D ρ ρr W h hr g V Vr L)(i:W1.os=W.os)(h1:∀x b,ρ x b->b≠D.c->W1.heap[b]?=W.heap[b]?)(r:∀x b,ρr x b->b≠D.c->W1.heap[b]?=W.heap[b]?)(k:W1.heap[D.c]?=W.heap[D.c]?):qx D ρ ρr W1 h hr g V Vr L:=
 ⟨R.side.stays i h1 k,R.MB.stays i r k,R.only,R.OH,R.Nb,R.base,R.all,λa b j d f=>by
  have⟨n,s,q,o,l,m,t,p,u⟩:=R.rest a b j d f;exact⟨n,s,q,o,l,m,t,p,by rw[h1 a b d (λe=>f (ρ.inj _ _ _ d (e▸R.side.pair)))];exact u⟩⟩
theorem lZ.stays(R:lZ D ρ ρr W buf hr Vr x L f)(d:W1.os=W.os)(h1:∀x b,ρ x b->b≠D.c->W1.heap[b]?=W.heap[b]?)(i:∀x b,ρr x b->b≠D.c->W1.heap[b]?=W.heap[b]?)(j:W1.heap[D.c]?=W.heap[D.c]?):lZ D ρ ρr W1 buf hr Vr x L f:=by
 cases R with
 |run R h e=>exact .run (R.stays d h1 i j) h e
 |park a l h e=>exact .park ⟨a.Nh.stays d h1 i j,a.sh,a.Px,a.rc,a.Pu⟩ l h e
 |last a l e=>exact .last ⟨a.Nh.stays d h1 i j,a.sh,a.Px,a.rc,a.Pu⟩ l e
 |pre k R h e m r=>
  obtain⟨⟨p,n,q⟩,o⟩:=m;exact .pre k (R.stays d h1 i j) h e ⟨⟨p,n,q⟩,o⟩ (r.rely (i _ _ n o))
theorem iN.stays(a:iN D ρs W n buf hs Vs x L f)(d:W1.os=W.os)(h1:∀x b,ρs x b->b≠D.c->W1.heap[b]?=W.heap[b]?)(h:W1.heap[D.c]?=W.heap[D.c]?):iN D ρs W1 n buf hs Vs x L f:=by
 cases a with
 |run a=>exact .run (a.stays d h1 h)
 |new a k e=>exact .new (a.stays d h1 h) k e
 |park a l i j=>exact .park (a.stays d h1 h) l i j
theorem iN.lt(a:iN D ρs W n buf hs Vs x L f):∀y b,ρs y b->b<W.heap.size:=λy b k=>by
 cases a with
 |run a=>exact(a.Mx.lt k).2
 |new a _ _=>exact(a.Mx.lt k).2
 |park a _ _ _=>exact(a.Mx.lt k).2
theorem iN.ch(a:iN D ρs W n buf hs Vs x L f):(∀y,ρs.ch y↔y=D.cs)/\ρs D.cs D.c:=by
 cases a with
 |run a=>exact⟨a.ch,a.pair⟩
 |new a _ _=>exact⟨a.ch,a.pair⟩
 |park a _ _ _=>exact⟨a.ch,a.pair⟩
theorem lZ.ch(R:lZ D ρ ρr W buf hr Vr x L f):((∀y,ρr.ch y->y=D.cr)/\ρr D.cr D.c)/\(∀y b,ρ y b->b<W.heap.size)/\∀y b,ρr y b->b<W.heap.size:=by
 cases R with
 |run R _ _=>exact⟨⟨R.OH,R.MB.pair⟩,λy b k=>(R.side.Mx.lt k).2,λy b k=>(R.MB.Mx.lt k).2⟩
 |park a _ _ _=>exact⟨⟨a.Nh.OH,a.Nh.MB.pair⟩,λy b k=>(a.Nh.side.Mx.lt k).2,λy b k=>(a.Nh.MB.Mx.lt k).2⟩
 |last a _ _=>exact⟨⟨a.Nh.OH,a.Nh.MB.pair⟩,λy b k=>(a.Nh.side.Mx.lt k).2,λy b k=>(a.Nh.MB.Mx.lt k).2⟩
 |pre _ R _ _ _ _=>exact⟨⟨R.OH,R.MB.pair⟩,λy b k=>(R.side.Mx.lt k).2,λy b k=>(R.MB.Mx.lt k).2⟩
theorem iN.pre(d:zo P D Post)(l:Dem P.alt D.Ns D.Ts hs Vs)(a:iN D ρs W n buf hs Vs x L f){b}{s q}{h:ey}(r:mF W D.c n b Z s q h):L <+:D.L:=by
 have e:∀ {s:Wk} {W:Wj} {L:S Wx},Snd P ([trap P.alt],D.Bs) ρs hs s Vs W D.cs D.c L->L <+:D.L:=λa=>by
  have⟨n,b,s,q,h,h1,j⟩:=a.row;exact j▸(d.pre l _ _ _ _ _ _ h1).2
 cases a with
 |run a=>exact e a
 |new a _ _=>exact e a
 |park a k i hf=>
  obtain⟨v0,-,S2⟩:=a.push k i Q (λ_ _=>Q) r r;exact(Rz _ _).t (e S2)
omit [Two P]in
theorem Moved.left(m:Moved ρ ρ' ρr ρr' W W1 D.c es)(hF:Far ρr ρs)(i:∀y b,ρs y b->b<W.heap.size)(e:∀y,ρr.ch y->ρr y D.c):∀x b,ρs x b->b≠D.c->W1.heap[b]?=W.heap[b]?:=λx b f d=>
 m.Mr.block b (i x b f) (λa h=>by
  rcases hF b a x h f with⟨k,-⟩|⟨k,-⟩
  .exact k
  .exact eW (ρr.fn _ _ _ h (e a k)) d)
omit [Two P]in
theorem Moved.half(m:Moved ρ ρ' ρr ρr' W W1 D.c es)(e:Half ρ ρs)(d:∀y b,ρs y b->b<W.heap.size):Half ρ' ρs:=λb x y h1 a=>by
 rcases m.new x b h1 with k|k
 .exact e b x y k a
 .have:=d y b a;omega
omit [Two P]in
theorem lX.MV(m:lX ρs ρs' W W1 D.c es)(hF:Far ρr ρs)(d:∀y b,ρr y b->b<W.heap.size):Far ρr ρs':=λb x y h1 a=>by
 rcases m.new y b a with k|k
 .rw [m.le.old,m.le.ch];exact hF b x y h1 k
 .have:=d x b h1;omega
omit [Two P]in
theorem lX.half(m:lX ρs ρs' W W1 D.c es)(e:Half ρ ρs)(d:∀y b,ρ y b->b<W.heap.size):Half ρ ρs':=λb x y h1 a=>by
 rcases m.new y b a with k|k
 .rw [m.le.old,m.le.ch];exact e b x y h1 k
 .have:=d x b h1;omega
omit [Two P]in
theorem lX.left(m:lX ρs ρs' W W1 D.c es)(j:Half σ ρs)(i:∀y b,σ y b->b<W.heap.size)(d:∀y,ρs.ch y->ρs y D.c):∀x b,σ x b->b≠D.c->W1.heap[b]?=W.heap[b]?:=λx b f e=>
 m.Mr.block b (i x b f) (λa h=>by
  rcases j b x a f h with k|k
  .exact k
  .exact eW (ρs.fn _ _ _ h (d a k)) e)
theorem Far.half(h:Far ρr ρs):Half ρr ρs:=λb x y h1 a=>(h b x y h1 a).imp (·.2) (·.2)
theorem lZ.again(R:lZ D ρ ρr W buf hr Vr x L f){m}{s}{h:ey}(r:mF w D.c m b Z s q h):x.again w=x:=by
 obtain⟨a,r,-⟩:=r;cases R with
 |run R _ _=>exact ta _ (Qc R.run)
 |park d _ _ _=>exact PN r
 |last d _ _=>exact PN r
 |pre _ R _ _ _ i=>exact ta _ (Qc (i.status R.run))
theorem iN.again(d:iN D ρs W n buf hs Vs x L f){h}{s}{i:ey}(r:mF w D.c h b Z s q i):x.again w=x:=by
 obtain⟨a,r,-⟩:=r;cases d with
 |run d=>exact ta _ (Qc d.go.status.2)
 |new d _ e=>exact ta _ (Qc e)
 |park d _ _ _=>exact Conc.again_send_open r
theorem lZ.status(R:lZ D ρ ρr W buf hr Vr x L f):x.status=Qf\/x.status=.blocked:=by
 cases R with
 |run R _ _=>exact Qc R.run
 |park a _ _ _=>exact Qd Q
 |last a _ _=>exact Qd Q
 |pre _ R _ _ _ b=>exact Qc (b.status R.run)
theorem iN.status(a:iN D ρs W n buf hs Vs x L f):x.status=Qf\/x.status=.blocked:=by
 cases a with
 |run a=>exact Qc a.go.status.2
 |new a _ b=>exact Qc b
 |park a _ _ _=>exact Qd Q
end
end
section
open Go.Conc (crowd Past EvL Deaf QuitsD woken awake crowd_pick runT_crowd_go rcase scase parked ph)
open Go.ConcN (sumTo upd sumTo_upd upd_ne upd_same)
variable {P:Wv} [Two P] {D:PhD P} {Post:Wx->Wj->Prop}
structure mP (D:PhD P)(ρ ρr ρs:Ren)(W:Wj):Prop where
 half:Half ρ ρs
 o:A6 D ρ ρr W
 Ok:Off D.U ρs
omit [Two P]in
theorem mP.Po{ρr ρs ρ' ρr'}{W1}{es:dT Event}(h:mP D ρ ρr ρs W)(m:Moved ρ ρ' ρr ρr' W W1 D.c es)(a:∀y b,ρs y b->b<W.heap.size):mP D ρ' ρr' ρs W1:=⟨m.half h.half a,h.o.Po m,h.Ok⟩
omit [Two P]in
theorem mP.snd{ρr ρs ρs'}{W1}{es:dT Event}(h:mP D ρ ρr ρs W)(m:lX ρs ρs' W W1 D.c es)(a:∀y b,ρ y b->b<W.heap.size):mP D ρ ρr ρs' W1:=⟨m.half h.half a,⟨h.o.kp.Mr h.Ok m.Mr,h.o.off,h.o.NL,h.o.chan⟩,h.Ok.new h.o.kp m.le.sub m.new ⟨m.le.ML,m.le.bad⟩⟩
omit [Two P]in
theorem mP.set{ρr ρs}(h:mP D ρ ρr ρs W){b:dT Wx}{tm:ey}{s}:mP D ρ ρr ρs (W.setChan D.c n b tm s q cl):=⟨h.half,h.o.set _ _ _ _ _ _,h.Ok⟩
omit [Two P]in
theorem A6.shut{ρ ρr}{W}(h:A6 D ρ ρr W){n}{b:dT Wx}{s q}{a:ey}:A6 D ρ ρr (fD W D.c n b s q a):=h.set _ _ _ _ _ _
omit [Two P]in
theorem mP.at{ρr ρs}(h:mP D ρ ρr ρs W)d:mP D ρ ρr ρs (W.at d):=⟨h.half,⟨h.o.kp,h.o.off,h.o.NL,h.o.chan⟩,h.Ok⟩
def jq(P:Wv) [Two P](D:PhD P)(Post:Wx->Wj->Prop)(hr:Wk)(Vr:Wj)(hs:Wk)(Vs:Wj):Prop:=
 ∀ (gs:dT Wk) (W:Wj) (sl:eV (H×H)) (t:Trace) (h:H->H) (ρ ρr ρs:Ren) (b d:Wk) (L Ls buf a:S Wx) (n s q:H) (f:ey) (j e:H),lZ D ρ ρr W buf hr Vr b L j->iN D ρs W n buf hs Vs d Ls e->mF W D.c n buf Z s q f->0<n->Ls=a++buf->D.L=a++L->Far ρr ρs->mP D ρ ρr ρs W->gs[0]?=J b->gs[D.k]?=J d->Lv P (λi=>i=D.k) t gs h->PhT 0 D.k ρr ρs W.heap.size t->Fin P Post gs W sl t
omit [Two P]in
theorem iO{gs:dT Wk}{t}{d:H->H}{k}(c:Lv P (λj=>j=k) t gs d){y}(hij:(i=0/\j=k)\/(i=k/\j=0))(hj:gs[j]?=J y)r(b:ey)(hy:NE y r b=[]):partners (gs.setIfInBounds i ph) r b=[]:=by
 refine PT (λl x a=>?_);rcases Pi gs i l x a with⟨-,rfl⟩|⟨hne,a⟩;exact PI r b;by_cases hlj:l=j
 grind
 refine pt (λe=>?_) r b;rcases(c.old l x (by grind) (by grind) a).status with h|h<;>rw[h]at e<;>cases e
omit [Two P]in
theorem q9{gs:dT Wk}{t}{c:H->H}{k}(f:Lv P (λj=>j=k) t gs c){y}(hij:(i=0/\j=k)\/(i=k/\j=0))(hne0:k≠0)(d:gs[j]?=J y)r(b:ey)(m:NE y r b=[0]):partners (gs.setIfInBounds i ph) r b=[(j,0)]:=by
 rw[Conc.partners_one (PV (by grind) d) (λl x hl a=>?_),m];rfl;rcases Pi gs i l x a with⟨-,rfl⟩|⟨hne,a⟩;exact PI r b;refine pt (λe=>?_) r b;rcases(f.old l x (by grind) (by grind) a).status with h|h<;>rw[h]at e<;>cases e
theorem zt{a c l}(h1:a=c++(v::b))(h:a <+:c++l):∃f,l=v::f:=by
 subst h1;obtain⟨e,d⟩:=h;simp at d
 grind
theorem qx.other{ρr}{W1}{hr}{Vr}(R:qx D ρ ρr W h hr g V Vr L)(f:W1.os=W.os)(hs:∀b,b≠D.c->W1.heap[b]?=W.heap[b]?){x}{u:ey}{s k m}{tm:ey}(t:mF W D.c n b u s q tm)(r:mF W1 D.c j x cl k m tm):qx D ρ ρr W1 h hr g V Vr L:=
 ⟨R.side.other f (λ_ b _ l=>hs b l) t r,R.MB.other f (λ_ b _ l=>hs b l) t r,R.only,R.OH,R.Nb,R.base,R.all,λa b p i d=>by
  have⟨n,s,q,tm,j,k,m,v,y⟩:=R.rest a b p i d;exact⟨n,s,q,tm,j,k,m,v,by rw[hs b (λe=>d (ρ.inj _ _ _ i (e▸R.side.pair)))];exact y⟩⟩
theorem PhT.ops{p}{ρ'}(hF:Far ρ ρ'):∀ (l:S MemOp)(t:Trace),PhT p q ρ ρ' B t->(∀b∈l,(b.g=p\/b.g=q)/\dG B b.act)->PhT p q ρ ρ' B (t++l.toArray):=by
 intro l;induction l with
 |nil=>intro t h _;simpa using h
 |cons x l ih=>
  intro t h f;have e:t++(x::l).toArray=(t++#[x])++l.toArray:=by grind
  rw[e];refine ih _ ?_ (λb a=>f b (by simp[a]));have⟨c,d⟩:=f x (by simp);rcases c with c|c;exact h.app (Ren.le_refl _) hF (lR _) (λb a=>by simp at a;subst a;exact⟨c,xM d⟩);exact(h.s.app (Ren.le_refl _) hF.s (lR _) (λb a=>by simp at a;subst a;exact⟨c,xM d⟩)).s
theorem oB(f:zo P D Post){hr hs:Wk}{Vr Vs:Wj}(b1:Dem P.alt D.Ns D.Ts hs Vs)(ds:NB [trap P.alt] hr)(eg:∀τ d,∃be Vr',LS P.alt hr (Vr.on τ d) be Vr')
  (hn:∀τ d be Vr',LS P.alt hr (Vr.on τ d) be Vr'->(∀hs Vs,Dem P.alt D.Ns D.Ts hs Vs->jq P D Post be Vr' hs Vs)\/((∀n b s q tm,Vr.heap[D.cr]?=J (.chan n b Y s q tm)->b.toList=[])/\∃h1 cc s V1 es,stepG P.alt Y hr (Vr.on τ d)=.comm h1 cc Y s V1 es))
  (bk:gm P D Post hr Vr)
  (c6:(NB [trap P.alt] hs/\∀τ d,(∃bo Vs',LS P.alt hs (Vs.on τ d) bo Vs')/\∀bo Vs',LS P.alt hs (Vs.on τ d) bo Vs'->Dem P.alt D.Ns D.Ts bo Vs'/\jq P D Post hr Vr bo Vs')\/D.Ts hs Vs):jq P D Post hr Vr hs Vs:=by
 intro gs W sl t qs ρ ρr ρs x0 xk L Ls buf X n s q tm f1 f2 RP SP r a7 ar ai hF hH h0 hk hL hP;obtain⟨B,hM⟩:∃B,sumTo gs.size qs+f1+f2<=B:=⟨_,lR _⟩;induction B using QG generalizing gs W sl t qs x0 xk ρ ρr ρs f1 f2 with
 |_ B ih=>
  have hkpos:=Nat.pos_of_ne_zero f.k0;have bv:=(eS h0).1;have a1:=(eS hk).1;have d6:∀y∈gs,awake y:=λy hy=>by
   obtain⟨i,hi,rfl⟩:=Qu.1 hy;by_cases c5:i=0
   subst c5;have:gs[0]=x0:=by simpa[eG hi]using h0
   rw[this];exact vf (RP.status.imp id Qc);by_cases b8:i=D.k
   subst b8;have:gs[D.k]=xk:=by simpa[eG hi]using hk
   rw[this];exact vf (SP.status.imp id Qc);exact vf ((hL.old i _ (by omega) b8 (eG hi)).status.elim Qc λx=>Qd (Qd x))
  have c7:∃ (i:H) (g:Wk),gs[i]?=J g/\g.status=Qf:=by
   cases RP with
   |run R _ _=>exact⟨0,_,h0,R.run⟩
   |pre _ R _ _ _ hy=>exact⟨0,_,h0,hy.status R.run⟩
   |park A hb _ _=>
    cases SP with
    |run p=>exact⟨_,_,hk,p.go.status.2⟩
    |new p _ ad=>exact⟨_,_,hk,ad⟩
    |park _ _ _ hf=>rw[hb]at hf;simp at hf;omega
   |last A hb _=>
    cases SP with
    |run p=>exact⟨_,_,hk,p.go.status.2⟩
    |new p _ ad=>exact⟨_,_,hk,ad⟩
    |park _ _ _ hf=>rw[hb]at hf;simp at hf;omega
  obtain⟨i,x,d,aa,hi,hx,ad⟩:=xc (P:=P) (w:=W) (sl:=sl) d6 c7;by_cases c5:i=0
  subst c5;obtain rfl:x0=x:=by rw[h0]at hi;exact oJ hi
  cases RP with
  |park A _ _ _=>cases hx
  |last A _ _=>cases hx
  | @pre h g _ V _ k R hd hp a9 hy=>
   rcases hy.next with rfl|⟨bt,k',rfl,b4⟩
   exact ih (sumTo gs.size qs+1+f2) (by omega) gs W sl t qs ρ ρr ρs x0 xk 1 f2 (.run R hd hp) SP r hF hH h0 hk hL hP (lR _);obtain⟨y',es,hg,av,ej⟩:=b4 d;obtain⟨a6,b9,e1,e2,e3,e4,e5,e6⟩:=sK (K:=λi=>i=D.k) hL hi (Qc rfl) ad (show stepG P (0==0) x0 (W.at d)=_ from hg);subst e2;have SP1:iN D ρs (W.at d) n buf hs Vs xk Ls f2:=SP.stays rfl (λ_ _ _ _=>rfl) rfl;exact Fin.next e1 (ih (sumTo a6.size qs+(k'+2)+f2) (by rw[e3];omega) a6 (W.at d) aa _ qs ρ ρr ρs y' xk (k'+2) f2 (.pre k' (R.at d) hd hp a9 ej) SP1 r hF (hH.at d) e4 (by rw[e5 D.k xk f.k0 hk,gK (SP1.again (w:=W.at d) r)]) e6 (hP.app (Ren.le_refl _) hF (lR _) (lU (R.at d).MB.Mx (zr a9.1 av) 0 _ _)) (lR _))
  | @run h _ V _ R hd hp=>
   obtain⟨h',V',hl,ap,af⟩:=uI f R hd hp d;obtain⟨be,Vr',c0⟩:=eg W.tape d;have b4:=hn _ _ _ _ c0;obtain⟨g1,W1,es,ρ',ρr',m,c3⟩:=zp f R ds d hl c0;have c1:=SP.lt;have ab:=m.MV hF c1;have a0:=hH.Po m c1;have bw:=m.Mr.size;have r1:mF W1 D.c n buf Z s q tm:=by
    obtain⟨a,k1,k2⟩:=r;exact⟨a,m.row.t k1,k2⟩
   have SP1:=SP.stays m.Mr.os (m.left hF c1 (λy k=>by rw[R.OH y k];exact R.MB.pair)) m.row;rcases c3 with⟨hg,R'⟩|⟨h1,hr1,V1,Vr1,z,sh,hg,A⟩;have hC:∀hs Vs,Dem P.alt D.Ns D.Ts hs Vs->jq P D Post be Vr' hs Vs:=by
    rcases b4 with k|⟨-,_,_,_,_,_,k⟩;exact k;exfalso;obtain⟨-,sr⟩:=oA f.zero f.count Y R.MB.go (λe=>ds (R.MB.go.callers.tail e)) R.MB.Mx R.MB.gid R.MB.ext R.Nb.1 d rfl c0;rw[k,hg]at sr;cases sr
   obtain⟨a6,b9,e1,e2,e3,e4,e5,e6⟩:=sK (K:=λi=>i=D.k) hL hi (Qc rfl) ad (show stepG P (0==0) x0 (W.at d)=_ from hg);subst e2;exact Fin.next e1 (hC hs Vs b1 a6 W1 aa _ qs ρ' ρr' ρs g1 xk L Ls buf X n s q tm 1 f2 (.run R' ap af) SP1 r1 a7 ar ai ab a0 e4 (by rw[e5 D.k xk f.k0 hk,gK (SP1.again r1)]) e6 (hP.app m.Pf ab bw (lU R'.MB.Mx m.ev 0 _ _)))
   obtain⟨a,G,T⟩:=r1;have ac:=(eS G).1;have av:=lU A.Nh.MB.Mx m.ev 0 x0.frame.fn x0.frame.place;have a4:=hP.app m.Pf ab bw av;have aj:=hg;cases buf with
   |nil=>
    have bi:NE xk D.c Y=[]:=by
     cases SP1 with
     |run p=>exact pt (by rw[p.go.status.2];exactλh=>by cases h) _ _
     |new p _ ad=>exact pt (by rw[ad];exactλh=>by cases h) _ _
     |park _ _ _ hf=>simp at hf;omega
    have ha:=Qs.1 (by simpa using T);subst ha;have al:=PJ (sl:=aa) (i:=0) hi aj (λcc bl=>by
     simp at bl;subst bl;exact Conc.ways_recv_none G (iO hL (Qc ⟨rfl,rfl⟩) hk D.c Y bi))
    have bx:Lv P (λi=>i=D.k) (t++n8 0 x0.frame.fn x0.frame.place es) (gs.setIfInBounds 0 (parked g1 #[rcase D.c z] sh)) qs:=hL.put (λop F=>(av op F).2.2.1) (by simp) (λj hj _=>sN (by omega));have c9:(gs.setIfInBounds 0 (parked g1 #[rcase D.c z] sh))[D.k]?=J xk:=by rw[sN (by omega)];exact hk
    have d3:(gs.setIfInBounds 0 (parked g1 #[rcase D.c z] sh))[0]?=J (parked g1 #[rcase D.c z] sh):=by simp[bv]
    refine Fin.next (ad.t al) ?_
    cases L with
    |nil=>exact ih (sumTo gs.size qs+0+f2) (by omega) _ W1 aa _ qs ρ' ρr' ρs _ xk 0 f2 (.last A rfl af) SP1 ⟨_,G,T⟩ ab a0 d3 c9 bx a4 (by simp)
    |cons v L=>
     have hC:∀hs Vs,Dem P.alt D.Ns D.Ts hs Vs->jq P D Post be Vr' hs Vs:=by
      rcases b4 with k|⟨k,-⟩;exact k;exfalso;obtain⟨n0,b0,s0,q0,dc,k1,k2⟩:=R.MB.row;rw[k _ _ _ _ _ k1]at k2;cases k2
     exact hC hs Vs b1 _ W1 aa _ qs ρ' ρr' ρs _ xk (v::L) Ls [] X n s q tm 0 f2 (.park A rfl ap af) SP1 ⟨_,G,T⟩ a7 ar ai ab a0 d3 c9 bx a4
   |cons v b3=>
    obtain⟨L',rfl⟩:=zt ar (ai▸(SP.pre f b1 r));have hC:∀hs Vs,Dem P.alt D.Ns D.Ts hs Vs->jq P D Post be Vr' hs Vs:=by
     rcases b4 with k|⟨k,-⟩;exact k;exfalso;obtain⟨n0,b0,s0,q0,dc,k1,k2⟩:=R.MB.row;rw[k _ _ _ _ _ k1]at k2;cases k2
    have hv:v∈D.L:=by rw[ai];simp
    have bs:0<a.size:=by rw[<-lY,T];simp
    have cd:a.getD 0 Wo=v:=by rw[gD,<-gT,T];rfl
    have cp:(a.extract 1 a.size).toList=b3:=by
     have hl:a.toList.length=a.size:=lY;rw[Qx,T]at *;simp at hl ⊢;rw[<-hl];simp
    have dd:NE xk D.c Y=[]->(∀W2:Wj,W2.os=W1.os->(∀b,b≠D.c->W2.heap[b]?=W1.heap[b]?)->∀b' s' q',mF W2 D.c n b' Z s' q' tm->iN D ρs W2 n b' hs Vs xk Ls f2)->Fin P Post gs W sl t:=λbi d8=>by
     have al:=PR (sl:=aa) (i:=0) hi aj G bs (iO hL (Qc ⟨rfl,rfl⟩) hk D.c Y bi);rw[cd]at al;have r2:=eA W1 D.c n (a.extract 1 a.size) Z s (q+1) tm ac;rw[cp]at r2;have hu:∀op∈[({g:=0,fn:=g1.frame.fn,pos:=g1.frame.place,act:=.recv D.c q n}:MemOp),{g:=0,fn:=g1.frame.fn,pos:=g1.frame.place,act:=.recvDone D.c q}],(op.g=0\/op.g=D.k)/\dG W1.heap.size op.act:=λop F=>by
      simp at F;rcases F with rfl|rfl<;>exact⟨Qc rfl,ac⟩
     refine Fin.next (ad.t al) (hC hs Vs b1 _ _ aa _ qs ρ' ρr' ρs _ xk L' Ls b3 (X++[v]) n s (q+1) tm 1 f2 (.run (A.take f hv (W':=W1.setChan D.c n (a.extract 1 a.size) Z s (q+1) tm) rfl (λb hb=>aR _ _ _ _ _ _ _ _ hb) ⟨a,G,T⟩ r2) ap af) (d8 (W1.setChan D.c n (a.extract 1 a.size) Z s (q+1) tm) rfl (λb hb=>aR _ _ _ _ _ _ _ _ hb) _ _ _ r2) r2 a7 (by rw[ar];simp) (by rw[ai];simp) ab a0.set (by simp[bv]) (by rw[sN (by omega)];exact hk) (hL.put (λop F=>?_) (by simp) (λj hj _=>sN (by omega))) ?_)
     rcases Qp.1 F with k|k;exact(av op k).2.2.1;exact(hu op (by simpa using k)).2.still;rw[<-Qq,cR];exact PhT.ops ab _ _ a4 hu
    cases SP1 with
    |run p=>exact dd (pt (by rw[p.go.status.2];exactλh=>by cases h) _ _) (λW2 b6 hb b' s' q' r2=>.run (p.other b6 (λ_ b _ k=>hb b k) ⟨a,G,T⟩ r2))
    |new p hy bt=>exact dd (pt (by rw[bt];exactλh=>by cases h) _ _) (λW2 b6 hb b' s' q' r2=>.new (p.other b6 (λ_ b _ k=>hb b k) ⟨a,G,T⟩ r2) hy bt)
    | @park h1s s1 V1s _ cc v1 z1 p rc lc hf=>
     have al:=pB (sl:=aa) (i:=0) (j:=D.k) hi aj G bs f.k0 hk (q9 hL (Qc ⟨rfl,rfl⟩) f.k0 hk D.c Y (by rw[Conc.offersAt_parked_send];simp));rw[cd]at al;have r2:=eA W1 D.c n ((a.extract 1 a.size).push v1) Z (s+1) (q+1) tm ac;rw[Qv,cp]at r2;obtain⟨v0,ct,S2⟩:=p.push rc lc (W':=W1.setChan D.c n ((a.extract 1 a.size).push v1) Z (s+1) (q+1) tm) rfl (λb hb=>aR _ _ _ _ _ _ _ _ hb) ⟨a,G,T⟩ r2;have bd:Ls++[v0] <+:D.L:=by
      obtain⟨_,_,_,_,_,k1,k2⟩:=S2.row;exact k2▸(f.pre b1 _ _ _ _ _ _ k1).2
     obtain rfl:v1=v0:=(f.flat v0 (bd.subset (by simp)) ρs).2 v1 ct;have hu:∀op∈[({g:=0,fn:=g1.frame.fn,pos:=g1.frame.place,act:=.recv D.c q n}:MemOp),{g:=0,fn:=g1.frame.fn,pos:=g1.frame.place,act:=.recvDone D.c q},{g:=D.k,fn:=s1.frame.fn,pos:=s1.frame.place,act:=.send D.c s},{g:=D.k,fn:=s1.frame.fn,pos:=s1.frame.place,act:=.sendDone D.c s}],(op.g=0\/op.g=D.k)/\dG W1.heap.size op.act:=λop F=>by
      simp at F;rcases F with rfl|rfl|rfl|rfl;exact⟨Qc rfl,ac⟩;exact⟨Qc rfl,ac⟩;exact⟨Qd rfl,ac⟩;exact⟨Qd rfl,ac⟩
     refine Fin.next (ad.t al) (hC hs Vs b1 _ _ aa _ qs ρ' ρr' ρs _ (s1.finishComm P #[scase D.c v1 z1] .send 0 Wo Z) L' (Ls++[v1]) (b3++[v1]) (X++[v]) n (s+1) (q+1) tm 1 1 (.run (A.take f hv (W':=W1.setChan D.c n ((a.extract 1 a.size).push v1) Z (s+1) (q+1) tm) rfl (λb hb=>aR _ _ _ _ _ _ _ _ hb) ⟨a,G,T⟩ r2) ap af) (.run S2) r2 a7 (by rw[ar];simp) (by rw[ai];simp) ab a0.set (by simp[bv]) (by rw[sN (by omega)];simp[a1]) (hL.put (λop F=>?_) (by simp) (λj hj a3=>by rw[sN (by omega),sN (λe=>a3 e.s)])) ?_)
     rcases Qp.1 F with k|k;exact(av op k).2.2.1;exact(hu op (by simpa using k)).2.still;rw[<-Qq,cR];exact PhT.ops ab _ _ a4 hu
  by_cases b8:i=D.k
  subst b8;obtain rfl:xk=x:=by rw[hk]at hi;exact oJ hi
  have b2:=beq_eq_false_iff_ne.2 f.k0;obtain⟨⟨hchr,hpr⟩,dj,d0⟩:=RP.ch;have cj:∀y,ρs.ch y->ρs y D.c:=λy k=>by rw[(SP.ch.1 y).1 k];exact SP.ch.2
  cases SP with
  |park _ _ _ _=>cases hx
  | @new _ s0 _ p hy bt=>
   obtain⟨a6,b9,e1,e2,e3,e4,e5,e6⟩:=sK (K:=λi=>i=D.k) hL hi (Qd rfl) ad (show stepG P (D.k==0) xk (W.at d)=.go s0 (W.at d) #[]by rw[b2];exact hy _);subst e2;rw[jo,Qt]at e6;rw[jo]at e1;refine Fin.next e1 (ih (sumTo a6.size qs+f1+1) (by rw[e3];omega) a6 (W.at d) aa _ qs ρ ρr ρs x0 s0 f1 1 (RP.stays rfl (λ_ _ _ _=>rfl) (λ_ _ _ _=>rfl) rfl) (.run (p.stays rfl (λ_ _ _ _=>rfl) rfl)) r hF (hH.at d) ?_ e4 ?_ ?_ (lR _))
   rw[e5 0 x0 (by omega) h0,gK (RP.again (w:=W.at d) r)];rw[Qt];exact e6;rw[Qt];exact hP
  |run p=>
   rcases c6 with⟨da,c2⟩|d5;obtain⟨⟨bo,Vs',hl⟩,df⟩:=c2 W.tape d;obtain⟨cm,hO⟩:=df _ _ hl;obtain⟨s1,W1,es,ρs',m,c3⟩:=F9 f p da d hl (λn b cl s q tm k=>(f.pre cm _ _ _ _ _ _ k).1);have ab:=m.MV hF d0;have a0:=hH.snd m dj;have bw:=m.Mr.size;have RP1:=RP.stays m.Mr.os (m.left hH.half dj cj) (m.left hF.half d0 cj) m.row;have r1:mF W1 D.c n buf Z s q tm:=by
    obtain⟨a,k1,k2⟩:=r;exact⟨a,m.row.t k1,k2⟩
   rcases c3 with⟨hg,S'⟩|⟨h1,V1,cc,v,z,hg,S1,rc,lc⟩|⟨r',v,z,n',b',s',q',tm',hg,d1,S'⟩;obtain⟨a6,b9,e1,e2,e3,e4,e5,e6⟩:=sK (K:=λi=>i=D.k) hL hi (Qd rfl) ad (show stepG P (D.k==0) xk (W.at d)=_ by rw[b2];exact hg);subst e2;exact Fin.next e1 (hO a6 W1 aa _ qs ρ ρr ρs' x0 s1 L Ls buf X n s q tm f1 1 RP1 (.run S') r1 a7 ar ai ab a0 (by rw[e5 0 x0 (by omega) h0,gK (RP1.again r1)]) e4 e6 (hP.s.app m.le ab.s bw (lU S'.Mx m.ev D.k _ _)).s)
   obtain⟨a,G,T⟩:=r1;have ac:=(eS G).1;have av:=lU S1.Mx m.ev D.k xk.frame.fn xk.frame.place;have a4:=(hP.s.app m.le ab.s bw av).s;have aj:stepG P (D.k==0) xk (W.at d)=.comm s1 #[scase D.c v z] Y .send W1 es:=by rw[b2];exact hg
   have bp:∀ (W2:Wj),W2.os=W1.os->(∀b,b≠D.c->W2.heap[b]?=W1.heap[b]?)->∀n' b' s' q',mF W2 D.c n' b' Z s' q' tm->Ls++[v] <+:D.L/\Snd P ([trap P.alt],D.Bs) ρs' bo (s1.finishComm P #[scase D.c v z] .send 0 Wo Z) Vs' W2 D.cs D.c (Ls++[v]):=λW2 b6 hb n' b' s' q' r2=>by
    obtain⟨v0,ct,S2⟩:=S1.push rc lc b6 hb ⟨a,G,T⟩ r2;have bd:Ls++[v0] <+:D.L:=by
     obtain⟨_,_,_,_,_,k1,k2⟩:=S2.row;exact k2▸(f.pre cm _ _ _ _ _ _ k1).2
    obtain rfl:v=v0:=(f.flat v0 (bd.subset (by simp)) ρs').2 v ct;exact⟨bd,S2⟩
   have bb:∀y,(gs.setIfInBounds D.k y)[0]?=J x0:=λy=>by rw[sN f.k0];exact h0
   have lv:∀ (y:Wk) (u:Trace),(∀op∈u,dG W1.heap.size op.act)->Lv P (λi=>i=D.k) (t++(n8 D.k xk.frame.fn xk.frame.place es++u)) (gs.setIfInBounds D.k y) qs:=λy u hu=>hL.put (λop F=>by
    rcases Qp.1 F with k|k;exact(av op k).2.2.1;exact(hu op k).still) (by simp) (λj hj a3=>sN (λe=>a3 e.s))
   cases RP1 with
   |last A hb hp=>
    subst hb;obtain⟨k1,-⟩:=bp W1 rfl (λ_ _=>rfl) n [] s q ⟨a,G,T⟩;rw[ar,ai]at k1;have:=k1.length_le;simp at this;omega
   | @park ei dy g1 h' V1' Vr1' V' vL z' L' sh A hb ap af=>
    subst hb;have r2:=eA W1 D.c n a Z (s+1) (q+1) tm ac;rw[T]at r2;obtain⟨k1,S2⟩:=bp (W1.setChan D.c n a Z (s+1) (q+1) tm) rfl (λb hb=>aR _ _ _ _ _ _ _ _ hb) n [] (s+1) (q+1) r2;obtain⟨L2,ef⟩:=zt (a:=Ls++[v]) (b:=[]) (c:=X) (v:=v) (l:=vL::L') (by rw[ar];simp) (ai▸k1);cases ef;have hu:∀op∈[({g:=D.k,fn:=s1.frame.fn,pos:=s1.frame.place,act:=.send D.c s}:MemOp),{g:=0,fn:=g1.frame.fn,pos:=g1.frame.place,act:=.recv D.c q n},{g:=D.k,fn:=s1.frame.fn,pos:=s1.frame.place,act:=.sendDone D.c s},{g:=0,fn:=g1.frame.fn,pos:=g1.frame.place,act:=.recvDone D.c q}],(op.g=0\/op.g=D.k)/\dG W1.heap.size op.act:=λop F=>by
     simp at F;rcases F with rfl|rfl|rfl|rfl;exact⟨Qd rfl,ac⟩;exact⟨Qc rfl,ac⟩;exact⟨Qd rfl,ac⟩;exact⟨Qc rfl,ac⟩
    refine Fin.next (ad.t (Conc.crowd_send_meets (sl:=aa) (i:=D.k) (j:=0) hi aj G (Ne.s f.k0) h0 (q9 hL (Qd ⟨rfl,rfl⟩) f.k0 h0 D.c Z (by rw[Conc.offersAt_parked_recv];simp)))) (hO _ _ aa _ qs ρ ρr ρs' (g1.finishComm P #[rcase D.c z'] sh 0 v Y) _ L' (Ls++[v]) [] (X++[v]) n (s+1) (q+1) tm 1 1 (.run (A.take f (k1.subset (by simp)) (W':=W1.setChan D.c n a Z (s+1) (q+1) tm) rfl (λb hb=>aR _ _ _ _ _ _ _ _ hb) ⟨a,G,T⟩ r2) ap af) (.run S2) r2 a7 (by rw[ar];simp) (by rw[ai];simp) ab a0.set (by rw[sN f.k0];simp[bv]) (by simp[a1]) (hL.put (λop F=>?_) (by simp) (λj hj a3=>by rw[sN (λe=>a3 e.s),sN (by omega)])) ?_)
    rcases Qp.1 F with k|k;exact(av op k).2.2.1;exact(hu op (by simpa using k)).2.still;rw[<-Qq,cR];exact PhT.ops ab _ _ a4 hu
   | @run h' _ V' _ R ap af=>
    have cb:=iO (i:=D.k) hL (Qd ⟨rfl,rfl⟩) h0 D.c Z (pt (by rw[R.run];exactλh=>by cases h) _ _);by_cases bn:a.size<n
    have r2:=eA W1 D.c n (a.push v) Z (s+1) q tm ac;rw[Qv,T]at r2;obtain⟨k1,S2⟩:=bp (W1.setChan D.c n (a.push v) Z (s+1) q tm) rfl (λb hb=>aR _ _ _ _ _ _ _ _ hb) n (buf++[v]) (s+1) q r2;have R2:=R.other (W1:=W1.setChan D.c n (a.push v) Z (s+1) q tm) rfl (λb hb=>aR _ _ _ _ _ _ _ _ hb) ⟨a,G,T⟩ r2;have hu:∀op∈[({g:=D.k,fn:=s1.frame.fn,pos:=s1.frame.place,act:=.send D.c s}:MemOp),{g:=D.k,fn:=s1.frame.fn,pos:=s1.frame.place,act:=.sendDone D.c s}],(op.g=0\/op.g=D.k)/\dG W1.heap.size op.act:=λop F=>by
     simp at F;rcases F with rfl|rfl<;>exact⟨Qd rfl,ac⟩
    refine Fin.next (ad.t (PO (sl:=aa) (i:=D.k) hi aj G bn cb)) (hO _ _ aa _ qs ρ ρr ρs' x0 _ L (Ls++[v]) (buf++[v]) X n (s+1) q tm 1 1 (.run R2 ap af) (.run S2) r2 a7 (by rw[ar];simp) ai ab a0.set (bb _) (by simp[a1]) (lv _ _ (λop F=>(hu op (by simpa using F)).2)) ?_)
    rw[<-Qq,cR];exact PhT.ops ab _ _ a4 hu;have a8:n<=a.size:=by omega
    have al:=PJ (sl:=aa) (i:=D.k) hi aj (λcc bl=>by
     simp at bl;subst bl;exact PS G a8 cb)
    refine Fin.next (ad.t al) (hO _ W1 aa _ qs ρ ρr ρs' x0 _ L Ls buf X n s q tm 1 0 (.run R ap af) (.park S1 rc lc (by rw[<-T,lY];exact a8)) ⟨a,G,T⟩ a7 ar ai ab a0 (bb _) (by simp[a1]) ?_ a4)
    have:=lv (parked s1 #[scase D.c v z] .send) #[] (λop F=>by simp at F);rw[Qt]at this;exact this
   | @pre h' g' _ V' _ k R ap af a9 hy=>
    have bi:NE x0 D.c Z=[]:=pt (by rw[hy.status R.run];exactλh=>by cases h) _ _;have cb:=iO (i:=D.k) hL (Qd ⟨rfl,rfl⟩) h0 D.c Z bi;by_cases bn:a.size<n
    have r2:=eA W1 D.c n (a.push v) Z (s+1) q tm ac;rw[Qv,T]at r2;obtain⟨k1,S2⟩:=bp (W1.setChan D.c n (a.push v) Z (s+1) q tm) rfl (λb hb=>aR _ _ _ _ _ _ _ _ hb) n (buf++[v]) (s+1) q r2;have hu:∀op∈[({g:=D.k,fn:=s1.frame.fn,pos:=s1.frame.place,act:=.send D.c s}:MemOp),{g:=D.k,fn:=s1.frame.fn,pos:=s1.frame.place,act:=.sendDone D.c s}],(op.g=0\/op.g=D.k)/\dG W1.heap.size op.act:=λop F=>by
     simp at F;rcases F with rfl|rfl<;>exact⟨Qd rfl,ac⟩
    refine Fin.next (ad.t (PO (sl:=aa) (i:=D.k) hi aj G bn cb)) (hO _ _ aa _ qs ρ ρr ρs' x0 _ L (Ls++[v]) (buf++[v]) X n (s+1) q tm (k+2) 1 (.pre k (R.other (W1:=W1.setChan D.c n (a.push v) Z (s+1) q tm) rfl (λb hb=>aR _ _ _ _ _ _ _ _ hb) ⟨a,G,T⟩ r2) ap af a9 (hy.rely (aR _ _ _ _ _ _ _ _ a9.2))) (.run S2) r2 a7 (by rw[ar];simp) ai ab a0.set (bb _) (by simp[a1]) (lv _ _ (λop F=>(hu op (by simpa using F)).2)) ?_)
    rw[<-Qq,cR];exact PhT.ops ab _ _ a4 hu;have a8:n<=a.size:=by omega
    have al:=PJ (sl:=aa) (i:=D.k) hi aj (λcc bl=>by
     simp at bl;subst bl;exact PS G a8 cb)
    refine Fin.next (ad.t al) (hO _ W1 aa _ qs ρ ρr ρs' x0 _ L Ls buf X n s q tm (k+2) 0 (.pre k R ap af a9 hy) (.park S1 rc lc (by rw[<-T,lY];exact a8)) ⟨a,G,T⟩ a7 ar ai ab a0 (bb _) (by simp[a1]) ?_ a4)
    have:=lv (parked s1 #[scase D.c v z] .send) #[] (λop F=>by simp at F);rw[Qt]at this;exact this
   have av:=lU S'.Mx m.ev D.k xk.frame.fn xk.frame.place;have al:=pC (sl:=aa) (i:=D.k) hi (show stepG P (D.k==0) xk (W.at d)=_ by rw[b2];exact hg) d1;exact Fin.next (ad.t al) (hO _ W1 aa _ qs ρ ρr ρs' x0 _ L Ls buf X n s q tm f1 1 RP1 (.run S') r1 a7 ar ai ab a0 (by rw[sN f.k0];exact h0) (by simp[a1]) (hL.put (λop F=>(av op F).2.2.1) (by simp) (λj hj a3=>sN (λe=>a3 e.s))) (hP.s.app m.le ab.s bw av).s)
   obtain⟨a,G,T⟩:=r;have ac:=(eS G).1;have d2:Ls=D.L:=by
    obtain⟨n0,b0,s0,q0,dc,k1,k2⟩:=p.row;rw[<-k2];exact(f.ts hs Vs d5 _ _ _ _ _ _ k1).2
   have c4:buf=L:=by
    have:X++buf=X++L:=by rw[<-ar,<-ai,d2]
    exact List.append_cancel_left this
   obtain⟨g',d7,ea,hg,mQ,hQ⟩:=f.close hs Vs ρs xk (W.at d) d5 ((d2▸p).stays rfl (λ_ _ _ _=>rfl) rfl) n a s q tm G;have al:=PP (P:=P) (sl:=aa) (i:=D.k) hi (show stepG P (D.k==0) xk (W.at d)=_ by rw[b2];exact hg);have hw:∀o,woken P xk g' (fD (W.at d) D.c n a s q tm) o=o.again (fD (W.at d) D.c n a s q tm):=λo=>by
    unfold P0;rw[d7,ea];rfl
   have b7:mF (fD (W.at d) D.c n a s q tm) D.c n L Y s q tm:=by
    have:=eA (W.at d) D.c n a Y s q tm ac;rw[T,c4]at this;exact this
   have dt:n8 D.k xk.frame.fn xk.frame.place #[⟨.obj D.c,Z,Y⟩,⟨.obj D.c,Y,Y⟩]=#[{g:=D.k,fn:=xk.frame.fn,pos:=xk.frame.place,act:=.access ⟨.obj D.c,Z,Y⟩}]++#[{g:=D.k,fn:=xk.frame.fn,pos:=xk.frame.place,act:=.close D.c}]:=by rw[Conc.ofEvents_eq];simp[Qm]
   rw[dt]at al;have bq:∀op∈(#[{g:=D.k,fn:=xk.frame.fn,pos:=xk.frame.place,act:=.access ⟨.obj D.c,Z,Y⟩}]++#[{g:=D.k,fn:=xk.frame.fn,pos:=xk.frame.place,act:=.close D.c}]:Trace),op.act≠.mark .disable/\op.act≠.mark .enable:=λop F=>by
    simp at F;rcases F with rfl|rfl<;>exact⟨by simp,by simp⟩
   have a4:=(hP.s.app (u:=#[{g:=D.k,fn:=xk.frame.fn,pos:=xk.frame.place,act:=.access ⟨.obj D.c,Z,Y⟩}]) (Ren.le_refl _) hF.s (lR _) (λop F=>by
    simp at F;subst F;refine⟨rfl,ac,⟨by simp,by simp⟩,λx hx=>?_⟩;simp[Qn]at hx;subst hx;exact⟨D.cs,p.pair,(λh=>by cases h),(λh=>by simp at h)⟩)).s
   have b5:(fD (W.at d) D.c n a s q tm).heap.size=W.heap.size:=cR _ _ _ _ _ _ _ _;have d4:((gs.map (woken P xk g' (fD (W.at d) D.c n a s q tm))).setIfInBounds D.k g').size=gs.size:=by simp
   have bx:Lv P (λ_=>gL) (t++(#[{g:=D.k,fn:=xk.frame.fn,pos:=xk.frame.place,act:=.access ⟨.obj D.c,Z,Y⟩}]++#[{g:=D.k,fn:=xk.frame.fn,pos:=xk.frame.place,act:=.close D.c}])) ((gs.map (woken P xk g' (fD (W.at d) D.c n a s q tm))).setIfInBounds D.k g') (upd qs D.k mQ):=by
    refine⟨λj y hj _ hy=>?_,λj hj=>?_⟩;rw[ce t j _ bq];by_cases a3:D.k=j
    subst a3;rw[sS (by simpa using a1)]at hy;cases hy;rw[upd_same,hP.hq];exact hQ;rw[sN a3,Qr]at hy;obtain⟨z,hz,rfl⟩:=Rq.1 hy;have hq:=hL.old j z hj (λe=>a3 e.s) hz;rw[gK (kU hq _),upd_ne qs mQ (Ne.s a3)];exact hq;rw[ce t j _ bq];exact hL.above j (by rw[d4]at hj;exact hj)
   have aj:((gs.map (woken P xk g' (fD (W.at d) D.c n a s q tm))).setIfInBounds D.k g')[0]?=J (x0.again (fD (W.at d) D.c n a s q tm)):=by
    rw[sN f.k0,Qr,h0];simp[hw]
   obtain⟨pc,ca⟩:∃pc,PhC D.c pc ρs (fD (W.at d) D.c n a s q tm).heap.size (t++(#[{g:=D.k,fn:=xk.frame.fn,pos:=xk.frame.place,act:=.access ⟨.obj D.c,Z,Y⟩}]++#[{g:=D.k,fn:=xk.frame.fn,pos:=xk.frame.place,act:=.close D.c}])):=by
    rw[b5,<-Qq];exact⟨_,a4.close (y:={g:=D.k,fn:=xk.frame.fn,pos:=xk.frame.place,act:=.close D.c}) ⟨rfl,rfl⟩ ac⟩
   have a5:∀b,b≠D.c->(fD (W.at d) D.c n a s q tm).heap[b]?=W.heap[b]?:=λb hb=>aR _ _ _ _ _ _ _ _ hb
   refine Fin.next (ad.t al) ?_
   cases RP with
   | @run h' _ V' _ R ap af=>
    rw[(ta _ (Qc R.run))]at aj;exact bk _ _ aa _ _ ρ ρr ρs h' x0 V' L n s q tm _ (R.other rfl a5 ⟨a,G,T⟩ b7) ap af (λv hv=>by rw[ai];simp[hv]) b7 hF (hH.at d).o.shut (λy b k=>by rw[b5];exact(p.Mx.lt k).2) aj bx ca
   |park A hb _ _=>rw[hb]at c4;cases c4
   | @pre h' g1 _ V' _ k R ap af a9 hy=>
    rw[(ta _ (Qc (hy.status R.run)))]at aj;exact A7 bk ap af (λv hv=>by rw[ai];simp[hv]) hF a9.1 k _ _ aa _ _ x0 (R.other rfl a5 ⟨a,G,T⟩ b7) (hy.rely (a5 _ a9.2)) b7 (hH.at d).o.shut (λy b k=>by rw[b5];exact(p.Mx.lt k).2) aj bx ca
   | @last ei dy g1 h' hr'' V1' Vr1' V' Vr'' z' sh A hb af=>
    obtain⟨a2,cv,ck⟩:=b7;rw[Conc.again_recv_closed cv]at aj;exact xN f af (sumTo _ (upd qs D.k mQ)) _ _ aa _ _ (lR _) ⟨A.Nh.other rfl a5 ⟨a,G,T⟩ ⟨a2,cv,ck⟩,A.sh,A.Px,A.rc,A.Pu⟩ ⟨a2,cv,ck⟩ (hH.at d).o.shut aj bx ca
  have c8:∀j o,(j=0\/j=D.k)->gs[j]?=J o->o.again (W.at d)=o:=λj o hj ho=>by
   rcases hj with rfl|rfl;rw[h0]at ho;cases ho;exact RP.again (w:=W.at d) r;rw[hk]at ho;cases ho;exact SP.again (w:=W.at d) r
  obtain⟨a6,q',b9,e1,e2,e3,e4,e5,e6,-⟩:=slip (K:=λi=>i=D.k) hL hP (λt i fn pos es hi hk h hm=>h.mute hi hk hm) hi hx (by omega) b8 c8 ad;exact Fin.next e1 (ih _ (by omega) a6 (W.at d) aa (t++b9) q' ρ ρr ρs x0 xk f1 f2 (RP.stays rfl (λ_ _ _ _=>rfl) (λ_ _ _ _=>rfl) rfl) (SP.stays rfl (λ_ _ _ _=>rfl) rfl) r hF (hH.at d) ((e3 0 (Qc rfl)).t h0) ((e3 D.k (Qd rfl)).t hk) e4 e5 (lR _))
theorem Ji(a:zo P D Post){hr}{Vr}(G:Dem P.alt D.Nr D.Tr hr Vr):∀hs Vs,Dem P.alt D.Ns D.Ts hs Vs->jq P D Post hr Vr hs Vs:=by
 induction G with
 | @stop g w z=>
  have k:=uJ a (.stop (N:=D.Nr) z);have⟨h1,F,A⟩:=a.tr g w z;have y:∀c d,∃f Vr',LS P.alt g (w.on c d) f Vr':=λc d=>by
   have⟨_,_,_,_,_,h',V',e,l⟩:=A c d;exact⟨h',V',.comm e l⟩
  have B:∀c d f Vr',LS P.alt g (w.on c d) f Vr'->(∀hs Vs,Dem P.alt D.Ns D.Ts hs Vs->jq P D Post f Vr' hs Vs)\/((∀n b s q L,w.heap[D.cr]?=J (.chan n b Y s q L)->b.toList=[])/\∃h1 cc s V1 es,stepG P.alt Y g (w.on c d)=.comm h1 cc Y s V1 es):=λc d f Vr' _=>Qd ⟨F,by
   have⟨_,_,_,_,_,h',V',e,l⟩:=A c d;exact⟨_,_,_,_,_,e⟩⟩
  intro hs Vs t;induction t with
  |stop j=>exact oB a (.stop j) h1 y B k (Qd j)
  |step u r h m ih=>exact oB a (.step u r h m) h1 y B k (Qc ⟨a.ns _ _ u,λc d=>⟨h c d,λi Vs' l=>⟨m c d i Vs' l,ih c d i Vs' l⟩⟩⟩)
 | @step g w u z h m v=>
  have k:=uJ a (.step u z h m);intro hs Vs t;induction t with
  |stop j=>exact oB a (.stop j) (a.nr g w u) h (λc d f Vr' l=>Qc (v c d f Vr' l)) k (Qd j)
  |step x r o p ih=>exact oB a (.step x r o p) (a.nr g w u) h (λc d f Vr' l=>Qc (v c d f Vr' l)) k (Qc ⟨a.ns _ _ x,λc d=>⟨o c d,λi Vs' l=>⟨p c d i Vs' l,ih c d i Vs' l⟩⟩⟩)
end
section
variable {P:Wv} [Two P] {X:lj Wy×lj Wy} {A:Nat->Prop} {G:FuncId->ey} {g g':Wk} {w w':Wj}
theorem lK.grow(hZ:ci P)(hN:cE P)(hG:G KG=Z){cs}(hA:A cs)(h:lK P X A G g w)(hl:LS P g w g' w'){s}{tm:ey}(hr:w.heap[cs]?=J (.chan n b' cl s q tm)):
  ∃F o j L q' l,w'.heap[cs]?=J (.chan F o j L q' l)/\((b'.toList <+:o.toList/\(cl=Y->j=Y))\/j=Y):=by
 obtain⟨⟨hrn,ρ,k,u,z,a,hI,hE,ho,hwi,⟨af,aa,ab⟩,hold,ad⟩,hb⟩:=h;have⟨b0,ac⟩:=aa cs hA;have B:∀ {ρ':Ren} {v v':Wj},Reach ρ ρ' w (u.on w.tape w.drawn) v v'->∃F o j L q' l,v.heap[cs]?=J (.chan F o j L q' l)/\((b'.toList <+:o.toList/\(cl=Y->j=Y))\/j=Y):=λR=>by
  rcases R.Oh.row cs b0 (by rw[af];exact hA) ac with⟨e,-⟩|⟨-,F,o,L,q',l,e⟩;exact⟨_,_,_,_,_,_,e.t hr,Qc ⟨List.prefix_refl _,λh=>h⟩⟩;exact⟨_,_,_,_,_,_,e,Qd Q⟩
 rcases(jW hZ hE hN hI Y z (λe=>hb (z.callers.tail e)) (a.onR w.tape w.drawn) (λi=>Q)).rel with⟨h1,-⟩|⟨-,m⟩|⟨f,_,_,_,_,_,_,_,_,_,_,_,A⟩
 rotate_left 2
 exact eW A.mark (ad f);cases hl with
 |go h hr hd=>
  rw[h]at h1;obtain⟨⟨d,f,e,-⟩,-⟩:=h1;rw[hd]at e;cases e
 |comm h _=>rw[h]at h1;exact h1.elim
 cases hl with
 |go h hr hd=>
  rw[h]at m;generalize stepG P Y k (u.on w.tape w.drawn)=y at m;cases m with
  |go es ρ' R hg he=>exact B R
 | @comm g1 c s1 w1 es _ _ h hc=>
  rw[h]at m;generalize stepG P Y k (u.on w.tape w.drawn)=y at m;cases m with
  | @comm _ k1 _ c' hC _ hs hrun _ u1 _ es' ρ' R hg hcc he _=>
   have p:c.send≠none:=λe=>by have:=hC.2 e;rw[ab,hG]at this;cases this
   have⟨n1,b1,cl1,s1',T,tm1,V,e2⟩:=B R;cases hc with
   |recv T D x q4=>exact eW D p
   |shut T D x=>exact eW D p
   |dead T D x=>exact⟨_,_,_,_,_,_,V,e2⟩
   | @send r cap MH rcvd buf tm0 v0 T D x q4=>
    by_cases e:r=cs
    subst e;rw[V]at x;cases x;refine⟨_,_,_,_,_,_,sS ((eS V).1),?_⟩;rcases e2 with⟨k1,k2⟩|k;exact Qc ⟨k1.t (by rw[Qv];exact Rz _ _),k2⟩;cases k;exact⟨_,_,_,_,_,_,by simp only[sN e];exact V,e2⟩
end
theorem mR{b:Type}{p c:b->ey}(hp:∀a,p a=Y->c a=Y){l:dT b}(h:l.all p=Y):l.all c=true:=by grind
section
variable {P:Wv} {F F':FuncId->ey} (hF:∀f,F f=true->F' f=true)
include hF
theorem mS{x:Operand}(h:okX P F x=Y):okX P F' x=true:=by
 cases x with
 |func f=>exact hF f h
 |_=>exact h
theorem zu{b:Builtin}(h:FL F b=Y):FL F' b=true:=by
 unfold FL at h ⊢;rw[Rx]at h ⊢;refine h.imp id (λh=>?_);cases b<;>first|exact hF _ h|exact h
theorem mT{c:Call}(h:lF P F c=Y):lF P F' c=true:=by
 unfold lF at h ⊢;rw[bT]at h ⊢;refine⟨?_,mR (λ_=>mS hF) h.2⟩;have h1:=h.1;cases d:c.callee with
 |builtin b=>rw[d]at h1;simp at h1 ⊢;exact⟨zu hF h1.1,h1.2⟩
 |value f=>rw[d]at h1;exact mS hF h1
 |invoke a b=>rw[d]at h1;exact h1
theorem xO{c:Call}(h:mI P F c=Y):mI P F' c=true:=by
 unfold mI at h ⊢;rw[Rx,bT]at h ⊢;refine h.imp (mT hF) (λh=>⟨?_,mR (λ_=>mS hF) h.2⟩);have h1:=h.1;split at h1
 rw[bT]at h1 ⊢;exact⟨hF _ h1.1,h1.2⟩;cases h1
theorem zv{o:Op}(h:g9 P F o=Y):g9 P F' o=true:=by
 have e:∀ {x:Operand},okX P F x=Y->okX P F' x=true:=λh=>mS hF h
 have j:∀ {x:eV Operand},x.all (okX P F)=Y->x.all (okX P F')=true:=fun{x} h=>by
  cases x with
  |none=>rfl
  |some x=>exact e h
 cases o with
 |makeFunc f a c=>
  cases f with
  |func f=>
   simp only[g9,bT]at h ⊢
   grind
  |_=>exact h
 |makeMap t r=>cases r<;>exact h
 |call c=>exact xO hF h
 |defer c=>simp[g9]at h ⊢;exact⟨h.1.imp (hF _) (hF _),mT hF h.2⟩
 |go c=>simp[g9]at h ⊢;exact⟨hF _ h.1,mT hF h.2⟩
 |slice t x lo hi mx=>simp[g9]at h ⊢;exact⟨⟨⟨e h.1.1.1,j h.1.1.2⟩,j h.1.2⟩,j h.2⟩
 |build t l=>exact mR (λ_=>e) h
 |buildSlice t n l=>exact mR (λ_=>e) h
 |recv t x b=>simp[g9]at h ⊢;exact⟨hF _ h.1,e h.2⟩
 |makeChan t x=>simp[g9]at h ⊢;exact⟨hF _ h.1,e h.2⟩
 |send a x=>simp[g9]at h ⊢;exact⟨⟨hF _ h.1.1,e h.1.2⟩,e h.2⟩
 |pick a b c=>simp[g9]at h ⊢;exact⟨⟨e h.1.1,e h.1.2⟩,e h.2⟩
 |binOp op t a x r=>simp[g9]at h ⊢;exact⟨⟨e h.1.1,e h.1.2⟩,h.2⟩
 |store t a x=>simp[g9]at h ⊢;exact⟨e h.1,e h.2⟩
 |makeSlice t a x=>simp[g9]at h ⊢;exact⟨e h.1,e h.2⟩
 |indexAddr t a x=>simp[g9]at h ⊢;exact⟨e h.1,e h.2⟩
 |index t a x=>simp[g9]at h ⊢;exact⟨e h.1,e h.2⟩
 |convert s d x=>simp[g9]at h ⊢;exact⟨h.1,e h.2⟩
 |lookup t x i b=>simp[g9]at h ⊢;exact⟨⟨h.1.1,e h.1.2⟩,e h.2⟩
 |mapUpdate t m k x=>simp[g9]at h ⊢;exact⟨⟨⟨h.1.1.1,e h.1.1.2⟩,e h.1.2⟩,e h.2⟩
 |_=>first|exact e h|exact h
theorem fV:∀ {c:Code},aM P F c=Y->aM P F' c=true:=by
 intro c;induction c with
 |region id ops d=>intro h;exact mR (λ_=>zv hF) h
 |seq a b e i=>intro h;simp[aM]at h ⊢;exact⟨e h.1,i h.2⟩
 |cond c a b e i=>intro h;simp[aM]at h ⊢;exact⟨⟨mS hF h.1.1,e h.1.2⟩,i h.2⟩
 |block id a ih=>intro h;exact ih h
 |loop a ih=>intro h;exact ih h
 |scope a ih=>intro h;exact ih h
 |rangeFunc f ps a b e i=>intro h;simp[aM]at h ⊢;exact⟨⟨mS hF h.1.1,e h.1.2⟩,i h.2⟩
 |_=>intro h;exact h
end
structure Ren.OS (ρ ρ':Ren):Prop where
 rel:∀a b,ρ a b->ρ' a b
 prog:ρ'.prog=ρ.prog
 F:∀f,ρ.F f=Y->ρ'.F f=Y
 bad:ρ'.bad=ρ.bad
section
variable {ρ ρ':Ren} (l:ρ.OS ρ')
include l
theorem RA.re{a a'}(h:RA ρ a a'):RA ρ' a a':=⟨l.rel _ _ h.1,h.2⟩
theorem RAo.re{a a':eV Wu}(h:RAo ρ a a'):RAo ρ' a a':=by
 cases h with
 |none=>exact .none
 |some h=>exact .some (RA.re l h)
theorem RNo.re{a a':eV H}(h:RNo ρ a a'):RNo ρ' a a':=by
 cases h with
 |none=>exact .none
 |some h=>exact .some (l.rel _ _ h)
theorem RFn.re{a a':Fn}(h:RFn ρ a a'):RFn ρ' a a':=by
 cases h with
 |func f h=>exact .func f (l.F _ h)
 |yield h=>exact .yield (l.rel _ _ h)
theorem RV.re{v':Wx}(h:RV ρ v v'):RV ρ' v v':=by
 induction h with
 |bool b=>exact .bool b
 |int k n=>exact .int k n
 |string s=>exact .string s
 |pointer h=>exact .pointer (RAo.re l h)
 |slice n c h=>exact .slice n c (RAo.re l h)
 |map h=>exact .map (RNo.re l h)
 |chan h=>exact .chan (RNo.re l h)
 |func i j d _ _ e f=>exact .func (RFn.re l i) j d e f
 |nilFunc=>exact .nilFunc
 |iface t _ ih=>exact .iface t ih
 |nilIface=>exact .nilIface
 |agg d _ ih=>exact .agg d ih
 |tuple d _ ih=>exact .tuple d ih
 |dead v' h=>exact .dead v' h
 |odd n s a c m=>exact .odd n s a c (m.t l.bad.s)
theorem RVs.re{c:dT Wx}(h:RVs ρ c c'):RVs ρ' c c':=⟨h.size,λi v a h1 b=>RV.re l (h.at_ i v a h1 b)⟩
theorem RT.re{a a':Target}(h:RT ρ a a'):RT ρ' a a':=by
 cases h with
 |fn d e=>exact .fn (RFn.re l d) (RVs.re l e)
 |nil=>exact .nil
 |builtin b f a c t cs=>exact .builtin b (zu l.F f) a (by rw[l.prog];exact c) t cs
 |collected h=>exact .collected (l.rel _ _ h)
theorem RD.re{df a':Deferred}(h:RD ρ df a'):RD ρ' df a':=by
 cases h with
 |mk h1 b=>exact .mk (RT.re l h1) (RVs.re l b)
 |odd n v df s c a' d=>exact .odd n v df s c a' (d.t l.bad.s)
theorem RDs.re{a a'}(h:RDs ρ a a'):RDs ρ' a a':=by
 induction h with
 |nil=>exact .nil
 |cons h _ b ih=>exact .cons (RD.re l h) ih (b.imp id (λk=>by
  rw[Rx]at k ⊢;exact k.imp (l.F _) (l.F _)))
theorem RL.re{a a':Loop}(h:RL ρ a a'):RL ρ' a a':=⟨h.state,h.pending,h.fn,RVs.re l h.tmps,h.params,h.assign,h.body,l.rel _ _ h.defers,by rw[l.prog];exact fV l.F h.Pr,by rw[l.prog];exact fV l.F h.Oe,λc e=>by rw[l.prog];exact fV l.F (h.PE c e)⟩
theorem RMs.re{a a'}(h:RMs ρ a a'):RMs ρ' a a':=by
 induction h with
 |nil=>exact .nil
 |cons b c h _ ih=>exact .cons b (RV.re l c) (RV.re l h) ih
theorem RO.re(f:ρ'.F n7=ρ.F n7){a a':Obj}(h:RO ρ a a')(d:a.isChan=Y->RO ρ' a a'):RO ρ' a a':=by
 cases h with
 |cells e i h=>exact .cells e (by rw[f];exact i) (RVs.re l h)
 |chan=>exact d rfl
 |map c h=>exact .map c (RMs.re l h)
 |stringIter s n=>exact .stringIter s n
 |loop h=>exact .loop (RL.re l h)
 |deferred h=>exact .deferred (RDs.re l h)
 |taken=>exact .taken
 |number b h=>exact .number b (RA.re l h)
 |dead _ h=>exact .dead _ h
variable {P:Wv}
theorem RI.re{i i':Item}(h:RI P ρ i i'):RI P ρ' i i':=by
 cases h with
 |code h=>exact .code (fV l.F h)
 |inBlock id=>exact .inBlock id
 |inLoop h=>exact .inLoop (fV l.F h)
 |inScope h=>exact .inScope (fV l.F h)
 |inRegion k h=>exact .inRegion k (mR (λ_=>zv l.F) h)
 |regionEnd a b=>exact .regionEnd a b
 |inRangeFunc h=>exact .inRangeFunc (l.rel _ _ h)
 |endRangeFunc h=>exact .endRangeFunc (l.rel _ _ h)
 |beginRound=>exact .beginRound
theorem RIs.re{k'}(h:RIs P ρ k k'):RIs P ρ' k k':=by
 induction h with
 |nil=>exact .nil
 |cons h _ ih=>exact .cons (RI.re l h) ih
theorem RPn.re{k k'}(h:RPn ρ k k'):RPn ρ' k k':=by
 induction h with
 |nil=>exact .nil
 |cons r g h _ ih=>exact .cons r g (RV.re l h) ih
theorem RM.re{m m':FrameMode}(h:RM ρ m m'):RM ρ' m m':=by
 cases h with
 |run=>exact .run
 |returning=>exact .returning
 |panicking h=>exact .panicking (RPn.re l h)
theorem RFr.re{f f'}(h:RFr P ρ f f'):RFr P ρ' f f':=⟨h.fn,RVs.re l h.tmps,RIs.re l h.todo,RDs.re l h.defers,RM.re l h.mode,h.early,RNo.re l h.round⟩
theorem RFs.re{X a}(f:RFs P ρ' a X.1 X.2)(c:2<=X.1.length)(hne:a.2.length<X.2.length){k k'}(h:RFs P ρ X k k'):RFs P ρ' a k k':=by
 induction h with
 |base=>exact f
 |cons h d b ih=>
  refine .cons (RFr.re l h) ⟨λ_=>d.1 (Qd c),λe=>?_⟩ ih;have:=b.len
  grind
theorem RGo.re{X a}(d:RFs P ρ' a X.1 X.2)(c:2<=X.1.length)(b:a.2.length<X.2.length){g'}(h:RGo P ρ X g g'):RGo P ρ' a g g':=by
 refine⟨RFr.re l h.frame,RFs.re l d c b h.callers,⟨λ_=>h.kind.1 (Qd c),λe=>?_⟩,h.status,h.dying,h.offers⟩;have:=h.callers.len
 grind
end
section
open Go.Conc (crowd Past EvL Deaf QuitsD)
variable {P:Wv} [Two P]
def Ren.back(ρ ρ0:Ren):Ren where
 rel:=ρ.rel
 fn:=ρ.fn
 inj:=ρ.inj
 prog:=ρ.prog
 F:=ρ0.F
 old:=λ_=>gL
 ch:=λ_=>gL
 loose:=Z
 wide:=Z
 tight:=λ_=>Q
 ML:=ρ.ML
 bad:=ρ.bad
 N0:=ρ.N0
theorem C5{D:PhD P}{Post:Wx->Wj->Prop}(v:∀a b,ρ0 a b->D.R0 a b)(j:GId P ρ0)(hE:ij P ρ0.F)(hS:ρ0.F iF=Z)(aa:ρ0.F nA=Z)(hF:∀f,D.Fp f=Y->ρ0.F f=Y)(A:ρ0.F n7=D.Fp n7)(ab:ρ0.bad=D.U.bad)(hX:RFs P ρ0 ([trap P.alt],[]) D.X.1 D.X.2)(h2:2<=D.X.1.length)(h3:0<D.X.2.length)
  (l:∀h V,LSs P.alt D.T D.h0 D.V0 h V->qY P D.U ρ0.F [] Post h V):
  ∀ρ h g V W n s q tm gs sl t qs,Side P D.X ρ h g V W D.cV D.c []->C4 D ρ V W->Kp D.U W/\Off D.U ρ->W.heap[D.c]?=J (.chan n #[] Y s q tm)->LSs P.alt D.T D.h0 D.V0 h V->gs[0]?=J g->Lv P (λ_=>gL) t gs qs->Past i7 W.heap.size t->Fin P Post gs W sl t:=by
 intro ρ h g V W n s q tm gs sl t qs e d hU y hp h0 hL hP;have l0:ρ0.OS (ρ.back ρ0):=⟨λa b k=>d.base.1 a b (v a b k),(j.prog.t e.gid.prog.s).s,λf k=>k,hU.2.2.2.2.t ab.s⟩;have l1:ρ.OS (ρ.back ρ0):=⟨λa b k=>k,Q,λf k=>hF f (by rw[<-d.base.2];exact k),Q⟩;have G:RFs P (ρ.back ρ0) ([trap P.alt],[]) D.X.1 D.X.2:=by
  have R:∀ {k k':S Wy},RFs P ρ0 ([trap P.alt],[]) k k'->RFs P (ρ.back ρ0) ([trap P.alt],[]) k k':=λh=>by
   induction h with
   |base=>exact .base
   |cons h hk _ ih=>exact .cons (RFr.re l0 h) hk ih
  exact R hX
 refine l h V hp gs g W sl t qs (ρ.back ρ0) h0 hL hP ⟨RGo.re l1 G h2 h3 e.go,⟨λa b i=>?_,λa k=>k.elim,λc k=>k.elim,e.Mx.os,λB a c0 hp=>e.Mx.ML (by rw[d.base.2,<-A];exact B) a c0 hp⟩,⟨λg hg=>d.base.1 _ _ (v _ _ (j.MK g hg)),e.gid.prog,j.code,j.alt,λ_ _ k=>k,j.same,j.size,j.apart⟩,hE,hS,Q,⟨Q,Q⟩,⟨aa,λa b o i ho hc=>?_⟩,hU⟩
 rotate_left
 by_cases z:a=D.cV
 subst z;have⟨n1,b1,s1,L,m,p,x⟩:=e.row;rw[p]at ho;cases ho
 simp_all
 have⟨n1,s1,L,m,n2,s2,q2,p,x⟩:=d.rest a b (d.all a b o i ho hc) i z
 grind
 have⟨o,o',r,u,e3⟩:=e.Mx.obj a b i;refine⟨o,o',r,u,RO.re l1 (by rw[d.base.2];exact A) e3 (λhc=>?_)⟩;by_cases z:a=D.cV
 subst z;obtain rfl:b=D.c:=ρ.fn _ _ _ i e.pair;have⟨n1,b1,s1,L,m,p,x⟩:=e.row;rw[p]at r;cases r;rw[y]at u;cases u;have B:=Qs.1 (by simpa using x);subst B;cases e3;exact .chan _ _ _ _ _ _ _ _ _ (Qd RVs.nil) (Qd Q);have⟨n1,s1,L,m,n2,s2,q2,p,x⟩:=d.rest a b (d.all a b o i r hc) i z;rw[p]at r;cases r;rw[x]at u;cases u;exact .chan _ _ _ _ _ _ _ _ _ (Qd RVs.nil) (Qd Q)
end
section
open Go.Conc (crowd Past EvL Deaf QuitsD)
def eM(P:Wv):Wy:={(default:Wy)with fn:=P.funcs.size,defers:=[],mode:=.panicking [goexitEntry]}
section
variable {P:Wv}
theorem xP w:stepG P Z {frame:=eM P,callers:=[],status:=Qf,dying:=N} w=.go {frame:=eM P,callers:=[],status:=.finished,dying:=N} w #[]:=by
 have a:(eM P).catches P=false:=by
  have e:(eM P).todo=[]:=rfl;unfold Qk
  grind
 have e:stepG P Z {frame:=eM P,callers:=[],status:=Qf,dying:=N} w=unwind P Z (eM P) [] N w:=rfl;rw[e];unfold unwind;simp[a];rfl
theorem A8{fr}{fn}(d:P.funcs[fr.fn]?=J fn)(hr:fn.results=#[])(c:fr.mode=.returning)(b:fr.defers=[])w:stepG P Z {frame:=fr,callers:=[eM P],status:=Qf,dying:=N} w=.go {frame:=eM P,callers:=[],status:=Qf,dying:=N} w #[]:=by
 have e:(results fn fr.tmps).runT P w #[]=(.ok (Qb #[]) w,#[]):=by
  unfold results
  simp_all
 have f:QS P Z fr [eM P] N (Qb #[]) w=.go {frame:=eM P,callers:=[],status:=Qf,dying:=N} w #[]:=by
  unfold QS;cases h:fr.kind<;>rfl
 simp only[stepG,c,unwind,b,d,e,f,gJ,eb]
theorem A9{fr}{fn}(c:P.funcs[fr.fn]?=J fn)(hr:fn.results=#[])(b:fr.mode=.returning)(a:fr.defers=[]):QuitsD P 2 0 {frame:=fr,callers:=[eM P],status:=Qf,dying:=N}:=
 .inr ⟨Q,_,#[],by simp,A8 c hr b a,Qd ⟨Q,_,#[],by simp,xP,Q,Q⟩⟩
theorem uK{c s}{tm:ey}(at_:dT Ra)(t:Ra)(cs:dT ey)(h:W.heap[c]?=J (.chan n c' Z s q tm)):(invoke (.builtin .close at_ t cs) #[.chan (J c)]).runT P W #[]=(.ok (.value (Qb #[])) (fD W c n c' s q tm),#[⟨.obj c,Z,Y⟩,⟨.obj c,Y,Y⟩]):=by
 show Rb P (Re c _) W #[]=_;simp only[Rb,h];show Rb P (Rf c (.chan n c' Y s q tm) _) W _=_;simp only[Rb,h];rfl
variable [Two P]
def Jj(P:Wv) [Two P](f:QQ)(cs:H)(h:Wk):Prop:=
 h.callers=[trap P.alt]/\h.frame.fn=f/\h.frame.mode=.returning/\∃at_ t k,h.frame.defers=[{target:=.builtin .close at_ t k,args:=#[.chan (J cs)]}]
theorem Ga{fn}(A:P.funcs[f]?=J fn)(i:fn.results=#[]){cs c}(a:Snd P ([trap P.alt],[eM P]) ρ h g V W cs c L)(hA:Jj P f cs h){s}{tm:ey}(p:W.heap[c]?=J (.chan n c' Z s q tm)):
  ∃g',mayWake P g=Y/\g'.status=Qf/\stepG P Z g W=.go g' (fD W c n c' s q tm) #[⟨.obj c,Z,Y⟩,⟨.obj c,Y,Y⟩]/\∃m,QuitsD P m 0 g':=by
 obtain⟨h1,h2,h3,at_,t,k,h4⟩:=hA;have j:g.callers=[eM P]:=by
  have d:=a.go.callers;rw[h1]at d;generalize hX:(([trap P.alt],[eM P]):S Wy×S Wy)=X at d;generalize z:[trap P.alt]=l at d;generalize g.callers=l' at d ⊢;cases d with
  |base=>rw[<-hX]
  |cons _ _ d=>
   cases z;have:=d.OA
   grind
 have u:g.frame.mode=.returning:=by
  have:=a.go.frame.mode;rw[h3]at this;generalize g.frame.mode=x at this;cases this;rfl
 have r:g.frame.defers=[{target:=.builtin .close at_ t k,args:=#[.chan (J c)]}]:=by
  have:=a.go.frame.defers;rw[h4]at this;generalize g.frame.defers=x at this;cases this with
  | @cons _ d' _ _ r d _=>
   cases d;obtain⟨tg,ar⟩:=d';obtain⟨G,B⟩:=r;simp only at G B;cases G;have F:=B.size;obtain⟨l⟩:=ar;rcases l with - |⟨x,- |⟨y,l⟩⟩<;>simp at F
   have:=B.at_ 0 _ x Q Q;cases this with
   |chan D=>
    cases D with
    |some D=>rw[ρ.fn _ _ _ D a.pair]
 have e:P.funcs[g.frame.fn]?=J fn:=by rw[<-a.go.frame.fn,h2];exact A
 have o:seen P g.frame.fn #[⟨.obj c,Z,Y⟩,⟨.obj c,Y,Y⟩]=#[⟨.obj c,Z,Y⟩,⟨.obj c,Y,Y⟩]:=by unfold seen;simp
 obtain⟨T,cl,st,dy,of⟩:=g;simp only at j u r e o;subst j;have v:=a.go.dying.2;subst v;refine⟨{frame:={T with defers:=[]},callers:=[eM P],status:=Qf,dying:=N},?_,Q,?_,2,A9 (fr:={T with defers:=[]}) e i u Q⟩;simp[mayWake,u];simp[stepG,u,unwind,r];unfold Q9;simp only[uK at_ t k p];simp[o,GStep.after]
end
end
section
variable {P:Wv} [Two P]
theorem Jk{b:Outer}{G:QQ->ey}{Post:Wx->Wj->Prop}{Mz:QQ}(T:G Mz=Z)(X:P.inits.idxOf? f=N)
  (hR:∀τ d e u,R τ d e u->e=Nm (C Y)\/∃t a c r x l,e=.panicked ({v:=.iface t (.func (.func Mz) a c),recovered:=r,goexit:=x} :: l))
  (aa:∀h V ρ g W ρ' W',Ends P.alt f R h V->h.frame.mode=.returning->Rel P b G [] ρ h g V W->ρ.le ρ'->cg ρ' V W'->Kp b W'->Post (C Y) W'):Leaf P b G (Ends P.alt f R) Post:=by
 intro h g V W ρ hT m d;have a1:=hT;obtain⟨τ,d0,p,z,e,A,hr,rfl,a4,aj,-⟩:=hT;have ad:=RFs.Pn m.go.callers;obtain⟨B,gc,gst,gd,go⟩:=g;simp only at ad;subst ad;obtain rfl:gd=none:=m.go.dying.2;have q:=m.go.frame;simp only at q;rcases hR _ _ _ _ hr with rfl|⟨t,a,c,r,x,l,rfl⟩;obtain⟨hm,hd,hk,fn,L,F⟩:=aj;have ap:B.mode=.returning:=by
  have:=q.mode;rw[hm]at this;generalize B.mode=y at this;cases this;rfl
 have a5:B.defers=[]:=by
  have:=q.defers;rw[hd]at this;generalize B.defers=y at this;cases this;rfl
 obtain⟨n,ai⟩:∃n,P.funcs[A.fn]?=J n:=by
  cases hx:P.funcs[A.fn]? with
  |some y=>exact⟨y,Q⟩
  |none=>rw[(mN m.gid A.fn).2 hx]at L;cases L
 rw[pv m.gid L ai A.tmps]at F;have hS:cg ρ (V.on p z) (W.at d):=⟨m.Mx.obj,m.Mx.fix,m.Mx.chan,m.Mx.os,m.Mx.ML⟩;have ac:RS P QV ρ (results n A.tmps) (results n B.tmps):=qX n q.tmps;have af:((results n A.tmps).runT P.alt (V.on p z) #[]).1=.ok (C Y) (V.on p z):=by rw[Sem.runT_fst];exact F
 obtain⟨m1,o1⟩:=ss ac (V.on p z) ((W.at d).on p z) #[] #[] ⟨m.Mx.obj,m.Mx.fix,m.Mx.chan,m.Mx.os,m.Mx.ML⟩ (λi _=>Q);have av:(results n A.tmps).runT P (V.on p z) #[]=(results n A.tmps).runT P.alt (V.on p z) #[]:=by
  rcases o1 with⟨-,x,u,k,-⟩|⟨k,-⟩
  grind
  exact k.s
 have a0:((results n A.tmps).runT P (V.on W.tape d) #[]).1=.ok (C Y) (V.on W.tape d):=by
  have hw:((results n A.tmps).runT P (V.on p z) #[]).1=.ok (C Y) (V.on p z):=by rw[av];exact af
  have:=m1.2.2 W.tape d (λi hi=>by rw[hw]at hi;simp[Result.w]at hi;omega);rw[Jg]at this;rw[this];show Result.on W.tape d z ((results n A.tmps).runT P (V.on p z) #[]).1=_;rw[hw];show Result.ok _ ((V.on p z).on W.tape (d+(z-z)))=_;rw[Nat.sub_self,Nat.add_zero,Jg]
 obtain⟨-,o2⟩:=ss ac (V.on W.tape d) (W.at d) #[] #[] ⟨m.Mx.obj,m.Mx.fix,m.Mx.chan,m.Mx.os,m.Mx.ML⟩ (λi _=>Q);rcases o2 with⟨⟨x,u,k,-⟩,-⟩|⟨-,ρ',le,S',D,K,-,-,j,-,-⟩
 grind
 rw[a0]at D S';generalize a3:(results n B.tmps).runT P (W.at d) #[]=cr at D S' K j;obtain⟨r2,es⟩:=cr;simp only at D S' K j;cases D with
 | @ok _ v' _ W' hv=>
  have hv:=hv;cases hv;obtain⟨E0,ar,a2⟩:=j;refine⟨C Y,seen P B.fn es,ρ',V.on W.tape d,W',?_,aa _ V ρ _ W ρ' W' a1 hm m le ⟨S'.obj,S'.fix,S'.chan,S'.os,S'.ML⟩ (m.o.1.Mr m.o.2 ⟨K.os,K.output,K.tape,K.size,K.block⟩),S',K.size,λe he=>a2 e (by have:=eK he;rw[ar]at this;simpa using this)⟩;have al:P.funcs[B.fn]?=J n:=by rw[<-q.fn];exact ai
  have hin:P.inits.idxOf? B.fn=none:=by rw[<-q.fn,a4];exact X
  have ab:QS P Y B [] N (C Y) W'=.ended (.done (C Y)) W':=by
   unfold QS;have:=q.early.2.2
   grind
  simp only[stepG,ap,unwind,a5,al,a3,ab];simp[GStep.after]
 obtain⟨hm,-⟩:=aj;exfalso;have:=q.mode;rw[hm]at this;generalize B.mode=y at this;cases this with
 |panicking hp=>
  cases hp with
  |cons _ _ hv _=>
   cases hv with
   |iface _ hv=>
    cases hv with
    |func hf _ _ _ _=>
     cases hf with
     |func _ hF=>rw[m.same,T]at hF;cases hF
end
section
open Go.Conc (crowd Past EvL Deaf QuitsD woken awake crowd_pick runT_crowd_go)
open Go.ConcN (sumTo upd sumTo_upd upd_ne upd_same)
variable {P:Wv} {Post:Wx->Wj->Prop}
theorem uL(W:Wj)(a b:H):(W.at a).at b=W.at b:=rfl
theorem C6{g'}(hr:g.status=Qf)(h:∀d,stepG P Y g (W.at d)=.spawn g' al (W.at d) #[]){ρr ρs}
  (m:∀ (gs:dT Wk) (sl:eV (H×H)) (t:Trace) (q:H->H) (d k:H),k≠0->gs[0]?=J g'->gs[k]?=J al->Lv P (λi=>i=k) t gs q->PhT 0 k ρr ρs W.heap.size t->Fin P Post gs (W.at d) sl t):
  ∀ (gs:dT Wk) (sl:eV (H×H)) (t:Trace) (q:H->H) (d:H),gs[0]?=J g->Lv P (λ_=>gL) t gs q->Past i7 W.heap.size t->Fin P Post gs (W.at d) sl t:=by
 intro gs sl t q d f u L;obtain⟨a,hM⟩:∃a,sumTo gs.size q<=a:=⟨_,lR _⟩;induction a using QG generalizing gs sl t q d with
 |_ a F=>
  have⟨i,x,l,e,v,T,o⟩:=xc (P:=P) (w:=W.at d) (sl:=sl) (jn u f hr) ⟨0,g,f,hr⟩;have z:=(eS f).1;rcases QD i with rfl|r;obtain rfl:x=g:=by rw[f]at v;exact(oJ v).s
  have p:=Conc.runT_crowd_spawn (P:=P) (sl:=e) (i:=0) v (show stepG P (0==0) x (W.at l)=_ from h l);have n:((n8 0 x.frame.fn x.frame.place #[]).push {g:=0,fn:=x.frame.fn,pos:=x.frame.place,act:=.go gs.size} |>.push {g:=gs.size,fn:=al.frame.fn,pos:=x.frame.place,act:=.start})=#[{g:=0,fn:=x.frame.fn,pos:=x.frame.place,act:=.go gs.size},{g:=gs.size,fn:=al.frame.fn,pos:=x.frame.place,act:=.start}]:=rfl;rw[n]at p;have c:∀B∈(#[{g:=0,fn:=x.frame.fn,pos:=x.frame.place,act:=.go gs.size},{g:=gs.size,fn:=al.frame.fn,pos:=x.frame.place,act:=.start}]:Trace),B.act≠.mark .disable/\B.act≠.mark .enable:=λB hop=>by
   grind
  refine Fin.next (o.t p) (m _ e _ q l gs.size (by omega) (by rw[gP,if_neg (by simp;omega)];simp[z]) (by rw[gP,if_pos (by simp)]) ⟨λj y D hjk hy=>?_,λj D=>?_⟩ (PhT.start L (by omega) (u.above gs.size (lR _)) ⟨Q,Q⟩ ⟨Q,Q⟩))
  rw[ce t j _ c];refine u.old j y D (λk=>k) ?_
  grind
  rw[ce t j _ c];exact u.above j (by simp at D;omega);obtain⟨G,q',A,V,e2,X,e4,R,e6,-⟩:=slip (w:=W.at d) (d:=l) u L (lQ W.heap.size) v T r (λk=>k) (firm0 f hr _) (by rw[uL];exact o);exact Fin.next V (F _ (by omega) G e (t++A) q' l ((X 0 (Qc Q)).t f) e4 R (lR _))
end
inductive Good:Wx->Prop
 |bool (b:ey):Good (C b)
 |int (k:IntKind) (n:kr):Good (I k n)
 |string (s:gI):Good (U s)
 |pointer (a:eV Wu):Good (O a)
 |slice (a:eV Wu) (n c:H):Good (M a n c)
 |map (r:eV H):Good (.map r)
 |chan (r:eV H):Good (.chan r)
 |nilFunc:Good .nilFunc
 |nilIface:Good .nilIface
 |agg {c:dT Wx} (h:∀ (i:H) v,c[i]?=J v->Good v):Good (Qa c)
 |tuple {c:dT Wx} (h:∀ (i:H) v,c[i]?=J v->Good v):Good (Qb c)
section
variable {ρ σ:Ren}
theorem pD{Q:Wx->Wx->Wx->Prop}{c:dT Wx}(hc:c.size=c'.size)(h:∀ (i:H) v b,c[i]?=J v->c'[i]?=J b->∃d,Q v b d):
  ∃f:dT Wx,f.size=c'.size/\∀ (i:H) v b,c[i]?=J v->c'[i]?=J b->∃d,f[i]?=J d/\Q v b d:=by
 have e:∀i:_root_.Fin c'.size,∃d,Q (c[i.1]'(by omega)) c'[i.1] d:=λi=>h i.1 _ _ (eG _) (eG _)
 refine⟨QB λi=>(e i).choose,by simp,λi v b h1 k=>?_⟩;have⟨hi,j⟩:=eS h1;have⟨a,l⟩:=eS k;refine⟨(e ⟨i,a⟩).choose,?_,?_⟩
 .rw [Array.getElem?_ofFn];simp[a]
 .have:=(e ⟨i,a⟩).choose_spec;rw[<-j,<-l];exact this
theorem zw{c:dT Wx}(hc:c.size=c'.size)(h0:b'.size=c'.size)(h:∀ (i:H) v v',c[i]?=J v->c'[i]?=J v'->∃a,b'[i]?=J a/\RV σ a v'/\(Good v->a=v))(l:∀ (i:H) v,c[i]?=J v->Good v):b'=c:=by
 refine QC (by omega) (λi h1 f=>?_);have j:i<c'.size:=by omega
 obtain⟨a,e,-,k⟩:=h i _ _ (eG f) (eG j);have:=k (l i _ (eG f));rw[eG h1]at e;cases e;exact this
theorem xQ{c f:dT Wx}(hc:c.size=c'.size)(h0:f.size=c'.size)(h:∀ (i:H) v a,c[i]?=J v->c'[i]?=J a->∃d,f[i]?=J d/\RV σ d a/\(Good v->d=v)):∀ (i:H) v a,f[i]?=J v->c'[i]?=J a->RV σ v a:=λi v a h1 j=>by
 have hi:i<c'.size:=(eS j).1;obtain⟨d,e,k,-⟩:=h i _ a (eG (by omega)) j;rw[h1]at e;cases e;exact k
theorem Jl(hrel:∀a b,ρ a b->σ a b)(q:σ.bad=ρ.bad){l:Wx}(h:RV ρ v l):∃o,RV σ o l/\(Good v->o=v):=by
 have f:∀ {a i:eV Wu},RAo ρ a i->RAo σ a i:=λh=>by
  cases h with
  |none=>exact .none
  |some h=>exact .some ⟨hrel _ _ h.1,h.2⟩
 have j:∀ {a i:eV H},RNo ρ a i->RNo σ a i:=λh=>by
  cases h with
  |none=>exact .none
  |some h=>exact .some (hrel _ _ h)
 induction h with
 |bool b=>exact⟨_,.bool b,λ_=>rfl⟩
 |int k n=>exact⟨_,.int k n,λ_=>rfl⟩
 |string s=>exact⟨_,.string s,λ_=>rfl⟩
 |pointer h=>exact⟨_,.pointer (f h),λ_=>rfl⟩
 |slice n c h=>exact⟨_,.slice n c (f h),λ_=>rfl⟩
 |map h=>exact⟨_,.map (j h),λ_=>rfl⟩
 |chan h=>exact⟨_,.chan (j h),λ_=>rfl⟩
 |func p ha d _ _ _ _=>exact⟨_,.dead _ (by cases p<;>rfl),λk=>by cases k⟩
 |nilFunc=>exact⟨_,.nilFunc,λ_=>rfl⟩
 |iface t h _=>exact⟨_,.dead _ rfl,λk=>by cases k⟩
 |nilIface=>exact⟨_,.nilIface,λ_=>rfl⟩
 |agg d _ ih=>
  have⟨m,e,h1⟩:=pD d ih;exact⟨.agg m,.agg e (xQ d e h1),λk=>by cases k with|agg k=>rw[zw d e h1 k]⟩
 |tuple d _ ih=>
  have⟨m,e,h1⟩:=pD d ih;exact⟨.tuple m,.tuple e (xQ d e h1),λk=>by cases k with|tuple k=>rw[zw d e h1 k]⟩
 |dead l h=>exact⟨_,.dead l h,λ_=>rfl⟩
 |odd n s a c r=>exact⟨_,.odd n s a c (r.t q.s),λk=>by cases k⟩
theorem zx(hrel:∀a b,ρ a b->σ a b)(m:σ.bad=ρ.bad){c l:dT Wx}(h:RVs ρ c l):∃d,RVs σ d l/\d.size=c.size/\∀ (i:H) v,c[i]?=J v->Good v->d[i]?=J v:=by
 have⟨d,f,h1⟩:=pD h.size (λi v n h1 o=>Jl (σ:=σ) hrel m (h.at_ i v n h1 o));refine⟨d,⟨f,xQ h.size f h1⟩,by rw[f,h.size],λi v j p=>?_⟩;obtain⟨v0,e,-,k⟩:=h1 i v _ j (eG (by rw[<-h.size];exact((eS j).1)));rw[e,k p]
theorem Jm(hrel:∀a b,ρ a b->σ a b)(l:σ.bad=ρ.bad)(hF:σ.F n7=Z){o j:Obj}(h:RO ρ o j):∃d,RO σ d j/\Fixed d/\d.isChan=Z/\∀c e z,o=.cells c e z->∃f n,d=.cells f e n/\∀ (i:H) v,c[i]?=J v->Good v->f[i]?=J v:=by
 cases h with
 | @cells c c' e z m hz h=>
  have⟨f,k,k2,k3⟩:=zx hrel l h;refine⟨.cells f e (0,max (max c.size m.2) 1),.cells e (.inr ⟨hF,rfl,by simp;omega⟩) k,⟨rfl,by simp only;omega⟩,rfl,λc1 e1 z1 hc=>?_⟩
  grind
 |number b h=>exact⟨_,.number b ⟨hrel _ _ h.1,h.2⟩,trivial,rfl,λ_ _ _ h=>by cases h⟩
 |dead j h=>exact⟨_,.dead j h,trivial,rfl,λ_ _ _ h=>by cases h⟩
 |_=>exact⟨_,.dead _ rfl,trivial,rfl,λ_ _ _ h=>by cases h⟩
end
def zy(o:Obj):Prop:=(∃c e z,o=E c e z)\/Fixed o
def Ren.low(ρ:Ren)(F:QQ->ey)(live:H->Prop)(c:H)(wide:ey)(ht:F iF=Y->wide=Z):Ren where
 rel:=ρ.rel
 fn:=ρ.fn
 inj:=ρ.inj
 prog:=ρ.prog
 F:=F
 old:=λa=>(∃b,ρ a b)/\¬live a/\a≠c
 ch:=λa=>a=c
 loose:=Y
 wide:=wide
 tight:=ht
 ML:=ρ.ML
 bad:=ρ.bad
 N0:=ρ.N0
theorem lower(d:cg ρ V W){F:QQ->ey}{live:H->Prop}{c c':H}{wide:ey}(ht:F iF=Y->wide=Z)(hF:F n7=Z)(hc:ρ c c'){s:H}{b:dT Wx}{ai tm:ey}(hW:W.heap[c']?=J (.chan n' b' ai s' q' tm))(aj:wide=Y\/cl=ai)
  (p:∀a,live a->a≠c/\∃x e z,V.heap[a]?=J (.cells x e z)/\(∀ (i:H) v,x[i]?=J v->Good v)/\∀y,ρ a y->∃x',W.heap[y]?=J (.cells x' e z)):
  ∃V':Wj,cg (ρ.low F live c wide ht) V' W/\V'.heap.size=V.heap.size/\V'.tape=V.tape/\V'.drawn=V.drawn/\V'.os=V.os/\V'.heap[c]?=J (.chan n b cl s q tm)/\(∀ (a:H) o,V'.heap[a]?=J o->o.isChan=Y->a=c) /\
   (∀a y i v,ρ a y->V.cell? ⟨a,i,N⟩=J v->Good v->V'.cell? ⟨a,i,N⟩=J v)/\(∀a,live a->V'.heap[a]?=V.heap[a]?)/\∀a y,ρ a y->a≠c->∃o,V'.heap[a]?=J o/\zy o:=by
 classical
 generalize hσ:ρ.low F live c wide ht=σ;have hrel:∀a b,ρ a b->σ a b:=λa b h=>by subst hσ;exact h
 have X:∀a b,σ a b->ρ a b:=λa b h=>by subst hσ;exact h
 have ab:σ.F n7=false:=by subst hσ;exact hF
 have ho:σ.bad=ρ.bad:=by subst hσ;rfl
 have l:∀a:H,∃R:Obj,(∀y,ρ a y->a≠c->∃o',W.heap[y]?=J o'/\RO σ R o')/\(a≠c->¬live a->Fixed R)/\(a≠c->R.isChan=Z)/\(∀y x e z,ρ a y->a≠c->V.heap[a]?=J (.cells x e z)->∃x0 z0,R=.cells x0 e z0/\∀ (i:H) v,x[i]?=J v->Good v->x0[i]?=J v)/\(live a->V.heap[a]?=J R)/\(a=c->R=.chan n b cl s q tm):=λa=>by
  by_cases j:a=c
  exact⟨.chan n b cl s q tm,λ_ _ k=>eW j k,λk=>eW j k,λk=>eW j k,λ_ _ _ _ _ k=>eW j k,λk=>eW j (p a k).1,λ_=>rfl⟩;by_cases G:live a
  obtain⟨-,x,e,z,h1,h2,h3⟩:=p a G;refine⟨.cells x e z,λy B _=>?_,λ_ k=>eW G k,λ_=>rfl,λy x1 e1 z1 B _ hx=>?_,λ_=>h1,λk=>eW k j⟩;have⟨o,o',L,P,k3⟩:=d.obj a y B;have⟨x',k4⟩:=h3 y B;rw[h1]at L;cases L;rw[k4]at P;cases P;cases k3 with
  |cells e hz h=>
   have⟨c0,m1,m2,m3⟩:=zx (σ:=σ) hrel ho h;have:c0=x:=by
    refine QC m2 (λi i1 i2=>?_);have:=m3 i _ (eG i2) (h2 i _ (eG i2))
    grind
   subst this;exact⟨_,k4,.cells e (.inl rfl) m1⟩
  grind
  by_cases B:∃y,ρ a y
  obtain⟨y,B⟩:=B;have⟨o,o',L,P,k3⟩:=d.obj a y B;have⟨R,m1,m2,m3,m4⟩:=Jm (σ:=σ) hrel ho ab k3;refine⟨R,λy2 ac _=>?_,λ_ _=>m2,λ_=>m3,λy2 x e z ac _ hx=>?_,λk=>eW k G,λk=>eW k j⟩;obtain rfl:=ρ.fn _ _ _ B ac
  grind
  grind
  exact⟨.coro N,λy k=>eW ⟨y,k⟩ B,λ_ _=>trivial,λ_=>rfl,λy _ _ _ k=>eW ⟨y,k⟩ B,λk=>eW k G,λk=>eW k j⟩
 have⟨f,l⟩:=Classical.skolem.1 l;generalize u:({V with heap:=QB (n:=V.heap.size) λa=>f a.1}:Wj)=V';have af:V'.heap.size=V.heap.size:=by subst u;simp
 have r:∀a,a<V.heap.size->V'.heap[a]?=J (f a):=λa ha=>by
  subst u;simp[ha]
 have D:V'.heap[c]?=J (.chan n b cl s q tm):=by rw[r c ((d.lt hc).1),(l c).2.2.2.2.2 rfl]
 have aa:∀ (a:H) o,V'.heap[a]?=J o->o.isChan=Y->a=c:=λa o ho A=>by
  refine Classical.byContradiction λT=>?_
  rw[r a (by rw[<-af];exact(eS ho).1)]at ho;cases ho;rw[(l a).2.2.1 T]at A;cases A
 refine⟨V',⟨λa y m=>?_,λa ad=>?_,λa A=>?_,?_,λhb=>by rw[ab]at hb;cases hb⟩,af,by subst u;rfl,by subst u;rfl,by subst u;rfl,D,aa,λa y i v m hv hg=>?_,λa G=>?_,λa y m T=>?_⟩;have m:=X _ _ m;by_cases j:a=c
 subst j;obtain rfl:=ρ.fn _ _ _ m hc;subst hσ;exact⟨_,_,D,hW,.chan _ _ _ _ _ _ _ _ _ (.inl rfl) aj⟩;have⟨o',L,P⟩:=(l a).1 y m j;exact⟨_,o',r a ((d.lt m).1),L,P⟩;subst hσ;obtain⟨⟨y,B⟩,h1,h2⟩:=ad;exact⟨_,r a (d.lt B).1,(l a).2.1 h2 h1⟩;subst hσ;have A:=A;subst A;exact⟨_,D,rfl⟩;subst u;exact d.os;unfold Rw at hv ⊢;rw[r a ((d.lt m).1)];cases hr:V.heap[a]? with
 |none=>rw[hr]at hv;cases hv
 |some o=>
  rw[hr]at hv;cases o with
  |cells x e z=>
   by_cases j:a=c
   subst j;have⟨o,o',L,P,k3⟩:=d.obj a c' hc;rw[hW]at P;cases P;rw[hr]at L;cases L;cases k3;have⟨x0,z0,L,P⟩:=(l a).2.2.2.1 y x e z m j hr;rw[L];simp only at hv ⊢;exact P i v hv hg
  |_=>cases hv
 have ha:a<V.heap.size:=by
  obtain⟨-,x,e,z,h1,-⟩:=p a G;exact(eS h1).1
 exact(r a ha).t ((l a).2.2.2.2.1 G).s;refine⟨_,r a (d.lt m).1,?_⟩;by_cases G:live a
 obtain⟨-,x,e,z,h1,-⟩:=p a G;have:=(l a).2.2.2.2.1 G;rw[h1]at this;exact .inl ⟨x,e,z,(oJ this).s⟩;exact .inr ((l a).2.1 T G)
section
variable {P:Wv} {N T:Wk->Wj->Prop} {g g':Wk} {w w':Wj}
theorem LC.status{s:QR}(h:LC P g c s w g' w'):g'.status=Qf:=by
 cases h with
 |dead _ _ _ a=>exact a
 |_=>rfl
theorem LS.status(h:LS P g w g' w'):g'.status=Qf:=by
 cases h with
 |go _ hr _=>exact hr
 |comm _ a=>exact a.status
theorem LS.next(hr:g.status=Qf)(h:LS P g w g' w'){m:Machine}(hs:step P (solo g w)=.next m):m=solo g' w'\/∃b,b.status=.blocked/\m.gs=#[b]/\∃u,m=solo b u:=by
 cases h with
 |go h _ _=>
  rw[mO hr h]at hs;exact Qc (by cases hs;rfl)
 | @comm g1 c s k es _ _ h j=>
  rw[uE hr h]at hs;by_cases f:g1.status=Qf
  .rcases uF f hs with⟨b,q,l,rfl⟩|rfl
   .obtain ⟨rfl,rfl⟩:=(LS.comm h l).fn (LS.comm h j);exact Qc Q
   .exact Qd ⟨_,Q,Q,_,Q⟩
  .have a:(communicate P {timers:=#[],alone:=N,slice:=N} #[away] 0 g1 #[c] Y s k).1=.next m:=hs
   obtain⟨ch,sd,z⟩:=c;cases j with
   |dead _ _ _ n=>exact eW n f
   |send h1 d e i=>
    simp only at h1 d;subst h1;subst d;simp[communicate,ways,e,cQ,i,choose,Rd,Rj,bind,Rc,pure]at a;exact Qc a.s
   |recv h1 d e i=>
    simp only at h1 d;subst h1;subst d;simp[communicate,ways,e,cQ,i,choose,Rd,Rj,bind,Rc,pure]at a;refine Qc ?_;rw[<-a];simp[solo,i]
   |shut h1 d e=>
    simp only at h1 d;subst h1;subst d;simp[communicate,ways,e,cQ,choose,Rd,Rj,bind,Rc,pure]at a;exact Qc a.s
theorem C7(y:∀g w,T g w->∀n a c,runN P n (solo g w)=.next (solo a c)->a.callers.length<=1):∀ (n:H)(g:Wk)(w:Wj),Dem P N T g w->g.status=Qf->∀a c,runN P n (solo g w)=.next (solo a c)->a.status=Qf->1<a.callers.length->LSs P T g w a c/\Dem P N T a c:=by
 intro n;induction n with
 |zero=>
  intro g w p _ a c h _ _;simp only[runN,Rk]at h;have j:#[g]=#[a]:=g6 Machine.gs h;have A:w=c:=g6 Machine.world h;simp at j;subst j;subst A;exact⟨.refl _ _,p⟩
 |succ n ih=>
  intro g w p hr a c h f t;cases p with
  |stop k=>
   have:=y g w k _ _ _ h;omega
  |step hN q l v=>
   have⟨g',w',d⟩:=l w.tape w.drawn;have i:LS P g w g' w':=d;simp only[runN]at h;cases hs:step P (solo g w)with
   |ended o u=>rw[hs]at h;cases h
   |next m=>
    rw[hs]at h;rcases i.next hr hs with rfl|⟨b,r,-,u,rfl⟩
    .obtain ⟨s,x⟩:=ih g' w' (v _ _ _ _ d) d.status a c h f t;exact⟨.step q w.tape w.drawn d s,x⟩
    .cases n with
     |zero=>
      simp only[runN,Rk]at h;have j:#[b]=#[a]:=g6 Machine.gs h;simp at j;subst j;rw[r]at f;cases f
     |succ n=>
      have⟨o,z,e⟩:=jm (P:=P) (w:=u) (g:=b) r;simp only[runN,e]at h;cases h
theorem Dem.on(e:∀g w a d,N g w->N g (w.on a d))(b:∀g w a d,T g (w.on a d)↔T g w)(h:Dem P N T g w)(a:H->Question->H)d:Dem P N T g (w.on a d):=by
 cases h with
 |stop k=>exact .stop ((b _ _ _ _).2 k)
 |step h1 f c i=>exact .step (e _ _ _ _ h1) (λk=>f ((b _ _ _ _).1 k)) c i
theorem LSs.on{a:H->Question->H}{d}(f:∀g w a d,T g (w.on a d)↔T g w){o}(h:LSs P T g (w.on a d) o w2):(o=g/\w2=w.on a d)\/LSs P T g w o w2:=by
 cases h with
 |refl=>exact Qc ⟨Q,Q⟩
 |step e c i h hs=>exact Qd (.step (λk=>e ((f _ _ _ _).2 k)) c i h hs)
theorem ra(h:Ends P f R g w):∀n A G,runN P n (solo g w)=.next (solo A G)->A.callers.length<=1:=by
 obtain⟨τ,d,τ',d',e,j,-,rfl,-,m,t⟩:=h;intro n A G i;have k:∀ {a b:Wk} {u v:Wj},solo a u=solo b v->a=b:=λh=>by
  have B:=g6 Machine.gs h;simpa[solo]using B
 cases n with
 |zero=>
  simp only[runN,Rk]at i;rw[<-k i];exact lR _
 |succ n=>
  have y:(∃o u es,stepG P Y {frame:=j,callers:=[trap P],status:=Qf,dying:=N} w=.ended o u es)\/∃l u es,stepG P Y {frame:=j,callers:=[trap P],status:=Qf,dying:=N} w=.go {frame:=l,callers:=[],status:=Qf,dying:=N} u es/\(l=trap P\/∃c,l=(trap P).raise c):=by
   cases e with
   |outgrown=>exact eW Q t
   |panicked c=>
    obtain⟨p,q,fn,s⟩:=m;have V:j.catches P=false:=by unfold Qk;rw[s]
    refine Qd ⟨(trap P).raise c,w,#[],?_,Qd ⟨c,Q⟩⟩;simp only[stepG,p,unwind,q,V];rfl
   |returned v=>
    obtain⟨p,q,T,fn,s,-⟩:=m;have L:stepG P Y {frame:=j,callers:=[trap P],status:=Qf,dying:=N} w=unwind P Y j [trap P] N w:=by simp only[stepG,p]
    rw[L];unfold unwind;simp only[q,p,s];cases hr:(results fn j.tmps).runT P w #[]with
    |mk r es=>
     cases r with
     |ok v u=>
      have⟨l,B,h1⟩:=kQ (P:=P) j (by rw[T];rfl) v u;simp only[B];exact Qd ⟨l,_,_,Q,h1⟩
     |halt x u=>cases x<;>exact Qc ⟨_,_,_,Q⟩
  simp only[runN]at i;rcases y with⟨o,u,es,D⟩|⟨l,u,es,D,F⟩
  .rw [fU (g:={frame:=j,callers:=[trap P],status:=Qf,dying:=N}) Q D]at i;cases i
  .rw [mO (g:={frame:=j,callers:=[trap P],status:=Qf,dying:=N}) Q D]at i;cases n with
   |zero=>
    simp only[runN,Rk]at i;rw[<-k i];exact Nat.zero_le _
   |succ n=>
    have⟨o,z,es2,X⟩:=uG (P:=P) F u;simp only[runN,fU (g:={frame:=l,callers:=[],status:=Qf,dying:=N}) Q X]at i;cases i
end
def Marks(ρ:Ren)(l:S Deferred):Prop:=∀d∈l,∃r b,d.target=.collected r/\ρ r b
theorem RDs.marks(hS:(ρ.F iF||ρ.F nA)=Z){l c}(h:RDs ρ l c):Marks ρ l:=by
 induction h with
 |nil=>exactλd e=>by cases e
 | @cons d f l c h _ b ih=>
  intro x a;rcases List.mem_cons.1 a with rfl|a;rcases b with⟨r,hr⟩|b;cases h with
  |odd=>cases hr
  |mk this _=>
   rw[hr]at this;generalize f.target=y at this;cases this with
   |collected k=>exact⟨r,_,hr,k⟩
  grind
  exact ih x a
inductive Fl (P:Wv)(ρ:Ren):S Wy->Prop
 |base:Fl P ρ [trap P]
 |cons {f:Wy} {l:S Wy} (hc:f.catches P=Z) (hm:Marks ρ f.defers) (hl:Fl P ρ l):Fl P ρ (f::l)
theorem RFs.fl{a}(c:(ρ.F iF||ρ.F nA)=Z){l k'}(h:RFs P ρ ([trap a],[]) l k'):Fl a ρ l:=by
 generalize b:(([trap a],[]):S Wy×S Wy)=X at h;induction h with
 |base=>rw[<-b];exact .base
 |cons h _ _ ih=>exact .cons (fT h a).1 (h.defers.marks c) ih
def Ce(V w:Wj):Prop:=w.heap.size=V.heap.size/\∀a,w.cell? a=V.cell? a
theorem Jn{en:QW}(hD:Dem P (λg _=>NB [trap P] g) (Ends P f R) g w):
  ∀l,g.frame.mode=.panicking (en::l)->g.dying=N->g.frame.catches P=Z->Marks ρ g.frame.defers->Fl P ρ g.callers->(∀r b,ρ r b->∀l,w.heap[r]?=J (.deferred (J l))->Marks ρ l)->Ce V w->∃τ d l u,R τ d (.panicked (en::l)) u/\Ce V u:=by
 induction hD with
 | @stop g w hT=>
  intro l A B _ _ _ _ t;obtain⟨τ,d,τ',d',e,fr,hR,rfl,-,aa,ac⟩:=hT;simp only at A;cases e with
  |outgrown=>exact eW Q ac
  |returned v=>
   obtain⟨h,-⟩:=aa
   grind
  |panicked c=>
   obtain⟨h,-⟩:=aa;rw[A]at h;cases h;exact⟨τ,d,l,_,hR,t⟩
 | @step g w hN hT ai hn ih=>
  intro l A B z L D y t;have⟨g',w',F⟩:=ai w.tape w.drawn;have p:LS P g w g' w':=F;have i:stepG P Y g w=unwind P Y g.frame g.callers N w:=by
   obtain⟨fr,cs,st,dy,off⟩:=g;simp only at A B;subst B;simp[stepG,A]
  cases s:g.frame.defers with
  |cons x ds=>
   have⟨r,b,hx,ad⟩:=L x (by rw[s];exact List.mem_cons_self ..);obtain⟨tg,ar⟩:=x;simp only at hx;subst hx;have G:∀m,w.heap[r]?=J (.deferred (J m))->(Rl r).runT P w #[]=(.ok m {w with heap:=w.heap.setIfInBounds r (.deferred N)},#[⟨.obj r,Z,Z⟩,⟨.obj r,Y,Z⟩]):=λm n=>by
    unfold Rl;show Rb P (Re r _) w #[]=_;simp only[Rb,n];show Rb P (Rf r (.deferred N) _) w _=_;simp only[Rb,n];rfl
   have X:(∀m,w.heap[r]?≠J (.deferred (J m)))->∃h u es,(Rl r).runT P w #[]=(.halt h u,es):=λab=>by
    unfold Rl;show∃h u es,Rb P (Re r _) w #[]=(.halt h u,es);cases n:w.heap[r]? with
    |none=>simp only[Rb,n];exact⟨_,_,_,Q⟩
    |some o=>
     cases o with
     |deferred q=>
      cases q with
      |none=>simp only[Rb,n];exact⟨_,_,_,Q⟩
      |some m=>exact eW n (ab m)
     |_=>simp only[Rb,n];exact⟨_,_,_,Q⟩
   unfold unwind at i;simp only[s]at i;by_cases T:∃m,w.heap[r]?=J (.deferred (J m))
   obtain⟨m,n⟩:=T;rw[G m n]at i;have j:∃es,stepG P Y g w=.go {frame:={g.frame with defers:=m++ds},callers:=g.callers,status:=Qf,dying:=N} {w with heap:=w.heap.setIfInBounds r (.deferred N)} es:=⟨_,i⟩;obtain⟨es,j⟩:=j;cases p with
   |comm h _=>rw[j]at h;cases h
   |go h _ _=>
    rw[j]at h;cases h;refine ih _ _ _ _ F l A Q z (λd hd=>?_) D (λr1 b1 al l1 h1=>?_) ⟨?_,λa=>?_⟩;rcases List.mem_append.1 hd with k|k;exact y r b ad m n d k;exact L d (by rw[s];exact List.mem_cons_of_mem _ k);by_cases e:r=r1
    subst e;simp only at h1;rw[sS (eS n).1]at h1;cases h1;simp[sN e]at h1;exact y r1 b1 al l1 h1;simp;exact t.1;rw[<-t.2 a];unfold Rw;by_cases e:r=a.block
    simp[<-e,Array.getElem?_setIfInBounds_self_of_lt (eS n).1,n];simp[sN e]
   have⟨h,u,es,hb⟩:=X (λm k=>T ⟨m,k⟩);rw[hb]at i;exfalso;have:∃o u es,stepG P Y g w=.ended o u es:=⟨_,_,_,i⟩;obtain⟨o,u,es,i⟩:=this;cases p with
   |comm h _=>rw[i]at h;cases h
   |go h _ _=>rw[i]at h;cases h
  |nil=>
   unfold unwind at i;simp[s,A,z]at i;generalize aj:g.callers=cs at D i;cases D with
   |base=>
    exfalso;rcases hN aj with k|k;rw[A]at k;cases k;exact k s
   | @cons c rest av af ap=>
    have j:=i;cases p with
    |comm h _=>rw[j]at h;cases h
    |go h _ _=>
     rw[j]at h;cases h;have hr:∃l2,(c.raise (en::l)).mode=.panicking (en::l2):=by
      unfold Ql;cases c.mode with
      |panicking ch=>exact⟨l++ch,Q⟩
      |_=>exact⟨l,Q⟩
     obtain⟨l2,hr⟩:=hr;have hk:(c.raise (en::l)).defers=c.defers/\(c.raise (en::l)).catches P=c.catches P:=by
      unfold Ql Qk;cases c.mode<;>exact⟨Q,Q⟩
     exact ih _ _ _ _ F l2 hr Q (by rw[hk.2];exact av) (by rw[hk.1];exact af) ap y t
section
open Go.Conc (crowd Past EvL Deaf QuitsD woken awake crowd_pick runT_crowd_go Goes AtRel goes_elim)
open Go.ConcN (sumTo upd sumTo_upd upd_ne upd_same)
variable {P:Wv} {Post:Wx->Wj->Prop}
def DB(B:H):Wj->Wj->dT Event->Prop:=λ_ _ es=>∀e∈es,EvL i7 B e
def KQ(P:Wv)(Post:Wx->Wj->Prop)(B:H)(g:Wk)(W:Wj):Prop:=
 ∀ (gs:dT Wk) (sl:eV (H×H)) (t:Trace) (q:H->H),gs[0]?=J g->Lv P (λ_=>gL) t gs q->Past i7 B t->Fin P Post gs W sl t
theorem zz:∀ {n:H}{g:Wk}{W:Wj},Goes P Y AtRel (DB B) (KQ P Post B) n g W->KQ P Post B g W:=by
 intro n;induction n with
 |zero=>intro g W h;exact h W ⟨W.drawn,Q⟩
 |succ n ih=>
  intro g W h gs sl t q j v F;rcases h with h|⟨hr,h⟩;exact h W ⟨W.drawn,Q⟩ gs sl t q j v F;obtain⟨a,hM⟩:∃a,sumTo gs.size q<=a:=⟨_,lR _⟩;obtain⟨b,o⟩:∃b,W=W.at b:=⟨W.drawn,Q⟩;rw[o];clear o;induction a using QG generalizing gs sl t q b with
  |_ a D=>
   have⟨i,x,f,p,r,X,c⟩:=xc (P:=P) (w:=W.at b) (sl:=sl) (jn v j hr) ⟨0,g,j,hr⟩;rw[uL]at c;rcases QD i with rfl|m;obtain rfl:x=g:=by rw[j]at r;exact(oJ r).s
   have⟨g',W',es,z,A,y⟩:=goes_elim (h (W.at f) ⟨f,Q⟩);obtain⟨e,l,u,T,R,G,-,L⟩:=sK (w:=W.at b) v r (Qc Q) (d:=f) (by rw[uL];exact c) (show stepG P (0==0) x ((W.at b).at f)=_ from z);subst T;exact Fin.next u (ih y e p _ q G L (F.own A))
   obtain⟨e,q',l,u,T,R,G,V,L,-⟩:=slip (w:=W.at b) (d:=f) v F (lQ B) r X m (λk=>k) (firm0 j hr _) (by rw[uL];exact c);rw[uL]at u;exact Fin.next u (D _ (by omega) e p (t++l) q' ((R 0 (Qc Q)).t j) G V (lR _) f)
end
section
open Go.Conc Go.ConcX Go.ConcX.Gen
theorem iP{tm:ey}{fr:Wy}{a:Act}{cs:S Wy}{c:dT Oper}{d:S H}{K:Wk->Wj->dT Event->Prop}
  (h:∀K':Act->Wj->Prop,(∀f w',K (G (fr.at f (.inRegion c d::k)) cs) w' (listed P fr.fn a o w)->K' f w')->uponK o a K' ((Q0 a.eval o).run P w)) (m:c[i]?=J o:=by rfl) (j:QJ o (yielded c a.tmps)=true:=by rfl) (l:fr.kind≠.early:=by decide):
  (stepG P tm (G (fr.at a (.inRegion c (i::d)::k)) cs) w).goes K:=goes_oper_k m j l h
def iG:Code->Code
 | .seq a _=>a
 |c=>c
def dm:Code->Code
 | .seq _ b=>b
 |c=>c
def pE:Code->dT Oper
 | .region _ a _=>a
 |_=>#[]
def cn(fn:Func):Code:=fn.body.getD .skip
noncomputable def xR:dT Oper:=pE (iG (dm (dm (cn Rn))))
noncomputable def kF:Code:=dm (dm (dm (cn Rn)))
def qV(a:ey)(p d b:gI):Wx:=Qa #[C a,U p,U d,U b]
def sV(root:eV Wu):Wx:=Qa #[O root]
def ptr(n:H):Wx:=O (J ⟨n,0,N⟩)
def eZ(n:H):Wx:=.func (.func 94) #[] #[ptr (n+3),ptr n,ptr (n+1)]
def gp(n:H)(root:eV Wu)(a:ey)(p d b:gI)(x:Wx):dT Wx:=#[qV a p d b,sV root,ptr n,ptr (n+1),.chan N,ptr (n+3),.chan (J (n+2)),x,Wo]
def itW(W:Wj)(root:eV Wu)(b:ey)(p d c:gI)(a:H):Wj:=
 (((W.alloc (E #[C b,U p,U d,U c] 74)).alloc (E #[O root] 33)).alloc (.chan a #[] Z 0 0 Z)).alloc (E #[.chan (J (W.heap.size+2))] 180)
theorem Iw:∃i,Tryz.prog.info? 117=J i/\i.bytes=32:=⟨Tryz.t117,by unfold Tables.info?;rw[if_pos (by rw[Tryz.types_size];decide)];exact type117,Q⟩
theorem Gc c(cs:lj Wy)(k:eV Wu)(r:ey)(p d s:gI)W B(hB:W.heap.size+4=B){Stop:Wk->Wj->Prop}
    (o:∀l,Stop (G ((base 72).at ⟨gp W.heap.size k r p d s (eZ W.heap.size),[]⟩ [.inRegion xR [1],.code kF]) (c::cs)) ((itW W k r p d s 20).at l)):
    Goes Rm Y AtRel (DB B) Stop 20 (G (Qi Rm 72 #[qV r p d s,sV k] .normal) (c::cs)) W:=by
  obtain⟨i41,m,n⟩:=Iw;unfold qV sV;rw[PK _ func72 Q]
  walk_nrmf Rn
  refine lk Q (λw₁ a=>?_);obtain⟨l,b⟩:=a;subst b
  try simp
  rw[vx];simp;refine⟨λe f=>by simp at f,?_⟩
  iterate 7
    refine lk Q (λw₁ a=>?_);obtain⟨l,b⟩:=a;subst b
    try simp
    first
      |((first|rw[vx] |rw[tn] |rw[sq]);simp;refine⟨λe f=>by simp at f,?_⟩)
      | (refine iP (fun K j => ?_)
         go_simp
         refine j _ _ ⟨λe f=>?_,?_⟩;have i:=xt f;simp[go_sem, *]at i
         try(subst i;exact PA _ _ (λh=>h) (by simp<;>omega))
         clear j K)
  refine lk Q (λw₁ a=>?_);obtain⟨l,b⟩:=a;subst b
  try simp
  refine iP (λK j=>?_);have t:=λw=>PY (P:=Rm) (w:=w) underlying180 m .i64 20 (by omega) (by rw[n];omega)
  have q:=λw es=>events_makeChan (P:=Rm) (w:=w) underlying180 m .i64 20 (by omega) (by rw[n];omega) es
  simp at t q
  go_simp
  refine j _ _ ⟨λe f=>?_,?_⟩;have i:=xt f;simp[go_sem, *]at i
  try(subst i;exact PA _ _ (λh=>h) (by simp<;>omega))
  clear j K;refine lk Q (λw₁ a=>?_);obtain⟨l,b⟩:=a;subst b
  try simp
  refine iP (λK j=>?_)
  go_simp
  refine j _ _ ⟨λe f=>?_,?_⟩;have i:=xt f;simp[go_sem, *]at i
  try(subst i;exact PA _ _ (λh=>h) (by simp<;>omega))
  clear j K;refine lk Q (λw₁ a=>?_);obtain⟨l,b⟩:=a;subst b
  try simp
  refine iP (λK j=>?_)
  go_simp
  refine j _ _ ⟨λe f=>?_,?_⟩;have i:=xt f;simp[go_sem,storedEv, *]at i
  try(subst i;exact PA _ _ (λh=>h) (by simp<;>omega))
  clear j K;refine lk Q (λw₁ a=>?_);obtain⟨l,b⟩:=a;subst b
  try simp[setCell_at]
  rw[sq];simp;refine⟨λe f=>by simp at f,?_⟩
  iterate 3
    refine lk Q (λw₁ a=>?_);obtain⟨l,b⟩:=a;subst b
    try simp
    first
      |((first|rw[vx] |rw[tn]);simp;refine⟨λe f=>by simp at f,?_⟩)
      | (refine iP (fun K j => ?_)
         go_simp
         refine j _ _ ⟨λe f=>?_,?_⟩;have i:=xt f;simp[go_sem, *]at i
         try(subst i;exact PA _ _ (λh=>h) (by simp<;>omega))
         clear j K)
  refine nF (λw₁ a=>?_);obtain⟨l,b⟩:=a;subst b;exact o l
end
section
open Go.Conc Go.ConcX Go.ConcX.Gen Go.RowKit
structure Lst where
 num:kr
 root:eV Wu
 vs:ey
 p:gI
 d:gI
 af:gI
 size:kr
 left:kr
def aQ(l:Lst):dT Wx:=#[I K l.num,O l.root,C l.vs,U l.p,U l.d,U l.af,I K l.size,I K l.left]
def lV(l:Lst):Wx:=Qa (aQ l)
def pgW(W:Wj)(l:Lst):Wj:=
 ((W.alloc (E (aQ l) 107)).alloc (E #[M N 0 0,U ⟨#[]⟩] 69)).alloc (E #[M N 0 0,U ⟨#[]⟩] 69)
noncomputable def cN:Code:=dm (dm (dm (dm (cn Ro))))
noncomputable def uM:dT Oper:=pE (iG (iG cN))
noncomputable def nE:S Item:=[.code (dm (iG cN)),.code (dm cN)]
def ma(n:H)(l:Lst)(a:kr):dT Wx:=
 #[lV l,I K a,ptr n,Wo,ptr (n+1),ptr (n+2),I K (IntKind.i64.wrap (a*l.size)),I K 0,Wo,I K a,O (J ⟨n,6,N⟩),I K l.size,I K (IntKind.i64.wrap (a*l.size)),O (J ⟨n,2,N⟩),qV l.vs l.p l.d l.af,O (J ⟨n,1,N⟩),sV l.root,Wo,Wo,Wo,Wo,Wo,Wo,Wo,Wo,Wo,Wo,Wo,Wo,Wo,Wo,Wo,Wo,Wo,Wo,Wo,Wo,Wo,Wo,Wo,Wo,Wo,Wo,Wo,Wo,Wo,Wo,Wo,Wo]
theorem Jo:∃i,Yq.prog.info? 117=J i/\i.bytes=32:=Iw
theorem Gd l(b:kr)cs w:Steps Vp (lone ((base 44).at ⟨#[lV l,I .i64 b]++Qz 47 Wo,[]⟩ [.code Yq.Oo]) cs w) (lone ((base 44).at ⟨ma w.heap.size l b,[]⟩ (.inRegion uM [4]::nE)) cs (pgW w l)):=by
 have h:PL Vp (λg' w'=>g'=G ((base 44).at ⟨ma w.heap.size l b,[]⟩ (.inRegion uM [4]::nE)) cs/\w'=pgW w l) (G ((base 44).at ⟨#[lV l,I .i64 b]++Qz 47 Wo,[]⟩ [.code Yq.Oo]) cs) w:=by
  refine Rh (n:=40) ?_;unfold lV aQ;dsimp only[Yq.Oo,Ro,Rr]
  walk_nrm
  iterate 28
   refine lk Q (λw₁ a=>?_);subst a;first
    |((first|rw[vx] |rw[tn] |rw[sq]);refine⟨trivial,?_⟩)
    |(refine iP (λK c=>?_);go_simp;refine c _ _ ⟨trivial,?_⟩;clear c K)
  refine nF (λw₁ a=>?_);subst a;exact Ri ⟨Q,Q⟩
 obtain⟨g',w',hs,rfl,rfl⟩:=h;exact hs
theorem xS{ops:dT Oper}{a:Act}{w':Wj}{rest:S H}{b:Wy}{cs:S Wy}(d:ops[i]?=J o)(e:QJ o (yielded ops a.tmps)=Y)(hr:(Q0 a.eval o).run P w=.ok (.value v) w'):
  step P (lone (b.at a (.inRegion ops (i::rest)::k)) cs w)=.next (lone (b.at (a.put o.dst v) (.inRegion ops rest::k)) cs w'):=by
 have c:(b.at a (.inRegion ops (i::rest)::k)).finish v=b.at (a.put o.dst v) (.inRegion ops rest::k):=by rw[Qj,d];rfl
 exact QT (by rw[(QZ (P:=P) (b:=b) (k:=k) (cs:=cs) (w:=w) (rest:=rest) d e),<-c];simp[stepG.apply,hr])
theorem sO{a:Act}{w':Wj}{c:S H}{fr:Wy}{cs:S Wy}(j:d[i]?=J o)(h:QJ o (yielded d a.tmps)=Y)(hr:(Q0 a.eval o).run P w=.ok (.enter f c') w'):
  step P (lone (fr.at a (.inRegion d (i::c)::k)) cs w)=.next (lone (Qi P f c' .normal) (fr.at a (.inRegion d (i::c)::k)::cs) w'):=QT (by rw[(QZ (P:=P) (b:=fr) (k:=k) (cs:=cs) (w:=w) (rest:=c) j h)];simp[stepG.apply,hr,Frame.at])
noncomputable def fE(n:H)(root:eV Wu)(a:ey)(p d b:gI)(x:Wx)(r:S H):Wy:=(base 72).at ⟨gp n root a p d b x,[]⟩ [.inRegion Yq.MX r,.code kF]
theorem C8(root:eV Wu)(vs:ey)(p d af:gI)cs w:Steps Vp (lone (Qi Vp 72 #[qV vs p d af,sV root] .normal) cs w) (lone (Qi Vp 94 #[ptr (w.heap.size+3),ptr w.heap.size,ptr (w.heap.size+1)] .normal) (fE w.heap.size root vs p d af (eZ w.heap.size) [1,2]::cs) (itW w root vs p d af 1000)):=by
 have h:PL Vp (λg' w'=>g'=G (fE w.heap.size root vs p d af (eZ w.heap.size) [1,2]) cs/\w'=itW w root vs p d af 1000) (G (Qi Vp 72 #[qV vs p d af,sV root] .normal) cs) w:=by
  obtain⟨i41,hi41,hb41⟩:=Jo;refine Rh (n:=40) ?_;unfold qV sV;rw[PK _ Yq.func72 Q];dsimp only[Yq.b72,Yq.NJ,Yq.NG,Yq.MX,Yq.NK]
  walk_nrmf Rn
  iterate 8
   refine lk Q (λw₁ h₁=>?_);subst h₁;first
    |((first|rw[vx] |rw[tn] |rw[sq]);simp;refine⟨trivial,?_⟩)
    |(refine iP (λK hK=>?_);go_simp;refine hK _ _ ⟨trivial,?_⟩;clear hK K)
  refine lk Q (λw₁ h₁=>?_);subst h₁;refine iP (λK hK=>?_);have hmk:=λw=>PY (P:=Vp) (w:=w) (Yq.u underlying180) hi41 .i64 1000 (by omega) (by rw[hb41];omega)
  simp at hmk
  go_simp
  refine hK _ _ ⟨trivial,?_⟩;clear hK K
  iterate 6
   refine lk Q (λw₁ h₁=>?_);subst h₁;first
    |((first|rw[vx] |rw[tn] |rw[sq]);simp;refine⟨trivial,?_⟩)
    |(refine iP (λK hK=>?_);go_simp;refine hK _ _ ⟨trivial,?_⟩;clear hK K)
  refine nF (λw₁ h₁=>?_);subst h₁;exact Ri ⟨Q,Q⟩
 obtain⟨g',w',hs,rfl,rfl⟩:=h
 refine Steps.t hs (.one (sO (o := { dst := N, op := .call { callee := .value (Qe 7), args := #[], argTypes := #[] }, type := 0, pos := "", after := #[], guard := N }) rfl rfl ?_))
 simp[go_sem,Rg,gp,eZ]
def stopEntry(x y:Wx):QW:={v:=.iface 3 (.func (.func 44) #[x,y] #[]),recovered:=Z}
def jr(x y:Wx):dT Wx:=#[x,y,Wo,Wo,Wo,Wo,Wo,Wo,Wo,Wo,Wo,Wo,Wo,Wo,Wo,Wo,Wo,Wo,Wo,Wo,Wo,Wo,Wo,Wo,Wo,Wo,Wo,Wo,Wo,Wo,Wo,Wo,Wo,Wo,Wo,Wo,Wo,Wo,Wo,Wo,Wo,Wo,Wo,Wo,Wo,Wo,Wo,Wo,Wo]
theorem uN x y:#[x,y]++Qz 47 Wo=jr x y:=Qs.1 (by simp[jr,List.replicate])
theorem rb x y:Qi Vp 44 #[x,y] .normal=(base 44).at ⟨jr x y,[]⟩ [.code (.seq Yq.OX Yq.Oo)]:=by
 rw[PK _ Yq.func44 Q,<-uN];rfl
theorem KR:QI (Yq.prog.follows .mixedOrders) Yq.My 1=[1,0]:=by
 have h:∀b,QI b Yq.My 1=[1,0]:=λb=>by cases b<;>simp[QI,QK,Region.linearise.go,QM,Yq.My,Ry,Ru]
 exact h _
theorem KS:QI (Yq.prog.follows .mixedOrders) Yq.My 0=[0,1]:=by
 have h:∀b,QI b Yq.My 0=[0,1]:=λb=>by cases b<;>simp[QI,QK,Region.linearise.go,QM,Yq.My,Ry,Ru]
 exact h _
def gq:Code:=.seq (.cond (Qe 9) (.region 101 Yq.MY Z) .skip) (.region 102 Yq.NR Z)
theorem rh x y cs w t r(hr:QI (Yq.prog.follows .mixedOrders) Yq.My t=r)(c:w.tape w.drawn (.order 44 100)=t):
  Steps Vp (lone (Qi Vp 44 #[x,y] .normal) cs w) (lone ((base 44).at ⟨jr x y,[]⟩ [.inRegion Yq.My r,.code gq,.code Yq.Oo]) cs {w with drawn:=w.drawn+1}):=by
 rw[rb];refine .head step_seq (.head (step_seq (x:=.region 100 Yq.My Y) (y:=gq)) (.one ?_));have:=step_region_draw (P:=Vp) (b:=base 44) (a:=⟨jr x y,[]⟩) (k:=[.code gq,.code Yq.Oo]) (cs:=cs) (w:=w) (ops:=Yq.My) (id:=100);rw[show(base 44).fn=44 from Q,c,hr]at this;exact this
theorem Ge x y cs w(hr:QI (Yq.prog.follows .mixedOrders) Yq.My (w.tape w.drawn (.order 44 100))=[1,0]):
  Steps Vp (lone (Qi Vp 44 #[x,y] .normal) cs w) (lone ((base 44).at ⟨jr x y,[]⟩ [.code Yq.Oo]) cs {w with drawn:=w.drawn+1}):=by
 refine Steps.t (rh x y cs w _ _ hr Q) ?_;generalize({w with drawn:=w.drawn+1}:Wj)=u;have h:PL Vp (λg' w'=>g'=G ((base 44).at ⟨jr x y,[]⟩ [.code Yq.Oo]) cs/\w'=u) (G ((base 44).at ⟨jr x y,[]⟩ [.inRegion Yq.My [1,0],.code gq,.code Yq.Oo]) cs) u:=by
  refine Rh (n:=20) ?_;unfold jr Yq.My gq
  iterate 4
   refine lk Q (λw₁ a=>?_);subst a;first
    |((first|rw[vx] |rw[sq]);refine⟨trivial,?_⟩)
    |(refine iP (λK b=>?_);refine b _ _ ⟨trivial,?_⟩;clear b K)
  refine lk Q (λw₁ a=>?_);subst a;rw[P9 (t:=Z) Q];simp;refine⟨trivial,lk Q (λw₁ a=>?_)⟩;subst a;rw[stepG_skip];refine⟨trivial,?_⟩;unfold Yq.NR
  iterate 3
   refine lk Q (λw₁ a=>?_);subst a;first
    |((first|rw[tn] |rw[sq]);refine⟨trivial,?_⟩)
    |(refine iP (λK b=>?_);refine b _ _ ⟨trivial,?_⟩;clear b K)
  refine nF (λw₁ a=>?_);subst a;exact Ri ⟨Q,Q⟩
 obtain⟨g',w',hs,rfl,rfl⟩:=h;exact hs
theorem uO x y cs w(hr:QI (Yq.prog.follows .mixedOrders) Yq.My (w.tape w.drawn (.order 44 100))=[0,1]):
  ∃fr,Steps Vp (lone (Qi Vp 44 #[x,y] .normal) cs w) (lone fr cs {w with drawn:=w.drawn+1})/\fr.mode=.panicking [stopEntry x y]/\fr.defers=[]/\fr.fn=44:=by
 have h0:=rh x y cs w _ _ hr Q;generalize({w with drawn:=w.drawn+1}:Wj)=u at h0 ⊢;have h:PL Vp (λg' w'=>(∃a k,g'=G ((base 44).at a (.inRegion Yq.MY [2]::k)) cs/\a.eval (Qe 11)=.iface 3 (.func (.func 44) #[x,y] #[])/\a.defers=[])/\w'=u) (G ((base 44).at ⟨jr x y,[]⟩ [.inRegion Yq.My [0,1],.code gq,.code Yq.Oo]) cs) u:=by
  refine Rh (n:=20) ?_;unfold jr Yq.My gq
  iterate 4
   refine lk Q (λw₁ h₁=>?_);subst h₁;first
    |((first|rw[vx] |rw[sq]);refine⟨trivial,?_⟩)
    |(refine iP (λK hK=>?_);refine hK _ _ ⟨trivial,?_⟩;clear hK K)
  refine lk Q (λw₁ h₁=>?_);subst h₁;rw[P9 (t:=Y) Q];simp only[PB,↓reduceIte];refine⟨trivial,?_⟩;unfold Yq.MY
  iterate 3
   refine lk Q (λw₁ h₁=>?_);subst h₁;first
    |(rw[tn];refine⟨trivial,?_⟩)
    |(refine iP (λK hK=>?_);go_simp;refine hK _ _ ⟨trivial,?_⟩;clear hK K)
  refine nF (λw₁ h₁=>?_);subst h₁;exact Ri ⟨⟨_,_,Q,Q,Q⟩,Q⟩
 obtain⟨g',w',hs,⟨⟨tm,df⟩,k,rfl,ha,hd⟩,rfl⟩:=h;refine⟨{(base 44).at ⟨tm,df⟩ (.inRegion Yq.MY [2]::k)with mode:=.panicking [stopEntry x y]},Steps.t h0 (Steps.t hs (.one (QT ?_))),Q,hd,Q⟩
 have ho : Yq.MY[2]? = J { dst := N, op := .panic (Qe 11), type := 0, pos := "", after := #[], guard := N } := rfl
 rw[QZ ho Q]
 have e : Q0 (Rg ⟨tm, df⟩) { dst := N, op := .panic (Qe 11), type := 0, pos := "", after := #[], guard := N } = (do let v ← Instr.panic (Rg ⟨tm, df⟩ (Qe 11)); pure (.value v)) := rfl
 rw[e,ha];rfl
theorem Jp l(k:kr)(cs:lj Wy)W B(hB:W.heap.size+7=B){Stop:Wk->Wj->Prop}
    (f:∀i,Stop (G (Qi Rm 72 #[qV l.vs l.p l.d l.af,sV l.root] .normal) ((base 44).at ⟨ma W.heap.size l k,[]⟩ (.inRegion uM [4]::nE)::cs)) ((pgW W l).at i)):
    Goes Rm Y AtRel (DB B) Stop 40 (G (Qi Rm 44 #[lV l,I .i64 k] .normal) cs) W:=by
  obtain⟨num,root,vs,p,d,af,size,left⟩:=l;unfold lV aQ;rw[PK _ func44 Q]
  walk_nrmf Ro
  refine lk Q (λw₁ a=>?_);obtain⟨i,b⟩:=a;subst b
  try simp only[alloc_at,setCell_at,uL]
  rw[vx];simp only[PB];refine⟨λe c=>by simp at c,?_⟩
  repeat
    refine lk Q (λw₁ a=>?_);obtain⟨i,b⟩:=a;subst b
    try simp only[alloc_at,uL]
    first
      |(rw[vx];simp only[PB];refine⟨λe c=>by simp at c,?_⟩)
      |(rw[tn];simp only[PB,RB,lC,lN,QH,zA,Ry,Ru];refine⟨λe c=>by simp at c,?_⟩)
      |(rw[sq];simp only[PB];refine⟨λe c=>by simp at c,?_⟩)
      | (refine iP (fun K m => ?_)
         go_simp
         refine m _ _ ⟨λe c=>?_,?_⟩
         . have j:=xt c
           simp[go_sem, *]at j;all_goals first
             |(subst j;exact PA _ _ (λh=>h) (by simp<;>omega))
             |(rcases j with rfl|rfl|rfl|rfl<;>exact PA _ _ (λh=>h) (by simp<;>omega))
         clear m K)
  refine lk Q (λw₁ a=>?_);obtain⟨i,b⟩:=a;subst b
  try simp only[uL]
  refine goes_call Q Q (by decide) Q func72 Q Q ⟨λe c=>by simp at c,?_⟩
  walk_nrmf Rn
  refine nF (λw₁ a=>?_);obtain⟨i,b⟩:=a;subst b;have:=f i;rw[PK _ func72 Q]at this;exact this
structure Boxes (w:Wj)(bo bq bs c:H)(root:eV Wu)(vs:ey)(p d af:gI):Prop where
 o:w.cell? ⟨bo,0,N⟩=J (.chan (J c))
 q0:w.cell? ⟨bq,0,N⟩=J (C vs)
 q1:w.cell? ⟨bq,1,N⟩=J (U p)
 q2:w.cell? ⟨bq,2,N⟩=J (U d)
 q3:w.cell? ⟨bq,3,N⟩=J (U af)
 st:w.cell? ⟨bs,0,N⟩=J (O root)
noncomputable def nG:dT Oper:=pE (dm (cn Rp))
def sP(c:H)(d:Deferred):Prop:=∃at_ t k,d={target:=.builtin .close at_ t k,args:=#[.chan (J c)]}
theorem Gg{a:Act}{w':Wj}{c:S H}{df:Deferred}{fr:Wy}{cs:S Wy}(f:d[i]?=J o)(h:QJ o (yielded d a.tmps)=Y)(hr:(Q0 a.eval o).run P w=.ok (.defer df) w'):
  step P (lone (fr.at a (.inRegion d (i::c)::k)) cs w)=.next (lone (fr.at ({a with defers:=df::a.defers}.put o.dst Wo) (.inRegion d c::k)) cs w'):=by
 have e:({fr.at a (.inRegion d (i::c)::k)with defers:=df::a.defers}:Wy).finish Wo=fr.at ({a with defers:=df::a.defers}.put o.dst Wo) (.inRegion d c::k):=by
  have:=Qj fr {a with defers:=df::a.defers} d i c k Wo;rw[f]at this;exact this
 refine QT ?_;rw[(QZ (P:=P) (b:=fr) (k:=k) (cs:=cs) (w:=w) (rest:=c) f h)];simp only[stepG.apply,Sem.runT_eq,hr,GStep.bare_after];exact g6 (λj=>GStep.go {frame:=j,callers:=cs,status:=Qf,dying:=N} w') e
theorem Jq{bo m c}{f:eV Wu}{l:ey}{p d k:gI}(o:Boxes w bo j m c f l p d k)cs:
  ∃a e,Steps Vp (lone (Qi Vp 94 #[ptr bo,ptr j,ptr m] .normal) cs w) (lone ((base 94).at ⟨a,[e]⟩ [.inRegion nG [3]]) cs w)/\sP c e/\Rg ⟨a,[e]⟩ (Qe 4)=qV l p d k/\Rg ⟨a,[e]⟩ (Qe 5)=sV f/\Rg ⟨a,[e]⟩ (Qe 6)=.chan (J c):=by
 obtain⟨ho,h0,h1,h2,h3,h4⟩:=o;have h:PL Vp (λg' w'=>∃a e,(g'=G ((base 94).at ⟨a,[e]⟩ [.inRegion nG [3]]) cs/\w'=w)/\sP c e/\Rg ⟨a,[e]⟩ (Qe 4)=qV l p d k/\Rg ⟨a,[e]⟩ (Qe 5)=sV f/\Rg ⟨a,[e]⟩ (Qe 6)=.chan (J c)) (G (Qi Vp 94 #[ptr bo,ptr j,ptr m] .normal) cs) w:=by
  refine Rh (n:=20) ?_;unfold ptr;rw[PK _ (Yq.nq func94) Q]
  iterate 3
   refine lk Q (λw₁ b=>?_);subst b;first
    |((first|rw[vx] |rw[tn]);refine⟨trivial,?_⟩)
    |(refine iP (λK i=>?_);go_simp;refine i _ _ ⟨trivial,?_⟩;clear i K)
  refine nF (λw₁ b=>?_);subst b;refine LoneTo.step (Gg (w':=w) (df:={target:=.builtin .close #[180] 0 #[Z],args:=#[.chan (J c)]}) Q Q (by simp[go_sem,Rg])) ?_;show PL Vp _ (G _ cs) w;refine Rh (n:=20) ?_
  walk_nrm
  iterate 5
   refine lk Q (λw₁ b=>?_);subst b;first
    |((first|rw[tn] |rw[sq]);refine⟨trivial,?_⟩)
    |(refine iP (λK i=>?_);go_simp;refine i _ _ ⟨trivial,?_⟩;clear i K)
  refine nF (λw₁ b=>?_);subst b;exact Ri ⟨_,_,⟨Q,Q⟩,⟨_,_,_,Q⟩,Q,Q,Q⟩
 obtain⟨g',w',hs,a,e,⟨rfl,rfl⟩,hr⟩:=h;exact⟨a,e,hs,hr⟩
theorem uP{bo bq bs c}{root:eV Wu}{vs:ey}{p d af:gI}(hb:Boxes w bo bq bs c root vs p d af){Q:Wj->Prop}
  (hsend:Calls Vp 95 #[qV vs p d af,sV root,.chan (J c)] w λe w'=>e=Nm (Qb #[])/\Q w') (cs:S Wy):
  ∃fr w' df,Steps Vp (lone (Qi Vp 94 #[ptr bo,ptr bq,ptr bs] .normal) cs w) (lone fr cs w')/\fr.fn=94/\fr.mode=.returning/\fr.defers=[df]/\sP c df/\fr.kind=.normal/\fr.roundOf=N/\Q w':=by
 have⟨a,df,hs,hc,h4,h5,h6⟩:=Jq hb cs;obtain⟨e,w',fr,⟨rfl,hQ⟩,hcome,-,hlv⟩:=hsend ((base 94).at ⟨a,[df]⟩ [.inRegion nG [3]]::cs)
 have ho : nG[3]? = J { dst := J 7, op := .call { callee := .value (.func 95), args := #[Qe 4, Qe 5, Qe 6], argTypes := #[74, 33, 197] }, type := 0, pos := "items.go:24", after := #[{ on := 0, ground := .data }, { on := 1, ground := .data }, { on := 2, ground := .data }], guard := N } := rfl
 have hen:step Vp (lone ((base 94).at ⟨a,[df]⟩ [.inRegion nG [3]]) cs w)=.next (lone (Qi Vp 95 #[qV vs p d af,sV root,.chan (J c)] .normal) ((base 94).at ⟨a,[df]⟩ [.inRegion nG [3]]::cs) w):=by
  refine sO ho rfl ?_
  have e := run_call_body (P := Vp) (a := ⟨a, [df]⟩) (w := w) (o := { dst := J 7, op := .call { callee := .value (.func 95), args := #[Qe 4, Qe 5, Qe 6], argTypes := #[74, 33, 197] }, type := 0, pos := "items.go:24", after := #[{ on := 0, ground := .data }, { on := 1, ground := .data }, { on := 2, ground := .data }], guard := N }) rfl (Yq.nq func95) rfl rfl
  grind
 have hend:Steps Vp (lone (((base 94).at ⟨a,[df]⟩ [.inRegion nG [3]]).finish (Qb #[])) cs w') (lone {(base 94).at (Act.put ⟨a,[df]⟩ ((nG[3]?).bind (·.dst)) (Qb #[])) []with mode:=.returning} cs w'):=by
  rw[Qj];exact .head step_region_end (.one step_end)
 exact⟨_,w',df,Steps.t hs (.head hen (Steps.t hcome (.head (QX hlv) hend))),rfl,rfl,rfl,hc,rfl,rfl,hQ⟩
theorem Ba{fr}{cs}{c s}{f:ey}{i:Deferred}(l:fr.mode=.returning)(j:fr.defers=[i])(m:sP c i)(e:w.heap[c]?=J (.chan n c' Z s q f)):
  step P (lone fr cs w)=.next (lone {fr with defers:=[]} cs (fD w c n c' s q f)):=by
 obtain⟨at_,t,k,rfl⟩:=m;have h:stepG P Y (G fr cs) w=.go (G {fr with defers:=[]} cs) (fD w c n c' s q f) (seen P fr.fn #[⟨.obj c,Z,Y⟩,⟨.obj c,Y,Y⟩]):=by
  simp only[stepG,G,l,unwind,j];unfold Q9;simp only[uK at_ t k e];simp[GStep.after]
 exact step_solo_go (a:=G fr cs) Q h
theorem Bb{fr:Wy}(c:fr.fn=94)(b:fr.mode=.returning)(a:fr.defers=[])(d:fr.kind=.normal):fr.leaving Vp w (Nm (Qb #[])):=by
 refine⟨b,a,d,Rp,by rw[c];exact(Yq.nq func94),?_⟩;unfold results;rw[show Tryz.f94.results=#[]from Q,Array.mapM_eq_mapM_toList];rfl
theorem uQ{root root0:eV Wu}{vs:ey}{p d af:gI}(hb:Boxes w (n0+3) n0 (n0+1) (n0+2) root vs p d af){Q:Wj->Prop}{L:dT Wx}{m s}
  (hsend:Calls Vp 95 #[qV vs p d af,sV root,.chan (J (n0+2))] w λe w'=>e=Nm (Qb #[])/\Q w'/\w'.heap[n0+2]?=J (.chan m L Z s q Z)) (cs:S Wy):
  ∃w',Q w'/\w'.heap[n0+2]?=J (.chan m L Z s q Z)/\Steps Vp (lone (Qi Vp 94 #[ptr (n0+3),ptr n0,ptr (n0+1)] .normal) (fE n0 root0 vs p d af (eZ n0) [1,2]::cs) w) (lone (fE n0 root0 vs p d af Wo []) cs (fD w' (n0+2) m L s q Z)):=by
 have⟨fr,w',df,hs,hf,hm,hd,hc,hk,hr,hQ,hrow⟩:=uP hb hsend (fE n0 root0 vs p d af (eZ n0) [1,2]::cs);refine⟨w',hQ,hrow,Steps.t hs (.head (Ba hm hd hc hrow) (.head (QX (Bb (fr:={fr with defers:=[]}) hf hm rfl hk)) ?_))⟩;have e:(fE n0 root0 vs p d af (eZ n0) [1,2]).finish (Qb #[])=fE n0 root0 vs p d af (eZ n0) [2]:=by
  unfold fE;rw[Qj];rfl
 rw[e];unfold fE
 have := xS (P := Vp) (ops := Yq.MX) (a := ⟨gp n0 root0 vs p d af (eZ n0), []⟩) (i := 2) (rest := []) (b := base 72) (k := [.code kF]) (cs := cs) (w := fD w' (n0 + 2) m L s q Z) (w' := fD w' (n0 + 2) m L s q Z) (v := Wo) (o := { dst := J 7, op := .move (.const Wo), type := 0, pos := "", after := #[], guard := N }) rfl rfl (by simp[go_sem, Rg])
 exact .one this
def cIn:Code->Code
 | .block _ b=>b
 | .loop b=>b
 |c=>c
noncomputable def dB:Code:=cIn (cIn (dm (iG cN)))
noncomputable def gr:dT Oper:=pE (iG dB)
noncomputable def Jr:S Item:=[.code (dm dB),.inLoop dB,.inBlock 0,.code (dm cN)]
noncomputable def mb(a:Act)(r:S H):Wy:=(base 44).at a (.inRegion gr r::Jr)
def Js(n:H)(l:Lst)(a:kr)(c:H):dT Wx:=
 #[lV l,I K a,ptr n,Wo,ptr (n+1),ptr (n+2),I K (IntKind.i64.wrap (a*l.size)),I K 0,Wo,I K a,O (J ⟨n,6,N⟩),I K l.size,I K (IntKind.i64.wrap (a*l.size)),O (J ⟨n,2,N⟩),qV l.vs l.p l.d l.af,O (J ⟨n,1,N⟩),sV l.root,.chan (J c),Wo,Wo,Wo,Wo,Wo,Wo,Wo,Wo,Wo,Wo,Wo,Wo,Wo,Wo,Wo,Wo,Wo,Wo,Wo,Wo,Wo,Wo,Wo,Wo,Wo,Wo,Wo,Wo,Wo,Wo,Wo]
noncomputable def pF(n:H)(l:Lst)(a:kr):Wy:=(base 44).at ⟨ma n l a,[]⟩ (.inRegion uM [4]::nE)
noncomputable def pF2(n:H)(l:Lst)(a:kr)(c:H):Wy:=(base 44).at ⟨Js n l a c,[]⟩ (.inRegion uM []::nE)
theorem C9 n c l(e:kr)cs w(b:eV Wu)(hout:w.cell? ⟨c+3,0,N⟩=J (.chan (J (c+2)))):
  Steps Vp (lone (fE c b l.vs l.p l.d l.af Wo []) (pF n l e::cs) w) (lone (pF2 n l e (c+2)) cs w):=by
 have h:PL Vp (λg' w'=>g'=G (pF2 n l e (c+2)) cs/\w'=w) (G (fE c b l.vs l.p l.d l.af Wo []) (pF n l e::cs)) w:=by
  refine Rh (n:=30) ?_;unfold pF fE gp ma nE qV sV ptr lV aQ;dsimp only[kF,cn,Rn,uM,cN,Ro,iG,dm,pE,Rr]
  iterate 6
   refine lk Q (λw₁ a=>?_);subst a;first
    |((first|rw[vx] |rw[tn] |rw[sq]);refine⟨trivial,?_⟩)
    |(refine iP (λK f=>?_);go_simp;refine f _ _ ⟨trivial,?_⟩;clear f K)
  refine lk Q (λw₁ a=>?_);subst a;rw[Qg];refine⟨trivial,lk Q (λw₁ a=>?_)⟩;subst a;refine PZ Q Q Yq.func72 Q ⟨trivial,nF (λw₁ a=>?_)⟩;subst a;exact Ri ⟨Q,Q⟩
 obtain⟨g',w',hs,rfl,rfl⟩:=h;exact hs
theorem xT n h l(m:kr)cs w(i:eV Wu)(c:w.cell? ⟨h+3,0,N⟩=J (.chan (J (h+2)))):
  Alone Rm (h+3) (G (pF2 n l m (h+2)) cs) 12 (G ((base 72).at ⟨gp h i l.vs l.p l.d l.af (eZ h),[]⟩ [.inRegion xR [],.code kF]) (pF n l m::cs)) w:=by
 unfold Alone pF gp ma nE qV sV ptr lV aQ;dsimp only[xR,kF,cn,Rn,uM,cN,Ro,iG,dm,pE,Rr];refine lk Q (λw₁ b=>?_);replace c:=(cB (a:=⟨h+3,0,N⟩) b).t c;rw[sq];refine⟨⟨by trivial,λe f=>by simp at f⟩,lk Q (λw₁ b=>?_)⟩;replace c:=(cB (a:=⟨h+3,0,N⟩) b).t c;rw[vx];refine⟨⟨by trivial,λe f=>by simp at f⟩,lk Q (λw₁ b=>?_)⟩;replace c:=(cB (a:=⟨h+3,0,N⟩) b).t c;rw[tn];simp only[PB,RB,lC,lN,QH,zA,Ry,Ru];refine⟨⟨by trivial,λe f=>by simp at f⟩,lk Q (λw₁ b=>?_)⟩;replace c:=(cB (a:=⟨h+3,0,N⟩) b).t c;clear b;refine iP (λK j=>?_)
 go_simp
 refine j _ _ ⟨⟨Q,λe f=>?_⟩,?_⟩;have k:=xt f;simp[go_sem, *]at k
 grind
 clear j K;refine lk Q (λw₁ b=>?_);replace c:=(cB (a:=⟨h+3,0,N⟩) b).t c;clear b;refine iP (λK j=>?_)
 go_simp
 refine j _ _ ⟨⟨Q,λe f=>?_⟩,?_⟩;have k:=xt f;simp[go_sem, *]at k
 try(subst k;exact⟨_,Q,Q⟩)
 clear j K;refine lk Q (λw₁ b=>?_);replace c:=(cB (a:=⟨h+3,0,N⟩) b).t c;clear b;rw[sq];simp only[PB];refine⟨⟨by trivial,λe f=>by simp at f⟩,lk Q (λw₁ b=>?_)⟩;replace c:=(cB (a:=⟨h+3,0,N⟩) b).t c;clear b;rw[Qg];simp only[PB];refine⟨⟨by trivial,λe f=>by simp at f⟩,lk Q (λw₁ b=>?_)⟩;replace c:=(cB (a:=⟨h+3,0,N⟩) b).t c;clear b;refine PZ Q Q func72 Q ⟨⟨by trivial,λe f=>by simp at f⟩,?_⟩
 walk_nrm
 exact nF (λw₁ b=>Q)
end
