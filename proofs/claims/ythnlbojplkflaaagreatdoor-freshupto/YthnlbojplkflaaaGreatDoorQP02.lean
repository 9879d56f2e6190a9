/- A part. -/
import Derived.Test.YthnlbojplkflaaaGreatDoorQP01
import Derived.Conc.Beside
import Derived.Conc.CrowdComm
import Derived.Conc.CrowdTrace
import Derived.Conc.BesideWords
import Derived.Conc.LoneCalls
set_option maxHeartbeats 4000000
set_option maxRecDepth 100000
theorem Go.Conc.Before.t:type_of% @Go.Conc.Before.trans:=@Go.Conc.Before.trans
theorem Go.Conc.Past.m:type_of% @Go.Conc.Past.mono:=@Go.Conc.Past.mono
open _root_ renaming Array->dT,Bool->ey,Option->eV,absurd->eW,False->gI,ByteArray->gL,congrArg->kr,String->lj,Int->lk,List->nF
open Go.Conc.Goes renaming step->n8,stop->pt
open Go.MemOp renaming ofEvents->sq
open Go.Conc renaming offersAt_of_not_blocked->sT,stepG_region_end->tb,getElem?_append_cases->tn,again_running->uc,mem_ofEvents->vf,stepG_region->vx,Deaf_other->wz,awake_of->xb,stepG_seq->xc,noRace_append->xt,crowd_pick->xv,touchAt_of->yz,mem_listed->Rj,touch_of->Rk,crowd_recv_closed->Rl,offersAt->Rm,getElem?_stand->Rn,evL_cell->Ro,goes_go->Rp,offersAt_ph->Rq,crowd_waits->Rr,enter_at->Rt,LoneTo->Ru,runT_crowd_comm->Rv,again_recv_open->Rw,crowd_send_room->Rx,runT_crowd_go->Ry,deaf_old->Rz,crowd_recv_buf->RB,ways_send_none->RE,partners_nil->RF,touch_mute->RG,stand_get->RJ,low_mute->RN,act?_of->RQ,run_makeChan->RU,goes_leave1->RY,woken->RZ,stepG_cond->R3,stepG_ret'->R4,Good->R5
open Go.Frame renaming enter->R6,finish_at->R7,catches->R8,raise->R9
open Go.MemAct renaming ofEvent->Sa,touch?->Sb,low_mono->Sc
open Array renaming mem_append->Sd,append_assoc->Se,getElem?_map->Sf,append_empty->Sg,mem_iff_getElem->Sh,toList_inj->Si,toList_push->Sj,toList_extract->Sk,replicate->Sl,ofFn->Sm,ext->Sn
open Nat renaming eq_zero_or_pos->Sp,strongRecOn->Sq,reduceAdd->Su
open Go.Region renaming schedule->Sv,wanted->Sx,linearise->Sy,departs->Sz
open Go renaming FuncId->SB,CommShape->SC,doReturn->SD,step_lone_go->SE,PanicEntry->SG,step_leave_returned->SH,CommCase->SI,stepG_op->SJ,execOp->SK,offeredValue->SM,callDeferred->SN,TypeId->SO
open Go.Sem renaming runT->SQ,bind->SU,run->SV,getObj->SW,setObj->SX
open Go.Act renaming eval->SY
open Go.Conc.LoneTo renaming goes->SZ,done->S0
open Go.Question renaming forced->S4
open Go.Instr renaming takeDeferred->S5
open Go.Proofs.Tryz renaming prog->S7,f76->S8,f48->S9,f98->Ta
open Option renaming map_eq_some_iff->Tb,getD->Tc
open Go.Trace renaming g?->Td
open List.range renaming loop->Te
open Go.World renaming setChan->Tf,cell?->Tg
open List renaming range->Th,prefix_append->Ti
open Go renaming World->Wj,Value->Wx,Goroutine->Wk,Program->Wv,Frame->Wy,Addr->Wu,undef->Wo
namespace Go.Proofs.Qw
open _root_ renaming rfl->Q
open Go.Proofs.Yq renaming prog->Vp
open _root_ renaming Nat->H,List->S
open Option renaming none->N,some->J
open Bool renaming true->Y,false->Z
open Value renaming int->I,string->U,slice->M,pointer->O,bool->C,agg->Rd,tuple->Re
open IntKind renaming i64->K
open Obj renaming cells->E
open Ending renaming returned->Rc
open Or renaming inl->Rf,inr->Rg
open Operand renaming tmp->Rh
open GoStatus renaming running->Ri
variable {P:Wv}{c:CommCase}{V W w w2:Wj}{d:dT Oper}{a:MemAct}{B i j n n0 q q' r s':H}{al g h x:Wk}{o:Oper}{k:S Item}{ρ ρ0 σ:Ren}{e:Event}{T:Wk->Wj->Prop}{L b:S Wx}{v z:Wx}{f:FuncId}{A cl:ey}{b' c':dT Wx}{R:(H->Question->H)->H->Ending->Wj->Prop}
open Tryz
section
open Go.Conc (crowd Past EvL Deaf QuitsD woken awake crowd_pick runT_crowd_go rcase scase parked ph)
open Go.ConcN (sumTo upd sumTo_upd upd_ne upd_same)
def Fin(P:Wv)(Post:Wx->Wj->Prop)(gs:dT Wk)(w:Wj)(sl:eV (H×H))(t:Trace):Prop:=
 ∃N a o w' b,runNT P (N+1) (crowd gs w sl) t=(.ended o w',b)/\runN P N (crowd gs w sl)=.next a/\step P a=.ended o w'/\R5 P Post a o w' b
theorem Fin.next{Post:Wx->Wj->Prop}{gs c:dT Wk}{w'}{sl d:eV (H×H)}{t}{a:dT MemOp}(hs:stepT P (crowd gs w sl)=(.next (crowd c w' d),a))(h:Fin P Post c w' d (t++a)):Fin P Post gs w sl t:=by
 obtain⟨N,b,o,k,e,h1,f,j,i⟩:=h;exact⟨N+1,b,o,k,e,by rw[runNT];simp[hs];exact h1,by rw[runN];simp[step,hs];exact f,j,i⟩
theorem Fin.last{P}{Post:Wx->Wj->Prop}{gs:dT Wk}{w w'}{sl:eV (H×H)}{t}{a:dT MemOp}{o:Outcome}(hs:stepT P (crowd gs w sl)=(.ended o w',a))(h:R5 P Post (crowd gs w sl) o w' (t++a)):Fin P Post gs w sl t:=
 ⟨0,crowd gs w sl,o,w',t++a,by simp[runNT,hs],Q,by simp[step,hs],h⟩
structure Lv (P:Wv)(K:H->Prop)(t:Trace)(gs:dT Wk)(q:H->H):Prop where
 old:∀i g,0<i->¬K i->gs[i]?=J g->QuitsD P (q i) (Deaf t i) g
 above:∀j,gs.size<=j->Deaf t j=0
theorem lH{d}(h:QuitsD P n d g)w:g.again w=g:=uc _ h.status
section
variable {P:Wv} {K:Nat->Prop} {Shun:Loc->Prop} {gs:dT Wk} {w:Wj} {sl:eV (Nat×Nat)} {t:Trace} {q:Nat->Nat}
theorem io{g' o}(h:o.again w=o):woken P g g' w o=o:=by
 unfold RZ
 grind
theorem slip(V:Lv P K t gs q){Pa:Trace->Prop}(hP:Pa t)(m:∀ (t:Trace)(i:H)(fn:SB)(ab:lj)(es:dT Event),i≠0->¬K i->Pa t->(∀e∈es,e.mute=Y)->Pa (t++sq i fn ab es)){d}{p:eV (H×H)}(X:gs[i]?=J g)(hg:g.status=Ri)(v:0<i)(T:¬K i)
  (l:∀j o,(j=0\/K j)->gs[j]?=J o->o.again (w.at d)=o) (R:stepT P (crowd gs w sl)=runT P (crowd gs (w.at d) p) i):
  ∃b q' f,stepT P (crowd gs w sl)=(.next (crowd b (w.at d) p),f)/\b.size=gs.size/\(∀j,(j=0\/K j)->b[j]?=gs[j]?)/\Lv P K (t++f) b q'/\Pa (t++f)/\sumTo b.size q'<sumTo gs.size q/\(∀G∈f,G.g=i):=by
 have D:=V.old i g v T X;have ac:(i==0)=false:=by grind
 have u:=(eS X).1;cases A:q i with
 |zero=>rw[A]at D;rw[D.1]at hg;cases hg
 |succ k=>
  rw[A]at D;rcases D with⟨hf,_⟩|⟨_,g',es,hm,r,aa⟩
  grind
  have z:((gs.map (woken P g g' (w.at d))).setIfInBounds i g').size=gs.size:=by simp
  have hsum:sumTo gs.size (upd q i k)+(k+1)=sumTo gs.size q+k:=by
   have:=sumTo_upd q k id u
   simp_all
  refine⟨_,upd q i k,_,R.t (Ry (P:=P) (sl:=p) (i:=i) X (by rw[ac];exact r (w.at d))),z,λj n=>?_,⟨λj x n ad F=>?_,λj n=>?_⟩,m t i _ _ es (by omega) T hP hm,by rw[z];omega,λG a=>by obtain⟨e,_,rfl⟩:=vf a;rfl⟩;have L:i≠j:=λe=>by subst e;rcases n with h|h<;>first|omega|exact T h
  rw[sN L,Sf];cases ho:gs[j]? with
  |none=>rfl
  |some o=>simp;rw[io (l j o n ho)]
  by_cases c:i=j
  subst c;rw[sS (by simpa using u)]at F;obtain rfl:=oJ F;rw[upd_same,Conc.Deaf_own];exact aa;rw[sN c,Sf]at F;obtain⟨y,hy,rfl⟩:=Tb.1 F;have B:=V.old j y n ad hy;rw[io (lH B _),upd_ne q k (Ne.s c),wz t c _ (λG a=>by obtain⟨e,_,rfl⟩:=vf a;rfl)];exact B;rw[wz t (g':=i) (by simp at n;omega) _ (λG a=>by obtain⟨e,_,rfl⟩:=vf a;rfl)];exact V.above j (by simpa using n)
theorem rl(B:Lv P K t gs q){u}{w'}{es:dT Event}{d}{k:eV (H×H)}(v:gs[i]?=J al)(G:i=0\/K i)(s:stepT P (crowd gs w sl)=runT P (crowd gs (w.at d) k) i)(r:stepG P (i==0) al (w.at d)=.go u w' es):
  ∃b c,stepT P (crowd gs w sl)=(.next (crowd b w' k),c)/\c=sq i al.frame.fn al.frame.place es/\b.size=gs.size/\b[i]?=J u/\(∀j o,j≠i->gs[j]?=J o->b[j]?=J (woken P al u w' o))/\Lv P K (t++c) b q:=by
 have p:=(eS v).1;refine⟨_,_,s.t (Ry (P:=P) (sl:=k) (i:=i) v r),Q,by simp,by simp[p],λj o m ho=>?_,⟨λj x m n z=>?_,λj m=>?_⟩⟩
 grind
 have l:i≠j:=λe=>by subst e;rcases G with h|h<;>first|omega|exact n h
 rw[sN l,Sf]at z;obtain⟨y,D,rfl⟩:=Tb.1 z;have A:=B.old j y m n D;rw[io (lH A _),wz t l _ (λF f=>by obtain⟨e,_,rfl⟩:=vf f;rfl)];exact A;rw[wz t (g':=i) (by simp at m;omega) _ (λF f=>by obtain⟨e,_,rfl⟩:=vf f;rfl)];exact B.above j (by simpa using m)
def dK(B:H):MemAct->Prop
 | .send c _| .sendDone c _| .recv c _ _| .recvDone c _| .close c| .recvClosed c=>c<B
 |_=>gI
theorem dK.low(h:dK B a):a.low B:=by cases a<;>first|exact h|exact h.elim
theorem dK.none(h:dK B a):a.touch?=none:=by cases a<;>first|rfl|exact h.elim
theorem dK.still(h:dK B a):a≠.mark .disable/\a≠.mark .enable:=by cases a<;>first|exact h.elim|exact⟨by simp,by simp⟩
theorem cx t g u(b:∀op∈u,op.act≠.mark .disable/\op.act≠.mark .enable):Deaf (t++u) g=Deaf t g:=by
 obtain⟨l⟩:=u;rw[Conc.Deaf_append];induction l generalizing t with
 |nil=>rfl
 |cons x l ih=>
  have a:=b x (by simp);have e:Conc.deafStep g (Deaf t g) x=Deaf t g:=by
   obtain⟨xg,xf,xp,c⟩:=x;cases c with
   |mark m=>cases m<;>first|rfl|exact eW Q a.1|exact eW Q a.2
   |_=>rfl
  grind
theorem Lv.put(d:Lv P K t gs q){a:dT Wk}{u}(c:∀op∈u,op.act≠.mark .disable/\op.act≠.mark .enable)(hsz:a.size=gs.size)(hs:∀j,0<j->¬K j->a[j]?=gs[j]?):Lv P K (t++u) a q:=
 ⟨λi g e b f=>by rw[cx t i u c];exact d.old i g e b (by rw[<-hs i e b];exact f),λj hj=>by rw[cx t j u c];exact d.above j (by omega)⟩
theorem DT(h:Past Shun B t){u}(d:∀c∈u,c.g=0/\dK B c.act):Past Shun B (t++u):=
 h.app0 (λc a=>(d c a).1) (λc a b e=>by rw[(d c a).2.none]at e;cases e) (cx t 0 u (λc a=>(d c a).2.still)) (λc a=>(d c a).2.low)
theorem Lv.alone(c:Lv P (λ_=>gI) t gs q)r(b:ey):partners (gs.setIfInBounds 0 ph) r b=[]:=by
 refine RF (λj x a=>?_);rcases Rn gs 0 j x a with⟨-,rfl⟩|⟨hne,a⟩;exact Rq r b;refine sT (λe=>?_) r b;rcases(c.old j x (by omega) (λk=>k) a).status with h|h<;>rw[h]at e<;>cases e
end
def gJ:Loc->Prop:=λ_=>gI
theorem mu(b:cz ρ V W)(h:kX ρ e):EvL gJ W.heap.size e:=by
 obtain⟨c,wr,d⟩:=e;cases c with
 |cell a=>
  obtain⟨x,h1,-⟩:=h;exact⟨λ_ _ k=>k.elim,by simp,by simp,(b.lt h1).2⟩
 |obj r=>
  obtain⟨x,h1,-⟩:=h;refine⟨λ_ _ k=>k.elim,by simp,by simp,?_⟩;have:=(b.lt h1).2;cases wr<;>cases d<;>exact this
 |mark m=>
  cases h with
  |extern f=>exact⟨λ_ _ k=>k.elim,by simp,by simp,trivial⟩
  |noRoom=>exact⟨λ_ _ k=>k.elim,by simp,by simp,trivial⟩
 |output=>exact⟨λ_ _ k=>k.elim,by simp,by simp,trivial⟩
 |goroutines=>exact h.elim
inductive LSs (P:Wv)(T:Wk->Wj->Prop):Wk->Wj->Wk->Wj->Prop
 |refl (g:Wk) (w:Wj):LSs P T g w g w
 |step {g g1 g2:Wk} {w w1 w2:Wj} (hT:¬T g w) (τ:H->Question->H) (d:H) (h:LS P g (w.on τ d) g1 w1) (hs:LSs P T g1 w1 g2 w2):LSs P T g w g2 w2
theorem LSs.t{a b c}{u v}(h:LSs P T a u b v)(k:LSs P T b v c w):LSs P T a u c w:=by
 induction h with
 |refl=>exact k
 |step f e d h _ ih=>exact .step f e d h (ih k)
def Quiet(ρ:Ren)(V:Wj):Prop:=ρ.F nX=Z/\∀a b o,ρ a b->V.heap[a]?=J o->o.isChan=Y->∃n s q c,o=.chan n #[] Y s q c
theorem Quiet.reach{ρ'}{w' u f}(h:Quiet ρ w)(j:ρ.F i7=Z)(R:Reach ρ ρ' w w' u f):Quiet ρ' u:=⟨by rw[R.le.F];exact h.1,λa b o c i e=>by
 rcases R.Pj.only h.1 a o i e with k|⟨k,-⟩
 .rcases R.new a b c with d|⟨d,-⟩
  .exact h.2 a b o d k e
  .have:=(eS k).1;omega
 .rw [j]at k;cases k⟩
structure Outer where
 Ko:H->Prop
 W0:Wj
 lt:∀b,Ko b->b<W0.heap.size
 R:H->H->Prop
 NT:H->eV (dT Wx)
 bad:TypeId
def Kp(U:Outer)(W:Wj):Prop:=U.W0.heap.size<=W.heap.size/\W.output=U.W0.output/\∀b,U.Ko b->W.heap[b]?=U.W0.heap[b]?
def Off(U:Outer)(ρ:Ren):Prop:=(∀a b,ρ a b->¬U.Ko b)/\(∀a b,U.R a b->ρ a b)/\ρ.NT=U.NT/\ρ.bad=U.bad
theorem Kp.Nx{c:Outer}{W1}(h:Kp c W)(e:Off c ρ)(K:Keep ρ W W1):Kp c W1:=
 ⟨lT h.1 K.size,K.output.t h.2.1,λb d=>(K.block b (lL (c.lt b d) h.1) (λa f=>eW d (e.1 a b f))).t (h.2.2 b d)⟩
theorem Off.new{c:Outer}{W}{ρ ρ'}(d:Off c ρ)(h:Kp c W)(e:∀a b,ρ a b->ρ' a b)(l:∀a b,ρ' a b->ρ a b\/W.heap.size<=b)(i:ρ'.NT=ρ.NT/\ρ'.bad=ρ.bad):Off c ρ':=⟨λa b f j=>by
 rcases l a b f with k|k
 .exact d.1 a b k j
 .have:=c.lt b j;have:=h.1;omega,λa b k=>e a b (d.2.1 a b k),i.1.t d.2.2.1,i.2.t d.2.2.2⟩
theorem Kp.reach{c:Outer}{ρ'}{w' u}(h:Kp c w'/\Off c ρ)(R:Reach ρ ρ' w w' u w2):Kp c w2/\Off c ρ':=⟨h.1.Nx h.2 R.Nx,h.2.new h.1 R.le.sub (λa b k=>(R.new a b k).imp id (·.2)) ⟨R.le.NT,R.le.bad⟩⟩
structure Rel (P:Wv) [Two P](U:Outer)(G:FuncId->ey)(Y:S Wy)(ρ:Ren)(h g:Wk)(V W:Wj):Prop where
 go:RGo P ρ ([trap P.alt],Y) h g
 NG:cz ρ V W
 gid:GId P ρ
 ext:iH P ρ.F
 calm:ρ.F i7=Z
 same:ρ.F=G
 NX:ρ.loose=Z/\ρ.wide=Z
 quiet:Quiet ρ V
 o:Kp U W/\Off U ρ
section
variable {P:Wv} [Two P]
def rM(P:Wv) [Two P](U:Outer)(G:SB->ey)(Y:S Wy)(Post:Wx->Wj->Prop)(h:Wk)(V:Wj):Prop:=
 ∀ (gs:dT Wk) (g:Wk) (W:Wj) (sl:eV (H×H)) (t:Trace) (q:H->H) (ρ:Ren),gs[0]?=J g->Lv P (λ_=>gI) t gs q->Past gJ W.heap.size t->Rel P U G Y ρ h g V W->Fin P Post gs W sl t
def yw(P:Wv) [Two P](U:Outer)(G:SB->ey)(Y:S Wy)(T:Wk->Wj->Prop)(Post:Wx->Wj->Prop):Prop:=
 ∀ (f:SB) (a h:dT Wx) (d b:Wy) (cs c:S Wy) (V W:Wj) (ρ:Ren),Mk ρ.F f=true->RVs ρ a h/\a.size=2->Rel P U G Y ρ {frame:=d,callers:=cs,status:=Ri,dying:=N} {frame:=b,callers:=c,status:=Ri,dying:=N} V W ->
  Dem P.alt (λg _=>NB [trap P.alt] g) T {frame:=R6 P.alt f a .normal,callers:=d::cs,status:=Ri,dying:=N} V ->
  (∀e V2,LSs P.alt T {frame:=R6 P.alt f a .normal,callers:=d::cs,status:=Ri,dying:=N} V e V2->rM P U G Y Post e V2) ->
  ∀ (gs:dT Wk) (sl:eV (H×H)) (t:Trace) (q:H->H),gs[0]?=J {frame:=R6 P f h .normal,callers:=b::c,status:=Ri,dying:=N}->Lv P (λ_=>gI) t gs q->Past gJ W.heap.size t->Fin P Post gs W sl t
omit [Two P]in
theorem RFs.Qv{x}{k'}(h:RFs P ρ ([x],[]) [x] k'):k'=[]:=by
 generalize b:(([x],[]):S Wy×S Wy)=X at h;generalize c:[x]=l at h;cases h with
 |base=>rw[<-b]
 |cons _ _ a=>
  subst b;generalize b:(([x],[]):S Wy×S Wy)=X at a;cases a with
  |base=>rw[<-b]at c;cases c
  |cons _ _ _=>cases c
theorem jL B:∀ (t:Trace)(i:H)(fn:SB)(a:lj)(es:dT Event),i≠0->¬(λ_:H=>gI) i->Past gJ B t->(∀e∈es,e.mute=Y)->Past gJ B (t++sq i fn a es):=
 λ_ _ _ _ _ c _ h b=>h.mute c b
def Leaf(P:Wv) [Two P](U:Outer)(G:SB->ey)(T:Wk->Wj->Prop)(Post:Wx->Wj->Prop):Prop:=
 ∀ (h g:Wk) (V W:Wj) (ρ:Ren),T h V->Rel P U G [] ρ h g V W->∀d,∃v es ρ' V' W',stepG P Y g (W.at d)=.ended (.done v) W' es/\Post v W'/\cz ρ' V' W'/\W.heap.size<=W'.heap.size/\∀e∈es,kX ρ' e
theorem tN(a:cz ρ V W){m:SI}(n:RC ρ c m){p l}{buf:dT Wx}{u v:ey}(L:c.chan=.chan (J r))(t:V.heap[r]?=J (.chan p buf u q' l v)):
  ∃j b e d f i,m.chan=.chan (J j)/\ρ r j/\W.heap[j]?=J (.chan b e d f i v)/\(ρ.loose=Y\/RVs ρ buf e)/\(ρ.wide=Y\/u=d)/\¬ρ.old r:=by
 have h:=n.chan;rw[L]at h;generalize m.chan=x at h;cases h with
 |chan h=>
  cases h with
  | @some _ j h=>
   obtain⟨o,o',s,D,F⟩:=a.obj _ _ h;rw[t]at s;cases s;cases F with
   |chan _ b _ d _ _ z G _ A q=>
    refine⟨j,b,_,d,z,G,Q,h,D,A,q,λk=>?_⟩;obtain⟨o,y,B⟩:=a.fix _ k;rw[t]at y;cases y;exact B
theorem Aa(h:c.chan=.chan (J r))(hs:c.send=N):c=rcase r c.zero:=by
 obtain⟨a,b,z⟩:=c;subst h;subst hs;rfl
theorem DU{b:Outer}{Post:Wx->Wj->Prop}{G:SB->ey}(n:Leaf P b G T Post):∀h V,T h V->rM P b G [] Post h V:=by
 have NX:∀ (gs:dT Wk) (g:Wk) (w:Wj),gs[0]?=J g->g.status=Ri->∀j o,(j=0\/gI)->gs[j]?=J o->o.again w=o:=λgs g w l hr j o u ho=>by
  rcases u with rfl|u;rw[l]at ho;cases ho;exact uc _ (Rf hr)
  grind
 have aa:∀ (gs:dT Wk) (g:Wk) (t:Trace) (q:H->H),gs[0]?=J g->g.status=Ri->Lv P (λ_=>gI) t gs q->∀x∈gs,awake x:=λgs g t q l hr z x hx=>by
  obtain⟨i,p,rfl⟩:=Sh.1 hx;rcases Sp i with rfl|f;have:gs[0]=g:=by simpa[eG p]using l
  rw[this];exact xb (Rf hr);exact xb ((z.old i _ f (λk=>k) (eG p)).status.elim Rf λx=>Rg (Rg x))
 intro h V hT gs g W sl t q ρ l z hP c;obtain⟨a,hM⟩:∃a,sumTo gs.size q<=a:=⟨_,Q0⟩;induction a using Sq generalizing gs W sl t q with
 |_ a ih=>
  have hr:=c.go.status.2;have⟨i,x,d,B,p,hx,A⟩:=xv (P:=P) (w:=W) (sl:=sl) (aa gs g t q l hr z) ⟨0,g,l,hr⟩;rcases Sp i with rfl|f;obtain rfl:x=g:=by rw[l]at p;exact(oJ p).s
  have⟨v,es,ρ',V',W',he,r,F,ad,ab⟩:=n h x V W ρ hT c d;have D:=(hP.m ad).own (fn:=x.frame.fn) (pos:=x.frame.place) (λe he=>mu F (ab e he));refine Fin.last (A.t (Conc.runT_many_ended (P:=P) (sl:=B) (i:=0) p (show stepG P (0==0) x (W.at d)=_ from he))) ⟨v,Q,r,D.clean,D.over,⟨λy R=>?_,Q⟩,λj y R u=>?_⟩;have⟨j,u⟩:=List.mem_iff_getElem?.1 R;rw[List.getElem?_drop]at u;exact⟨_,(z.old (1+j) y (by omega) (λk=>k) (by simpa[crowd]using u)).leaves⟩;refine⟨q j,?_⟩;have e:(t++sq 0 x.frame.fn x.frame.place es).deaf j (t++sq 0 x.frame.fn x.frame.place es).size=Deaf t j:=
   wz t (g:=j) (g':=0) (by omega) _ (λop X=>by obtain⟨e,_,rfl⟩:=vf X;rfl)
  rw[e];exact(z.old j y (by omega) (λk=>k) R).hears _;obtain⟨ac,q',L,e1,e2,e3,e4,e5,e6,-⟩:=slip z hP (jL W.heap.size) p hx f (λk=>k) (NX gs g _ l hr) A;exact Fin.next e1 (ih _ (by omega) ac (W.at d) B (t++L) q' ((e3 0 (Rf Q)).t l) e4 e5 ⟨c.go,⟨c.NG.obj,c.NG.fix,c.NG.chan,c.NG.os,c.NG.NT⟩,c.gid,c.ext,c.calm,c.same,c.NX,c.quiet,c.o⟩ Q0)
theorem Ka(hZ:cC P)(hN:cJ P){b:Outer}{Post:Wx->Wj->Prop}{G:SB->ey}{p:S Wy}(a7:∀h V,T h V->rM P b G p Post h V)(bn:yw P b G p T Post)(hD:Dem P.alt (λg _=>NB [trap P.alt] g) T h V):∀h2 V2,LSs P.alt T h V h2 V2->rM P b G p Post h2 V2:=by
 have NX:∀ (gs:dT Wk) (g:Wk) (w:Wj),gs[0]?=J g->g.status=Ri->∀j o,(j=0\/gI)->gs[j]?=J o->o.again w=o:=λgs g w h0 hr j o hj ho=>by
  rcases hj with rfl|hj;rw[h0]at ho;cases ho;exact uc _ (Rf hr)
  grind
 have b0:∀ (gs:dT Wk) (g:Wk) (t:Trace) (q:H->H),gs[0]?=J g->g.status=Ri->Lv P (λ_=>gI) t gs q->∀x∈gs,awake x:=λgs g t q h0 hr hL x hx=>by
  obtain⟨i,hi,rfl⟩:=Sh.1 hx;rcases Sp i with rfl|a0;have:gs[0]=g:=by simpa[eG hi]using h0
  rw[this];exact xb (Rf hr);exact xb ((hL.old i _ a0 (λk=>k) (eG hi)).status.elim Rf λx=>Rg (Rg x))
 induction hD with
 | @stop h V hT=>
  intro h2 V2 hs;cases hs with
  |step bl _ _ _ _=>exact eW hT bl
  |refl=>exact a7 _ _ hT
 | @step h V bt hT bw hn a1=>
  intro h2 V2 hs;cases hs with
  |step bl τ d hl hs=>exact a1 τ d _ _ hl h2 V2 hs
  |refl=>
   intro gs g W sl t q ρ h0 hL hP B;obtain⟨l,hM⟩:∃l,sumTo gs.size q<=l:=⟨_,Q0⟩;induction l using Sq generalizing gs W sl t q with
   |_ l ih=>
    have hr:=B.go.status.2;have⟨i,x,d,al,hi,hx,a3⟩:=xv (P:=P) (w:=W) (sl:=sl) (b0 gs g t q h0 hr hL) ⟨0,g,h0,hr⟩;rcases Sp i with rfl|a0;obtain rfl:x=g:=by rw[h0]at hi;exact(oJ hi).s
    have z:cz ρ (V.on W.tape d) (W.at d):=⟨B.NG.obj,B.NG.fix,B.NG.chan,B.NG.os,B.NG.NT⟩;have⟨h',V',ap⟩:=bw W.tape d;have L:=B.calm;rcases(kz hZ B.ext hN B.gid Y B.go (λe=>bt (B.go.callers.tail e)) z (λi=>Q)).rel with⟨-,ab⟩|⟨ai,D⟩|⟨f,ρ',a,a',fr,bx,cs,bp,u,u',es,a4,A⟩;cases ap with
    |go e bb a9=>
     have ab:=ab;rw[e]at ab;obtain⟨⟨_,_,e2,-⟩,-⟩:=ab
     grind
    |comm e _=>
     have ab:=ab;rw[e]at ab;exact ab.elim
    have ai:=ai;have aa:=ap;cases ap with
    | @go _ _ es e bb a9=>
     rw[ai]at e;have D:=D;rw[e]at D;generalize hy:stepG P Y x (W.at d)=y at D;cases D with
     | @go _ g' _ W' _ a4 ρ' R hg he=>
      obtain⟨av,a8,e1,e2,e3,e4,-,e6⟩:=rl hL hi (Rf Q) a3 (show stepG P (0==0) x (W.at d)=_ from hy);subst e2;exact Fin.next e1 (a1 W.tape d _ _ aa _ _ (.refl _ _) av g' W' al _ q ρ' e4 e6 ((hP.m (show W.heap.size<=W'.heap.size from R.Nx.size)).own (fn:=x.frame.fn) (pos:=x.frame.place) (λe k=>mu R.NG (he e k))) ⟨hg,R.NG,B.gid.m R.le,by rw[R.le.F];exact B.ext,by rw[R.le.F];exact L,R.le.F.t B.same,⟨R.le.loose.t B.NX.1,R.le.wide.t B.NX.2⟩,Quiet.reach (w:=V.on W.tape d) B.quiet L R,Kp.reach (w':=W.at d) B.o R⟩)
    | @comm h1 c sh V1 es _ _ e hc=>
     rw[ai]at e;have D:=D;rw[e]at D;generalize hy:stepG P Y x (W.at d)=y at D;cases D with
     | @comm _ g' _ c' hC _ b1 hrun _ W1 _ a4 ρ' R hg ar he _=>
      have ac:c.send=none:=by
       grind
      have a2:c'.send=none:=by
       rcases ar.send with⟨-,k⟩|⟨v,_,k,-⟩;exact k;rw[ac]at k;cases k
      have af:=Quiet.reach (w:=V.on W.tape d) B.quiet L R;have X:ρ'.loose=Z/\ρ'.wide=false:=⟨R.le.loose.t B.NX.1,R.le.wide.t B.NX.2⟩;have a6:∀op∈sq 0 x.frame.fn x.frame.place a4,op.act≠.mark .disable/\op.act≠.mark .enable:=λop aj=>by
       obtain⟨e,k,rfl⟩:=vf aj;have k:=he e k;obtain⟨b3,wr,sy⟩:=e;cases b3 with
       |mark m=>cases(show RMk m from k)<;>exact⟨by simp[Sa],by simp[Sa]⟩
       |goroutines=>exact k.elim
       |_=>cases wr<;>cases sy<;>exact⟨by simp[Sa],by simp[Sa]⟩
      have bd:∀ (g2:Wk) (W2:Wj) (u:Trace),runT P (crowd gs (W.at d) al) 0=(.next (crowd (gs.setIfInBounds 0 g2) W2 al),sq 0 x.frame.fn x.frame.place a4++u)->(∀op∈u,op.g=0/\dK W1.heap.size op.act)->W2.heap.size=W1.heap.size->Rel P b G p ρ' _ g2 _ W2->Fin P Post gs W sl t:=λg2 W2 u bs hu bo b2=>by
       refine Fin.next (a3.t bs) (a1 W.tape d _ _ aa _ _ (.refl _ _) (gs.setIfInBounds 0 g2) g2 W2 al _ q ρ' (by simp[((eS h0).1)]) ?_ ?_ b2)
       refine hL.put (λop aj=>?_) (by simp) (λj hj _=>by rw[sN (by omega)]);rcases Sd.1 aj with k|k;exact a6 op k;exact(hu op k).2.still;rw[<-Se,bo];exact DT ((hP.m (show W.heap.size<=W1.heap.size from R.Nx.size)).own (fn:=x.frame.fn) (pos:=x.frame.place) (λe k=>mu R.NG (he e k))) hu
      cases hc with
      |send k1 k2 k3 k4=>rw[ac]at k2;cases k2
      |dead k1 k2 k3=>rw[ac]at k2;cases k2
      | @recv r bv NQ be buf cl tm k1 k2 k3 k4=>
       exfalso;have⟨r',bi,a5,bq,s',q',m1,m2,m3,m4,m5,m6⟩:=tN R.NG ar k1 k3;obtain⟨n,s0,q0,tm0,e0⟩:=af.2 r r' _ m2 k3 Q;cases e0;simp at k4
      | @shut r bv NQ be tm k1 k2 k3=>
       have⟨r',bi,a5,bq,s',q',m1,m2,m3,m4,m5,m6⟩:=tN R.NG ar k1 k3;obtain rfl:=m5.resolve_left (by rw[X.2];exactλh=>by cases h);obtain rfl:a5=#[]:=Array.eq_empty_of_size_eq_zero (by rw[<-(m4.resolve_left (by rw[X.1];exactλh=>by cases h)).size];rfl);have bk:=Aa m1 a2;rw[bk]at hy;refine bd _ _ _ (Rl (i:=0) hi (show stepG P (0==0) x (W.at d)=_ from hy) m3 (hL.alone r' Y)) (λop aj=>?_) Q ⟨?_,R.NG,B.gid.m R.le,by rw[R.le.F];exact B.ext,by rw[R.le.F];exact L,R.le.F.t B.same,X,af,Kp.reach (w':=W.at d) B.o R⟩;simp at aj;subst aj;exact⟨Q,(R.NG.lt m2).2⟩;rw[<-bk];exact ew hg ar sh b1 ar.zero Z
    have aa:=ap;have ho:=A.other;cases ap with
    |comm e _=>rw[ho]at e;cases e
    |go e bb a9=>
     rw[ho]at e;cases e;obtain⟨av,a8,e1,e2,e3,e4,-,e6⟩:=rl hL hi (Rf Q) a3 (show stepG P (0==0) x (W.at d)=_ from A.there);subst e2;have ad:=A.reach.le;refine Fin.next e1 (bn f a a' fr bx cs bp _ u' ρ' (by rw[ad.F];exact A.mark) A.args ⟨⟨A.frame,A.callers,A.kind,⟨Q,Q⟩,⟨Q,Q⟩,Q,Q⟩,A.reach.NG,B.gid.m ad,by rw[ad.F];exact B.ext,by rw[ad.F];exact L,ad.F.t B.same,⟨ad.loose.t B.NX.1,ad.wide.t B.NX.2⟩,Quiet.reach (w:=V.on W.tape d) B.quiet L A.reach,Kp.reach (w':=W.at d) B.o A.reach⟩ (hn _ _ _ _ aa) (λh2 V2 hs=>a1 _ _ _ _ aa h2 V2 hs) av al _ q e4 e6 ((hP.m (show W.heap.size<=u'.heap.size from A.reach.Nx.size)).own (fn:=x.frame.fn) (pos:=x.frame.place) (λe k=>mu A.reach.NG (A.ev e k))))
    obtain⟨av,q',a8,e1,e2,e3,e4,e5,e6,-⟩:=slip hL hP (jL W.heap.size) hi hx a0 (λk=>k) (NX gs g _ h0 hr) a3;exact Fin.next e1 (ih _ (by omega) av (W.at d) al (t++a8) q' ((e3 0 (Rf Q)).t h0) e4 e5 ⟨B.go,⟨B.NG.obj,B.NG.fix,B.NG.chan,B.NG.os,B.NG.NT⟩,B.gid,B.ext,B.calm,B.same,B.NX,B.quiet,B.o⟩ Q0)
end
end
section
open Go.Conc (crowd Past EvL Deaf QuitsD woken awake crowd_pick runT_crowd_go rcase scase parked ph Knows Before touchAt touch_of touchAt_of getElem?_append_cases getElem?_append_old knows_own noRace_append lt_size_of_getElem?)
def Tk(ρ:Ren)(a:Touch):Prop:=
 match a.loc with
 | .cell b=>∃x,ρ x b.block/\(a.write=Y->¬ρ.old x)/\¬ρ.ch x
 | .obj r=>∃x,ρ x r/\(a.write=Y->¬ρ.old x)/\(a.kind≠.atomic->¬ρ.ch x)
 |_=>True
theorem Tk.m{ρ'}(l:ρ.le ρ'){a:Touch}(h:Tk ρ a):Tk ρ' a:=by
 obtain⟨d,wr,kd⟩:=a;cases d with
 |cell ad=>obtain⟨x,h1,b,c⟩:=h;exact⟨x,l _ _ h1,by rw[l.old];exact b,by rw[l.ch];exact c⟩
 |obj r=>obtain⟨x,h1,b,c⟩:=h;exact⟨x,l _ _ h1,by rw[l.old];exact b,by rw[l.ch];exact c⟩
 |_=>trivial
theorem MJ(h:kX ρ e){a:Touch}(b:(Sa e).touch?=J a):Tk ρ a:=by
 obtain⟨c,wr,f⟩:=e;cases c with
 |cell ad=>
  simp[Sa,Sb]at b;subst b;exact h
 |obj r=>
  obtain⟨x,h1,i,d⟩:=h;cases wr<;>cases f<;>simp[Sa,Sb]at b<;>first|cases b;done|(subst b;exact⟨x,h1,i,λk=>d (by first|rfl|exact eW Q k)⟩)
 |mark m=>
  cases h<;>simp[Sa,Sb]at b
 |output=>
  simp[Sa,Sb]at b;subst b;trivial
 |goroutines=>exact h.elim
def Far(ρ ρ':Ren):Prop:=∀b x y,ρ x b->ρ' y b->(ρ.old x/\ρ'.old y)\/(ρ.ch x/\ρ'.ch y)
theorem Far.s{ρ'}(h:Far ρ ρ'):Far ρ' ρ:=λb x y h1 a=>(h b y x a h1).imp (λk=>⟨k.2,k.1⟩) (λk=>⟨k.2,k.1⟩)
theorem Far.no{ρ'}(h:Far ρ ρ'){a b:Touch}(j:Tk ρ a)(k:Tk ρ' b)(c:ey):¬a.conflicts c b:=by
 obtain⟨p,wa,ka⟩:=a;obtain⟨lb,wb,kb⟩:=b;rintro⟨h1,n,h3,h4⟩;subst h1;cases p with
 |cell ad=>
  obtain⟨x,e,q,l⟩:=j;obtain⟨y,f,o,m⟩:=k;rcases h _ x y e f with⟨d,i⟩|⟨d,-⟩
  grind
  exact l d
 |obj r=>
  obtain⟨x,e,q,l⟩:=j;obtain⟨y,f,o,m⟩:=k;rcases h _ x y e f with⟨d,i⟩|⟨d,i⟩
  grind
  grind
 |_=>simp[Loc.isMemory]at n
structure PhT (p q:H)(ρ ρ':Ren)(B:H)(t:Trace):Prop where
 ne:p≠q
 clean:∀said,¬Race said t
 kp:∀i a,touchAt t i=J a->a.loc.isMemory=Y->Knows t p i\/(t.g? i=J q/\Tk ρ' a)
 kq:∀i a,touchAt t i=J a->a.loc.isMemory=Y->Knows t q i\/(t.g? i=J p/\Tk ρ a)
 hp:Deaf t p=0
 hq:Deaf t q=0
 seen:∀op∈t,op.act.low B
section
variable {p q:Nat} {ρ ρ' ρ1:Ren} {B B':Nat} {t u:Trace}
theorem PhT.s(h:PhT p q ρ ρ' B t):PhT q p ρ' ρ B t:=⟨h.ne.s,h.clean,h.kq,h.kp,h.hq,h.hp,h.seen⟩
theorem g?_old{g}(h:t.g? i=J g):(t++u).g? i=J g:=by
 unfold Td at h ⊢
 grind
theorem PhT.app(h:PhT p q ρ ρ' B t)(l:ρ.le ρ1)(hF:Far ρ1 ρ')(A:B<=B')(o:∀d∈u,d.g=p/\d.act.low B'/\(d.act≠.mark .disable/\d.act≠.mark .enable)/\∀a,d.act.touch?=J a->Tk ρ1 a):PhT p q ρ1 ρ' B' (t++u):=by
 refine⟨h.ne,λf=>xt (h.clean f) (λd c=>(o d c).1) (λi a r d c b D z=>?_),λi a r y=>?_,λi a r y=>?_,?_,?_,λd c=>?_⟩;rcases h.kp i a r z.2.1 with k|⟨-,k⟩;exact k;exact eW z (hF.s.no k ((o d c).2.2.2 b D) f);have⟨x,v,e⟩:=Rk r;rcases tn v with⟨_,j⟩|⟨_,n⟩;exact(h.kp i a (by rw[yz j];exact e) y).imp (·.app u) (λk=>⟨g?_old k.1,k.2⟩);have:=knows_own v
 grind
 have⟨x,v,e⟩:=Rk r;rcases tn v with⟨_,j⟩|⟨_,n⟩;exact(h.kq i a (by rw[yz j];exact e) y).imp (·.app u) (λk=>⟨g?_old k.1,k.2.m l⟩);exact Rg ⟨by simp[Td,v,(o x n).1],(o x n).2.2.2 a e⟩;rw[cx t p u (λd c=>(o d c).2.2.1)];exact h.hp;rw[cx t q u (λd c=>(o d c).2.2.1)];exact h.hq;rcases Sd.1 c with k|k;exact Sc A (h.seen d k)
 grind
theorem BQ(h:kX ρ e):Sa e≠.mark .disable/\Sa e≠.mark .enable:=by
 obtain⟨a,wr,b⟩:=e;cases a with
 |mark m=>cases(show RMk m from h)<;>exact⟨by simp[Sa],by simp[Sa]⟩
 |goroutines=>exact h.elim
 |_=>cases wr<;>cases b<;>exact⟨by simp[Sa],by simp[Sa]⟩
theorem mw(b:cz ρ V W){es:dT Event}(c:∀e∈es,kX ρ e)g(fn:SB)(f:lj):∀d∈sq g fn f es,d.g=g/\d.act.low W.heap.size/\(d.act≠.mark .disable/\d.act≠.mark .enable)/\∀a,d.act.touch?=J a->Tk ρ a:=λd i=>by
 obtain⟨e,h,rfl⟩:=vf i;exact⟨Q,(mu b (c e h)).2.2.2,BQ (c e h),λa j=>MJ (c e h) j⟩
theorem yx{b:MemOp}(h:dK B b.act):b.act.low B/\(b.act≠.mark .disable/\b.act≠.mark .enable)/\∀a,b.act.touch?=J a->Tk ρ a:=⟨h.low,h.still,λa c=>by rw[h.none]at c;cases c⟩
theorem PhT.mute(h:PhT p q ρ ρ' B t){g}(h1:g≠p)(A:g≠q){fn:SB}{j:lj}{es:dT Event}(m:∀e∈es,e.mute=Y):PhT p q ρ ρ' B (t++sq g fn j es):=by
 have o:∀d∈sq g fn j es,d.g=g/\d.act.touch?=N/\d.act.low B:=λd c=>by
  obtain⟨e,y,rfl⟩:=vf c;exact⟨Q,RG (m e y),RN (m e y) B⟩
 generalize sq g fn j es=u at o;refine⟨h.ne,λn=>xt (h.clean n) (λd c=>(o d c).1) (λi a r d c b z hc=>by rw[(o d c).2.1]at z;cases z),λi a r m=>?_,λi a r m=>?_,?_,?_,λd c=>?_⟩;have⟨x,v,l⟩:=Rk r;rcases tn v with⟨_,f⟩|⟨_,s⟩;exact(h.kp i a (by rw[yz f];exact l) m).imp (·.app u) (λk=>⟨g?_old k.1,k.2⟩)
 grind
 have⟨x,v,l⟩:=Rk r;rcases tn v with⟨_,f⟩|⟨_,s⟩;exact(h.kq i a (by rw[yz f];exact l) m).imp (·.app u) (λk=>⟨g?_old k.1,k.2⟩)
 grind
 rw[wz t h1 u (λd c=>(o d c).1)];exact h.hp;rw[wz t A u (λd c=>(o d c).1)];exact h.hq;rcases Sd.1 c with k|k;exact h.seen d k
 grind
theorem PhT.start(h:Past gJ B t){k}(D:k≠0)(u:Deaf t k=0){x y:MemOp}(q:x.g=0/\x.act=.go k)(o:y.g=k/\y.act=.start):PhT 0 k ρ ρ' B (t++#[x,y]):=by
 have v:∀d∈(#[x,y]:Trace),d.act.touch?=N/\d.act.low B/\(d.act≠.mark .disable/\d.act≠.mark .enable):=λd c=>by
  simp at c;rcases c with rfl|rfl;rw[q.2];exact⟨Q,trivial,by simp,by simp⟩;rw[o.2];exact⟨Q,trivial,by simp,by simp⟩
 have e:t++#[x,y]=(t++#[x])++#[y]:=by grind
 have l:∀i a,touchAt (t++#[x,y]) i=J a->touchAt t i=J a:=λi a j=>by
  have⟨z,F,p⟩:=Rk j;rcases tn F with⟨_,r⟩|⟨_,hzu⟩;rw[yz r];exact p
  grind
 have f:=λi a j m=>(h.known i a j m).resolve_right (λk=>k.1)
 refine⟨D.s,λn=>?_,λi a j m=>Rf ((f i a (l i a j) m).app _),λi a j m=>Rf (ConcN.fork_knows q o h.hears u (f i a (l i a j) m)),?_,?_,λd c=>?_⟩;rw[e];refine xt (g:=k) (xt (g:=0) (h.clean n) (λd c=>by simp at c;subst c;exact q.1) (λi a _ d c b A _=>?_)) (λd c=>by simp at c;subst c;exact o.1) (λi a _ d c b A _=>?_)
 grind
 grind
 rw[cx t 0 _ (λd c=>(v d c).2.2)];exact h.hears;rw[cx t k _ (λd c=>(v d c).2.2)];exact u;rcases Sd.1 c with k|k;exact h.seen d k
 grind
structure PhC (c pc:H)(ρ':Ren)(B:H)(t:Trace):Prop where
 clean:∀said,¬Race said t
 k0:∀i a,touchAt t i=J a->a.loc.isMemory=Y->Knows t 0 i\/(Before t i pc/\Tk ρ' a)
 act:t.act? pc=J (.close c)
 heard:t.heard pc
 h0:Deaf t 0=0
 seen:∀op∈t,op.act.low B
variable {c pc:Nat}
theorem pY(h:t.heard i):(t++u).heard i:=by
 obtain⟨g,h1,a⟩:=h;have hi:i<t.size:=by
  unfold Td at h1
  grind
 exact⟨g,g?_old h1,by rw[Rz (by omega)];exact a⟩
theorem act?_keep(h:t.act? i=J a):(t++u).act? i=J a:=by rw[Conc.act?_old (Conc.lt_of_act? h)];exact h
theorem PhT.close(h:PhT 0 q ρ ρ' B t){y:MemOp}(f:y.g=q/\y.act=.close c)(v:c<B):PhC c t.size ρ' B (t++#[y]):=by
 have e:(t++#[y])[t.size]?=J y:=by grind
 refine⟨λm=>xt (g:=q) (h.clean m) (λo d=>by simp at d;subst d;exact f.1) (λi a _ o d b p _=>by simp at d;subst d;rw[f.2]at p;cases p),λi a u s=>?_,by rw[RQ e,f.2],⟨q,by simp[Td,f.1],by rw[Rz Q0];exact h.hq⟩,?_,λo d=>?_⟩;have⟨x,r,j⟩:=Rk u;rcases tn r with⟨z,l⟩|⟨_,n⟩;rcases h.kp i a (by rw[yz l];exact j) s with k|⟨k1,k2⟩;exact Rf (k.app _);refine Rg ⟨Rg (Conc.hb_po z r e ?_),k2⟩;have:x.g=q:=by simpa[Td,l]using k1
 grind
 simp at n;subst n;rw[f.2]at j;cases j;rw[cx t 0 _ (λo d=>by simp at d;subst d;rw[f.2];exact⟨by simp,by simp⟩)];exact h.hp;rcases Sd.1 d with k|k;exact h.seen o k;simp at k;subst k;rw[f.2];exact v
theorem PhC.app(h:PhC c pc ρ' B t)(hF:Far ρ1 ρ')(r:B<=B')(m:∀e∈u,e.g=0/\e.act.low B'/\(e.act≠.mark .disable/\e.act≠.mark .enable)/\∀a,e.act.touch?=J a->Tk ρ1 a):PhC c pc ρ' B' (t++u):=by
 refine⟨λf=>xt (h.clean f) (λe d=>(m e d).1) (λi a l e d b v o=>?_),λi a l q=>?_,act?_keep h.act,pY h.heard,?_,λe d=>?_⟩;rcases h.k0 i a l o.2.1 with k|⟨-,k⟩;exact k;exact eW o (hF.s.no k ((m e d).2.2.2 b v) f);have⟨x,p,n⟩:=Rk l;rcases tn p with⟨_,j⟩|⟨_,hxu⟩;exact(h.k0 i a (by rw[yz j];exact n) q).imp (·.app u) (λk=>⟨k.1.app u,k.2⟩);have:=knows_own p
 grind
 rw[cx t 0 u (λe d=>(m e d).2.2.1)];exact h.h0;rcases Sd.1 d with k|k;exact Sc r (h.seen e k)
 grind
theorem PhC.mute(h:PhC c pc ρ' B t){g}(h1:g≠0){fn:SB}{j:lj}{es:dT Event}(m:∀e∈es,e.mute=Y):PhC c pc ρ' B (t++sq g fn j es):=by
 have n:∀f∈sq g fn j es,f.g=g/\f.act.touch?=N/\f.act.low B:=λf d=>by
  obtain⟨e,q,rfl⟩:=vf d;exact⟨Q,RG (m e q),RN (m e q) B⟩
 generalize sq g fn j es=u at n;refine⟨λl=>xt (h.clean l) (λf d=>(n f d).1) (λi a r f d b s hc=>by rw[(n f d).2.1]at s;cases s),λi a r m=>?_,act?_keep h.act,pY h.heard,?_,λf d=>?_⟩;have⟨x,v,p⟩:=Rk r;rcases tn v with⟨_,o⟩|⟨_,hxu⟩;exact(h.k0 i a (by rw[yz o];exact p) m).imp (·.app u) (λk=>⟨k.1.app u,k.2⟩)
 grind
 rw[wz t h1 u (λf d=>(n f d).1)];exact h.h0;rcases Sd.1 d with k|k;exact h.seen f k
 grind
theorem PhC.done(h:PhC c pc ρ' B t){y:MemOp}(l:y.g=0/\y.act=.recvClosed c)(L:c<B):Past gJ B (t++#[y]):=by
 have f:(t++#[y])[t.size]?=J y:=by grind
 have e:∀i a,touchAt (t++#[y]) i=J a->a.loc.isMemory=Y->Knows (t++#[y]) 0 i:=λi a r p=>by
  have⟨x,G,m⟩:=Rk r;rcases tn G with⟨_,u⟩|⟨_,o⟩;rcases h.k0 i a (by rw[yz u];exact m) p with k|⟨k,-⟩;exact k.app _;exact⟨t.size,y,f,l.1,(k.app _).t (Rg (.single (Rg ⟨.closed (act?_keep h.act) (by rw[RQ f,l.2]),pY h.heard,⟨0,by simp[Td,l.1],by rw[Rz Q0];exact h.h0⟩⟩)))⟩;simp at o;subst o;rw[l.2]at m;cases m
 refine⟨λq=>xt (g:=0) (h.clean q) (λs d=>by simp at d;subst d;exact l.1) (λi a _ s d b n _=>by simp at d;subst d;rw[l.2]at n;cases n),λi a r p=>Rf (e i a r p),λi g F hne v=>?_,?_,λs d=>?_⟩;obtain⟨a,r,p,-⟩:=v;have⟨j,z,D,A,n⟩:=e i a r p;refine⟨j,by unfold Td;rw[D];exact kr J A,?_⟩;rcases n with rfl|n;rw[Td,D]at F
 grind
 exact n;rw[cx t 0 _ (λs d=>by simp at d;subst d;rw[l.2];exact⟨by simp,by simp⟩)];exact h.h0;rcases Sd.1 d with k|k;exact h.seen s k;simp at k;subst k;rw[l.2];exact L
end
end
section
open Go.Conc (crowd Past EvL Deaf QuitsD woken awake crowd_pick runT_crowd_go rcase scase parked ph)
theorem BR p g(h:g.callers≠[])w:stepG p Y g w=stepG p Z g w:=by
 obtain⟨a,cs,st,dy,of⟩:=g;cases cs with
 |nil=>exact eW Q h
 |cons c cs=>
  have b:∀ (d:eV Dying) (v:Wx) (u:Wj),SD p Y a (c::cs) d v u=SD p Z a (c::cs) d v u:=λd v u=>Q
  have f:∀ (d:eV Dying),unwind p Y a (c::cs) d w=unwind p Z a (c::cs) d w:=λd=>by
   unfold unwind;simp[b]
  have e:∀ (d:eV Dying),stepG.exec p Y Y a (c::cs) d w=stepG.exec p Z Y a (c::cs) d w:=λd=>by
   unfold stepG.exec;simp[b]
  simp[stepG,f,e]
def Flat(v:Wx):Prop:=∀ρ,RV ρ v v/\∀a,RV ρ v a->a=v
structure Side (P:Wv) [Two P](X:S Wy×S Wy)(ρ:Ren)(h g:Wk)(V W:Wj)(cV c:H)(L:S Wx):Prop where
 go:RGo P ρ X h g
 NG:cz ρ V W
 gid:GId P ρ
 ext:iH P ρ.F
 calm:ρ.F i7=Z/\ρ.F nX=Z
 loose:ρ.loose=Y/\ρ.wide=Y
 ch:ρ.ch cV
 pair:ρ cV c
 row:∃n b s q tm,V.heap[cV]?=J (.chan n b Y s q tm)/\b.toList=L
structure Snd (P:Wv) [Two P](X:S Wy×S Wy)(ρ:Ren)(h g:Wk)(V W:Wj)(cs c:H)(L:S Wx):Prop where
 go:RGo P ρ X h g
 NG:cz ρ V W
 gid:GId P ρ
 ext:iH P ρ.F
 calm:ρ.F LF=Z/\ρ.F nX=Z
 Oa:∀f,¬Mk ρ.F f=Y
 loose:ρ.loose=Y/\ρ.wide=Z
 ch:∀x,ρ.ch x↔x=cs
 pair:ρ cs c
 row:∃n b s q tm,V.heap[cs]?=J (.chan n b Z s q tm)/\b.toList=L
 only:∀ (a n:H) b s q tm,V.heap[a]?=J (.chan n b Z s q tm)->a=cs
section
variable {P:Wv} [Two P] {X:nF Wy×nF Wy} {ρ:Ren} {h g h':Wk} {V V' W:Wj} {cV c:Nat} {L:nF Wx}
omit [Two P]in
theorem RFs.PE{X}{l k'}(h:RFs P ρ X l k'):X.1.length<=l.length:=by
 induction h with
 |base=>exact Q0
 |cons _ _ _ ih=>simp;omega
theorem pZ(s:cC P)(v:cJ P)(m:ey)(j:RGo P ρ X h g)(t:Base X h.frame g.callers)(a:cz ρ V W)(p:GId P ρ)(hE:iH P ρ.F)d(o:stepG P.alt m h (V.on W.tape d)=stepG P.alt Y h (V.on W.tape d))(q:LS P.alt h (V.on W.tape d) h' V')(k:∀f r l c u n,Mk ρ.F f=Y->stepG P m g (W.at d)=.go {frame:=R6 P f r .normal,callers:=l::c,status:=Ri,dying:=N} u n->gI):
  stepG P m h (V.on W.tape d)=stepG P.alt Y h (V.on W.tape d)/\eY P ρ X (V.on W.tape d) (W.at d) (stepG P.alt Y h (V.on W.tape d)) (stepG P m g (W.at d)):=by
 have S':cz ρ (V.on W.tape d) (W.at d):=⟨a.obj,a.fix,a.chan,a.os,a.NT⟩;rcases(kz s hE v p m j t S' (λi=>Q)).rel with⟨-,b⟩|⟨halt,hst⟩|⟨f,_,_,_,_,_,_,_,_,_,_,_,A⟩;exfalso;rw[o]at b;cases q with
 |go e hr2 hd2=>
  rw[e]at b;obtain⟨⟨_,_,e2,-⟩,-⟩:=b
  grind
 |comm e _=>rw[e]at b;exact b.elim
 grind
 exact(k f _ _ _ _ _ A.mark A.there).elim
theorem oY(l:cC P)(n:cJ P)(m:ey)(b:RGo P ρ X h g)(k:Base X h.frame g.callers)(a:cz ρ V W)(i:GId P ρ)(hE:iH P ρ.F)(c:∀f,¬Mk ρ.F f=Y)d(e:stepG P.alt m h (V.on W.tape d)=stepG P.alt Y h (V.on W.tape d))(j:LS P.alt h (V.on W.tape d) h' V'):
  stepG P m h (V.on W.tape d)=stepG P.alt Y h (V.on W.tape d)/\eY P ρ X (V.on W.tape d) (W.at d) (stepG P.alt Y h (V.on W.tape d)) (stepG P m g (W.at d)):=
 pZ l n m b k a i hE d e j (λf _ _ _ _ _ h _=>c f h)
omit [Two P]in
theorem cz.other(d:cz ρ V W){W'}{h}(n:ρ i h)(j:W'.os=W.os)(hs:∀x b,ρ x b->b≠h->W'.heap[b]?=W.heap[b]?)(hc:∀o l,V.heap[i]?=J o->W.heap[h]?=J l->RO ρ o l->∃p,W'.heap[h]?=J p/\RO ρ o p)(hnc:∀c e z,V.heap[i]?≠J (E c e z)):cz ρ V W':=by
 refine⟨λa b f=>?_,d.fix,d.chan,j.t d.os,λk a r q=>?_⟩
 rotate_left
 have⟨b,f,m⟩:=d.NT k a r q;refine⟨b,f,m.same Q (hs a b f (λe=>?_))⟩;subst e;obtain rfl:=ρ.inj _ _ _ f n;obtain⟨c,t,z,_,_,k1,-⟩:=m
 grind
 have⟨o,l,h1,h2,h3⟩:=d.obj a b f;by_cases k:b=h
 subst k;obtain rfl:=ρ.inj _ _ _ f n
 grind
 grind
def m9(W:Wj)(c n:H)(b:S Wx)(cl:ey)(s q:H)(tm:ey):Prop:=∃a,W.heap[c]?=J (.chan n a cl s q tm)/\a.toList=b
theorem Side.Qi(a:Side P X ρ h g V W cV c L):∃n b f s q e,m9 W c n b f s q e:=by
 have⟨n,b,s,q,e,h1,h2⟩:=a.row;obtain⟨o,o',d,i,j⟩:=a.NG.obj _ _ a.pair;rw[h1]at d;cases d;cases j with
 |chan=>exact⟨_,_,_,_,_,_,_,i,Q⟩
theorem Side.other(d:Side P X ρ h g V W cV c L){W'}(f:W'.os=W.os)(hs:∀x b,ρ x b->b≠c->W'.heap[b]?=W.heap[b]?){m}{u}{j:ey}{s p v}{tm:ey}(h1:m9 W c n b cl s q tm)(i:m9 W' c m u j p v tm):Side P X ρ h g V W' cV c L:=by
 obtain⟨a,h1,-⟩:=h1;obtain⟨a',i,-⟩:=i;refine⟨d.go,d.NG.other d.pair f hs (λo o' l e t=>?_) (λ_ _ _ k=>by obtain⟨_,_,_,_,_,e,-⟩:=d.row;rw[e]at k;cases k),d.gid,d.ext,d.calm,d.loose,d.ch,d.pair,d.row⟩;rw[h1]at e;cases e;refine⟨_,i,?_⟩;cases t with
 |chan=>exact .chan _ _ _ _ _ _ _ _ _ (Rf d.loose.1) (Rf d.loose.2)
 |dead=>obtain⟨_,_,_,_,_,k,-⟩:=d.row;rw[k]at l;cases l
theorem Snd.Qi{cs}(a:Snd P X ρ h g V W cs c L):∃n b s q e,m9 W c n b Z s q e:=by
 have⟨n,b,s,q,e,h1,h2⟩:=a.row;obtain⟨o,o',d,f,i⟩:=a.NG.obj _ _ a.pair;rw[h1]at d;cases d;cases i with
 |chan _ _ _ cl' _ _ _ _ _ hb j=>
  obtain rfl:=j.resolve_left (by rw[a.loose.2];exactλh=>by cases h);exact⟨_,_,_,_,_,_,f,Q⟩
theorem Snd.other{cs}(d:Snd P X ρ h g V W cs c L){W'}(f:W'.os=W.os)(hs:∀x b,ρ x b->b≠c->W'.heap[b]?=W.heap[b]?){l}{r}{s m t}{tm:ey}(h1:m9 W c n b Z s q tm)(i:m9 W' c l r Z m t tm):Snd P X ρ h g V W' cs c L:=by
 obtain⟨a,h1,-⟩:=h1;obtain⟨a',i,-⟩:=i;refine⟨d.go,d.NG.other d.pair f hs (λo o' j e p=>?_) (λ_ _ _ k=>by obtain⟨_,_,_,_,_,e,-⟩:=d.row;rw[e]at k;cases k),d.gid,d.ext,d.calm,d.Oa,d.loose,d.ch,d.pair,d.row,d.only⟩;rw[h1]at e;cases e;refine⟨_,i,?_⟩;cases p with
 |chan _ _ _ _ _ _ _ _ _ hb u=>exact .chan _ _ _ _ _ _ _ _ _ (Rf d.loose.1) u
 |dead=>obtain⟨_,_,_,_,_,k,-⟩:=d.row;rw[k]at j;cases j
theorem Side.stays(d:Side P X ρ h g V W cV c L){W'}(e:W'.os=W.os)(hs:∀x b,ρ x b->b≠c->W'.heap[b]?=W.heap[b]?)(i:W'.heap[c]?=W.heap[c]?):Side P X ρ h g V W' cV c L:=by
 have⟨n,b,cl,s,q,tm,a,h1,f⟩:=d.Qi;exact d.other e hs ⟨a,h1,f⟩ ⟨a,i.t h1,f⟩
theorem Snd.stays{cs}(d:Snd P X ρ h g V W cs c L){W'}(e:W'.os=W.os)(hs:∀x b,ρ x b->b≠c->W'.heap[b]?=W.heap[b]?)(i:W'.heap[c]?=W.heap[c]?):Snd P X ρ h g V W' cs c L:=by
 have⟨n,b,s,q,tm,a,h1,f⟩:=d.Qi;exact d.other e hs ⟨a,h1,f⟩ ⟨a,i.t h1,f⟩
end
end
section
open Go.Conc (crowd Past EvL Deaf QuitsD woken awake crowd_pick runT_crowd_go rcase scase parked ph)
section
variable {P:Wv} [Two P] {X:nF Wy×nF Wy} {ρ:Ren} {h1 g1 h:Wk} {V1 V W W':Wj} {cV c:Nat} {L:nF Wx} {cc:CommCase} {v z:Wx} {sh:CommShape}
theorem Side.OB(a:Side P X ρ h1 g1 V1 W cV c L)(b:RC ρ cc (rcase c z)):cc.send=N/\(cc.chan=.chan (J cV)\/cc.chan=Re #[]):=by
 refine⟨?_,?_⟩;rcases b.send with⟨k,-⟩|⟨_,_,-,k,-⟩;exact k;cases k;have:=b.chan;generalize cc.chan=x at this;cases this with
 |chan k=>
  cases k with
  |some k=>exact Rf (by rw[ρ.inj _ _ _ k a.pair])
 |dead=>exact Rg Q
theorem Side.take(d:Side P X ρ h1 g1 V1 W cV c (v::L))(t:RC ρ cc (rcase c z))(af:∃ok,sh=.recv ok)(ad:LC P.alt h1 cc sh V1 h V)(hv:Flat v)(ai:W'.os=W.os)(hs:∀b,b≠c->W'.heap[b]?=W.heap[b]?){T}{b'}{tm:ey}{s}(F:m9 W c n b cl s q A)(r2:m9 W' c T b' tm s' q' A):
  Side P X ρ h (g1.finishComm P #[rcase c z] sh 0 v Y) V W' cV c L:=by
 have⟨l,e⟩:=d.OB t;have⟨n0,i,s0,q0,j,R,e2⟩:=d.row;have S2:=d.other ai (λ_ b _ hb=>hs b hb) F r2;cases ad with
 |send D p x k4=>rw[l]at p;cases p
 |dead D p x=>rw[l]at p;cases p
 | @shut r ab NQ B A D p x=>
  grind
 | @recv r ab NQ B buf cl A D p x k4=>
  rw[D]at e;rcases e with e|e;cases e;rw[R]at x;cases x;have ac:i.getD 0 Wo=v:=by
   rw[gD,<-gT,e2];rfl
  have aa:(i.extract 1 i.size).toList=L:=by
   have hl:i.toList.length=i.size:=lY;rw[Sk,e2]at *
   grind
  refine⟨?_,?_,d.gid,d.ext,d.calm,d.loose,d.ch,d.pair,⟨_,_,_,_,_,sS ((d.NG.lt d.pair).1),aa⟩⟩;rw[ac];exact ew d.go t sh (Rg ⟨l,af⟩) (hv ρ).1 Y;obtain⟨a',r2,-⟩:=r2;have f:=S2.NG.put d.pair (o:=.chan n0 (i.extract 1 i.size) Y s0 (q0+1) j) (o':=.chan T a' tm s' q' _) (.chan _ _ _ _ _ _ _ _ _ (Rf d.loose.1) (Rf d.loose.2)) (λy=>by
   obtain⟨o,u,G⟩:=d.NG.fix _ y;rw[R]at u;cases u;exact G) (λ_=>Q) (λ_ _ _ k=>by rw[R]at k;cases k)
  have htm:j=A:=by
   obtain⟨o,o',u,G,f3⟩:=d.NG.obj _ _ d.pair;obtain⟨a,F,-⟩:=F;rw[R]at u;cases u;rw[F]at G;cases G;cases f3;rfl
  have e3:W'.heap.setIfInBounds c (.chan T a' tm s' q' j)=W'.heap:=by
   grind
  rw[e3]at f;exact f;cases e
theorem Side.nothing(a:Side P X ρ h1 g1 V1 W cV c [])(e:RC ρ cc (rcase c z))(j:∃l,sh=.recv l)(i:LC P.alt h1 cc sh V1 h V):Side P X ρ h (g1.finishComm P #[rcase c z] sh 0 z Z) V W cV c []:=by
 have⟨d,hch⟩:=a.OB e;have⟨n0,b0,s0,q0,tm0,e1,e2⟩:=a.row;cases i with
 |send f b k m=>rw[d]at b;cases b
 |dead f b k=>rw[d]at b;cases b
 |recv f b k m=>
  simp_all
 |shut f b k=>exact⟨ew a.go e sh (Rg ⟨d,j⟩) e.zero Z,a.NG,a.gid,a.ext,a.calm,a.loose,a.ch,a.pair,a.row⟩
end
section
variable {P:Wv} [Two P] {X:nF Wy×nF Wy} {ρ:Ren} {h1 g1 h:Wk} {V1 V W W':Wj} {cs c:Nat} {L:nF Wx} {cc:CommCase} {v z:Wx}
theorem Snd.OB(a:Snd P X ρ h1 g1 V1 W cs c L)(b:RC ρ cc (scase c v z)):(∃d,cc.send=J d/\RV ρ d v)/\(cc.chan=.chan (J cs)\/cc.chan=Re #[]):=by
 refine⟨?_,?_⟩;rcases b.send with⟨-,k⟩|⟨d,v1,k,f,e⟩;cases k;cases f;exact⟨d,k,e⟩;have:=b.chan;generalize cc.chan=x at this;cases this with
 |chan k=>
  cases k with
  |some k=>exact Rf (by rw[ρ.inj _ _ _ k a.pair])
 |dead=>exact Rg Q
theorem Snd.push(d:Snd P X ρ h1 g1 V1 W cs c L)(m:RC ρ cc (scase c v z))(aa:LC P.alt h1 cc .send V1 h V)(ab:W'.os=W.os)(hs:∀b,b≠c->W'.heap[b]?=W.heap[b]?){G}{b'}{s}{x:ey}(B:m9 W c n b Z s q x)(r2:m9 W' c G b' Z s' q' x):
  ∃y,RV ρ y v/\Snd P X ρ h (g1.finishComm P #[scase c v z] .send 0 Wo Z) V W' cs c (L++[y]):=by
 have⟨⟨y,i,T⟩,e⟩:=d.OB m;have⟨n0,b0,s0,q0,f,F,e2⟩:=d.row;have S2:=d.other ab (λ_ b _ hb=>hs b hb) B r2;cases aa with
 |recv A j t k4=>rw[i]at j;cases j
 |shut A j t=>rw[i]at j;cases j
 |dead A j t=>
  grind
 | @send r cap NQ rcvd buf tm1 v1 A j t k4=>
  rw[i]at j;cases j;rw[A]at e;rcases e with e|e;cases e;rw[F]at t;cases t;refine⟨y,T,?_,?_,d.gid,d.ext,d.calm,d.Oa,d.loose,d.ch,d.pair,⟨_,_,_,_,_,sS ((d.NG.lt d.pair).1),by simp[e2]⟩,λa n b s q x ho=>?_⟩;exact ew d.go m .send (Rf ⟨by rw[i];rfl,Q⟩) dG Z;obtain⟨a',r2,-⟩:=r2;have htm:f=x:=by
   obtain⟨o,o',p,D,f3⟩:=d.NG.obj _ _ d.pair;obtain⟨a,B,-⟩:=B;rw[F]at p;cases p;rw[B]at D;cases D;cases f3;rfl
  have l:=S2.NG.put d.pair (o:=.chan n0 (b0.push y) Z (s0+1) q0 f) (o':=.chan G a' Z s' q' f) (.chan _ _ _ _ _ _ _ _ _ (Rf d.loose.1) (Rg Q)) (λu=>by
   obtain⟨o,p,D⟩:=d.NG.fix _ u;rw[F]at p;cases p;exact D) (λ_=>Q) (λ_ _ _ k=>by rw[F]at k;cases k)
  have e3:W'.heap.setIfInBounds c (.chan G a' Z s' q' f)=W'.heap:=by
   grind
  rw[e3]at l;exact l;by_cases ha:cs=a
  grind
  simp[sN ha]at ho;exact d.only a n b s q x ho;cases e
end
structure PhD (P:Wv) where
 T:Wk->Wj->Prop
 Nr:Wk->Wj->Prop
 Tr:Wk->Wj->Prop
 Ns:Wk->Wj->Prop
 Ts:Wk->Wj->Prop
 h0:Wk
 V0:Wj
 k:H
 c:H
 cV:H
 cr:H
 cs:H
 X:S Wy×S Wy
 Bs:S Wy
 L:S Wx
 R0:H->H->Prop
 Fp:FuncId->ey
 Fr:FuncId->ey
 bo:H
 U:Outer
variable {P:Wv} [Two P] (D:PhD P)
def fP(W:Wj)(c n:H)(b:dT Wx)(s q:H)(tm:ey):Wj:=W.setChan c n b Y s q tm
structure DV (D:PhD P)(ρ:Ren)(V W:Wj):Prop where
 base:(∀a b,D.R0 a b->ρ a b)/\ρ.F=D.Fp
 all:∀a b o,ρ a b->V.heap[a]?=J o->o.isChan=Y->ρ.ch a
 rest:∀a b,ρ.ch a->ρ a b->a≠D.cV->∃n s q tm n' s' q',V.heap[a]?=J (.chan n #[] Y s q tm)/\W.heap[b]?=J (.chan n' #[] Y s' q' tm)
structure Ab (P:Wv) [Two P](D:PhD P)(Post:Wx->Wj->Prop):Prop where
 zero:cC P
 count:cJ P
 mark:∀f,Mk D.Fp f=Y->∀fn b,P.funcs[f]?=J fn->fn.body=J b->aP P D.Fr b=Z
 k0:D.k≠0
 flat:∀v∈D.L,Flat v
 deep:2<=D.X.1.length
 Qc:∀h V,D.T h V->h.callers.length<=1
 nr:∀h V,D.Nr h V->NB [trap P.alt] h
 tr:∀h V,D.Tr h V->NB [trap P.alt] h/\(∀n b s q tm,V.heap[D.cr]?=J (.chan n b Y s q tm)->b.toList=[])/\∀τ d,∃h1 cc s V1 es h' V',stepG P.alt Y h (V.on τ d)=.comm h1 #[cc] Y s V1 es/\LC P.alt h1 cc s V1 h' V'
 ns:∀h V,D.Ns h V->NB [trap P.alt] h
 bs:D.Bs≠[]
 grow:∀h V τ d h' V',D.Ns h V->LS P.alt h (V.on τ d) h' V'->∀n b cl s q tm,V.heap[D.cs]?=J (.chan n b cl s q tm)->∃n' b' cl' s' q' tm',V'.heap[D.cs]?=J (.chan n' b' cl' s' q' tm')/\((b.toList <+:b'.toList/\(cl=Y->cl'=Y))\/cl'=Y)
 ts:∀h V,D.Ts h V->∀n b cl s q tm,V.heap[D.cs]?=J (.chan n b cl s q tm)->cl=Z/\b.toList=D.L
 close:∀h V ρ g W,D.Ts h V->Snd P ([trap P.alt],D.Bs) ρ h g V W D.cs D.c D.L->∀n b s q tm,W.heap[D.c]?=J (.chan n b Z s q tm)->∃g',mayWake P g=Y/\g'.status=Ri/\stepG P Z g W=.go g' (fP W D.c n b s q tm) #[⟨.obj D.c,Z,Y⟩,⟨.obj D.c,Y,Y⟩]/\∃m,QuitsD P m 0 g'
 fin:∀ρ h g V W n s q tm gs sl t qs,Side P D.X ρ h g V W D.cV D.c []->DV D ρ V W->Kp D.U W/\Off D.U ρ->W.heap[D.c]?=J (.chan n #[] Y s q tm)->LSs P.alt D.T D.h0 D.V0 h V->gs[0]?=J g->Lv P (λ_=>gI) t gs qs->Past gJ W.heap.size t->Fin P Post gs W sl t
section
variable {D} {Post:Wx->Wj->Prop}
theorem Ab.pre(a:Ab P D Post){h}{V}(l:Dem P.alt D.Ns D.Ts h V):∀n b c s q d,V.heap[D.cs]?=J (.chan n b c s q d)->c=Z/\b.toList <+:D.L:=by
 induction l with
 |stop f=>
  intro n b c s q d hr;obtain⟨h1,j⟩:=a.ts _ _ f n b c s q d hr
  grind
 | @step g w k f e _ ih=>
  intro n b c s q d hr;have⟨h',V',i⟩:=e w.tape w.drawn;obtain⟨n',b',cl',s',q',tm',h1,j⟩:=a.grow g w _ _ h' V' k i n b c s q d hr
  grind
end
end
section
open Go.Conc (crowd Past EvL Deaf QuitsD woken awake crowd_pick runT_crowd_go rcase scase parked ph)
section
variable {P:Wv} {gs:dT Wk} {w w₁:Wj} {sl:eV (Nat×Nat)} {i j:Nat} {g g₂ gj:Wk} {es:dT Event} {shape shj:CommShape} {blocking:ey}
 {c cap s r:Nat} {buf:dT Wx} {closed tm:ey} {v z zj:Wx}
theorem p8(n:gs[i]?=J g)(h:stepG P (i==0) g w=.comm g₂ #[rcase c z] blocking shape w₁ es)(m:w₁.heap[c]?=J (.chan cap buf closed s r tm))(a:0<buf.size)
  (e:j≠i) (l:gs[j]?=J (parked gj #[scase c v zj] shj)) (k:partners (gs.setIfInBounds i ph) c Y=[(j,0)]):
  runT P (crowd gs w sl) i=(.next (crowd ((gs.setIfInBounds j (gj.finishComm P #[scase c v zj] shj 0 Wo Z)).setIfInBounds i (g₂.finishComm P #[rcase c z] shape 0 (buf.getD 0 Wo) Y)) (w₁.setChan c cap ((buf.extract 1 buf.size).push v) closed (s+1) (r+1) tm) sl),
   sq i g.frame.fn g.frame.place es++#[{g:=i,fn:=g₂.frame.fn,pos:=g₂.frame.place,act:=.recv c r cap},{g:=i,fn:=g₂.frame.fn,pos:=g₂.frame.place,act:=.recvDone c r},
    {g:=j,fn:=gj.frame.fn,pos:=gj.frame.place,act:=.send c s},{g:=j,fn:=gj.frame.fn,pos:=gj.frame.place,act:=.sendDone c s}]):=by
 rw[Rv n h];have b:=RJ (i:=i) e l;have d:(gs.setIfInBounds i ph).getD j default=parked gj #[scase c v zj] shj:=by simp_all
 have f:SM (gs.setIfInBounds i ph) j 0=v:=by simp[SM,b,parked,scase]
 simp[communicate,ways,rcase,m,k,a,choose,SV,S4,bind,SU,pure,Tf,crowd,Conc.finishPartner_at P (gs.setIfInBounds i ph) b (cs:=#[scase c v zj]) (sh:=shj) Q 0 Wo,d,f,Conc.set_stand2,scase,parked];rfl
end
def my(P : Wv) : S SG := [{ v := .iface P.rt.plainError (strVal "send on closed channel"), recovered := Z }]
theorem p9{gs:dT Wk}{w₁}{sl:eV (H×H)}{g₂}{es:dT Event}{shape:SC}{blocking:ey}{c m s}{buf:dT Wx}{tm:ey}(d:gs[i]?=J g)(h:stepG P (i==0) g w=.comm g₂ #[scase c v z] blocking shape w₁ es)(b:w₁.heap[c]?=J (.chan m buf Y s r tm)):
  runT P (crowd gs w sl) i=(.next (crowd (gs.setIfInBounds i {g₂ with frame:=g₂.frame.raise (my P)}) w₁ sl),sq i g.frame.fn g.frame.place es):=by
 rw[Rv d h];simp[communicate,ways,scase,b,choose,SV,S4,bind,SU,pure,runtimePanic,goPanic,program,crowd,my]
variable {P:Wv} [Two P]
structure Moved (ρ ρ' ρr ρr':Ren)(W W1:Wj)(c:H)(es:dT Event):Prop where
 le:ρ.le ρ'
 Qp:ρr.le ρr'
 new:∀a b,ρ' a b->ρ a b\/W.heap.size<=b
 QX:∀a b,ρr' a b->ρr a b\/W.heap.size<=b
 Nx:Keep ρr W W1
 row:W1.heap[c]?=W.heap[c]?
 ev:∀e∈es,kX ρr' e
structure qW (D:PhD P)(ρ ρr:Ren)(W:Wj)(h hr g:Wk)(V Vr:Wj)(L:S Wx):Prop where
 side:Side P D.X ρ h g V W D.cV D.c L
 NK:Side P ([trap P.alt],D.X.2) ρr hr g Vr W D.cr D.c L
 only:∀ (a:H) o,Vr.heap[a]?=J o->o.isChan=Y->a=D.cr
 PM:∀x,ρr.ch x->x=D.cr
 Oa:(∀f,¬Mk ρr.F f=Y)/\ρr.F=D.Fr
 base:(∀a b,D.R0 a b->ρ a b)/\ρ.F=D.Fp
 all:∀a b o,ρ a b->V.heap[a]?=J o->o.isChan=Y->ρ.ch a
 rest:∀a b,ρ.ch a->ρ a b->a≠D.cV->∃n s q tm n' s' q',V.heap[a]?=J (.chan n #[] Y s q tm)/\W.heap[b]?=J (.chan n' #[] Y s' q' tm)
structure LG (D:PhD P)(ρ ρr:Ren)(W:Wj)(h1 hr1 g1:Wk)(V1 Vr1:Wj)(L:S Wx)(z:Wx)(s:CommShape)(h hr:Wk)(V Vr:Wj):Prop where
 Og:qW D ρ ρr W h1 hr1 g1 V1 Vr1 L
 sh:∃ok,s=.recv ok
 QM:AtC P g1 (rcase D.c z) s
 rc:∃cc,RC ρ cc (rcase D.c z)/\LC P.alt h1 cc s V1 h V
 QG:∃cc,RC ρr cc (rcase D.c z)/\LC P.alt hr1 cc s Vr1 hr Vr
section
variable {D:PhD P} {Post:Wx->Wj->Prop} {ρ ρr:Ren} {W:Wj} {h hr g:Wk} {V Vr:Wj} {L:nF Wx}
omit [Two P]in
theorem LC.only{g'}{cc:SI}{s:SC}{V'}(h:LC P g cc s V g' V')(d:∀ (a:H) o,V.heap[a]?=J o->o.isChan=Y->a=j):∀ (a:H) o,V'.heap[a]?=J o->o.isChan=Y->a=j:=by
 intro a o c k;cases h with
 |shut=>exact d a o c k
 |dead=>exact d a o c k
 | @send r f NQ b buf l v h1 m i n=>
  by_cases e:r=a
  subst e;exact d _ _ i Q
  grind
 | @recv r f NQ b buf cl l h1 m i n=>
  by_cases e:r=a
  subst e;exact d _ _ i Q
  grind
theorem Ad(j:Ab P D Post)(R:qW D ρ ρr W h hr g V Vr L)(bq:NB [trap P.alt] hr)d{h'}{V'}(hl:LS P.alt h (V.on W.tape d) h' V')(a2:LS P.alt hr (Vr.on W.tape d) al w2):
    ∃g1 W1 es ρ' ρr',Moved ρ ρ' ρr ρr' W W1 D.c es /\
      ((stepG P Y g (W.at d)=.go g1 W1 es/\qW D ρ' ρr' W1 h' al g1 V' w2 L) \/
       (∃h1 ar V1 Vr1 z s,stepG P Y g (W.at d)=.comm g1 #[rcase D.c z] Y s W1 es/\LG D ρ' ρr' W1 h1 ar g1 V1 Vr1 L z s h' al V' w2)):=by
  have i:=R.side;have Sr:=R.NK;have a7:=λe=>bq (Sr.go.callers.tail e)
  have hb:Base D.X h.frame g.callers:=λe=>by
    rcases a7 e with k|k;have B:=Sr.go.frame.mode;have m2:=i.go.frame.mode;rw[k]at B;cases hm:g.frame.mode<;>rw[hm]at B<;>cases B
    rw[hm]at m2
    left
    generalize h.frame.mode=x at m2;cases m2;rfl
    right
    have B:=Sr.go.frame.defers;have m2:=i.go.frame.defers;intro hn;rw[hn]at m2;generalize g.frame.defers=x at B m2;cases m2;generalize hr.frame.defers=y at B k;cases B;exact k Q
  obtain⟨-,sr⟩:=oY j.zero j.count Y Sr.go a7 Sr.NG Sr.gid Sr.ext R.Oa.1 d Q a2;obtain⟨-,sv⟩:=pZ j.zero j.count Y i.go hb i.NG i.gid i.ext d Q hl (λf a' fr' cs' u' es' hM bl=>by
    rw[bl]at sr;obtain⟨-,fn,-,a3,-,bd,-⟩:=i.gid.apart f hM;have⟨b,a8⟩:=Option.isSome_iff_exists.1 bd;generalize stepG P.alt Y hr (Vr.on W.tape d)=z at sr;cases sr with
    | @go hx _ _ _ _ _ ρ2 R2 G _=>
      have ht:=G.frame.todo;have e:(R6 P f a' .normal).todo=[.code b]:=by simp[R6,a3,a8]
      simp[e]at ht;generalize hx.frame.todo=td at ht;cases ht with
      |cons hi _=>
        cases hi with
        |code h=>
          rw[R2.le.F,R.Oa.2,(j.mark f (by rw[<-R.base.2];exact hM) fn b a3 a8)]at h;cases h)
  have aa:∀ {ρ':Ren},ρ.le ρ'->(ρ'.F i7=Z/\ρ'.F nX=Z)/\(ρ'.loose=Y/\ρ'.wide=Y)/\ρ'.ch D.cV:=λl=>⟨by rw[l.F];exact i.calm,by rw[l.loose,l.wide];exact i.loose,by rw[l.ch];exact i.ch⟩
  have T:∀ {ρ':Ren},ρr.le ρ'->(ρ'.F i7=Z/\ρ'.F nX=Z)/\(ρ'.loose=Y/\ρ'.wide=Y)/\ρ'.ch D.cr:=λl=>⟨by rw[l.F];exact Sr.calm,by rw[l.loose,l.wide];exact Sr.loose,by rw[l.ch];exact Sr.ch⟩
  have ai:∀ {ρ':Ren} {u u':Wj},Reach ρ ρ' (V.on W.tape d) (W.at d) u u'->∃n b s q r,u.heap[D.cV]?=J (.chan n b Y s q r)/\b.toList=L:=λR=>by
    have⟨n,b,s,q,r,h1,h2⟩:=i.row;rcases R.Pj.row D.cV D.c i.ch i.pair with⟨k,-⟩|⟨k,-⟩;exact⟨n,b,s,q,r,k.t h1,h2⟩;rw[i.calm.1]at k;cases k
  have p:∀ {ρ':Ren} {u u':Wj},Reach ρ ρ' (V.on W.tape d) (W.at d) u u'->(∀a b o,ρ' a b->u.heap[a]?=J o->o.isChan=Y->ρ'.ch a)/\∀a b,ρ'.ch a->ρ' a b->a≠D.cV->∃n s q r n' s' q',u.heap[a]?=J (.chan n #[] Y s q r)/\u'.heap[b]?=J (.chan n' #[] Y s' q' r):=λR1=>by
    refine⟨λa b o av ho hc=>?_,λa b ac av be=>?_⟩;rw[R1.le.ch];rcases R1.Pj.only i.calm.2 a o ho hc with k|⟨k,-⟩;rcases R1.new a b av with k2|⟨k2,-⟩;exact R.all a b o k2 k hc
    grind
    rw[i.calm.1]at k;cases k;rw[R1.le.ch]at ac;rcases R1.new a b av with k2|⟨k2,-⟩;have⟨n,s,q,r,n',s',q',e1,e2⟩:=R.rest a b ac k2 be;rcases R1.Pj.row a b ac k2 with⟨k,k3⟩|⟨k,-⟩;exact⟨n,s,q,r,n',s',q',k.t e1,k3.t e2⟩;rw[i.calm.1]at k;cases k;obtain⟨o,e1,-⟩:=i.NG.chan a ac;have:=(eS e1).1;exact eW k2 (by show¬V.heap.size<=a;omega)
  have aj:∀ {ρ':Ren} {u u':Wj},Reach ρr ρ' (Vr.on W.tape d) (W.at d) u u'->(∃n b s q r,u.heap[D.cr]?=J (.chan n b Y s q r)/\b.toList=L)/\u'.heap[D.c]?=W.heap[D.c]?/\∀ (a:H) o,u.heap[a]?=J o->o.isChan=Y->a=D.cr:=λR1=>by
    have⟨n,b,s,q,r,h1,h2⟩:=Sr.row;refine⟨?_,?_,λa o ho hc=>?_⟩;rcases R1.Pj.row D.cr D.c Sr.ch Sr.pair with⟨k,-⟩|⟨k,-⟩;exact⟨n,b,s,q,r,k.t h1,h2⟩;rw[Sr.calm.1]at k;cases k;rcases R1.Pj.row D.cr D.c Sr.ch Sr.pair with⟨-,k⟩|⟨k,-⟩;exact k;rw[Sr.calm.1]at k;cases k;rcases R1.Pj.only Sr.calm.2 a o ho hc with k|⟨k,-⟩;exact R.only a o k hc;rw[Sr.calm.1]at k;cases k
  cases a2 with
  | @go _ _ bk er hr2 hd2=>
    rw[er]at sr;generalize hy:stepG P Y g (W.at d)=y at sr sv;cases sr with
    | @go _ g1 _ W1 _ es ρr' R1 a0 ap=>
      cases hl with
      | @go _ _ bi ev hrv hdv=>
        rw[ev]at sv;cases sv with
        |go _ ρ' R2 G bn=>
          have⟨k1,k3,k4⟩:=aa R2.le;have⟨B,m3,m4⟩:=T R1.le;have⟨r1,r2,r3⟩:=aj R1;exact⟨g1,W1,es,ρ',ρr',⟨R2.le,R1.le,λa b h=>(R2.new a b h).imp id (·.2),λa b h=>(R1.new a b h).imp id (·.2),⟨R1.Nx.os,R1.Nx.output,R1.Nx.tape,R1.Nx.size,R1.Nx.block⟩,r2,ap⟩,Rf ⟨Q,
            ⟨⟨G,R2.NG,i.gid.m R2.le,by rw[R2.le.F];exact i.ext,k1,k3,k4,R2.le _ _ i.pair,ai R2⟩,⟨a0,R1.NG,Sr.gid.m R1.le,by rw[R1.le.F];exact Sr.ext,B,m3,m4,R1.le _ _ Sr.pair,r1⟩,r3,(by rw[R1.le.ch];exact R.PM),(by rw[R1.le.F];exact R.Oa),⟨λa b k=>R2.le _ _ (R.base.1 a b k),R2.le.F.t R.base.2⟩,(p R2).1,(p R2).2⟩⟩⟩
      |comm ev _=>
        rw[ev]at sv;cases sv
  | @comm ar ab s Vr1 bk _ _ er a9=>
    rw[er]at sr;generalize hy:stepG P Y g (W.at d)=y at sr sv;cases sr with
    | @comm _ g1 _ c' hC _ bo hrun _ W1 _ es ρr' R1 a0 A ap bb=>
      cases hl with
      |go ev _ _=>rw[ev]at sv;cases sv
      | @comm h1 cc sv' V1 bi _ _ ev bp=>
        rw[ev]at sv;cases sv with
        |comm hC2 _ hsh2 hrun2 _ ρ' R2 G a6 bn ha2=>
          have⟨k1,k3,k4⟩:=aa R2.le;have⟨B,m3,m4⟩:=T R1.le;have⟨r1,r2,r3⟩:=aj R1;have ad:ab.send=none:=by
            cases hx:ab.send with
            |none=>rfl
            |some v=>have:=hC.1 (by rw[hx];rfl);rw[Sr.calm.1]at this;cases this
          have a4:c'.send=none:=by
            rcases A.send with⟨-,k⟩|⟨v,_,k,-⟩;exact k;rw[ad]at k;cases k
          have a1:ab.chan=.chan (J D.cr):=by
            cases a9 with
            |send q1 q2 q3 q4=>rw[ad]at q2;cases q2
            |dead q1 q2 q3=>rw[ad]at q2;cases q2
            |recv q1 q2 q3 q4=>rw[q1,r3 _ _ q3 Q]
            |shut q1 q2 q3=>rw[q1,r3 _ _ q3 Q]
          have af:c'=rcase D.c c'.zero:=by
            refine Aa ?_ a4;have:=A.chan;rw[a1]at this;generalize c'.chan=x at this;cases this with
            |chan k=>cases k with
              |some k=>rw[ρr'.fn _ _ _ k (R1.le _ _ Sr.pair)]
          have a5:∃ok,s=.recv ok:=by
            rcases bo with⟨k,-⟩|⟨-,k⟩;rw[ad]at k;cases k;exact k
          refine⟨g1,W1,es,ρ',ρr',⟨R2.le,R1.le,λa b h=>(R2.new a b h).imp id (·.2),λa b h=>(R1.new a b h).imp id (·.2),⟨R1.Nx.os,R1.Nx.output,R1.Nx.tape,R1.Nx.size,R1.Nx.block⟩,r2,ap⟩,Rg ⟨h1,ar,V1,Vr1,c'.zero,s,by rw[<-af],
            ⟨⟨⟨G,R2.NG,i.gid.m R2.le,by rw[R2.le.F];exact i.ext,k1,k3,k4,R2.le _ _ i.pair,ai R2⟩,⟨a0,R1.NG,Sr.gid.m R1.le,by rw[R1.le.F];exact Sr.ext,B,m3,m4,R1.le _ _ Sr.pair,r1⟩,r3,(by rw[R1.le.ch];exact R.PM),(by rw[R1.le.F];exact R.Oa),⟨λa b k=>R2.le _ _ (R.base.1 a b k),R2.le.F.t R.base.2⟩,(p R2).1,(p R2).2⟩,a5,by rw[<-af];exact bb.2.2,⟨cc,by rw[<-af];exact a6,bp⟩,⟨ab,by rw[<-af];exact A,a9⟩⟩⟩⟩
structure mz (ρs ρs':Ren)(W W1:Wj)(c:H)(es:dT Event):Prop where
 le:ρs.le ρs'
 new:∀a b,ρs' a b->ρs a b\/W.heap.size<=b
 Nx:Keep ρs W W1
 row:W1.heap[c]?=W.heap[c]?
 ev:∀e∈es,kX ρs' e
theorem G6 (j:Ab P D Post){ρs:Ren}{hs s:Wk}{Vs:Wj}(i:Snd P ([trap P.alt],D.Bs) ρs hs s Vs W D.cs D.c L)(a3:NB [trap P.alt] hs)(d:Nat){G:Wk}(hl:LS P.alt hs (Vs.on W.tape d) G w2)(ac:∀n b cl s q o,w2.heap[D.cs]?=some (.chan n b cl s q o)->cl=false):
    ∃s1 W1 es ρs',mz ρs ρs' W W1 D.c es /\
      ((stepG P Z s (W.at d)=.go s1 W1 es/\Snd P ([trap P.alt],D.Bs) ρs' G s1 w2 W1 D.cs D.c L) \/
       (∃h1 V1 cc v z,stepG P Z s (W.at d)=.comm s1 #[scase D.c v z] Y .send W1 es/\Snd P ([trap P.alt],D.Bs) ρs' h1 s1 V1 W1 D.cs D.c L/\RC ρs' cc (scase D.c v z)/\LC P.alt h1 cc .send V1 G w2) \/
       (∃r v z n b s' q o,stepG P Z s (W.at d)=.comm s1 #[scase r v z] Y .send W1 es/\W1.heap[r]?=J (.chan n b Y s' q o)/\Snd P ([trap P.alt],D.Bs) ρs' G {s1 with frame:=s1.frame.raise (my P)} w2 W1 D.cs D.c L)):=by
  have av:hs.callers≠[]:=λe=>by
    have:=i.go.callers.PE
    grind
  obtain⟨-,sr⟩:=oY j.zero j.count Z i.go (λe=>a3 (i.go.callers.tail e)) i.NG i.gid i.ext i.Oa d (BR _ _ av _).s hl;have X:∀ {ρ':Ren},ρs.le ρ'->(ρ'.F LF=Z/\ρ'.F nX=Z)/\(∀f,¬Mk ρ'.F f=Y)/\(ρ'.loose=Y/\ρ'.wide=Z)/\∀x,ρ'.ch x↔x=D.cs:=λl=>⟨by rw[l.F];exact i.calm,by rw[l.F];exact i.Oa,by rw[l.loose,l.wide];exact i.loose,by rw[l.ch];exact i.ch⟩
  have ab:∀ {ρ':Ren} {u u':Wj},Reach ρs ρ' (Vs.on W.tape d) (W.at d) u u'->(∀n b s q o,u.heap[D.cs]?=J (.chan n b Y s q o)->gI)->(∃n b s q o,u.heap[D.cs]?=J (.chan n b Z s q o)/\b.toList=L)/\u'.heap[D.c]?=W.heap[D.c]?/\∀ (a n:H) b s q o,u.heap[a]?=J (.chan n b Z s q o)->a=D.cs:=λR1 ai=>by
    have⟨n,b,s,q,o,h1,h2⟩:=i.row;have al:=R1.Pj.row D.cs D.c ((i.ch _).2 rfl) i.pair;refine⟨?_,?_,λa n b s q o ho=>?_⟩;rcases al with⟨k,-⟩|⟨-,_,_,_,_,_,k⟩;exact⟨n,b,s,q,o,k.t h1,h2⟩
    grind
    rcases al with⟨-,k⟩|⟨-,_,_,_,_,_,k⟩;exact k
    grind
    rcases R1.Pj.only i.calm.2 a _ ho rfl with k|⟨-,_,_,_,_,_,k⟩;exact i.only a n b s q o k
    grind
  cases hl with
  | @go _ _ a1 er hr2 hd2=>
    rw[er]at sr;generalize hy:stepG P Z s (W.at d)=y at sr;cases sr with
    | @go _ g1 _ W1 _ es ρ' R1 p ad=>
      have⟨m1,m2,m3,m4⟩:=X R1.le;obtain⟨r1,r2,r3⟩:=ab R1 (λn b s q o k=>by cases ac _ _ _ _ _ _ k);exact⟨g1,W1,es,ρ',⟨R1.le,λa b h=>(R1.new a b h).imp id (·.2),⟨R1.Nx.os,R1.Nx.output,R1.Nx.tape,R1.Nx.size,R1.Nx.block⟩,r2,ad⟩,.inl ⟨rfl,⟨p,R1.NG,i.gid.m R1.le,by rw[R1.le.F];exact i.ext,m1,m2,m3,m4,R1.le _ _ i.pair,r1,r3⟩⟩⟩
  | @comm h1 cc sh V1 a1 _ _ er af=>
    rw[er]at sr;generalize hy:stepG P Z s (W.at d)=y at sr;cases sr with
    | @comm _ g1 _ T hC _ a2 hrun _ W1 _ es ρ' R1 p B ad ha1=>
      have⟨m1,m2,m3,m4⟩:=X R1.le;have R:cc.send≠none:=λk=>by have:=hC.2 k;rw[i.calm.1]at this;cases this
      have ai:∀n b s q o,V1.heap[D.cs]?=J (.chan n b Y s q o)->gI:=λn b s q o k=>by
        cases af with
        |recv q1 q2 V q4=>exact R q2
        |shut q1 q2 V=>exact R q2
        |dead q1 q2 V=>cases ac _ _ _ _ _ _ k
        | @send r cap NQ rcvd buf tm0 v0 q1 q2 V q4=>
          by_cases e:r=D.cs
          subst e;rw[k]at V;cases V;cases ac n b Y s q o (by simpa[e]using k)
      have⟨r1,r2,r3⟩:=ab R1 ai;have aj:sh=.send:=by
        rcases a2 with⟨-,k⟩|⟨k,-⟩;exact k;exact eW k R
      subst aj;obtain⟨v,hv⟩:∃v,T.send=J v:=by
        rcases B.send with⟨k,-⟩|⟨_,v,-,k,-⟩;exact eW k R;exact⟨v,k⟩
      have mv:mz ρs ρ' W W1 D.c es:=⟨R1.le,λa b h=>(R1.new a b h).imp id (·.2),⟨R1.Nx.os,R1.Nx.output,R1.Nx.tape,R1.Nx.size,R1.Nx.block⟩,r2,ad⟩;have a0:(∃h' V',G=h'/\w2=V'/\cc.chan=.chan (J D.cs))\/(w2=V1/\G={h1 with frame:=h1.frame.raise (my P)}/\∃r n b s q o,cc.chan=.chan (J r)/\V1.heap[r]?=J (.chan n b Y s q o)):=by
        cases af with
        |recv q1 q2 V q4=>exact eW q2 R
        |shut q1 q2 V=>exact eW q2 R
        |send q1 q2 V q4=>exact .inl ⟨_,_,rfl,rfl,by rw[q1,r3 _ _ _ _ _ _ V]⟩
        |dead q1 q2 V=>exact .inr ⟨rfl,rfl,_,_,_,_,_,_,q1,V⟩
      rcases a0 with⟨_,_,-,-,A⟩|⟨rfl,rfl,r,n,b,s',q,o,A,ap⟩
      rotate_left
      obtain⟨r',cap',buf',cl',s'',q'',c1,c2,c3,-,c5,-⟩:=tN R1.NG B A ap;obtain rfl:=c5.resolve_left (by rw[m3.2];exactλh=>by cases h);have aa:T=scase r' v T.zero:=by
        obtain⟨a,b,z⟩:=T;simp only at c1 hv;subst c1;subst hv;rfl
      refine⟨g1,W1,es,ρ',mv,.inr (.inr ⟨r',v,T.zero,_,_,_,_,_,by rw[<-aa],c3,⟨⟨p.frame.Ox (.iface _ (.string _)),p.callers,p.kind.raise _ _,p.status,p.dying,p.offers⟩,R1.NG,i.gid.m R1.le,by rw[R1.le.F];exact i.ext,m1,m2,m3,m4,R1.le _ _ i.pair,r1,r3⟩⟩)⟩;have aa:T=scase D.c v T.zero:=by
        have ar:T.chan=.chan (J D.c):=by
          have:=B.chan;rw[A]at this;generalize T.chan=x at this;cases this with
          |chan k=>cases k with
            |some k=>rw[ρ'.fn _ _ _ k (R1.le _ _ i.pair)]
        obtain⟨a,b,z⟩:=T;simp only at ar hv;subst ar;subst hv;rfl
      exact⟨g1,W1,es,ρ',mv,.inr (.inl ⟨h1,V1,cc,v,T.zero,by rw[<-aa],⟨p,R1.NG,i.gid.m R1.le,by rw[R1.le.F];exact i.ext,m1,m2,m3,m4,R1.le _ _ i.pair,r1,r3⟩,by rw[<-aa];exact B,af⟩)⟩
end
end
section
open Go.Conc (crowd Past EvL Deaf QuitsD woken awake crowd_pick runT_crowd_go rcase scase parked ph)
open Go.ConcN (sumTo upd sumTo_upd upd_ne upd_same)
variable {P:Wv} [Two P] {D:PhD P} {Post:Wx->Wj->Prop}
theorem Moved.N3{ρ' ρr ρr' ρs}{W1}{c}{es:dT Event}(m:Moved ρ ρ' ρr ρr' W W1 c es)(hF:Far ρr ρs)(d:∀y b,ρs y b->b<W.heap.size):Far ρr' ρs:=λb x y h1 a=>by
 rcases m.QX x b h1 with k|k
 .rw [m.Qp.old,m.Qp.ch];exact hF b x y k a
 .have:=d y b a;omega
theorem qW.at{ρr}{hr}{Vr}(R:qW D ρ ρr W h hr g V Vr L)d:qW D ρ ρr (W.at d) h hr g V Vr L:=⟨R.side.stays Q (λ_ _ _ _=>Q) Q,R.NK.stays Q (λ_ _ _ _=>Q) Q,R.only,R.PM,R.Oa,R.base,R.all,R.rest⟩
omit [Two P]in
theorem iI{gs:dT Wk}{t}{q:H->H}(d:Lv P (λ_=>gI) t gs q)(c:gs[0]?=J x)(hr:x.status=Ri):∀y∈gs,awake y:=λy e=>by
 obtain⟨i,b,rfl⟩:=Sh.1 e;rcases Sp i with rfl|a
 .have:gs[0]=x:=by simpa[eG b]using c
  rw[this];exact xb (Rf hr)
 .exact xb ((d.old i _ a (λk=>k) (eG b)).status.elim Rf λx=>Rg (Rg x))
theorem firm0{gs:dT Wk}(c:gs[0]?=J x)(hr:x.status=Ri)w:∀j o,(j=0\/gI)->gs[j]?=J o->o.again w=o:=λj o a b=>by
 rcases a with rfl|a
 .rw [c]at b;cases b;exact uc _ (Rf hr)
 .exact a.elim
theorem qW.run{ρ ρr}{W}{h hr g}{V Vr}{L}(R:qW D ρ ρr W h hr g V Vr L):g.status=Ri:=R.side.go.status.2
theorem vB(a:Ab P D Post){ρr}{hr}{Vr}(R:qW D ρ ρr W h hr g V Vr L)(f:Dem P.alt (λg _=>NB [trap P.alt] g) D.T h V)(i:LSs P.alt D.T D.h0 D.V0 h V)d:
  ∃h' V',LS P.alt h (V.on W.tape d) h' V'/\Dem P.alt (λg _=>NB [trap P.alt] g) D.T h' V'/\LSs P.alt D.T D.h0 D.V0 h' V':=by
 have e:¬D.T h V:=λk=>by
  have h1:=a.Qc _ _ k;have h2:=R.side.go.callers.PE;have h3:=a.deep;omega
 cases f with
 |stop k=>exact eW k e
 |step _ _ c j=>
  have⟨h',V',b⟩:=c W.tape d;exact⟨h',V',b,j _ _ _ _ b,i.t (.step e _ _ b (.refl _ _))⟩
theorem LG.take(f:Ab P D Post){ρr}{W'}{h1 ab g1 hr}{V1 Vr}{sh:SC}(d:LG D ρ ρr W h1 ab g1 V1 w2 (v::L) z sh h hr V Vr)(hv:v∈D.L)(y:W'.os=W.os)(hs:∀b,b≠D.c->W'.heap[b]?=W.heap[b]?){T}{b'}{aa:ey}{s X}{B:ey}(r1:m9 W D.c n b cl s q B)(r2:m9 W' D.c T b' aa X q' B):
  qW D ρ ρr W' h hr (g1.finishComm P #[rcase D.c z] sh 0 v Y) V Vr L:=by
 have⟨cc,c1,R⟩:=d.rc;have⟨cr,d1,d2⟩:=d.QG;have l:∀ (a:H) (o:Obj),V.heap[a]?=J o->o.isChan=Y->∃G:Obj,V1.heap[a]?=J G/\G.isChan=true:=λa o A F=>by
  cases R with
  |shut=>exact⟨o,A,F⟩
  |dead=>exact⟨o,A,F⟩
  | @send r _ _ _ _ _ _ j u x k4=>
   by_cases e:r=a
   subst e;exact⟨_,x,Q⟩
   grind
  | @recv r _ _ _ _ _ _ j u x k4=>
   by_cases e:r=a
   subst e;exact⟨_,x,Q⟩
   grind
 have m:∀a:H,a≠D.cV->V.heap[a]?=V1.heap[a]?:=λa ha=>by
  obtain⟨-,p⟩:=d.Og.side.OB c1;have hr:∀r,cc.chan=.chan (J r)->r≠a:=λr e=>by
   grind
  cases R with
  |shut=>rfl
  |dead=>rfl
  |send j u x k4=>simp[hr _ j]
  |recv j u x k4=>simp[hr _ j]
 refine⟨d.Og.side.take c1 d.sh R (f.flat v hv) y hs r1 r2,d.Og.NK.take d1 d.sh d2 (f.flat v hv) y hs r1 r2,d2.only d.Og.only,d.Og.PM,d.Og.Oa,d.Og.base,λa b o i A F=>?_,λa b p i k=>?_⟩;have⟨G,j,u⟩:=l a o A F;exact d.Og.all a b G i j u;have⟨n,s,q,B,T,X,q',e1,e2⟩:=d.Og.rest a b p i k;refine⟨n,s,q,B,T,X,q',(m a k).t e1,?_⟩
 rwa [hs b (λe=>k (ρ.inj _ _ _ i (e▸d.Og.side.pair)))]
theorem aU(W:Wj)(c n:H)(b:dT Wx)(a:ey)(s q:H)(d:ey)(h:j≠c):(W.setChan c n b a s q d).heap[j]?=W.heap[j]?:=by
 unfold Tf
 grind
theorem eF(W:Wj)(c n:H)(b:dT Wx)(a:ey)(s q:H)(tm:ey)(h:c<W.heap.size):m9 (W.setChan c n b a s q tm) c n b.toList a s q tm:=⟨b,by unfold Tf;exact sS h,Q⟩
theorem de(W:Wj)(c n:H)(b:dT Wx)(a:ey)(s q:H)(d:ey):(W.setChan c n b a s q d).heap.size=W.heap.size:=by simp[Tf]
theorem jM g(fn:SB)(a:lj):sq g fn a #[]=#[]:=rfl
theorem Ae{ρr}{h1 f g1}{V1}{sh:SC}{cc:SI}(R:qW D ρ ρr W h1 f g1 V1 w2 [])(e:RC ρ cc (rcase D.c z))(_hsh:∃k,sh=.recv k)(a:LC P.alt h1 cc sh V1 h V):DV D ρ V W:=by
 have m:V=V1:=by
  have⟨d,hch⟩:=R.side.OB e;have⟨n0,b0,s0,q0,tm0,e1,e2⟩:=R.side.row;cases a with
  |send i b j l=>rw[d]at b;cases b
  |dead=>rfl
  |shut=>rfl
  |recv i b j l=>
   simp_all
 rw[m];exact⟨R.base,R.all,R.rest⟩
structure BS (D:PhD P)(ρ ρr:Ren)(W:Wj):Prop where
 kp:Kp D.U W
 off:Off D.U ρ
 OH:Off D.U ρr
 chan:¬D.U.Ko D.c
omit [Two P]in
theorem BS.Qx{D:PhD P}{ρr ρ' ρr'}{W1}{es:dT Event}(h:BS D ρ ρr W)(m:Moved ρ ρ' ρr ρr' W W1 D.c es):BS D ρ' ρr' W1:=⟨h.kp.Nx h.OH m.Nx,h.off.new h.kp m.le.sub m.new ⟨m.le.NT,m.le.bad⟩,h.OH.new h.kp m.Qp.sub m.QX ⟨m.Qp.NT,m.Qp.bad⟩,h.chan⟩
omit [Two P]in
theorem Kp.setChan{a:Outer}{c}(h:Kp a W)(f:¬a.Ko c)n(b:dT Wx)(i:ey)s q(k:ey):Kp a (W.setChan c n b i s q k):=⟨by rw[de];exact h.1,h.2.1,λx d=>(aU (j:=x) _ _ _ _ _ _ _ _ (λe=>f (by rw[<-e];exact d))).t (h.2.2 x d)⟩
omit [Two P]in
theorem BS.set{D:PhD P}{ρr}(h:BS D ρ ρr W)n(b:dT Wx)(a:ey)s q(d:ey):BS D ρ ρr (W.setChan D.c n b a s q d):=⟨h.kp.setChan h.chan _ _ _ _ _ _,h.off,h.OH,h.chan⟩
theorem yy(f:Ab P D Post){ρr ρs}{h1 R g1 hr}{V1 Vr}{sh:SC}(hp:LSs P.alt D.T D.h0 D.V0 h V){s}{tm:ey}{pc}:
  ∀ (e:H) (gs:dT Wk) (W:Wj) (sl:eV (H×H)) (t:Trace) (B:H->H),sumTo gs.size B<=e->LG D ρ ρr W h1 R g1 V1 w2 [] z sh h hr V Vr->m9 W D.c n [] Y s q tm->BS D ρ ρr W->gs[0]?=J {parked g1 #[rcase D.c z] sh with status:=Ri}->Lv P (λ_=>gI) t gs B->PhC D.c pc ρs W.heap.size t->Fin P Post gs W sl t:=by
 intro e;induction e using Sq with
 |_ e ih=>
  intro gs W sl t B hM b r o m G hP;have⟨i,x,d,A,F,hx,u⟩:=xv (P:=P) (w:=W) (sl:=sl) (iI G m Q) ⟨0,_,m,Q⟩;rcases Sp i with rfl|y;rw[m]at F;obtain⟨a,l,X⟩:=r;have X:=Si.1 (by simpa using X);subst X;have v:=Rl (sl:=A) (i:=0) m (b.QM Y (W.at d)) l (G.alone D.c Y);rw[jM,Array.empty_append]at v;have⟨cc,c1,c2⟩:=b.rc;exact Fin.next (u.t v) (f.fin ρ h _ V (W.at d) n s q tm _ _ _ B (((b.Og.at d).side).nothing c1 b.sh c2) (Ae (b.Og.at d) c1 b.sh c2) ⟨o.kp,o.off⟩ l hp (by simp[(eS m).1])
   (G.put (λop p=>by simp at p;subst p;exact⟨by simp,by simp⟩) (by simp) (λj hj _=>sN (by omega)))
   (hP.done ⟨Q,Q⟩ ((eS l).1)))
  obtain⟨aa,q',L,e1,e2,e3,e4,e5,e6,-⟩:=slip G hP (λt i fn pos es F _ h hm=>h.mute F hm) F hx y (λk=>k) (firm0 m Q _) u;exact Fin.next e1 (ih _ (by omega) aa (W.at d) A (t++L) q' Q0 ⟨b.Og.at d,b.sh,b.QM,b.rc,b.QG⟩ r ⟨o.kp,o.off,o.OH,o.chan⟩ ((e3 0 (Rf Q)).t m) e4 e5)
def gK(P:Wv) [Two P](D:PhD P)(Post:Wx->Wj->Prop)(hr:Wk)(Vr:Wj):Prop:=
 ∀ (gs:dT Wk) (W:Wj) (sl:eV (H×H)) (t:Trace) (d:H->H) (ρ ρr ρs:Ren) (h g:Wk) (V:Wj) (L:S Wx) (n s q:H) (a:ey) (pc:H),qW D ρ ρr W h hr g V Vr L->Dem P.alt (λg _=>NB [trap P.alt] g) D.T h V->LSs P.alt D.T D.h0 D.V0 h V->(∀v∈L,v∈D.L)->m9 W D.c n L Y s q a->Far ρr ρs->BS D ρ ρr W->(∀y b,ρs y b->b<W.heap.size)->gs[0]?=J g->Lv P (λ_=>gI) t gs d->PhC D.c pc ρs W.heap.size t->Fin P Post gs W sl t
theorem rN(l:Ab P D Post){hr}{Vr}(a2:NB [trap P.alt] hr)(a5:∀τ d,∃u Vr',LS P.alt hr (Vr.on τ d) u Vr')
  (hn:∀τ d u Vr',LS P.alt hr (Vr.on τ d) u Vr'->gK P D Post u Vr'\/((∀n b s q tm,Vr.heap[D.cr]?=J (.chan n b Y s q tm)->b.toList=[])/\∃h1 cc s V1 es,stepG P.alt Y hr (Vr.on τ d)=.comm h1 cc Y s V1 es)):gK P D Post hr Vr:=by
 intro gs W sl t qs ρ ρr ρs h g V L n s q tm pc R hd hp ad r hF hU hB h0 hL hP;obtain⟨o,hM⟩:∃o,sumTo gs.size qs<=o:=⟨_,Q0⟩;induction o using Sq generalizing gs W sl t qs with
 |_ o ih=>
  have⟨i,x,d,T,hi,hx,aa⟩:=xv (P:=P) (w:=W) (sl:=sl) (iI hL h0 R.run) ⟨0,_,h0,R.run⟩;rcases Sp i with rfl|ap;obtain rfl:x=g:=by rw[h0]at hi;exact(oJ hi).s
  have⟨h',V',hl,a1,ai⟩:=vB l R hd hp d;have⟨u,Vr',al⟩:=a5 W.tape d;have av:=hn _ _ _ _ al;have⟨g1,W1,es,ρ',ρr',m,ab⟩:=Ad l R a2 d hl al;have A:=m.N3 hF hB;have F:=m.Nx.size;have r1:m9 W1 D.c n L Y s q tm:=by
   obtain⟨a,k1,k2⟩:=r;exact⟨a,m.row.t k1,k2⟩
  rcases ab with⟨hg,R'⟩|⟨h1,hr1,V1,Vr1,z,sh,hg,f⟩;have hC:gK P D Post u Vr':=by
   rcases av with k|⟨-,_,_,_,_,_,k⟩;exact k;exfalso;obtain⟨-,sr⟩:=oY l.zero l.count Y R.NK.go (λe=>a2 (R.NK.go.callers.tail e)) R.NK.NG R.NK.gid R.NK.ext R.Oa.1 d Q al;rw[k,hg]at sr;cases sr
  obtain⟨aj,ar,e1,e2,e3,e4,-,e6⟩:=rl hL hi (Rf Q) aa (show stepG P (0==0) x (W.at d)=_ from hg);subst e2;exact Fin.next e1 (hC aj W1 T _ qs ρ' ρr' ρs h' g1 V' L n s q tm pc R' a1 ai ad r1 A (hU.Qx m) (λy b k=>lL (hB y b k) F) e4 e6 (hP.app A F (mw R'.NK.NG m.ev 0 _ _)))
  obtain⟨a,B,G⟩:=r1;have ac:=(eS B).1;have af:=mw f.Og.NK.NG m.ev 0 x.frame.fn x.frame.place;cases L with
  |nil=>
   have ha:=Si.1 (by simpa using G);subst ha;have⟨cc,c1,c2⟩:=f.rc;refine Fin.next (aa.t (Rl (sl:=T) (i:=0) h0 (show stepG P (0==0) x (W.at d)=_ from hg) B (hL.alone D.c Y))) (l.fin ρ' h' _ V' W1 n s q tm _ _ _ qs (f.Og.side.nothing c1 f.sh c2) (Ae f.Og c1 f.sh c2) ⟨(hU.Qx m).kp,(hU.Qx m).off⟩ B ai (by simp[(eS h0).1]) (hL.put (λX p=>?_) (by simp) (λj hj _=>sN (by omega))) ?_)
   grind
   rw[<-Se];exact(hP.app A F af).done ⟨Q,Q⟩ ac
  |cons v L=>
   have hC:gK P D Post u Vr':=by
    rcases av with k|⟨k,-⟩;exact k;exfalso;have⟨n0,b0,s0,q0,tm0,k1,k2⟩:=R.NK.row
    grind
   have a4:a.getD 0 Wo=v:=by rw[gD,<-gT,G];rfl
   have a3:(a.extract 1 a.size).toList=L:=by
    have hl:a.toList.length=a.size:=lY;rw[Sk,G]at *
    grind
   have a0:=RB (sl:=T) (i:=0) h0 (show stepG P (0==0) x (W.at d)=_ from hg) B (by rw[<-lY,G];simp) (hL.alone D.c Y);rw[a4]at a0;have r2:=eF W1 D.c n (a.extract 1 a.size) Y s (q+1) tm ac;rw[a3]at r2;have hu:∀X∈(#[{g:=0,fn:=g1.frame.fn,pos:=g1.frame.place,act:=.recv D.c q n},{g:=0,fn:=g1.frame.fn,pos:=g1.frame.place,act:=.recvDone D.c q}]:Trace),X.g=0/\dK W1.heap.size X.act:=λX p=>by
    simp at p;rcases p with rfl|rfl<;>exact⟨Q,ac⟩
   refine Fin.next (aa.t a0) (hC _ _ T _ qs ρ' ρr' ρs h' _ V' L n s (q+1) tm pc (f.take l (ad v (by simp)) (W':=W1.setChan D.c n (a.extract 1 a.size) Y s (q+1) tm) Q (λb hb=>aU _ _ _ _ _ _ _ _ hb) ⟨a,B,G⟩ r2) a1 ai (λv hv=>ad v (by simp[hv])) r2 A ((hU.Qx m).set _ _ _ _ _ _) (λy b k=>by rw[de];exact lL (hB y b k) F) (by simp[(eS h0).1]) (hL.put (λX p=>?_) (by simp) (λj hj _=>sN (by omega))) ?_)
   rcases Sd.1 p with k|k;exact(af X k).2.2.1;exact(hu X k).2.still;rw[<-Se,de];exact(hP.app A F af).app A Q0 (λX p=>⟨(hu X p).1,yx (hu X p).2⟩)
  obtain⟨aj,q',ar,e1,e2,e3,e4,e5,e6,-⟩:=slip hL hP (λt i fn pos es hi _ h hm=>h.mute hi hm) hi hx ap (λk=>k) (firm0 h0 R.run _) aa;exact Fin.next e1 (ih _ (by omega) aj (W.at d) T (t++ar) q' (R.at d) r ⟨hU.kp,hU.off,hU.OH,hU.chan⟩ hB ((e3 0 (Rf Q)).t h0) e4 e5 Q0)
theorem vC(a:Ab P D Post){hr}{Vr}(n:Dem P.alt D.Nr D.Tr hr Vr):gK P D Post hr Vr:=by
 induction n with
 | @stop g w h=>
  have⟨h1,k,i⟩:=a.tr g w h;refine rN a h1 (λc d=>?_) (λc d b Vr' _=>Rg ⟨k,?_⟩);have⟨_,_,_,_,_,h',V',e,l⟩:=i c d;exact⟨h',V',.comm e l⟩;have⟨_,_,_,_,_,h',V',e,l⟩:=i c d
  grind
 | @step g w m h f _ ih=>exact rN a (a.nr g w m) f (λc d b Vr' j=>Rf (ih c d b Vr' j))
def Alone(P:Wv)(bo:H)(g:Wk):H->Wk->Wj->Prop:=
 Go.Conc.Goes P Y (λw v=>v.heap[bo]?=w.heap[bo]?) (λw w' es=>w'=w/\∀e∈es,∃a:Wu,e=⟨.cell a,Z,Z⟩/\a.block=bo) (λg' _=>g'=g)
section
variable {bo k:Nat} {g y:Wk} {W W1:Wj}
omit [Two P]in
theorem Alone.rely(h:Alone P bo g k y W)(a:W1.heap[bo]?=W.heap[bo]?):Alone P bo g k y W1:=
 Go.Conc.Goes.rely (λ_ _ _ h k=>k.t h) h a
omit [Two P]in
theorem Alone.next(h:Alone P bo g k y W):y=g\/(y.status=Ri/\∃f,k=f+1/\∀d,∃b es,stepG P Y y (W.at d)=.go b (W.at d) es/\(∀e∈es,∃a:Wu,e=⟨.cell a,Z,Z⟩/\a.block=bo)/\Alone P bo g f b (W.at d)):=by
 cases k with
 |zero=>exact Rf (h W Q)
 |succ k=>
  rcases h with h|⟨c,h⟩
  grind
  refine Rg ⟨c,k,Q,λd=>?_⟩;obtain⟨b,w',es,h1,⟨rfl,j⟩,i⟩:=Go.Conc.goes_elim (h (W.at d) Q);exact⟨b,es,h1,j,i⟩
omit [Two P]in
theorem Alone.status(h:Alone P bo g k y W)(a:g.status=Ri):y.status=Ri:=by
 rcases h.next with rfl|⟨h,-⟩
 exact a;exact h
theorem Af{ρr}(b:∃x,ρr x bo/\¬ρr.ch x){es:dT Event}(h:∀e∈es,∃a:Wu,e=⟨.cell a,Z,Z⟩/\a.block=bo):∀e∈es,kX ρr e:=λe c=>by
 obtain⟨a,rfl,rfl⟩:=h e c;obtain⟨x,h1,d⟩:=b;exact⟨x,h1,(λh=>by cases h),d⟩
end
theorem BT{hr}{Vr}(hC:gK P D Post hr Vr){ρr ρs}{s}{tm:ey}{pc}(hd:Dem P.alt (λg _=>NB [trap P.alt] g) D.T h V)(hp:LSs P.alt D.T D.h0 D.V0 h V)(z:∀v∈L,v∈D.L)(hF:Far ρr ρs)(ab:∃x,ρr x D.bo/\¬ρr.ch x):
  ∀ (k:H) (gs:dT Wk) (W:Wj) (sl:eV (H×H)) (t:Trace) (m:H->H) (y:Wk),qW D ρ ρr W h hr g V Vr L->Alone P D.bo g k y W->m9 W D.c n L Y s q tm->BS D ρ ρr W->(∀y b,ρs y b->b<W.heap.size)->gs[0]?=J y->Lv P (λ_=>gI) t gs m->PhC D.c pc ρs W.heap.size t->Fin P Post gs W sl t:=by
 intro k;induction k with
 |zero=>
  intro gs W sl t m y R hy r f X l p G;rcases hy.next with rfl|⟨-,k',e,-⟩
  exact hC gs W sl t m ρ ρr ρs h y V L n s q tm pc R hd hp z r hF f X l p G;cases e
 |succ k ai=>
  intro gs W sl t m y R hy r f X l p G;obtain⟨a,hM⟩:∃a,sumTo gs.size m<=a:=⟨_,Q0⟩;induction a using Sq generalizing gs W sl t m with
  |_ a ih=>
   rcases hy.next with rfl|⟨j,k',e,ad⟩
   exact hC gs W sl t m ρ ρr ρs h y V L n s q tm pc R hd hp z r hF f X l p G;cases e;have⟨i,x,d,aa,u,hx,A⟩:=xv (P:=P) (w:=W) (sl:=sl) (iI p l j) ⟨0,_,l,j⟩;rcases Sp i with rfl|B;obtain rfl:x=y:=by rw[l]at u;exact(oJ u).s
   have⟨y',es,hg,ac,af⟩:=ad d;obtain⟨o,F,e1,e2,e3,e4,-,e6⟩:=rl p u (Rf Q) A (show stepG P (0==0) x (W.at d)=_ from hg);subst e2;exact Fin.next e1 (ai o (W.at d) aa _ m y' (R.at d) af r ⟨f.kp,f.off,f.OH,f.chan⟩ X e4 e6 (G.app hF Q0 (mw (R.at d).NK.NG (Af ab ac) 0 _ _)))
   obtain⟨o,q',F,e1,e2,e3,e4,e5,e6,-⟩:=slip p G (λt i fn pos es u _ h hm=>h.mute u hm) u hx B (λk=>k) (firm0 l j _) A;exact Fin.next e1 (ih _ (by omega) o (W.at d) aa (t++F) q' (R.at d) (hy.rely Q) r ⟨f.kp,f.off,f.OH,f.chan⟩ X ((e3 0 (Rf Q)).t l) e4 e5 Q0)
end
section
open Go.Conc (crowd Past EvL Deaf QuitsD woken awake crowd_pick runT_crowd_go rcase scase parked ph)
open Go.ConcN (sumTo upd sumTo_upd upd_ne upd_same)
variable {P:Wv} [Two P] {D:PhD P} {Post:Wx->Wj->Prop}
def Half(ρ ρs:Ren):Prop:=∀b x y,ρ x b->ρs y b->ρs.old y\/ρs.ch y
inductive mA (D:PhD P)(ρ ρr:Ren)(W:Wj)(buf:S Wx)(hr:Wk)(Vr:Wj):Wk->S Wx->H->Prop
 |run {h g:Wk} {V:Wj} {L:S Wx} (R:qW D ρ ρr W h hr g V Vr L) (hd:Dem P.alt (λg _=>NB [trap P.alt] g) D.T h V) (hp:LSs P.alt D.T D.h0 D.V0 h V):mA D ρ ρr W buf hr Vr g L 1
 |park {h1 hr1 g1 h:Wk} {V1 Vr1 V:Wj} {v z:Wx} {L:S Wx} {sh:CommShape} (C:LG D ρ ρr W h1 hr1 g1 V1 Vr1 (v::L) z sh h hr V Vr) (hb:buf=[]) (hd:Dem P.alt (λg _=>NB [trap P.alt] g) D.T h V) (hp:LSs P.alt D.T D.h0 D.V0 h V):mA D ρ ρr W buf hr Vr (parked g1 #[rcase D.c z] sh) (v::L) 0
 |last {h1 hr1 g1 h hr':Wk} {V1 Vr1 V Vr':Wj} {z:Wx} {sh:CommShape} (C:LG D ρ ρr W h1 hr1 g1 V1 Vr1 [] z sh h hr' V Vr') (hb:buf=[]) (hp:LSs P.alt D.T D.h0 D.V0 h V):mA D ρ ρr W buf hr Vr (parked g1 #[rcase D.c z] sh) [] 0
 |pre {h g y:Wk} {V:Wj} {L:S Wx} (k:H) (R:qW D ρ ρr W h hr g V Vr L) (hd:Dem P.alt (λg _=>NB [trap P.alt] g) D.T h V) (hp:LSs P.alt D.T D.h0 D.V0 h V) (hbo:(∃x,ρr x D.bo/\¬ρr.ch x)/\D.bo≠D.c) (hy:Alone P D.bo g k y W):mA D ρ ρr W buf hr Vr y L (k+2)
inductive jh (D:PhD P)(ρs:Ren)(W:Wj)(n:H)(buf:nF Wx)(hs:Wk)(Vs:Wj):Wk->nF Wx->H->Prop
 |run {s:Wk} {L:nF Wx} (S:Snd P ([trap P.alt],D.Bs) ρs hs s Vs W D.cs D.c L):jh D ρs W n buf hs Vs s L 1
 |new {y s:Wk} {L:nF Wx} (S:Snd P ([trap P.alt],D.Bs) ρs hs s Vs W D.cs D.c L) (hy:∀v,stepG P Z y v=.go s v #[]) (hst:y.status=Ri):jh D ρs W n buf hs Vs y L 2
 |park {h1 s1:Wk} {V1:Wj} {L:nF Wx} {cc:CommCase} {v z:Wx} (S:Snd P ([trap P.alt],D.Bs) ρs h1 s1 V1 W D.cs D.c L) (rc:RC ρs cc (scase D.c v z)) (lc:LC P.alt h1 cc .send V1 hs Vs) (hf:n<=buf.length):jh D ρs W n buf hs Vs (parked s1 #[scase D.c v z] .send) L 0
section
variable {ρ ρr ρs ρ' ρr' ρs':Ren} {W W1:Wj} {n:Nat} {buf:nF Wx} {hr hs x:Wk} {Vr Vs:Wj} {L:nF Wx} {f:Nat} {es:dT Event}
theorem qW.stays(R:qW D ρ ρr W h hr g V Vr L)(i:W1.os=W.os)(h1:∀x b,ρ x b->b≠D.c->W1.heap[b]?=W.heap[b]?)(r:∀x b,ρr x b->b≠D.c->W1.heap[b]?=W.heap[b]?)(k:W1.heap[D.c]?=W.heap[D.c]?):qW D ρ ρr W1 h hr g V Vr L:=
 ⟨R.side.stays i h1 k,R.NK.stays i r k,R.only,R.PM,R.Oa,R.base,R.all,λa b j d f=>by
  have⟨n,s,q,o,l,m,t,p,u⟩:=R.rest a b j d f;exact⟨n,s,q,o,l,m,t,p,by rw[h1 a b d (λe=>f (ρ.inj _ _ _ d (e▸R.side.pair)))];exact u⟩⟩
theorem mA.stays(R:mA D ρ ρr W buf hr Vr x L f)(d:W1.os=W.os)(h1:∀x b,ρ x b->b≠D.c->W1.heap[b]?=W.heap[b]?)(h:∀x b,ρr x b->b≠D.c->W1.heap[b]?=W.heap[b]?)(i:W1.heap[D.c]?=W.heap[D.c]?):mA D ρ ρr W1 buf hr Vr x L f:=by
 cases R with
 |run R aq e=>exact .run (R.stays d h1 h i) aq e
 |park a j aq e=>exact .park ⟨a.Og.stays d h1 h i,a.sh,a.QM,a.rc,a.QG⟩ j aq e
 |last a j e=>exact .last ⟨a.Og.stays d h1 h i,a.sh,a.QM,a.rc,a.QG⟩ j e
 |pre k R aq e l q=>
  obtain⟨⟨o,m,p⟩,n⟩:=l;exact .pre k (R.stays d h1 h i) aq e ⟨⟨o,m,p⟩,n⟩ (q.rely (h _ _ m n))
theorem jh.stays(a:jh D ρs W n buf hs Vs x L f)(d:W1.os=W.os)(h1:∀x b,ρs x b->b≠D.c->W1.heap[b]?=W.heap[b]?)(h:W1.heap[D.c]?=W.heap[D.c]?):jh D ρs W1 n buf hs Vs x L f:=by
 cases a with
 |run a=>exact .run (a.stays d h1 h)
 |new a k e=>exact .new (a.stays d h1 h) k e
 |park a l i j=>exact .park (a.stays d h1 h) l i j
theorem jh.lt(a:jh D ρs W n buf hs Vs x L f):∀y b,ρs y b->b<W.heap.size:=λy b k=>by
 cases a with
 |run a=>exact(a.NG.lt k).2
 |new a _ _=>exact(a.NG.lt k).2
 |park a _ _ _=>exact(a.NG.lt k).2
theorem jh.ch(a:jh D ρs W n buf hs Vs x L f):(∀y,ρs.ch y↔y=D.cs)/\ρs D.cs D.c:=by
 cases a with
 |run a=>exact⟨a.ch,a.pair⟩
 |new a _ _=>exact⟨a.ch,a.pair⟩
 |park a _ _ _=>exact⟨a.ch,a.pair⟩
theorem mA.ch(R:mA D ρ ρr W buf hr Vr x L f):((∀y,ρr.ch y->y=D.cr)/\ρr D.cr D.c)/\(∀y b,ρ y b->b<W.heap.size)/\∀y b,ρr y b->b<W.heap.size:=by
 cases R with
 |run R _ _=>exact⟨⟨R.PM,R.NK.pair⟩,λy b k=>(R.side.NG.lt k).2,λy b k=>(R.NK.NG.lt k).2⟩
 |park a _ _ _=>exact⟨⟨a.Og.PM,a.Og.NK.pair⟩,λy b k=>(a.Og.side.NG.lt k).2,λy b k=>(a.Og.NK.NG.lt k).2⟩
 |last a _ _=>exact⟨⟨a.Og.PM,a.Og.NK.pair⟩,λy b k=>(a.Og.side.NG.lt k).2,λy b k=>(a.Og.NK.NG.lt k).2⟩
 |pre _ R _ _ _ _=>exact⟨⟨R.PM,R.NK.pair⟩,λy b k=>(R.side.NG.lt k).2,λy b k=>(R.NK.NG.lt k).2⟩
theorem jh.pre(d:Ab P D Post)(l:Dem P.alt D.Ns D.Ts hs Vs)(a:jh D ρs W n buf hs Vs x L f){b}{s q}{h:ey}(r:m9 W D.c n b Z s q h):L <+:D.L:=by
 have e:∀ {s:Wk} {W:Wj} {L:S Wx},Snd P ([trap P.alt],D.Bs) ρs hs s Vs W D.cs D.c L->L <+:D.L:=λa=>by
  have⟨n,b,s,q,h,h1,j⟩:=a.row;exact j▸(d.pre l _ _ _ _ _ _ h1).2
 cases a with
 |run a=>exact e a
 |new a _ _=>exact e a
 |park a k i hf=>
  obtain⟨v0,-,S2⟩:=a.push k i Q (λ_ _=>Q) r r;exact(Ti _ _).t (e S2)
omit [Two P]in
theorem Moved.left(m:Moved ρ ρ' ρr ρr' W W1 D.c es)(hF:Far ρr ρs)(i:∀y b,ρs y b->b<W.heap.size)(e:∀y,ρr.ch y->ρr y D.c):∀x b,ρs x b->b≠D.c->W1.heap[b]?=W.heap[b]?:=λx b f d=>
 m.Nx.block b (i x b f) (λa h=>by
  rcases hF b a x h f with⟨k,-⟩|⟨k,-⟩
  .exact k
  .exact eW (ρr.fn _ _ _ h (e a k)) d)
omit [Two P]in
theorem Moved.half(m:Moved ρ ρ' ρr ρr' W W1 D.c es)(e:Half ρ ρs)(d:∀y b,ρs y b->b<W.heap.size):Half ρ' ρs:=λb x y h1 a=>by
 rcases m.new x b h1 with k|k
 .exact e b x y k a
 .have:=d y b a;omega
omit [Two P]in
theorem mz.N3(m:mz ρs ρs' W W1 D.c es)(hF:Far ρr ρs)(d:∀y b,ρr y b->b<W.heap.size):Far ρr ρs':=λb x y h1 a=>by
 rcases m.new y b a with k|k
 .rw [m.le.old,m.le.ch];exact hF b x y h1 k
 .have:=d x b h1;omega
omit [Two P]in
theorem mz.half(m:mz ρs ρs' W W1 D.c es)(e:Half ρ ρs)(d:∀y b,ρ y b->b<W.heap.size):Half ρ ρs':=λb x y h1 a=>by
 rcases m.new y b a with k|k
 .rw [m.le.old,m.le.ch];exact e b x y h1 k
 .have:=d x b h1;omega
omit [Two P]in
theorem mz.left(m:mz ρs ρs' W W1 D.c es)(j:Half σ ρs)(i:∀y b,σ y b->b<W.heap.size)(d:∀y,ρs.ch y->ρs y D.c):∀x b,σ x b->b≠D.c->W1.heap[b]?=W.heap[b]?:=λx b f e=>
 m.Nx.block b (i x b f) (λa h=>by
  rcases j b x a f h with k|k
  .exact k
  .exact eW (ρs.fn _ _ _ h (d a k)) e)
theorem Far.half(h:Far ρr ρs):Half ρr ρs:=λb x y h1 a=>(h b x y h1 a).imp (·.2) (·.2)
theorem mA.again(R:mA D ρ ρr W buf hr Vr x L f){m}{s}{h:ey}(r:m9 w D.c m b Z s q h):x.again w=x:=by
 obtain⟨a,r,-⟩:=r;cases R with
 |run R _ _=>exact uc _ (Rf R.run)
 |park d _ _ _=>exact Rw r
 |last d _ _=>exact Rw r
 |pre _ R _ _ _ i=>exact uc _ (Rf (i.status R.run))
theorem jh.again(d:jh D ρs W n buf hs Vs x L f){h}{s}{i:ey}(r:m9 w D.c h b Z s q i):x.again w=x:=by
 obtain⟨a,r,-⟩:=r;cases d with
 |run d=>exact uc _ (Rf d.go.status.2)
 |new d _ e=>exact uc _ (Rf e)
 |park d _ _ _=>exact Conc.again_send_open r
theorem mA.status(R:mA D ρ ρr W buf hr Vr x L f):x.status=Ri\/x.status=.blocked:=by
 cases R with
 |run R _ _=>exact Rf R.run
 |park a _ _ _=>exact Rg Q
 |last a _ _=>exact Rg Q
 |pre _ R _ _ _ b=>exact Rf (b.status R.run)
theorem jh.status(a:jh D ρs W n buf hs Vs x L f):x.status=Ri\/x.status=.blocked:=by
 cases a with
 |run a=>exact Rf a.go.status.2
 |new a _ b=>exact Rf b
 |park a _ _ _=>exact Rg Q
end
end
section
open Go.Conc (crowd Past EvL Deaf QuitsD woken awake crowd_pick runT_crowd_go rcase scase parked ph)
open Go.ConcN (sumTo upd sumTo_upd upd_ne upd_same)
variable {P:Wv} [Two P] {D:PhD P} {Post:Wx->Wj->Prop}
structure nj (D:PhD P)(ρ ρr ρs:Ren)(W:Wj):Prop where
 half:Half ρ ρs
 o:BS D ρ ρr W
 Pn:Off D.U ρs
omit [Two P]in
theorem nj.Qx{ρr ρs ρ' ρr'}{W1}{es:dT Event}(h:nj D ρ ρr ρs W)(m:Moved ρ ρ' ρr ρr' W W1 D.c es)(a:∀y b,ρs y b->b<W.heap.size):nj D ρ' ρr' ρs W1:=⟨m.half h.half a,h.o.Qx m,h.Pn⟩
omit [Two P]in
theorem nj.snd{ρr ρs ρs'}{W1}{es:dT Event}(h:nj D ρ ρr ρs W)(m:mz ρs ρs' W W1 D.c es)(a:∀y b,ρ y b->b<W.heap.size):nj D ρ ρr ρs' W1:=⟨m.half h.half a,⟨h.o.kp.Nx h.Pn m.Nx,h.o.off,h.o.OH,h.o.chan⟩,h.Pn.new h.o.kp m.le.sub m.new ⟨m.le.NT,m.le.bad⟩⟩
omit [Two P]in
theorem nj.set{ρr ρs}(h:nj D ρ ρr ρs W){b:dT Wx}{tm:ey}{s}:nj D ρ ρr ρs (W.setChan D.c n b tm s q cl):=⟨h.half,h.o.set _ _ _ _ _ _,h.Pn⟩
omit [Two P]in
theorem BS.shut{ρ ρr}{W}(h:BS D ρ ρr W){n}{b:dT Wx}{s q}{a:ey}:BS D ρ ρr (fP W D.c n b s q a):=h.set _ _ _ _ _ _
omit [Two P]in
theorem nj.at{ρr ρs}(h:nj D ρ ρr ρs W)d:nj D ρ ρr ρs (W.at d):=⟨h.half,⟨h.o.kp,h.o.off,h.o.OH,h.o.chan⟩,h.Pn⟩
def jN(P:Wv) [Two P](D:PhD P)(Post:Wx->Wj->Prop)(hr:Wk)(Vr:Wj)(hs:Wk)(Vs:Wj):Prop:=
 ∀ (gs:dT Wk) (W:Wj) (sl:eV (H×H)) (t:Trace) (h:H->H) (ρ ρr ρs:Ren) (b d:Wk) (L Ls buf a:S Wx) (n s q:H) (f:ey) (j e:H),mA D ρ ρr W buf hr Vr b L j->jh D ρs W n buf hs Vs d Ls e->m9 W D.c n buf Z s q f->0<n->Ls=a++buf->D.L=a++L->Far ρr ρs->nj D ρ ρr ρs W->gs[0]?=J b->gs[D.k]?=J d->Lv P (λi=>i=D.k) t gs h->PhT 0 D.k ρr ρs W.heap.size t->Fin P Post gs W sl t
omit [Two P]in
theorem ji{gs:dT Wk}{t}{d:H->H}{k}(c:Lv P (λj=>j=k) t gs d){y}(hij:(i=0/\j=k)\/(i=k/\j=0))(hj:gs[j]?=J y)r(b:ey)(hy:Rm y r b=[]):partners (gs.setIfInBounds i ph) r b=[]:=by
 refine RF (λl x a=>?_);rcases Rn gs i l x a with⟨-,rfl⟩|⟨hne,a⟩;exact Rq r b;by_cases hlj:l=j
 grind
 refine sT (λe=>?_) r b;rcases(c.old l x (by grind) (by grind) a).status with h|h<;>rw[h]at e<;>cases e
omit [Two P]in
theorem rO{gs:dT Wk}{t}{c:H->H}{k}(f:Lv P (λj=>j=k) t gs c){y}(hij:(i=0/\j=k)\/(i=k/\j=0))(hne0:k≠0)(d:gs[j]?=J y)r(b:ey)(m:Rm y r b=[0]):partners (gs.setIfInBounds i ph) r b=[(j,0)]:=by
 rw[Conc.partners_one (RJ (by grind) d) (λl x hl a=>?_),m];rfl;rcases Rn gs i l x a with⟨-,rfl⟩|⟨hne,a⟩;exact Rq r b;refine sT (λe=>?_) r b;rcases(f.old l x (by grind) (by grind) a).status with h|h<;>rw[h]at e<;>cases e
theorem Ah{a c l}(h1:a=c++(v::b))(h:a <+:c++l):∃f,l=v::f:=by
 subst h1;obtain⟨e,d⟩:=h;simp at d
 grind
theorem qW.other{ρr}{W1}{hr}{Vr}(R:qW D ρ ρr W h hr g V Vr L)(f:W1.os=W.os)(hs:∀b,b≠D.c->W1.heap[b]?=W.heap[b]?){x}{u:ey}{s k m}{tm:ey}(t:m9 W D.c n b u s q tm)(r:m9 W1 D.c j x cl k m tm):qW D ρ ρr W1 h hr g V Vr L:=
 ⟨R.side.other f (λ_ b _ l=>hs b l) t r,R.NK.other f (λ_ b _ l=>hs b l) t r,R.only,R.PM,R.Oa,R.base,R.all,λa b p i d=>by
  have⟨n,s,q,tm,j,k,m,v,y⟩:=R.rest a b p i d;exact⟨n,s,q,tm,j,k,m,v,by rw[hs b (λe=>d (ρ.inj _ _ _ i (e▸R.side.pair)))];exact y⟩⟩
theorem PhT.ops{p}{ρ'}(hF:Far ρ ρ'):∀ (l:S MemOp)(t:Trace),PhT p q ρ ρ' B t->(∀b∈l,(b.g=p\/b.g=q)/\dK B b.act)->PhT p q ρ ρ' B (t++l.toArray):=by
 intro l;induction l with
 |nil=>intro t h _;simpa using h
 |cons x l ih=>
  intro t h f;have e:t++(x::l).toArray=(t++#[x])++l.toArray:=by grind
  rw[e];refine ih _ ?_ (λb a=>f b (by simp[a]));have⟨c,d⟩:=f x (by simp);rcases c with c|c;exact h.app (Ren.le_refl _) hF Q0 (λb a=>by simp at a;subst a;exact⟨c,yx d⟩);exact(h.s.app (Ren.le_refl _) hF.s Q0 (λb a=>by simp at a;subst a;exact⟨c,yx d⟩)).s
theorem oZ(f:Ab P D Post){hr hs:Wk}{Vr Vs:Wj}(b1:Dem P.alt D.Ns D.Ts hs Vs)(dj:NB [trap P.alt] hr)(eb:∀τ d,∃be Vr',LS P.alt hr (Vr.on τ d) be Vr')
  (hn:∀τ d be Vr',LS P.alt hr (Vr.on τ d) be Vr'->(∀hs Vs,Dem P.alt D.Ns D.Ts hs Vs->jN P D Post be Vr' hs Vs)\/((∀n b s q tm,Vr.heap[D.cr]?=J (.chan n b Y s q tm)->b.toList=[])/\∃h1 cc s V1 es,stepG P.alt Y hr (Vr.on τ d)=.comm h1 cc Y s V1 es))
  (bk:gK P D Post hr Vr)
  (c5:(NB [trap P.alt] hs/\∀τ d,(∃bo Vs',LS P.alt hs (Vs.on τ d) bo Vs')/\∀bo Vs',LS P.alt hs (Vs.on τ d) bo Vs'->Dem P.alt D.Ns D.Ts bo Vs'/\jN P D Post hr Vr bo Vs')\/D.Ts hs Vs):jN P D Post hr Vr hs Vs:=by
 intro gs W sl t qs ρ ρr ρs x0 xk L Ls buf X n s q tm f1 f2 RP SP r a7 ar ai hF hH h0 hk hL hP;obtain⟨B,hM⟩:∃B,sumTo gs.size qs+f1+f2<=B:=⟨_,Q0⟩;induction B using Sq generalizing gs W sl t qs x0 xk ρ ρr ρs f1 f2 with
 |_ B ih=>
  have hkpos:=Nat.pos_of_ne_zero f.k0;have bv:=(eS h0).1;have a1:=(eS hk).1;have d5:∀y∈gs,awake y:=λy hy=>by
   obtain⟨i,hi,rfl⟩:=Sh.1 hy;by_cases c4:i=0
   subst c4;have:gs[0]=x0:=by simpa[eG hi]using h0
   rw[this];exact xb (RP.status.imp id Rf);by_cases b8:i=D.k
   subst b8;have:gs[D.k]=xk:=by simpa[eG hi]using hk
   rw[this];exact xb (SP.status.imp id Rf);exact xb ((hL.old i _ (by omega) b8 (eG hi)).status.elim Rf λx=>Rg (Rg x))
  have c6:∃ (i:H) (g:Wk),gs[i]?=J g/\g.status=Ri:=by
   cases RP with
   |run R _ _=>exact⟨0,_,h0,R.run⟩
   |pre _ R _ _ _ hy=>exact⟨0,_,h0,hy.status R.run⟩
   |park A hb _ _=>
    cases SP with
    |run p=>exact⟨_,_,hk,p.go.status.2⟩
    |new p _ ad=>exact⟨_,_,hk,ad⟩
    |park _ _ _ hf=>rw[hb]at hf;simp at hf;omega
   |last A hb _=>
    cases SP with
    |run p=>exact⟨_,_,hk,p.go.status.2⟩
    |new p _ ad=>exact⟨_,_,hk,ad⟩
    |park _ _ _ hf=>rw[hb]at hf;simp at hf;omega
  obtain⟨i,x,d,aa,hi,hx,ad⟩:=xv (P:=P) (w:=W) (sl:=sl) d5 c6;by_cases c4:i=0
  subst c4;obtain rfl:x0=x:=by rw[h0]at hi;exact oJ hi
  cases RP with
  |park A _ _ _=>cases hx
  |last A _ _=>cases hx
  | @pre h g _ V _ k R hd hp a9 hy=>
   rcases hy.next with rfl|⟨bt,k',rfl,b4⟩
   exact ih (sumTo gs.size qs+1+f2) (by omega) gs W sl t qs ρ ρr ρs x0 xk 1 f2 (.run R hd hp) SP r hF hH h0 hk hL hP Q0;obtain⟨y',es,hg,av,eg⟩:=b4 d;obtain⟨a6,b9,e1,e2,e3,e4,e5,e6⟩:=rl (K:=λi=>i=D.k) hL hi (Rf rfl) ad (show stepG P (0==0) x0 (W.at d)=_ from hg);subst e2;have SP1:jh D ρs (W.at d) n buf hs Vs xk Ls f2:=SP.stays rfl (λ_ _ _ _=>rfl) rfl;exact Fin.next e1 (ih (sumTo a6.size qs+(k'+2)+f2) (by rw[e3];omega) a6 (W.at d) aa _ qs ρ ρr ρs y' xk (k'+2) f2 (.pre k' (R.at d) hd hp a9 eg) SP1 r hF (hH.at d) e4 (by rw[e5 D.k xk f.k0 hk,io (SP1.again (w:=W.at d) r)]) e6 (hP.app (Ren.le_refl _) hF Q0 (mw (R.at d).NK.NG (Af a9.1 av) 0 _ _)) Q0)
  | @run h _ V _ R hd hp=>
   obtain⟨h',V',hl,ap,af⟩:=vB f R hd hp d;obtain⟨be,Vr',cv⟩:=eb W.tape d;have b4:=hn _ _ _ _ cv;obtain⟨g1,W1,es,ρ',ρr',m,c2⟩:=Ad f R dj d hl cv;have c0:=SP.lt;have ab:=m.N3 hF c0;have a0:=hH.Qx m c0;have bw:=m.Nx.size;have r1:m9 W1 D.c n buf Z s q tm:=by
    obtain⟨a,k1,k2⟩:=r;exact⟨a,m.row.t k1,k2⟩
   have SP1:=SP.stays m.Nx.os (m.left hF c0 (λy k=>by rw[R.PM y k];exact R.NK.pair)) m.row;rcases c2 with⟨hg,R'⟩|⟨h1,hr1,V1,Vr1,z,sh,hg,A⟩;have hC:∀hs Vs,Dem P.alt D.Ns D.Ts hs Vs->jN P D Post be Vr' hs Vs:=by
    rcases b4 with k|⟨-,_,_,_,_,_,k⟩;exact k;exfalso;obtain⟨-,sr⟩:=oY f.zero f.count Y R.NK.go (λe=>dj (R.NK.go.callers.tail e)) R.NK.NG R.NK.gid R.NK.ext R.Oa.1 d rfl cv;rw[k,hg]at sr;cases sr
   obtain⟨a6,b9,e1,e2,e3,e4,e5,e6⟩:=rl (K:=λi=>i=D.k) hL hi (Rf rfl) ad (show stepG P (0==0) x0 (W.at d)=_ from hg);subst e2;exact Fin.next e1 (hC hs Vs b1 a6 W1 aa _ qs ρ' ρr' ρs g1 xk L Ls buf X n s q tm 1 f2 (.run R' ap af) SP1 r1 a7 ar ai ab a0 e4 (by rw[e5 D.k xk f.k0 hk,io (SP1.again r1)]) e6 (hP.app m.Qp ab bw (mw R'.NK.NG m.ev 0 _ _)))
   obtain⟨a,G,T⟩:=r1;have ac:=(eS G).1;have av:=mw A.Og.NK.NG m.ev 0 x0.frame.fn x0.frame.place;have a4:=hP.app m.Qp ab bw av;have aj:=hg;cases buf with
   |nil=>
    have bi:Rm xk D.c Y=[]:=by
     cases SP1 with
     |run p=>exact sT (by rw[p.go.status.2];exactλh=>by cases h) _ _
     |new p _ ad=>exact sT (by rw[ad];exactλh=>by cases h) _ _
     |park _ _ _ hf=>simp at hf;omega
    have ha:=Si.1 (by simpa using T);subst ha;have al:=Rr (sl:=aa) (i:=0) hi aj (λcc bl=>by
     simp at bl;subst bl;exact Conc.ways_recv_none G (ji hL (Rf ⟨rfl,rfl⟩) hk D.c Y bi))
    have bx:Lv P (λi=>i=D.k) (t++sq 0 x0.frame.fn x0.frame.place es) (gs.setIfInBounds 0 (parked g1 #[rcase D.c z] sh)) qs:=hL.put (λop F=>(av op F).2.2.1) (by simp) (λj hj _=>sN (by omega));have c8:(gs.setIfInBounds 0 (parked g1 #[rcase D.c z] sh))[D.k]?=J xk:=by rw[sN (by omega)];exact hk
    have d2:(gs.setIfInBounds 0 (parked g1 #[rcase D.c z] sh))[0]?=J (parked g1 #[rcase D.c z] sh):=by simp[bv]
    refine Fin.next (ad.t al) ?_
    cases L with
    |nil=>exact ih (sumTo gs.size qs+0+f2) (by omega) _ W1 aa _ qs ρ' ρr' ρs _ xk 0 f2 (.last A rfl af) SP1 ⟨_,G,T⟩ ab a0 d2 c8 bx a4 (by simp)
    |cons v L=>
     have hC:∀hs Vs,Dem P.alt D.Ns D.Ts hs Vs->jN P D Post be Vr' hs Vs:=by
      rcases b4 with k|⟨k,-⟩;exact k;exfalso;obtain⟨n0,b0,s0,q0,da,k1,k2⟩:=R.NK.row;rw[k _ _ _ _ _ k1]at k2;cases k2
     exact hC hs Vs b1 _ W1 aa _ qs ρ' ρr' ρs _ xk (v::L) Ls [] X n s q tm 0 f2 (.park A rfl ap af) SP1 ⟨_,G,T⟩ a7 ar ai ab a0 d2 c8 bx a4
   |cons v b3=>
    obtain⟨L',rfl⟩:=Ah ar (ai▸(SP.pre f b1 r));have hC:∀hs Vs,Dem P.alt D.Ns D.Ts hs Vs->jN P D Post be Vr' hs Vs:=by
     rcases b4 with k|⟨k,-⟩;exact k;exfalso;obtain⟨n0,b0,s0,q0,da,k1,k2⟩:=R.NK.row;rw[k _ _ _ _ _ k1]at k2;cases k2
    have hv:v∈D.L:=by rw[ai];simp
    have bs:0<a.size:=by rw[<-lY,T];simp
    have cd:a.getD 0 Wo=v:=by rw[gD,<-gT,T];rfl
    have cp:(a.extract 1 a.size).toList=b3:=by
     have hl:a.toList.length=a.size:=lY;rw[Sk,T]at *;simp at hl ⊢;rw[<-hl];simp
    have dc:Rm xk D.c Y=[]->(∀W2:Wj,W2.os=W1.os->(∀b,b≠D.c->W2.heap[b]?=W1.heap[b]?)->∀b' s' q',m9 W2 D.c n b' Z s' q' tm->jh D ρs W2 n b' hs Vs xk Ls f2)->Fin P Post gs W sl t:=λbi d7=>by
     have al:=RB (sl:=aa) (i:=0) hi aj G bs (ji hL (Rf ⟨rfl,rfl⟩) hk D.c Y bi);rw[cd]at al;have r2:=eF W1 D.c n (a.extract 1 a.size) Z s (q+1) tm ac;rw[cp]at r2;have hu:∀op∈[({g:=0,fn:=g1.frame.fn,pos:=g1.frame.place,act:=.recv D.c q n}:MemOp),{g:=0,fn:=g1.frame.fn,pos:=g1.frame.place,act:=.recvDone D.c q}],(op.g=0\/op.g=D.k)/\dK W1.heap.size op.act:=λop F=>by
      simp at F;rcases F with rfl|rfl<;>exact⟨Rf rfl,ac⟩
     refine Fin.next (ad.t al) (hC hs Vs b1 _ _ aa _ qs ρ' ρr' ρs _ xk L' Ls b3 (X++[v]) n s (q+1) tm 1 f2 (.run (A.take f hv (W':=W1.setChan D.c n (a.extract 1 a.size) Z s (q+1) tm) rfl (λb hb=>aU _ _ _ _ _ _ _ _ hb) ⟨a,G,T⟩ r2) ap af) (d7 (W1.setChan D.c n (a.extract 1 a.size) Z s (q+1) tm) rfl (λb hb=>aU _ _ _ _ _ _ _ _ hb) _ _ _ r2) r2 a7 (by rw[ar];simp) (by rw[ai];simp) ab a0.set (by simp[bv]) (by rw[sN (by omega)];exact hk) (hL.put (λop F=>?_) (by simp) (λj hj _=>sN (by omega))) ?_)
     rcases Sd.1 F with k|k;exact(av op k).2.2.1;exact(hu op (by simpa using k)).2.still;rw[<-Se,de];exact PhT.ops ab _ _ a4 hu
    cases SP1 with
    |run p=>exact dc (sT (by rw[p.go.status.2];exactλh=>by cases h) _ _) (λW2 b6 hb b' s' q' r2=>.run (p.other b6 (λ_ b _ k=>hb b k) ⟨a,G,T⟩ r2))
    |new p hy bt=>exact dc (sT (by rw[bt];exactλh=>by cases h) _ _) (λW2 b6 hb b' s' q' r2=>.new (p.other b6 (λ_ b _ k=>hb b k) ⟨a,G,T⟩ r2) hy bt)
    | @park h1s s1 V1s _ cc v1 z1 p rc lc hf=>
     have al:=p8 (sl:=aa) (i:=0) (j:=D.k) hi aj G bs f.k0 hk (rO hL (Rf ⟨rfl,rfl⟩) f.k0 hk D.c Y (by rw[Conc.offersAt_parked_send];simp));rw[cd]at al;have r2:=eF W1 D.c n ((a.extract 1 a.size).push v1) Z (s+1) (q+1) tm ac;rw[Sj,cp]at r2;obtain⟨v0,ct,S2⟩:=p.push rc lc (W':=W1.setChan D.c n ((a.extract 1 a.size).push v1) Z (s+1) (q+1) tm) rfl (λb hb=>aU _ _ _ _ _ _ _ _ hb) ⟨a,G,T⟩ r2;have bd:Ls++[v0] <+:D.L:=by
      obtain⟨_,_,_,_,_,k1,k2⟩:=S2.row;exact k2▸(f.pre b1 _ _ _ _ _ _ k1).2
     obtain rfl:v1=v0:=(f.flat v0 (bd.subset (by simp)) ρs).2 v1 ct;have hu:∀op∈[({g:=0,fn:=g1.frame.fn,pos:=g1.frame.place,act:=.recv D.c q n}:MemOp),{g:=0,fn:=g1.frame.fn,pos:=g1.frame.place,act:=.recvDone D.c q},{g:=D.k,fn:=s1.frame.fn,pos:=s1.frame.place,act:=.send D.c s},{g:=D.k,fn:=s1.frame.fn,pos:=s1.frame.place,act:=.sendDone D.c s}],(op.g=0\/op.g=D.k)/\dK W1.heap.size op.act:=λop F=>by
      simp at F;rcases F with rfl|rfl|rfl|rfl;exact⟨Rf rfl,ac⟩;exact⟨Rf rfl,ac⟩;exact⟨Rg rfl,ac⟩;exact⟨Rg rfl,ac⟩
     refine Fin.next (ad.t al) (hC hs Vs b1 _ _ aa _ qs ρ' ρr' ρs _ (s1.finishComm P #[scase D.c v1 z1] .send 0 Wo Z) L' (Ls++[v1]) (b3++[v1]) (X++[v]) n (s+1) (q+1) tm 1 1 (.run (A.take f hv (W':=W1.setChan D.c n ((a.extract 1 a.size).push v1) Z (s+1) (q+1) tm) rfl (λb hb=>aU _ _ _ _ _ _ _ _ hb) ⟨a,G,T⟩ r2) ap af) (.run S2) r2 a7 (by rw[ar];simp) (by rw[ai];simp) ab a0.set (by simp[bv]) (by rw[sN (by omega)];simp[a1]) (hL.put (λop F=>?_) (by simp) (λj hj a3=>by rw[sN (by omega),sN (λe=>a3 e.s)])) ?_)
     rcases Sd.1 F with k|k;exact(av op k).2.2.1;exact(hu op (by simpa using k)).2.still;rw[<-Se,de];exact PhT.ops ab _ _ a4 hu
  by_cases b8:i=D.k
  subst b8;obtain rfl:xk=x:=by rw[hk]at hi;exact oJ hi
  have b2:=beq_eq_false_iff_ne.2 f.k0;obtain⟨⟨hchr,hpr⟩,df,dy⟩:=RP.ch;have cj:∀y,ρs.ch y->ρs y D.c:=λy k=>by rw[(SP.ch.1 y).1 k];exact SP.ch.2
  cases SP with
  |park _ _ _ _=>cases hx
  | @new _ s0 _ p hy bt=>
   obtain⟨a6,b9,e1,e2,e3,e4,e5,e6⟩:=rl (K:=λi=>i=D.k) hL hi (Rg rfl) ad (show stepG P (D.k==0) xk (W.at d)=.go s0 (W.at d) #[]by rw[b2];exact hy _);subst e2;rw[jM,Sg]at e6;rw[jM]at e1;refine Fin.next e1 (ih (sumTo a6.size qs+f1+1) (by rw[e3];omega) a6 (W.at d) aa _ qs ρ ρr ρs x0 s0 f1 1 (RP.stays rfl (λ_ _ _ _=>rfl) (λ_ _ _ _=>rfl) rfl) (.run (p.stays rfl (λ_ _ _ _=>rfl) rfl)) r hF (hH.at d) ?_ e4 ?_ ?_ Q0)
   rw[e5 0 x0 (by omega) h0,io (RP.again (w:=W.at d) r)];rw[Sg];exact e6;rw[Sg];exact hP
  |run p=>
   rcases c5 with⟨c9,c1⟩|d4;obtain⟨⟨bo,Vs',hl⟩,dd⟩:=c1 W.tape d;obtain⟨cm,hO⟩:=dd _ _ hl;obtain⟨s1,W1,es,ρs',m,c2⟩:=G6 f p c9 d hl (λn b cl s q tm k=>(f.pre cm _ _ _ _ _ _ k).1);have ab:=m.N3 hF dy;have a0:=hH.snd m df;have bw:=m.Nx.size;have RP1:=RP.stays m.Nx.os (m.left hH.half df cj) (m.left hF.half dy cj) m.row;have r1:m9 W1 D.c n buf Z s q tm:=by
    obtain⟨a,k1,k2⟩:=r;exact⟨a,m.row.t k1,k2⟩
   rcases c2 with⟨hg,S'⟩|⟨h1,V1,cc,v,z,hg,S1,rc,lc⟩|⟨r',v,z,n',b',s',q',tm',hg,d0,S'⟩;obtain⟨a6,b9,e1,e2,e3,e4,e5,e6⟩:=rl (K:=λi=>i=D.k) hL hi (Rg rfl) ad (show stepG P (D.k==0) xk (W.at d)=_ by rw[b2];exact hg);subst e2;exact Fin.next e1 (hO a6 W1 aa _ qs ρ ρr ρs' x0 s1 L Ls buf X n s q tm f1 1 RP1 (.run S') r1 a7 ar ai ab a0 (by rw[e5 0 x0 (by omega) h0,io (RP1.again r1)]) e4 e6 (hP.s.app m.le ab.s bw (mw S'.NG m.ev D.k _ _)).s)
   obtain⟨a,G,T⟩:=r1;have ac:=(eS G).1;have av:=mw S1.NG m.ev D.k xk.frame.fn xk.frame.place;have a4:=(hP.s.app m.le ab.s bw av).s;have aj:stepG P (D.k==0) xk (W.at d)=.comm s1 #[scase D.c v z] Y .send W1 es:=by rw[b2];exact hg
   have bp:∀ (W2:Wj),W2.os=W1.os->(∀b,b≠D.c->W2.heap[b]?=W1.heap[b]?)->∀n' b' s' q',m9 W2 D.c n' b' Z s' q' tm->Ls++[v] <+:D.L/\Snd P ([trap P.alt],D.Bs) ρs' bo (s1.finishComm P #[scase D.c v z] .send 0 Wo Z) Vs' W2 D.cs D.c (Ls++[v]):=λW2 b6 hb n' b' s' q' r2=>by
    obtain⟨v0,ct,S2⟩:=S1.push rc lc b6 hb ⟨a,G,T⟩ r2;have bd:Ls++[v0] <+:D.L:=by
     obtain⟨_,_,_,_,_,k1,k2⟩:=S2.row;exact k2▸(f.pre cm _ _ _ _ _ _ k1).2
    obtain rfl:v=v0:=(f.flat v0 (bd.subset (by simp)) ρs').2 v ct;exact⟨bd,S2⟩
   have bb:∀y,(gs.setIfInBounds D.k y)[0]?=J x0:=λy=>by rw[sN f.k0];exact h0
   have lv:∀ (y:Wk) (u:Trace),(∀op∈u,dK W1.heap.size op.act)->Lv P (λi=>i=D.k) (t++(sq D.k xk.frame.fn xk.frame.place es++u)) (gs.setIfInBounds D.k y) qs:=λy u hu=>hL.put (λop F=>by
    rcases Sd.1 F with k|k;exact(av op k).2.2.1;exact(hu op k).still) (by simp) (λj hj a3=>sN (λe=>a3 e.s))
   cases RP1 with
   |last A hb hp=>
    subst hb;obtain⟨k1,-⟩:=bp W1 rfl (λ_ _=>rfl) n [] s q ⟨a,G,T⟩;rw[ar,ai]at k1;have:=k1.length_le;simp at this;omega
   | @park ef dt g1 h' V1' Vr1' V' vL z' L' sh A hb ap af=>
    subst hb;have r2:=eF W1 D.c n a Z (s+1) (q+1) tm ac;rw[T]at r2;obtain⟨k1,S2⟩:=bp (W1.setChan D.c n a Z (s+1) (q+1) tm) rfl (λb hb=>aU _ _ _ _ _ _ _ _ hb) n [] (s+1) (q+1) r2;obtain⟨L2,ea⟩:=Ah (a:=Ls++[v]) (b:=[]) (c:=X) (v:=v) (l:=vL::L') (by rw[ar];simp) (ai▸k1);cases ea;have hu:∀op∈[({g:=D.k,fn:=s1.frame.fn,pos:=s1.frame.place,act:=.send D.c s}:MemOp),{g:=0,fn:=g1.frame.fn,pos:=g1.frame.place,act:=.recv D.c q n},{g:=D.k,fn:=s1.frame.fn,pos:=s1.frame.place,act:=.sendDone D.c s},{g:=0,fn:=g1.frame.fn,pos:=g1.frame.place,act:=.recvDone D.c q}],(op.g=0\/op.g=D.k)/\dK W1.heap.size op.act:=λop F=>by
     simp at F;rcases F with rfl|rfl|rfl|rfl;exact⟨Rg rfl,ac⟩;exact⟨Rf rfl,ac⟩;exact⟨Rg rfl,ac⟩;exact⟨Rf rfl,ac⟩
    refine Fin.next (ad.t (Conc.crowd_send_meets (sl:=aa) (i:=D.k) (j:=0) hi aj G (Ne.s f.k0) h0 (rO hL (Rg ⟨rfl,rfl⟩) f.k0 h0 D.c Z (by rw[Conc.offersAt_parked_recv];simp)))) (hO _ _ aa _ qs ρ ρr ρs' (g1.finishComm P #[rcase D.c z'] sh 0 v Y) _ L' (Ls++[v]) [] (X++[v]) n (s+1) (q+1) tm 1 1 (.run (A.take f (k1.subset (by simp)) (W':=W1.setChan D.c n a Z (s+1) (q+1) tm) rfl (λb hb=>aU _ _ _ _ _ _ _ _ hb) ⟨a,G,T⟩ r2) ap af) (.run S2) r2 a7 (by rw[ar];simp) (by rw[ai];simp) ab a0.set (by rw[sN f.k0];simp[bv]) (by simp[a1]) (hL.put (λop F=>?_) (by simp) (λj hj a3=>by rw[sN (λe=>a3 e.s),sN (by omega)])) ?_)
    rcases Sd.1 F with k|k;exact(av op k).2.2.1;exact(hu op (by simpa using k)).2.still;rw[<-Se,de];exact PhT.ops ab _ _ a4 hu
   | @run h' _ V' _ R ap af=>
    have cb:=ji (i:=D.k) hL (Rg ⟨rfl,rfl⟩) h0 D.c Z (sT (by rw[R.run];exactλh=>by cases h) _ _);by_cases bn:a.size<n
    have r2:=eF W1 D.c n (a.push v) Z (s+1) q tm ac;rw[Sj,T]at r2;obtain⟨k1,S2⟩:=bp (W1.setChan D.c n (a.push v) Z (s+1) q tm) rfl (λb hb=>aU _ _ _ _ _ _ _ _ hb) n (buf++[v]) (s+1) q r2;have R2:=R.other (W1:=W1.setChan D.c n (a.push v) Z (s+1) q tm) rfl (λb hb=>aU _ _ _ _ _ _ _ _ hb) ⟨a,G,T⟩ r2;have hu:∀op∈[({g:=D.k,fn:=s1.frame.fn,pos:=s1.frame.place,act:=.send D.c s}:MemOp),{g:=D.k,fn:=s1.frame.fn,pos:=s1.frame.place,act:=.sendDone D.c s}],(op.g=0\/op.g=D.k)/\dK W1.heap.size op.act:=λop F=>by
     simp at F;rcases F with rfl|rfl<;>exact⟨Rg rfl,ac⟩
    refine Fin.next (ad.t (Rx (sl:=aa) (i:=D.k) hi aj G bn cb)) (hO _ _ aa _ qs ρ ρr ρs' x0 _ L (Ls++[v]) (buf++[v]) X n (s+1) q tm 1 1 (.run R2 ap af) (.run S2) r2 a7 (by rw[ar];simp) ai ab a0.set (bb _) (by simp[a1]) (lv _ _ (λop F=>(hu op (by simpa using F)).2)) ?_)
    rw[<-Se,de];exact PhT.ops ab _ _ a4 hu;have a8:n<=a.size:=by omega
    have al:=Rr (sl:=aa) (i:=D.k) hi aj (λcc bl=>by
     simp at bl;subst bl;exact RE G a8 cb)
    refine Fin.next (ad.t al) (hO _ W1 aa _ qs ρ ρr ρs' x0 _ L Ls buf X n s q tm 1 0 (.run R ap af) (.park S1 rc lc (by rw[<-T,lY];exact a8)) ⟨a,G,T⟩ a7 ar ai ab a0 (bb _) (by simp[a1]) ?_ a4)
    have:=lv (parked s1 #[scase D.c v z] .send) #[] (λop F=>by simp at F);rw[Sg]at this;exact this
   | @pre h' g' _ V' _ k R ap af a9 hy=>
    have bi:Rm x0 D.c Z=[]:=sT (by rw[hy.status R.run];exactλh=>by cases h) _ _;have cb:=ji (i:=D.k) hL (Rg ⟨rfl,rfl⟩) h0 D.c Z bi;by_cases bn:a.size<n
    have r2:=eF W1 D.c n (a.push v) Z (s+1) q tm ac;rw[Sj,T]at r2;obtain⟨k1,S2⟩:=bp (W1.setChan D.c n (a.push v) Z (s+1) q tm) rfl (λb hb=>aU _ _ _ _ _ _ _ _ hb) n (buf++[v]) (s+1) q r2;have hu:∀op∈[({g:=D.k,fn:=s1.frame.fn,pos:=s1.frame.place,act:=.send D.c s}:MemOp),{g:=D.k,fn:=s1.frame.fn,pos:=s1.frame.place,act:=.sendDone D.c s}],(op.g=0\/op.g=D.k)/\dK W1.heap.size op.act:=λop F=>by
     simp at F;rcases F with rfl|rfl<;>exact⟨Rg rfl,ac⟩
    refine Fin.next (ad.t (Rx (sl:=aa) (i:=D.k) hi aj G bn cb)) (hO _ _ aa _ qs ρ ρr ρs' x0 _ L (Ls++[v]) (buf++[v]) X n (s+1) q tm (k+2) 1 (.pre k (R.other (W1:=W1.setChan D.c n (a.push v) Z (s+1) q tm) rfl (λb hb=>aU _ _ _ _ _ _ _ _ hb) ⟨a,G,T⟩ r2) ap af a9 (hy.rely (aU _ _ _ _ _ _ _ _ a9.2))) (.run S2) r2 a7 (by rw[ar];simp) ai ab a0.set (bb _) (by simp[a1]) (lv _ _ (λop F=>(hu op (by simpa using F)).2)) ?_)
    rw[<-Se,de];exact PhT.ops ab _ _ a4 hu;have a8:n<=a.size:=by omega
    have al:=Rr (sl:=aa) (i:=D.k) hi aj (λcc bl=>by
     simp at bl;subst bl;exact RE G a8 cb)
    refine Fin.next (ad.t al) (hO _ W1 aa _ qs ρ ρr ρs' x0 _ L Ls buf X n s q tm (k+2) 0 (.pre k R ap af a9 hy) (.park S1 rc lc (by rw[<-T,lY];exact a8)) ⟨a,G,T⟩ a7 ar ai ab a0 (bb _) (by simp[a1]) ?_ a4)
    have:=lv (parked s1 #[scase D.c v z] .send) #[] (λop F=>by simp at F);rw[Sg]at this;exact this
   have av:=mw S'.NG m.ev D.k xk.frame.fn xk.frame.place;have al:=p9 (sl:=aa) (i:=D.k) hi (show stepG P (D.k==0) xk (W.at d)=_ by rw[b2];exact hg) d0;exact Fin.next (ad.t al) (hO _ W1 aa _ qs ρ ρr ρs' x0 _ L Ls buf X n s q tm f1 1 RP1 (.run S') r1 a7 ar ai ab a0 (by rw[sN f.k0];exact h0) (by simp[a1]) (hL.put (λop F=>(av op F).2.2.1) (by simp) (λj hj a3=>sN (λe=>a3 e.s))) (hP.s.app m.le ab.s bw av).s)
   obtain⟨a,G,T⟩:=r;have ac:=(eS G).1;have d1:Ls=D.L:=by
    obtain⟨n0,b0,s0,q0,da,k1,k2⟩:=p.row;rw[<-k2];exact(f.ts hs Vs d4 _ _ _ _ _ _ k1).2
   have c3:buf=L:=by
    have:X++buf=X++L:=by rw[<-ar,<-ai,d1]
    exact List.append_cancel_left this
   obtain⟨g',d6,d8,hg,mQ,hQ⟩:=f.close hs Vs ρs xk (W.at d) d4 ((d1▸p).stays rfl (λ_ _ _ _=>rfl) rfl) n a s q tm G;have al:=Ry (P:=P) (sl:=aa) (i:=D.k) hi (show stepG P (D.k==0) xk (W.at d)=_ by rw[b2];exact hg);have hw:∀o,woken P xk g' (fP (W.at d) D.c n a s q tm) o=o.again (fP (W.at d) D.c n a s q tm):=λo=>by
    unfold RZ;rw[d6,d8];rfl
   have b7:m9 (fP (W.at d) D.c n a s q tm) D.c n L Y s q tm:=by
    have:=eF (W.at d) D.c n a Y s q tm ac;rw[T,c3]at this;exact this
   have ds:sq D.k xk.frame.fn xk.frame.place #[⟨.obj D.c,Z,Y⟩,⟨.obj D.c,Y,Y⟩]=#[{g:=D.k,fn:=xk.frame.fn,pos:=xk.frame.place,act:=.access ⟨.obj D.c,Z,Y⟩}]++#[{g:=D.k,fn:=xk.frame.fn,pos:=xk.frame.place,act:=.close D.c}]:=by rw[Conc.ofEvents_eq];simp[Sa]
   rw[ds]at al;have bq:∀op∈(#[{g:=D.k,fn:=xk.frame.fn,pos:=xk.frame.place,act:=.access ⟨.obj D.c,Z,Y⟩}]++#[{g:=D.k,fn:=xk.frame.fn,pos:=xk.frame.place,act:=.close D.c}]:Trace),op.act≠.mark .disable/\op.act≠.mark .enable:=λop F=>by
    simp at F;rcases F with rfl|rfl<;>exact⟨by simp,by simp⟩
   have a4:=(hP.s.app (u:=#[{g:=D.k,fn:=xk.frame.fn,pos:=xk.frame.place,act:=.access ⟨.obj D.c,Z,Y⟩}]) (Ren.le_refl _) hF.s Q0 (λop F=>by
    simp at F;subst F;refine⟨rfl,ac,⟨by simp,by simp⟩,λx hx=>?_⟩;simp[Sb]at hx;subst hx;exact⟨D.cs,p.pair,(λh=>by cases h),(λh=>by simp at h)⟩)).s
   have b5:(fP (W.at d) D.c n a s q tm).heap.size=W.heap.size:=de _ _ _ _ _ _ _ _;have d3:((gs.map (woken P xk g' (fP (W.at d) D.c n a s q tm))).setIfInBounds D.k g').size=gs.size:=by simp
   have bx:Lv P (λ_=>gI) (t++(#[{g:=D.k,fn:=xk.frame.fn,pos:=xk.frame.place,act:=.access ⟨.obj D.c,Z,Y⟩}]++#[{g:=D.k,fn:=xk.frame.fn,pos:=xk.frame.place,act:=.close D.c}])) ((gs.map (woken P xk g' (fP (W.at d) D.c n a s q tm))).setIfInBounds D.k g') (upd qs D.k mQ):=by
    refine⟨λj y hj _ hy=>?_,λj hj=>?_⟩;rw[cx t j _ bq];by_cases a3:D.k=j
    subst a3;rw[sS (by simpa using a1)]at hy;cases hy;rw[upd_same,hP.hq];exact hQ;rw[sN a3,Sf]at hy;obtain⟨z,hz,rfl⟩:=Tb.1 hy;have hq:=hL.old j z hj (λe=>a3 e.s) hz;rw[io (lH hq _),upd_ne qs mQ (Ne.s a3)];exact hq;rw[cx t j _ bq];exact hL.above j (by rw[d3]at hj;exact hj)
   have aj:((gs.map (woken P xk g' (fP (W.at d) D.c n a s q tm))).setIfInBounds D.k g')[0]?=J (x0.again (fP (W.at d) D.c n a s q tm)):=by
    rw[sN f.k0,Sf,h0];simp[hw]
   obtain⟨pc,ca⟩:∃pc,PhC D.c pc ρs (fP (W.at d) D.c n a s q tm).heap.size (t++(#[{g:=D.k,fn:=xk.frame.fn,pos:=xk.frame.place,act:=.access ⟨.obj D.c,Z,Y⟩}]++#[{g:=D.k,fn:=xk.frame.fn,pos:=xk.frame.place,act:=.close D.c}])):=by
    rw[b5,<-Se];exact⟨_,a4.close (y:={g:=D.k,fn:=xk.frame.fn,pos:=xk.frame.place,act:=.close D.c}) ⟨rfl,rfl⟩ ac⟩
   have a5:∀b,b≠D.c->(fP (W.at d) D.c n a s q tm).heap[b]?=W.heap[b]?:=λb hb=>aU _ _ _ _ _ _ _ _ hb
   refine Fin.next (ad.t al) ?_
   cases RP with
   | @run h' _ V' _ R ap af=>
    rw[(uc _ (Rf R.run))]at aj;exact bk _ _ aa _ _ ρ ρr ρs h' x0 V' L n s q tm _ (R.other rfl a5 ⟨a,G,T⟩ b7) ap af (λv hv=>by rw[ai];simp[hv]) b7 hF (hH.at d).o.shut (λy b k=>by rw[b5];exact(p.NG.lt k).2) aj bx ca
   |park A hb _ _=>rw[hb]at c3;cases c3
   | @pre h' g1 _ V' _ k R ap af a9 hy=>
    rw[(uc _ (Rf (hy.status R.run)))]at aj;exact BT bk ap af (λv hv=>by rw[ai];simp[hv]) hF a9.1 k _ _ aa _ _ x0 (R.other rfl a5 ⟨a,G,T⟩ b7) (hy.rely (a5 _ a9.2)) b7 (hH.at d).o.shut (λy b k=>by rw[b5];exact(p.NG.lt k).2) aj bx ca
   | @last ef dt g1 h' hr'' V1' Vr1' V' Vr'' z' sh A hb af=>
    obtain⟨a2,cu,ck⟩:=b7;rw[Conc.again_recv_closed cu]at aj;exact yy f af (sumTo _ (upd qs D.k mQ)) _ _ aa _ _ Q0 ⟨A.Og.other rfl a5 ⟨a,G,T⟩ ⟨a2,cu,ck⟩,A.sh,A.QM,A.rc,A.QG⟩ ⟨a2,cu,ck⟩ (hH.at d).o.shut aj bx ca
  have c7:∀j o,(j=0\/j=D.k)->gs[j]?=J o->o.again (W.at d)=o:=λj o hj ho=>by
   rcases hj with rfl|rfl;rw[h0]at ho;cases ho;exact RP.again (w:=W.at d) r;rw[hk]at ho;cases ho;exact SP.again (w:=W.at d) r
  obtain⟨a6,q',b9,e1,e2,e3,e4,e5,e6,-⟩:=slip (K:=λi=>i=D.k) hL hP (λt i fn pos es hi hk h hm=>h.mute hi hk hm) hi hx (by omega) b8 c7 ad;exact Fin.next e1 (ih _ (by omega) a6 (W.at d) aa (t++b9) q' ρ ρr ρs x0 xk f1 f2 (RP.stays rfl (λ_ _ _ _=>rfl) (λ_ _ _ _=>rfl) rfl) (SP.stays rfl (λ_ _ _ _=>rfl) rfl) r hF (hH.at d) ((e3 0 (Rf rfl)).t h0) ((e3 D.k (Rg rfl)).t hk) e4 e5 Q0)
theorem Ke(a:Ab P D Post){hr}{Vr}(G:Dem P.alt D.Nr D.Tr hr Vr):∀hs Vs,Dem P.alt D.Ns D.Ts hs Vs->jN P D Post hr Vr hs Vs:=by
 induction G with
 | @stop g w z=>
  have k:=vC a (.stop (N:=D.Nr) z);have⟨h1,F,A⟩:=a.tr g w z;have y:∀c d,∃f Vr',LS P.alt g (w.on c d) f Vr':=λc d=>by
   have⟨_,_,_,_,_,h',V',e,l⟩:=A c d;exact⟨h',V',.comm e l⟩
  have B:∀c d f Vr',LS P.alt g (w.on c d) f Vr'->(∀hs Vs,Dem P.alt D.Ns D.Ts hs Vs->jN P D Post f Vr' hs Vs)\/((∀n b s q L,w.heap[D.cr]?=J (.chan n b Y s q L)->b.toList=[])/\∃h1 cc s V1 es,stepG P.alt Y g (w.on c d)=.comm h1 cc Y s V1 es):=λc d f Vr' _=>Rg ⟨F,by
   have⟨_,_,_,_,_,h',V',e,l⟩:=A c d;exact⟨_,_,_,_,_,e⟩⟩
  intro hs Vs t;induction t with
  |stop j=>exact oZ a (.stop j) h1 y B k (Rg j)
  |step u r h m ih=>exact oZ a (.step u r h m) h1 y B k (Rf ⟨a.ns _ _ u,λc d=>⟨h c d,λi Vs' l=>⟨m c d i Vs' l,ih c d i Vs' l⟩⟩⟩)
 | @step g w u z h m v=>
  have k:=vC a (.step u z h m);intro hs Vs t;induction t with
  |stop j=>exact oZ a (.stop j) (a.nr g w u) h (λc d f Vr' l=>Rf (v c d f Vr' l)) k (Rg j)
  |step x r o p ih=>exact oZ a (.step x r o p) (a.nr g w u) h (λc d f Vr' l=>Rf (v c d f Vr' l)) k (Rf ⟨a.ns _ _ x,λc d=>⟨o c d,λi Vs' l=>⟨p c d i Vs' l,ih c d i Vs' l⟩⟩⟩)
end
section
variable {P:Wv} [Two P] {X:nF Wy×nF Wy} {A:Nat->Prop} {G:FuncId->ey} {g g':Wk} {w w':Wj}
theorem mt.grow(hZ:cC P)(hN:cJ P)(hG:G LF=Z){cs}(hA:A cs)(h:mt P X A G g w)(hl:LS P g w g' w'){s}{tm:ey}(hr:w.heap[cs]?=J (.chan n b' cl s q tm)):
  ∃F o j L q' l,w'.heap[cs]?=J (.chan F o j L q' l)/\((b'.toList <+:o.toList/\(cl=Y->j=Y))\/j=Y):=by
 obtain⟨⟨hrn,ρ,k,u,z,a,hI,hE,ho,hwi,⟨af,aa,ab⟩,hold,ad⟩,hb⟩:=h;have⟨b0,ac⟩:=aa cs hA;have B:∀ {ρ':Ren} {v v':Wj},Reach ρ ρ' w (u.on w.tape w.drawn) v v'->∃F o j L q' l,v.heap[cs]?=J (.chan F o j L q' l)/\((b'.toList <+:o.toList/\(cl=Y->j=Y))\/j=Y):=λR=>by
  rcases R.Pj.row cs b0 (by rw[af];exact hA) ac with⟨e,-⟩|⟨-,F,o,L,q',l,e⟩;exact⟨_,_,_,_,_,_,e.t hr,Rf ⟨List.prefix_refl _,λh=>h⟩⟩;exact⟨_,_,_,_,_,_,e,Rg Q⟩
 rcases(kz hZ hE hN hI Y z (λe=>hb (z.callers.tail e)) (a.onR w.tape w.drawn) (λi=>Q)).rel with⟨h1,-⟩|⟨-,m⟩|⟨f,_,_,_,_,_,_,_,_,_,_,_,A⟩
 rotate_left 2
 exact eW A.mark (ad f);cases hl with
 |go h hr hd=>
  rw[h]at h1;obtain⟨⟨d,f,e,-⟩,-⟩:=h1;rw[hd]at e;cases e
 |comm h _=>rw[h]at h1;exact h1.elim
 cases hl with
 |go h hr hd=>
  rw[h]at m;generalize stepG P Y k (u.on w.tape w.drawn)=y at m;cases m with
  |go es ρ' R hg he=>exact B R
 | @comm g1 c s1 w1 es _ _ h hc=>
  rw[h]at m;generalize stepG P Y k (u.on w.tape w.drawn)=y at m;cases m with
  | @comm _ k1 _ c' hC _ hs hrun _ u1 _ es' ρ' R hg hcc he _=>
   have p:c.send≠none:=λe=>by have:=hC.2 e;rw[ab,hG]at this;cases this
   have⟨n1,b1,cl1,s1',T,tm1,V,e2⟩:=B R;cases hc with
   |recv T D x q4=>exact eW D p
   |shut T D x=>exact eW D p
   |dead T D x=>exact⟨_,_,_,_,_,_,V,e2⟩
   | @send r cap NQ rcvd buf tm0 v0 T D x q4=>
    by_cases e:r=cs
    subst e;rw[V]at x;cases x;refine⟨_,_,_,_,_,_,sS ((eS V).1),?_⟩;rcases e2 with⟨k1,k2⟩|k;exact Rf ⟨k1.t (by rw[Sj];exact Ti _ _),k2⟩;cases k;exact⟨_,_,_,_,_,_,by simp only[sN e];exact V,e2⟩
end
theorem nk{b:Type}{p c:b->ey}(hp:∀a,p a=Y->c a=Y){l:dT b}(h:l.all p=Y):l.all c=true:=by grind
section
variable {P:Wv} {F F':FuncId->ey} (hF:∀f,F f=true->F' f=true)
include hF
theorem nl{x:Operand}(h:okX P F x=Y):okX P F' x=true:=by
 cases x with
 |func f=>exact hF f h
 |_=>exact h
theorem Ai{b:Builtin}(h:GJ F b=Y):GJ F' b=true:=by
 unfold GJ at h ⊢
 grind
theorem np{c:Call}(h:mm P F c=Y):mm P F' c=true:=by
 unfold mm at h ⊢;rw[bT]at h ⊢;refine⟨?_,nk (λ_=>nl hF) h.2⟩;have h1:=h.1;cases d:c.callee with
 |builtin b=>rw[d]at h1;simp at h1 ⊢;exact⟨Ai hF h1.1,h1.2⟩
 |value f=>rw[d]at h1;exact nl hF h1
 |invoke a b=>rw[d]at h1;exact h1
theorem yA{c:Call}(h:nb P F c=Y):nb P F' c=true:=by
 unfold nb at h ⊢;rw[Bool.or_eq_true,bT]at h ⊢;refine h.imp (np hF) (λh=>⟨?_,nk (λ_=>nl hF) h.2⟩);have h1:=h.1;split at h1
 rw[bT]at h1 ⊢;exact⟨hF _ h1.1,h1.2⟩;cases h1
theorem Aj{o:Op}(h:iD P F o=Y):iD P F' o=true:=by
 have e:∀ {x:Operand},okX P F x=Y->okX P F' x=true:=λh=>nl hF h
 have j:∀ {x:eV Operand},x.all (okX P F)=Y->x.all (okX P F')=true:=fun{x} h=>by
  cases x with
  |none=>rfl
  |some x=>exact e h
 cases o with
 |makeFunc f a c=>
  cases f with
  |func f=>
   simp[iD]at h ⊢
   grind
  |_=>exact h
 |makeMap t r=>cases r<;>exact h
 |call c=>exact yA hF h
 |defer c=>simp[iD]at h ⊢;exact⟨h.1.imp (hF _) (hF _),np hF h.2⟩
 |go c=>simp[iD]at h ⊢;exact⟨hF _ h.1,np hF h.2⟩
 |slice t x lo hi mx=>simp[iD]at h ⊢;exact⟨⟨⟨e h.1.1.1,j h.1.1.2⟩,j h.1.2⟩,j h.2⟩
 |build t l=>exact nk (λ_=>e) h
 |buildSlice t n l=>exact nk (λ_=>e) h
 |recv t x b=>simp[iD]at h ⊢;exact⟨hF _ h.1,e h.2⟩
 |makeChan t x=>simp[iD]at h ⊢;exact⟨hF _ h.1,e h.2⟩
 |send a x=>simp[iD]at h ⊢;exact⟨⟨hF _ h.1.1,e h.1.2⟩,e h.2⟩
 |pick a b c=>simp[iD]at h ⊢;exact⟨⟨e h.1.1,e h.1.2⟩,e h.2⟩
 |binOp op t a x r=>simp[iD]at h ⊢;exact⟨⟨e h.1.1,e h.1.2⟩,h.2⟩
 |store t a x=>simp[iD]at h ⊢;exact⟨e h.1,e h.2⟩
 |makeSlice t a x=>simp[iD]at h ⊢;exact⟨e h.1,e h.2⟩
 |indexAddr t a x=>simp[iD]at h ⊢;exact⟨e h.1,e h.2⟩
 |index t a x=>simp[iD]at h ⊢;exact⟨e h.1,e h.2⟩
 |convert s d x=>simp[iD]at h ⊢;exact⟨h.1,e h.2⟩
 |lookup t x i b=>simp[iD]at h ⊢;exact⟨⟨h.1.1,e h.1.2⟩,e h.2⟩
 |mapUpdate t m k x=>simp[iD]at h ⊢;exact⟨⟨⟨h.1.1.1,e h.1.1.2⟩,e h.1.2⟩,e h.2⟩
 |_=>first|exact e h|exact h
theorem gu:∀ {c:Code},aP P F c=Y->aP P F' c=true:=by
 intro c;induction c with
 |region id ops d=>intro h;exact nk (λ_=>Aj hF) h
 |seq a b e i=>intro h;simp[aP]at h ⊢;exact⟨e h.1,i h.2⟩
 |cond c a b e i=>intro h;simp[aP]at h ⊢;exact⟨⟨nl hF h.1.1,e h.1.2⟩,i h.2⟩
 |block id a ih=>intro h;exact ih h
 |loop a ih=>intro h;exact ih h
 |scope a ih=>intro h;exact ih h
 |rangeFunc f ps a b e i=>intro h;simp[aP]at h ⊢;exact⟨⟨nl hF h.1.1,e h.1.2⟩,i h.2⟩
 |_=>intro h;exact h
end
structure Ren.PY (ρ ρ':Ren):Prop where
 rel:∀a b,ρ a b->ρ' a b
 prog:ρ'.prog=ρ.prog
 F:∀f,ρ.F f=Y->ρ'.F f=Y
 bad:ρ'.bad=ρ.bad
section
variable {ρ ρ':Ren} (l:ρ.PY ρ')
include l
theorem RA.re{a a'}(h:RA ρ a a'):RA ρ' a a':=⟨l.rel _ _ h.1,h.2⟩
theorem RAo.re{a a':eV Wu}(h:RAo ρ a a'):RAo ρ' a a':=by
 cases h with
 |none=>exact .none
 |some h=>exact .some (RA.re l h)
theorem RNo.re{a a':eV H}(h:RNo ρ a a'):RNo ρ' a a':=by
 cases h with
 |none=>exact .none
 |some h=>exact .some (l.rel _ _ h)
theorem RFn.re{a a':Fn}(h:RFn ρ a a'):RFn ρ' a a':=by
 cases h with
 |func f h=>exact .func f (l.F _ h)
 |yield h=>exact .yield (l.rel _ _ h)
theorem RV.re{v':Wx}(h:RV ρ v v'):RV ρ' v v':=by
 induction h with
 |bool b=>exact .bool b
 |int k n=>exact .int k n
 |string s=>exact .string s
 |pointer h=>exact .pointer (RAo.re l h)
 |slice n c h=>exact .slice n c (RAo.re l h)
 |map h=>exact .map (RNo.re l h)
 |chan h=>exact .chan (RNo.re l h)
 |func i j d _ _ e f=>exact .func (RFn.re l i) j d e f
 |nilFunc=>exact .nilFunc
 |iface t _ ih=>exact .iface t ih
 |nilIface=>exact .nilIface
 |agg d _ ih=>exact .agg d ih
 |tuple d _ ih=>exact .tuple d ih
 |dead v' h=>exact .dead v' h
 |odd n s a c m=>exact .odd n s a c (m.t l.bad.s)
theorem RVs.re{c:dT Wx}(h:RVs ρ c c'):RVs ρ' c c':=⟨h.size,λi v a h1 b=>RV.re l (h.at_ i v a h1 b)⟩
theorem RT.re{a a':Target}(h:RT ρ a a'):RT ρ' a a':=by
 cases h with
 |fn d e=>exact .fn (RFn.re l d) (RVs.re l e)
 |nil=>exact .nil
 |builtin b f a c t cs=>exact .builtin b (Ai l.F f) a (by rw[l.prog];exact c) t cs
 |collected h=>exact .collected (l.rel _ _ h)
theorem RD.re{df a':Deferred}(h:RD ρ df a'):RD ρ' df a':=by
 cases h with
 |mk h1 b=>exact .mk (RT.re l h1) (RVs.re l b)
 |odd n v df s c a' d=>exact .odd n v df s c a' (d.t l.bad.s)
theorem RDs.re{a a'}(h:RDs ρ a a'):RDs ρ' a a':=by
 induction h with
 |nil=>exact .nil
 |cons h _ b ih=>exact .cons (RD.re l h) ih (b.imp id (λk=>by
  rw[Bool.or_eq_true]at k ⊢;exact k.imp (l.F _) (l.F _)))
theorem RL.re{a a':Loop}(h:RL ρ a a'):RL ρ' a a':=⟨h.state,h.pending,h.fn,RVs.re l h.tmps,h.params,h.assign,h.body,l.rel _ _ h.defers,by rw[l.prog];exact gu l.F h.QB,by rw[l.prog];exact gu l.F h.Pd,λc e=>by rw[l.prog];exact gu l.F (h.QW c e)⟩
theorem RMs.re{a a'}(h:RMs ρ a a'):RMs ρ' a a':=by
 induction h with
 |nil=>exact .nil
 |cons b c h _ ih=>exact .cons b (RV.re l c) (RV.re l h) ih
theorem RO.re(f:ρ'.F oD=ρ.F oD){a a':Obj}(h:RO ρ a a')(d:a.isChan=Y->RO ρ' a a'):RO ρ' a a':=by
 cases h with
 |cells e i h=>exact .cells e (by rw[f];exact i) (RVs.re l h)
 |chan=>exact d rfl
 |map c h=>exact .map c (RMs.re l h)
 |stringIter s n=>exact .stringIter s n
 |loop h=>exact .loop (RL.re l h)
 |deferred h=>exact .deferred (RDs.re l h)
 |taken=>exact .taken
 |number b h=>exact .number b (RA.re l h)
 |dead _ h=>exact .dead _ h
variable {P:Wv}
theorem RI.re{i i':Item}(h:RI P ρ i i'):RI P ρ' i i':=by
 cases h with
 |code h=>exact .code (gu l.F h)
 |inBlock id=>exact .inBlock id
 |inLoop h=>exact .inLoop (gu l.F h)
 |inScope h=>exact .inScope (gu l.F h)
 |inRegion k h=>exact .inRegion k (nk (λ_=>Aj l.F) h)
 |regionEnd a b=>exact .regionEnd a b
 |inRangeFunc h=>exact .inRangeFunc (l.rel _ _ h)
 |endRangeFunc h=>exact .endRangeFunc (l.rel _ _ h)
 |beginRound=>exact .beginRound
theorem RIs.re{k'}(h:RIs P ρ k k'):RIs P ρ' k k':=by
 induction h with
 |nil=>exact .nil
 |cons h _ ih=>exact .cons (RI.re l h) ih
theorem RPn.re{k k'}(h:RPn ρ k k'):RPn ρ' k k':=by
 induction h with
 |nil=>exact .nil
 |cons r g h _ ih=>exact .cons r g (RV.re l h) ih
theorem RM.re{m m':FrameMode}(h:RM ρ m m'):RM ρ' m m':=by
 cases h with
 |run=>exact .run
 |returning=>exact .returning
 |panicking h=>exact .panicking (RPn.re l h)
theorem RFr.re{f f'}(h:RFr P ρ f f'):RFr P ρ' f f':=⟨h.fn,RVs.re l h.tmps,RIs.re l h.todo,RDs.re l h.defers,RM.re l h.mode,h.early,RNo.re l h.round⟩
theorem RFs.re{X a}(f:RFs P ρ' a X.1 X.2)(c:2<=X.1.length)(hne:a.2.length<X.2.length){k k'}(h:RFs P ρ X k k'):RFs P ρ' a k k':=by
 induction h with
 |base=>exact f
 |cons h d b ih=>
  refine .cons (RFr.re l h) ⟨λ_=>d.1 (Rg c),λe=>?_⟩ ih;have:=b.len
  grind
theorem RGo.re{X a}(d:RFs P ρ' a X.1 X.2)(c:2<=X.1.length)(b:a.2.length<X.2.length){g'}(h:RGo P ρ X g g'):RGo P ρ' a g g':=by
 refine⟨RFr.re l h.frame,RFs.re l d c b h.callers,⟨λ_=>h.kind.1 (Rg c),λe=>?_⟩,h.status,h.dying,h.offers⟩;have:=h.callers.len
 grind
end
section
open Go.Conc (crowd Past EvL Deaf QuitsD)
variable {P:Wv} [Two P]
def Ren.back(ρ ρ0:Ren):Ren where
 rel:=ρ.rel
 fn:=ρ.fn
 inj:=ρ.inj
 prog:=ρ.prog
 F:=ρ0.F
 old:=λ_=>gI
 ch:=λ_=>gI
 loose:=Z
 wide:=Z
 tight:=λ_=>Q
 NT:=ρ.NT
 bad:=ρ.bad
 OU:=ρ.OU
theorem DW{D:PhD P}{Post:Wx->Wj->Prop}(v:∀a b,ρ0 a b->D.R0 a b)(j:GId P ρ0)(hE:iH P ρ0.F)(hS:ρ0.F i7=Z)(aa:ρ0.F nX=Z)(hF:∀f,D.Fp f=Y->ρ0.F f=Y)(A:ρ0.F oD=D.Fp oD)(ab:ρ0.bad=D.U.bad)(hX:RFs P ρ0 ([trap P.alt],[]) D.X.1 D.X.2)(h2:2<=D.X.1.length)(h3:0<D.X.2.length)
  (l:∀h V,LSs P.alt D.T D.h0 D.V0 h V->rM P D.U ρ0.F [] Post h V):
  ∀ρ h g V W n s q tm gs sl t qs,Side P D.X ρ h g V W D.cV D.c []->DV D ρ V W->Kp D.U W/\Off D.U ρ->W.heap[D.c]?=J (.chan n #[] Y s q tm)->LSs P.alt D.T D.h0 D.V0 h V->gs[0]?=J g->Lv P (λ_=>gI) t gs qs->Past gJ W.heap.size t->Fin P Post gs W sl t:=by
 intro ρ h g V W n s q tm gs sl t qs e d hU y hp h0 hL hP;have l0:ρ0.PY (ρ.back ρ0):=⟨λa b k=>d.base.1 a b (v a b k),(j.prog.t e.gid.prog.s).s,λf k=>k,hU.2.2.2.2.t ab.s⟩;have l1:ρ.PY (ρ.back ρ0):=⟨λa b k=>k,Q,λf k=>hF f (by rw[<-d.base.2];exact k),Q⟩;have G:RFs P (ρ.back ρ0) ([trap P.alt],[]) D.X.1 D.X.2:=by
  have R:∀ {k k':S Wy},RFs P ρ0 ([trap P.alt],[]) k k'->RFs P (ρ.back ρ0) ([trap P.alt],[]) k k':=λh=>by
   induction h with
   |base=>exact .base
   |cons h hk _ ih=>exact .cons (RFr.re l0 h) hk ih
  exact R hX
 refine l h V hp gs g W sl t qs (ρ.back ρ0) h0 hL hP ⟨RGo.re l1 G h2 h3 e.go,⟨λa b i=>?_,λa k=>k.elim,λc k=>k.elim,e.NG.os,λB a c0 hp=>e.NG.NT (by rw[d.base.2,<-A];exact B) a c0 hp⟩,⟨λg hg=>d.base.1 _ _ (v _ _ (j.NS g hg)),e.gid.prog,j.code,j.alt,λ_ _ k=>k,j.same,j.size,j.apart⟩,hE,hS,Q,⟨Q,Q⟩,⟨aa,λa b o i ho hc=>?_⟩,hU⟩
 rotate_left
 by_cases z:a=D.cV
 subst z;have⟨n1,b1,s1,L,m,p,x⟩:=e.row;rw[p]at ho;cases ho
 simp_all
 have⟨n1,s1,L,m,n2,s2,q2,p,x⟩:=d.rest a b (d.all a b o i ho hc) i z
 grind
 have⟨o,o',r,u,e3⟩:=e.NG.obj a b i;refine⟨o,o',r,u,RO.re l1 (by rw[d.base.2];exact A) e3 (λhc=>?_)⟩;by_cases z:a=D.cV
 subst z;obtain rfl:b=D.c:=ρ.fn _ _ _ i e.pair;have⟨n1,b1,s1,L,m,p,x⟩:=e.row;rw[p]at r;cases r;rw[y]at u;cases u;have B:=Si.1 (by simpa using x);subst B;cases e3;exact .chan _ _ _ _ _ _ _ _ _ (Rg RVs.nil) (Rg Q);have⟨n1,s1,L,m,n2,s2,q2,p,x⟩:=d.rest a b (d.all a b o i r hc) i z;rw[p]at r;cases r;rw[x]at u;cases u;exact .chan _ _ _ _ _ _ _ _ _ (Rg RVs.nil) (Rg Q)
end
section
open Go.Conc (crowd Past EvL Deaf QuitsD)
def eZ(P:Wv):Wy:={(default:Wy)with fn:=P.funcs.size,defers:=[],mode:=.panicking [goexitEntry]}
section
variable {P:Wv}
theorem yB w:stepG P Z {frame:=eZ P,callers:=[],status:=Ri,dying:=N} w=.go {frame:=eZ P,callers:=[],status:=.finished,dying:=N} w #[]:=by
 have a:(eZ P).catches P=false:=by
  have e:(eZ P).todo=[]:=rfl;unfold R8
  grind
 have e:stepG P Z {frame:=eZ P,callers:=[],status:=Ri,dying:=N} w=unwind P Z (eZ P) [] N w:=rfl;rw[e];unfold unwind;simp[a];rfl
theorem BU{fr}{fn}(d:P.funcs[fr.fn]?=J fn)(hr:fn.results=#[])(c:fr.mode=.returning)(b:fr.defers=[])w:stepG P Z {frame:=fr,callers:=[eZ P],status:=Ri,dying:=N} w=.go {frame:=eZ P,callers:=[],status:=Ri,dying:=N} w #[]:=by
 have e:(results fn fr.tmps).runT P w #[]=(.ok (Re #[]) w,#[]):=by
  unfold results
  simp_all
 have f:SD P Z fr [eZ P] N (Re #[]) w=.go {frame:=eZ P,callers:=[],status:=Ri,dying:=N} w #[]:=by
  unfold SD;cases h:fr.kind<;>rfl
 simp only[stepG,c,unwind,b,d,e,f,je,eU]
theorem BV{fr}{fn}(c:P.funcs[fr.fn]?=J fn)(hr:fn.results=#[])(b:fr.mode=.returning)(a:fr.defers=[]):QuitsD P 2 0 {frame:=fr,callers:=[eZ P],status:=Ri,dying:=N}:=
 .inr ⟨Q,_,#[],by simp,BU c hr b a,Rg ⟨Q,_,#[],by simp,yB,Q,Q⟩⟩
theorem vD{c s}{tm:ey}(at_:dT SO)(t:SO)(cs:dT ey)(h:W.heap[c]?=J (.chan n c' Z s q tm)):(invoke (.builtin .close at_ t cs) #[.chan (J c)]).runT P W #[]=(.ok (.value (Re #[])) (fP W c n c' s q tm),#[⟨.obj c,Z,Y⟩,⟨.obj c,Y,Y⟩]):=by
 show SQ P (SW c _) W #[]=_;simp only[SQ,h];show SQ P (SX c (.chan n c' Y s q tm) _) W _=_;simp only[SQ,h];rfl
variable [Two P]
def Kf(P:Wv) [Two P](f:SB)(cs:H)(h:Wk):Prop:=
 h.callers=[trap P.alt]/\h.frame.fn=f/\h.frame.mode=.returning/\∃at_ t k,h.frame.defers=[{target:=.builtin .close at_ t k,args:=#[.chan (J cs)]}]
theorem G7{fn}(A:P.funcs[f]?=J fn)(i:fn.results=#[]){cs c}(a:Snd P ([trap P.alt],[eZ P]) ρ h g V W cs c L)(hA:Kf P f cs h){s}{tm:ey}(p:W.heap[c]?=J (.chan n c' Z s q tm)):
  ∃g',mayWake P g=Y/\g'.status=Ri/\stepG P Z g W=.go g' (fP W c n c' s q tm) #[⟨.obj c,Z,Y⟩,⟨.obj c,Y,Y⟩]/\∃m,QuitsD P m 0 g':=by
 obtain⟨h1,h2,h3,at_,t,k,h4⟩:=hA;have j:g.callers=[eZ P]:=by
  have d:=a.go.callers;rw[h1]at d;generalize hX:(([trap P.alt],[eZ P]):S Wy×S Wy)=X at d;generalize z:[trap P.alt]=l at d;generalize g.callers=l' at d ⊢;cases d with
  |base=>rw[<-hX]
  |cons _ _ d=>
   cases z;have:=d.PE
   grind
 have u:g.frame.mode=.returning:=by
  have:=a.go.frame.mode;rw[h3]at this;generalize g.frame.mode=x at this;cases this;rfl
 have r:g.frame.defers=[{target:=.builtin .close at_ t k,args:=#[.chan (J c)]}]:=by
  have:=a.go.frame.defers;rw[h4]at this;generalize g.frame.defers=x at this;cases this with
  | @cons _ d' _ _ r d _=>
   cases d;obtain⟨tg,ar⟩:=d';obtain⟨G,B⟩:=r;simp only at G B;cases G;have F:=B.size;obtain⟨l⟩:=ar;rcases l with - |⟨x,- |⟨y,l⟩⟩<;>simp at F
   have:=B.at_ 0 _ x Q Q;cases this with
   |chan D=>
    cases D with
    |some D=>rw[ρ.fn _ _ _ D a.pair]
 have e:P.funcs[g.frame.fn]?=J fn:=by rw[<-a.go.frame.fn,h2];exact A
 have o:seen P g.frame.fn #[⟨.obj c,Z,Y⟩,⟨.obj c,Y,Y⟩]=#[⟨.obj c,Z,Y⟩,⟨.obj c,Y,Y⟩]:=by unfold seen;simp
 obtain⟨T,cl,st,dy,of⟩:=g;simp only at j u r e o;subst j;have v:=a.go.dying.2;subst v;refine⟨{frame:={T with defers:=[]},callers:=[eZ P],status:=Ri,dying:=N},?_,Q,?_,2,BV (fr:={T with defers:=[]}) e i u Q⟩;simp[mayWake,u];simp[stepG,u,unwind,r];unfold SN;simp only[vD at_ t k p];simp[o,GStep.after]
end
end
section
variable {P:Wv} [Two P]
theorem Kg{b:Outer}{G:SB->ey}{Post:Wx->Wj->Prop}{NI:SB}(T:G NI=Z)(X:P.inits.idxOf? f=N)
  (hR:∀τ d e u,R τ d e u->e=Rc (C Y)\/∃t a c r x l,e=.panicked ({v:=.iface t (.func (.func NI) a c),recovered:=r,goexit:=x} :: l))
  (aa:∀h V ρ g W ρ' W',Ends P.alt f R h V->h.frame.mode=.returning->Rel P b G [] ρ h g V W->ρ.le ρ'->cz ρ' V W'->Kp b W'->Post (C Y) W'):Leaf P b G (Ends P.alt f R) Post:=by
 intro h g V W ρ hT m d;have a1:=hT;obtain⟨τ,d0,p,z,e,A,hr,rfl,a4,aj,-⟩:=hT;have ad:=RFs.Qv m.go.callers;obtain⟨B,gc,gst,gd,go⟩:=g;simp only at ad;subst ad;obtain rfl:gd=none:=m.go.dying.2;have q:=m.go.frame;simp only at q;rcases hR _ _ _ _ hr with rfl|⟨t,a,c,r,x,l,rfl⟩;obtain⟨hm,hd,hk,fn,L,F⟩:=aj;have ap:B.mode=.returning:=by
  have:=q.mode;rw[hm]at this;generalize B.mode=y at this;cases this;rfl
 have a5:B.defers=[]:=by
  have:=q.defers;rw[hd]at this;generalize B.defers=y at this;cases this;rfl
 obtain⟨n,ai⟩:∃n,P.funcs[A.fn]?=J n:=by
  cases hx:P.funcs[A.fn]? with
  |some y=>exact⟨y,Q⟩
  |none=>rw[(nh m.gid A.fn).2 hx]at L;cases L
 rw[pW m.gid L ai A.tmps]at F;have hS:cz ρ (V.on p z) (W.at d):=⟨m.NG.obj,m.NG.fix,m.NG.chan,m.NG.os,m.NG.NT⟩;have ac:RS P QV ρ (results n A.tmps) (results n B.tmps):=rL n q.tmps;have af:((results n A.tmps).runT P.alt (V.on p z) #[]).1=.ok (C Y) (V.on p z):=by rw[Sem.runT_fst];exact F
 obtain⟨m1,o1⟩:=tB ac (V.on p z) ((W.at d).on p z) #[] #[] ⟨m.NG.obj,m.NG.fix,m.NG.chan,m.NG.os,m.NG.NT⟩ (λi _=>Q);have av:(results n A.tmps).runT P (V.on p z) #[]=(results n A.tmps).runT P.alt (V.on p z) #[]:=by
  rcases o1 with⟨-,x,u,k,-⟩|⟨k,-⟩
  grind
  exact k.s
 have a0:((results n A.tmps).runT P (V.on W.tape d) #[]).1=.ok (C Y) (V.on W.tape d):=by
  have hw:((results n A.tmps).runT P (V.on p z) #[]).1=.ok (C Y) (V.on p z):=by rw[av];exact af
  have:=m1.2.2 W.tape d (λi hi=>by rw[hw]at hi;simp[Result.w]at hi;omega);rw[J9]at this;rw[this];show Result.on W.tape d z ((results n A.tmps).runT P (V.on p z) #[]).1=_;rw[hw];show Result.ok _ ((V.on p z).on W.tape (d+(z-z)))=_;rw[Nat.sub_self,Nat.add_zero,J9]
 obtain⟨-,o2⟩:=tB ac (V.on W.tape d) (W.at d) #[] #[] ⟨m.NG.obj,m.NG.fix,m.NG.chan,m.NG.os,m.NG.NT⟩ (λi _=>Q);rcases o2 with⟨⟨x,u,k,-⟩,-⟩|⟨-,ρ',le,S',D,K,-,-,j,-,-⟩
 grind
 rw[a0]at D S';generalize a3:(results n B.tmps).runT P (W.at d) #[]=cr at D S' K j;obtain⟨r2,es⟩:=cr;simp only at D S' K j;cases D with
 | @ok _ v' _ W' hv=>
  have hv:=hv;cases hv;obtain⟨E0,ar,a2⟩:=j;refine⟨C Y,seen P B.fn es,ρ',V.on W.tape d,W',?_,aa _ V ρ _ W ρ' W' a1 hm m le ⟨S'.obj,S'.fix,S'.chan,S'.os,S'.NT⟩ (m.o.1.Nx m.o.2 ⟨K.os,K.output,K.tape,K.size,K.block⟩),S',K.size,λe he=>a2 e (by have:=eX he;rw[ar]at this;simpa using this)⟩;have al:P.funcs[B.fn]?=J n:=by rw[<-q.fn];exact ai
  have hin:P.inits.idxOf? B.fn=none:=by rw[<-q.fn,a4];exact X
  have ab:SD P Y B [] N (C Y) W'=.ended (.done (C Y)) W':=by
   unfold SD;have:=q.early.2.2
   grind
  simp only[stepG,ap,unwind,a5,al,a3,ab];simp[GStep.after]
 obtain⟨hm,-⟩:=aj;exfalso;have:=q.mode;rw[hm]at this;generalize B.mode=y at this;cases this with
 |panicking hp=>
  cases hp with
  |cons _ _ hv _=>
   cases hv with
   |iface _ hv=>
    cases hv with
    |func hf _ _ _ _=>
     cases hf with
     |func _ hF=>rw[m.same,T]at hF;cases hF
end
section
open Go.Conc (crowd Past EvL Deaf QuitsD woken awake crowd_pick runT_crowd_go)
open Go.ConcN (sumTo upd sumTo_upd upd_ne upd_same)
inductive Det (P:Wv):Wk->Wj->Wk->Wj->Prop
 |refl (g:Wk) (W:Wj):Det P g W g W
 |step {g g1 g2:Wk} {W W1 W2:Wj} {es:dT Event} (hr:g.status=Ri) (h:∀d,stepG P Y g (W.at d)=.go g1 (W1.at d) es) (hev:∀e∈es,EvL gJ W1.heap.size e) (hsz:W.heap.size<=W1.heap.size) (rest:Det P g1 W1 g2 W2):Det P g W g2 W2
variable {P:Wv} {Post:Wx->Wj->Prop}
theorem rm(W:Wj)(a b:H):(W.at a).at b=W.at b:=rfl
theorem MK{g'}{W'}(R:Det P g W g' W')(b:∀ (gs:dT Wk)(sl:eV (H×H))(t:Trace)(q:H->H)(d:H),gs[0]?=J g'->Lv P (λ_=>gI) t gs q->Past gJ W'.heap.size t->Fin P Post gs (W'.at d) sl t):
  ∀ (gs:dT Wk) (sl:eV (H×H)) (t:Trace) (q:H->H) (d:H),gs[0]?=J g->Lv P (λ_=>gI) t gs q->Past gJ W.heap.size t->Fin P Post gs (W.at d) sl t:=by
 induction R with
 |refl=>exact b
 | @step g g1 g2 W W1 W2 es hr h p y _ ih=>
  intro gs sl t q d o v D;obtain⟨a,hM⟩:∃a,sumTo gs.size q<=a:=⟨_,Q0⟩;induction a using Sq generalizing gs sl t q d with
  |_ a s=>
   have⟨i,x,e,n,z,L,j⟩:=xv (P:=P) (w:=W.at d) (sl:=sl) (iI v o hr) ⟨0,g,o,hr⟩;rcases Sp i with rfl|l;obtain rfl:x=g:=by grind
   obtain⟨c,f,r,F,B,u,-,A⟩:=rl (w:=W.at d) v z (Rf Q) (d:=e) (by rw[rm];exact j) (show stepG P (0==0) x ((W.at d).at e)=_ from h e);subst F;exact Fin.next r (ih b c n _ q e u A ((D.m y).own p))
   obtain⟨c,T,f,r,F,B,u,G,A,-⟩:=slip (w:=W.at d) (d:=e) v D (jL W.heap.size) z L l (λk=>k) (firm0 o hr _) (by rw[rm];exact j);exact Fin.next r (s _ (by omega) c n (t++f) T e ((B 0 (Rf Q)).t o) u G Q0)
theorem DX{g'}(hr:g.status=Ri)(h:∀d,stepG P Y g (W.at d)=.spawn g' al (W.at d) #[]){ρr ρs}
  (l:∀ (gs:dT Wk) (sl:eV (H×H)) (t:Trace) (q:H->H) (d k:H),k≠0->gs[0]?=J g'->gs[k]?=J al->Lv P (λi=>i=k) t gs q->PhT 0 k ρr ρs W.heap.size t->Fin P Post gs (W.at d) sl t):
  ∀ (gs:dT Wk) (sl:eV (H×H)) (t:Trace) (q:H->H) (d:H),gs[0]?=J g->Lv P (λ_=>gI) t gs q->Past gJ W.heap.size t->Fin P Post gs (W.at d) sl t:=by
 intro gs sl t q d m s G;obtain⟨a,hM⟩:∃a,sumTo gs.size q<=a:=⟨_,Q0⟩;induction a using Sq generalizing gs sl t q d with
 |_ a B=>
  have⟨i,x,f,e,F,R,o⟩:=xv (P:=P) (w:=W.at d) (sl:=sl) (iI s m hr) ⟨0,g,m,hr⟩;have u:=(eS m).1;rcases Sp i with rfl|r;obtain rfl:x=g:=by grind
  have p:=Conc.runT_crowd_spawn (P:=P) (sl:=e) (i:=0) F (show stepG P (0==0) x (W.at f)=_ from h f);have n:((sq 0 x.frame.fn x.frame.place #[]).push {g:=0,fn:=x.frame.fn,pos:=x.frame.place,act:=.go gs.size} |>.push {g:=gs.size,fn:=al.frame.fn,pos:=x.frame.place,act:=.start})=#[{g:=0,fn:=x.frame.fn,pos:=x.frame.place,act:=.go gs.size},{g:=gs.size,fn:=al.frame.fn,pos:=x.frame.place,act:=.start}]:=rfl;rw[n]at p;have c:∀z∈(#[{g:=0,fn:=x.frame.fn,pos:=x.frame.place,act:=.go gs.size},{g:=gs.size,fn:=al.frame.fn,pos:=x.frame.place,act:=.start}]:Trace),z.act≠.mark .disable/\z.act≠.mark .enable:=λz hop=>by
   grind
  refine Fin.next (o.t p) (l _ e _ q f gs.size (by omega) (by rw[gP,if_neg (by simp;omega)];simp[u]) (by rw[gP,if_pos (by simp)]) ⟨λj y A hjk hy=>?_,λj A=>?_⟩ (PhT.start G (by omega) (s.above gs.size Q0) ⟨Q,Q⟩ ⟨Q,Q⟩))
  rw[cx t j _ c];refine s.old j y A (λk=>k) ?_
  grind
  rw[cx t j _ c];exact s.above j (by simp at A;omega);obtain⟨D,q',v,T,e2,V,X,L,e6,-⟩:=slip (w:=W.at d) (d:=f) s G (jL W.heap.size) F R r (λk=>k) (firm0 m hr _) (by rw[rm];exact o);exact Fin.next T (B _ (by omega) D e (t++v) q' f ((V 0 (Rf Q)).t m) X L Q0)
end
inductive Good:Wx->Prop
 |bool (b:ey):Good (C b)
 |int (k:IntKind) (n:lk):Good (I k n)
 |string (s:gL):Good (U s)
 |pointer (a:eV Wu):Good (O a)
 |slice (a:eV Wu) (n c:H):Good (M a n c)
 |map (r:eV H):Good (.map r)
 |chan (r:eV H):Good (.chan r)
 |nilFunc:Good .nilFunc
 |nilIface:Good .nilIface
 |agg {c:dT Wx} (h:∀ (i:H) v,c[i]?=J v->Good v):Good (Rd c)
 |tuple {c:dT Wx} (h:∀ (i:H) v,c[i]?=J v->Good v):Good (Re c)
section
variable {ρ σ:Ren}
theorem qg{Q:Wx->Wx->Wx->Prop}{c:dT Wx}(hc:c.size=c'.size)(h:∀ (i:H) v b,c[i]?=J v->c'[i]?=J b->∃a,Q v b a):
  ∃e:dT Wx,e.size=c'.size/\∀ (i:H) v b,c[i]?=J v->c'[i]?=J b->∃a,e[i]?=J a/\Q v b a:=by
 have f:∀i:_root_.Fin c'.size,∃a,Q (c[i.1]'(by omega)) c'[i.1] a:=λi=>h i.1 _ _ (eG _) (eG _)
 refine⟨Sm λi=>(f i).choose,by simp,λi v b h1 j=>?_⟩;have⟨d,e2⟩:=eS j;refine⟨(f ⟨i,d⟩).choose,?_,?_⟩
 simp_all
 grind
theorem Ak{c:dT Wx}(hc:c.size=c'.size)(h0:b'.size=c'.size)(h:∀ (i:H) v v',c[i]?=J v->c'[i]?=J v'->∃a,b'[i]?=J a/\RV σ a v'/\(Good v->a=v))(j:∀ (i:H) v,c[i]?=J v->Good v):b'=c:=by
 refine Sn (by omega) (λi h1 f=>?_);obtain⟨a,e,-,k⟩:=h i _ _ (eG f) (eG (by omega));have:=k (j i _ (eG f))
 grind
theorem yC{c:dT Wx}(hc:c.size=c'.size)(h0:b'.size=c'.size)(h:∀ (i:H) v v',c[i]?=J v->c'[i]?=J v'->∃d,b'[i]?=J d/\RV σ d v'/\(Good v->d=v)):∀ (i:H) v v',b'[i]?=J v->c'[i]?=J v'->RV σ v v':=by grind
theorem Kh(hrel:∀a b,ρ a b->σ a b)(q:σ.bad=ρ.bad){l:Wx}(h:RV ρ v l):∃o,RV σ o l/\(Good v->o=v):=by
 have f:∀ {a i:eV Wu},RAo ρ a i->RAo σ a i:=λh=>by
  cases h with
  |none=>exact .none
  |some h=>exact .some ⟨hrel _ _ h.1,h.2⟩
 have j:∀ {a i:eV H},RNo ρ a i->RNo σ a i:=λh=>by
  cases h with
  |none=>exact .none
  |some h=>exact .some (hrel _ _ h)
 induction h with
 |bool b=>exact⟨_,.bool b,λ_=>rfl⟩
 |int k n=>exact⟨_,.int k n,λ_=>rfl⟩
 |string s=>exact⟨_,.string s,λ_=>rfl⟩
 |pointer h=>exact⟨_,.pointer (f h),λ_=>rfl⟩
 |slice n c h=>exact⟨_,.slice n c (f h),λ_=>rfl⟩
 |map h=>exact⟨_,.map (j h),λ_=>rfl⟩
 |chan h=>exact⟨_,.chan (j h),λ_=>rfl⟩
 |func p ha d _ _ _ _=>exact⟨_,.dead _ (by cases p<;>rfl),λk=>by cases k⟩
 |nilFunc=>exact⟨_,.nilFunc,λ_=>rfl⟩
 |iface t h _=>exact⟨_,.dead _ rfl,λk=>by cases k⟩
 |nilIface=>exact⟨_,.nilIface,λ_=>rfl⟩
 |agg d _ ih=>
  have⟨m,e,h1⟩:=qg d ih;exact⟨.agg m,.agg e (yC d e h1),λk=>by cases k with|agg k=>rw[Ak d e h1 k]⟩
 |tuple d _ ih=>
  have⟨m,e,h1⟩:=qg d ih;exact⟨.tuple m,.tuple e (yC d e h1),λk=>by cases k with|tuple k=>rw[Ak d e h1 k]⟩
 |dead l h=>exact⟨_,.dead l h,λ_=>rfl⟩
 |odd n s a c r=>exact⟨_,.odd n s a c (r.t q.s),λk=>by cases k⟩
theorem Al(hrel:∀a b,ρ a b->σ a b)(m:σ.bad=ρ.bad){c l:dT Wx}(h:RVs ρ c l):∃d,RVs σ d l/\d.size=c.size/\∀ (i:H) v,c[i]?=J v->Good v->d[i]?=J v:=by
 have⟨d,f,h1⟩:=qg h.size (λi v n h1 o=>Kh (σ:=σ) hrel m (h.at_ i v n h1 o));refine⟨d,⟨f,yC h.size f h1⟩,by rw[f,h.size],λi v j p=>?_⟩;obtain⟨v0,e,-,k⟩:=h1 i v _ j (eG (by rw[<-h.size];exact((eS j).1)));rw[e,k p]
theorem Ki(hrel:∀a b,ρ a b->σ a b)(l:σ.bad=ρ.bad)(hF:σ.F oD=Z){o j:Obj}(h:RO ρ o j):∃d,RO σ d j/\Fixed d/\d.isChan=Z/\∀c e z,o=.cells c e z->∃f n,d=.cells f e n/\∀ (i:H) v,c[i]?=J v->Good v->f[i]?=J v:=by
 cases h with
 | @cells c c' e z m hz h=>
  have⟨f,k,k2,k3⟩:=Al hrel l h;refine⟨.cells f e (0,max (max c.size m.2) 1),.cells e (.inr ⟨hF,rfl,by simp;omega⟩) k,⟨rfl,by simp only;omega⟩,rfl,λc1 e1 z1 hc=>?_⟩
  grind
 |number b h=>exact⟨_,.number b ⟨hrel _ _ h.1,h.2⟩,trivial,rfl,λ_ _ _ h=>by cases h⟩
 |dead j h=>exact⟨_,.dead j h,trivial,rfl,λ_ _ _ h=>by cases h⟩
 |_=>exact⟨_,.dead _ rfl,trivial,rfl,λ_ _ _ h=>by cases h⟩
end
def Am(o:Obj):Prop:=(∃c e z,o=E c e z)\/Fixed o
def Ren.low(ρ:Ren)(F:SB->ey)(live:H->Prop)(c:H)(wide:ey)(ht:F i7=Y->wide=Z):Ren where
 rel:=ρ.rel
 fn:=ρ.fn
 inj:=ρ.inj
 prog:=ρ.prog
 F:=F
 old:=λa=>(∃b,ρ a b)/\¬live a/\a≠c
 ch:=λa=>a=c
 loose:=Y
 wide:=wide
 tight:=ht
 NT:=ρ.NT
 bad:=ρ.bad
 OU:=ρ.OU
theorem lower(d:cz ρ V W){F:SB->ey}{live:H->Prop}{c c':H}{wide:ey}(ht:F i7=Y->wide=Z)(hF:F oD=Z)(hc:ρ c c'){n' s:H}{b:dT Wx}{ad tm:ey}(hW:W.heap[c']?=J (.chan n' b' ad s' q' tm))(aj:wide=Y\/cl=ad)
  (m:∀a,live a->a≠c/\∃x e z,V.heap[a]?=J (.cells x e z)/\(∀ (i:H) v,x[i]?=J v->Good v)/\∀y,ρ a y->∃x',W.heap[y]?=J (.cells x' e z)):
  ∃V':Wj,cz (ρ.low F live c wide ht) V' W/\V'.heap.size=V.heap.size/\V'.tape=V.tape/\V'.drawn=V.drawn/\V'.os=V.os/\V'.heap[c]?=J (.chan n b cl s q tm)/\(∀ (a:H) o,V'.heap[a]?=J o->o.isChan=Y->a=c) /\
   (∀a y i v,ρ a y->V.cell? ⟨a,i,N⟩=J v->Good v->V'.cell? ⟨a,i,N⟩=J v)/\(∀a,live a->V'.heap[a]?=V.heap[a]?)/\∀a y,ρ a y->a≠c->∃o,V'.heap[a]?=J o/\Am o:=by
 classical
 generalize hσ:ρ.low F live c wide ht=σ;have hrel:∀a b,ρ a b->σ a b:=λa b h=>by subst hσ;exact h
 have T:∀a b,σ a b->ρ a b:=λa b h=>by subst hσ;exact h
 have aa:σ.F oD=false:=by subst hσ;exact hF
 have ho:σ.bad=ρ.bad:=by subst hσ;rfl
 have p:∀a:H,∃R:Obj,(∀y,ρ a y->a≠c->∃o',W.heap[y]?=J o'/\RO σ R o')/\(a≠c->¬live a->Fixed R)/\(a≠c->R.isChan=Z)/\(∀y x e z,ρ a y->a≠c->V.heap[a]?=J (.cells x e z)->∃x0 z0,R=.cells x0 e z0/\∀ (i:H) v,x[i]?=J v->Good v->x0[i]?=J v)/\(live a->V.heap[a]?=J R)/\(a=c->R=.chan n b cl s q tm):=λa=>by
  by_cases j:a=c
  exact⟨.chan n b cl s q tm,λ_ _ k=>eW j k,λk=>eW j k,λk=>eW j k,λ_ _ _ _ _ k=>eW j k,λk=>eW j (m a k).1,λ_=>rfl⟩;by_cases D:live a
  obtain⟨-,x,e,z,h1,h2,h3⟩:=m a D;refine⟨.cells x e z,λy A _=>?_,λ_ k=>eW D k,λ_=>rfl,λy x1 e1 z1 A _ hx=>?_,λ_=>h1,λk=>eW k j⟩;have⟨o,o',G,L,k3⟩:=d.obj a y A;have⟨x',k4⟩:=h3 y A;rw[h1]at G;cases G;rw[k4]at L;cases L;cases k3 with
  |cells e hz h=>
   have⟨c0,m1,m2,m3⟩:=Al (σ:=σ) hrel ho h;have:c0=x:=by
    refine Sn m2 (λi i1 i2=>?_);have:=m3 i _ (eG i2) (h2 i _ (eG i2))
    grind
   subst this;exact⟨_,k4,.cells e (.inl rfl) m1⟩
  grind
  by_cases A:∃y,ρ a y
  obtain⟨y,A⟩:=A;have⟨o,o',G,L,k3⟩:=d.obj a y A;have⟨R,m1,m2,m3,m4⟩:=Ki (σ:=σ) hrel ho aa k3;refine⟨R,λy2 ab _=>?_,λ_ _=>m2,λ_=>m3,λy2 x e z ab _ hx=>?_,λk=>eW k D,λk=>eW k j⟩;obtain rfl:=ρ.fn _ _ _ A ab
  grind
  grind
  exact⟨.coro N,λy k=>eW ⟨y,k⟩ A,λ_ _=>trivial,λ_=>rfl,λy _ _ _ k=>eW ⟨y,k⟩ A,λk=>eW k D,λk=>eW k j⟩
 have⟨f,p⟩:=Classical.skolem.1 p;generalize r:({V with heap:=Sm (n:=V.heap.size) λa=>f a.1}:Wj)=V';have ai:V'.heap.size=V.heap.size:=by subst r;simp
 have u:∀a,a<V.heap.size->V'.heap[a]?=J (f a):=λa ha=>by
  subst r;simp[ha]
 have B:V'.heap[c]?=J (.chan n b cl s q tm):=by rw[u c ((d.lt hc).1),(p c).2.2.2.2.2 rfl]
 have X:∀ (a:H) o,V'.heap[a]?=J o->o.isChan=Y->a=c:=λa o ho P=>by
  grind
 refine⟨V',⟨λa y l=>?_,λa ac=>?_,λa P=>?_,?_,λhb=>by rw[aa]at hb;cases hb⟩,ai,by subst r;rfl,by subst r;rfl,by subst r;rfl,B,X,λa y i v l hv hg=>?_,λa D=>?_,λa y l af=>?_⟩;have l:=T _ _ l;by_cases j:a=c
 subst j;obtain rfl:=ρ.fn _ _ _ l hc;subst hσ;exact⟨_,_,B,hW,.chan _ _ _ _ _ _ _ _ _ (.inl rfl) aj⟩;have⟨o',G,L⟩:=(p a).1 y l j;exact⟨_,o',u a ((d.lt l).1),G,L⟩;subst hσ;obtain⟨⟨y,A⟩,h1,h2⟩:=ac;exact⟨_,u a (d.lt A).1,(p a).2.1 h2 h1⟩;subst hσ;have P:=P;subst P;exact⟨_,B,rfl⟩;subst r;exact d.os;unfold Tg at hv ⊢;rw[u a ((d.lt l).1)];cases hr:V.heap[a]? with
 |none=>rw[hr]at hv;cases hv
 |some o=>
  rw[hr]at hv;cases o with
  |cells x e z=>
   by_cases j:a=c
   subst j;have⟨o,o',G,L,k3⟩:=d.obj a c' hc;rw[hW]at L;cases L;rw[hr]at G;cases G;cases k3;have⟨x0,z0,G,L⟩:=(p a).2.2.2.1 y x e z l j hr;rw[G];simp only at hv ⊢;exact L i v hv hg
  |_=>cases hv
 have ha:a<V.heap.size:=by
  obtain⟨-,x,e,z,h1,-⟩:=m a D;exact(eS h1).1
 exact(u a ha).t ((p a).2.2.2.2.1 D).s;refine⟨_,u a (d.lt l).1,?_⟩;by_cases D:live a
 obtain⟨-,x,e,z,h1,-⟩:=m a D;have:=(p a).2.2.2.2.1 D;rw[h1]at this;exact .inl ⟨x,e,z,(oJ this).s⟩;exact .inr ((p a).2.1 af D)
section
variable {P:Wv} {N T:Wk->Wj->Prop} {g g':Wk} {w w':Wj}
theorem LC.status{s:SC}(h:LC P g c s w g' w'):g'.status=Ri:=by
 cases h with
 |dead _ _ _ a=>exact a
 |_=>rfl
theorem LS.status(h:LS P g w g' w'):g'.status=Ri:=by
 cases h with
 |go _ hr _=>exact hr
 |comm _ a=>exact a.status
theorem LS.next(hr:g.status=Ri)(h:LS P g w g' w'){m:Machine}(hs:step P (solo g w)=.next m):m=solo g' w'\/∃b,b.status=.blocked/\m.gs=#[b]/\∃u,m=solo b u:=by
 cases h with
 |go h _ _=>
  rw[ni hr h]at hs
  grind
 | @comm g1 c s w1 es _ _ h j=>
  rw[vu hr h]at hs;by_cases f:g1.status=Ri
  rcases vw f hs with⟨b,q,k,rfl⟩|rfl;obtain⟨rfl,rfl⟩:=(LS.comm h k).fn (LS.comm h j)
  grind
  exact Rg ⟨_,Q,Q,_,Q⟩;have a:=hs;obtain⟨ch,sd,z⟩:=c;cases j with
  |dead _ _ _ l=>exact eW l f
  |send h1 d e i=>
   simp only at h1 d;subst h1;subst d;simp[communicate,ways,e,db,i,choose,SV,S4,bind,SU,pure]at a;exact Rf a.s
  |recv h1 d e i=>
   simp only at h1 d;subst h1;subst d;simp[communicate,ways,e,db,i,choose,SV,S4,bind,SU,pure]at a;refine Rf ?_;rw[<-a];simp[solo,i]
  |shut h1 d e=>
   simp only at h1 d;subst h1;subst d;simp[communicate,ways,e,db,choose,SV,S4,bind,SU,pure]at a;exact Rf a.s
theorem DY(hT:∀g w,T g w->∀n a d,runN P n (solo g w)=.next (solo a d)->a.callers.length<=1):∀ (n:H)(g:Wk)(w:Wj),Dem P N T g w->g.status=Ri->∀a d,runN P n (solo g w)=.next (solo a d)->a.status=Ri->1<a.callers.length->LSs P T g w a d/\Dem P N T a d:=by
 intro n;induction n with
 |zero=>
  intro g w p _ a d h _ _;simp[runN]at h;have i:#[g]=#[a]:=kr Machine.gs h;have x:=kr Machine.world h;simp at i;subst i;subst x;exact⟨.refl _ _,p⟩
 |succ n ih=>
  intro g w p hr a d h f t;cases p with
  |stop k=>
   grind
  |step hN j l v=>
   have⟨g',w',c⟩:=l w.tape w.drawn;simp[runN]at h;cases hs:step P (solo g w)with
   |ended o u=>rw[hs]at h;cases h
   |next m=>
    rw[hs]at h;rcases c.next hr hs with rfl|⟨b,q,-,u,rfl⟩
    obtain⟨r,s⟩:=ih g' w' (v _ _ _ _ c) c.status a d h f t;exact⟨.step j w.tape w.drawn c r,s⟩;cases n with
    |zero=>
     simp[runN]at h;have i:#[b]=#[a]:=kr Machine.gs h;simp at i;subst i;rw[q]at f;cases f
    |succ n=>
     have⟨o,z,e⟩:=jK (P:=P) (w:=u) (g:=b) q;simp only[runN,e]at h;cases h
theorem Dem.on(e:∀g w a d,N g w->N g (w.on a d))(b:∀g w a d,T g (w.on a d)↔T g w)(h:Dem P N T g w)(a:H->Question->H)d:Dem P N T g (w.on a d):=by
 cases h with
 |stop k=>exact .stop ((b _ _ _ _).2 k)
 |step h1 f c i=>exact .step (e _ _ _ _ h1) (λk=>f ((b _ _ _ _).1 k)) c i
theorem LSs.on{a:H->Question->H}{d}(f:∀g w a d,T g (w.on a d)↔T g w){o}(h:LSs P T g (w.on a d) o w2):(o=g/\w2=w.on a d)\/LSs P T g w o w2:=by
 cases h with
 |refl=>exact Rf ⟨Q,Q⟩
 |step e c i h hs=>exact Rg (.step (λk=>e ((f _ _ _ _).2 k)) c i h hs)
theorem rP(h:Ends P f R g w):∀n y D,runN P n (solo g w)=.next (solo y D)->y.callers.length<=1:=by
 obtain⟨τ,d,τ',d',e,j,-,rfl,-,l,s⟩:=h;intro n y D i;have same:∀ {a b:Wk} {u v:Wj},solo a u=solo b v->a=b:=λh=>by
  simpa[solo]using(kr Machine.gs h)
 cases n with
 |zero=>
  simp[runN]at i
  grind
 |succ n=>
  have t:(∃o u es,stepG P Y {frame:=j,callers:=[trap P],status:=Ri,dying:=N} w=.ended o u es)\/∃k u es,stepG P Y {frame:=j,callers:=[trap P],status:=Ri,dying:=N} w=.go {frame:=k,callers:=[],status:=Ri,dying:=N} u es/\(k=trap P\/∃c,k=(trap P).raise c):=by
   cases e with
   |outgrown=>exact eW Q s
   |panicked c=>
    obtain⟨m,p,fn,q⟩:=l;have T:j.catches P=false:=by unfold R8;rw[q]
    refine Rg ⟨(trap P).raise c,w,#[],?_,Rg ⟨c,Q⟩⟩;simp only[stepG,m,unwind,p,T];rfl
   |returned v=>
    obtain⟨m,p,G,fn,q,-⟩:=l;have F:stepG P Y {frame:=j,callers:=[trap P],status:=Ri,dying:=N} w=unwind P Y j [trap P] N w:=by simp[stepG,m]
    rw[F];unfold unwind;simp only[p,m,q];cases hr:(results fn j.tmps).runT P w #[]with
    |mk r es=>
     cases r with
     |ok v u=>
      have⟨k,L,h1⟩:=lG (P:=P) j (by rw[G];rfl) v u;simp only[L];exact Rg ⟨k,_,_,Q,h1⟩
     |halt x u=>cases x<;>exact Rf ⟨_,_,_,Q⟩
  simp[runN]at i;rcases t with⟨o,u,es,A⟩|⟨k,u,es,A,B⟩;rw[gr (g:={frame:=j,callers:=[trap P],status:=Ri,dying:=N}) Q A]at i;cases i;rw[ni (g:={frame:=j,callers:=[trap P],status:=Ri,dying:=N}) Q A]at i;cases n with
  |zero=>
   simp[runN]at i
   grind
  |succ n=>
   have⟨o,z,es2,V⟩:=vy (P:=P) B u;simp only[runN,gr (g:={frame:=k,callers:=[],status:=Ri,dying:=N}) Q V]at i;cases i
end
def Marks(ρ:Ren)(l:S Deferred):Prop:=∀d∈l,∃r b,d.target=.collected r/\ρ r b
theorem RDs.marks(hS:(ρ.F i7||ρ.F nX)=Z){l c}(h:RDs ρ l c):Marks ρ l:=by
 induction h with
 |nil=>exactλd e=>by cases e
 | @cons d f l c h _ b ih=>
  intro x a;rcases List.mem_cons.1 a with rfl|a;rcases b with⟨r,hr⟩|b;cases h with
  |odd=>cases hr
  |mk this _=>
   rw[hr]at this;generalize f.target=y at this;cases this with
   |collected k=>exact⟨r,_,hr,k⟩
  grind
  exact ih x a
inductive Fl (P:Wv)(ρ:Ren):S Wy->Prop
 |base:Fl P ρ [trap P]
 |cons {f:Wy} {l:S Wy} (hc:f.catches P=Z) (hm:Marks ρ f.defers) (hl:Fl P ρ l):Fl P ρ (f::l)
theorem RFs.fl{a}(c:(ρ.F i7||ρ.F nX)=Z){l k'}(h:RFs P ρ ([trap a],[]) l k'):Fl a ρ l:=by
 generalize b:(([trap a],[]):S Wy×S Wy)=X at h;induction h with
 |base=>rw[<-b];exact .base
 |cons h _ _ ih=>exact .cons (gq h a).1 (h.defers.marks c) ih
def Ce(V w:Wj):Prop:=w.heap.size=V.heap.size/\∀a,w.cell? a=V.cell? a
theorem Kj{en:SG}(hD:Dem P (λg _=>NB [trap P] g) (Ends P f R) g w):
  ∀l,g.frame.mode=.panicking (en::l)->g.dying=N->g.frame.catches P=Z->Marks ρ g.frame.defers->Fl P ρ g.callers->(∀r b,ρ r b->∀l,w.heap[r]?=J (.deferred (J l))->Marks ρ l)->Ce V w->∃τ d l u,R τ d (.panicked (en::l)) u/\Ce V u:=by
 induction hD with
 | @stop g w hT=>
  intro l A B _ _ _ _ t;obtain⟨τ,d,τ',d',e,fr,hR,rfl,-,aa,ac⟩:=hT;simp only at A;cases e with
  |outgrown=>exact eW Q ac
  |returned v=>
   obtain⟨h,-⟩:=aa
   grind
  |panicked c=>
   obtain⟨h,-⟩:=aa;rw[A]at h;cases h;exact⟨τ,d,l,_,hR,t⟩
 | @step g w hN hT ai hn ih=>
  intro l A B z L D y t;have⟨g',w',F⟩:=ai w.tape w.drawn;have p:LS P g w g' w':=F;have i:stepG P Y g w=unwind P Y g.frame g.callers N w:=by
   obtain⟨fr,cs,st,dy,off⟩:=g;simp only at A B;subst B;simp[stepG,A]
  cases s:g.frame.defers with
  |cons x ds=>
   have⟨r,b,hx,ad⟩:=L x (by rw[s];exact List.mem_cons_self ..);obtain⟨tg,ar⟩:=x;simp only at hx;subst hx;have G:∀m,w.heap[r]?=J (.deferred (J m))->(S5 r).runT P w #[]=(.ok m {w with heap:=w.heap.setIfInBounds r (.deferred N)},#[⟨.obj r,Z,Z⟩,⟨.obj r,Y,Z⟩]):=λm n=>by
    unfold S5;show SQ P (SW r _) w #[]=_;simp only[SQ,n];show SQ P (SX r (.deferred N) _) w _=_;simp only[SQ,n];rfl
   have X:(∀m,w.heap[r]?≠J (.deferred (J m)))->∃h u es,(S5 r).runT P w #[]=(.halt h u,es):=λab=>by
    unfold S5;show∃h u es,SQ P (SW r _) w #[]=(.halt h u,es);cases n:w.heap[r]? with
    |none=>simp only[SQ,n];exact⟨_,_,_,Q⟩
    |some o=>
     cases o with
     |deferred q=>
      cases q with
      |none=>simp only[SQ,n];exact⟨_,_,_,Q⟩
      |some m=>exact eW n (ab m)
     |_=>simp only[SQ,n];exact⟨_,_,_,Q⟩
   unfold unwind at i;simp only[s]at i;by_cases T:∃m,w.heap[r]?=J (.deferred (J m))
   obtain⟨m,n⟩:=T;rw[G m n]at i;have j:∃es,stepG P Y g w=.go {frame:={g.frame with defers:=m++ds},callers:=g.callers,status:=Ri,dying:=N} {w with heap:=w.heap.setIfInBounds r (.deferred N)} es:=⟨_,i⟩;obtain⟨es,j⟩:=j;cases p with
   |comm h _=>rw[j]at h;cases h
   |go h _ _=>
    rw[j]at h;cases h;refine ih _ _ _ _ F l A Q z (λd hd=>?_) D (λr1 b1 al l1 h1=>?_) ⟨?_,λa=>?_⟩;rcases List.mem_append.1 hd with k|k;exact y r b ad m n d k;exact L d (by rw[s];exact List.mem_cons_of_mem _ k);by_cases e:r=r1
    subst e;simp only at h1;rw[sS (eS n).1]at h1;cases h1;simp[sN e]at h1;exact y r1 b1 al l1 h1;simp;exact t.1;rw[<-t.2 a];unfold Tg;by_cases e:r=a.block
    simp[<-e,Array.getElem?_setIfInBounds_self_of_lt (eS n).1,n];simp[sN e]
   have⟨h,u,es,hb⟩:=X (λm k=>T ⟨m,k⟩);rw[hb]at i;exfalso;have:∃o u es,stepG P Y g w=.ended o u es:=⟨_,_,_,i⟩;obtain⟨o,u,es,i⟩:=this;cases p with
   |comm h _=>rw[i]at h;cases h
   |go h _ _=>rw[i]at h;cases h
  |nil=>
   unfold unwind at i;simp[s,A,z]at i;generalize aj:g.callers=cs at D i;cases D with
   |base=>
    exfalso;rcases hN aj with k|k;rw[A]at k;cases k;exact k s
   | @cons c rest av af ap=>
    have j:=i;cases p with
    |comm h _=>rw[j]at h;cases h
    |go h _ _=>
     rw[j]at h;cases h;have hr:∃l2,(c.raise (en::l)).mode=.panicking (en::l2):=by
      unfold R9;cases c.mode with
      |panicking ch=>exact⟨l++ch,Q⟩
      |_=>exact⟨l,Q⟩
     obtain⟨l2,hr⟩:=hr;have hk:(c.raise (en::l)).defers=c.defers/\(c.raise (en::l)).catches P=c.catches P:=by
      unfold R9 R8;cases c.mode<;>exact⟨Q,Q⟩
     exact ih _ _ _ _ F l2 hr Q (by rw[hk.2];exact av) (by rw[hk.1];exact af) ap y t
section
open Go.Conc (crowd Past EvL Deaf QuitsD woken awake crowd_pick runT_crowd_go Goes AtRel goes_elim)
open Go.ConcN (sumTo upd sumTo_upd upd_ne upd_same)
variable {P:Wv} {Post:Wx->Wj->Prop}
def DB(B:H):Wj->Wj->dT Event->Prop:=λ_ _ es=>∀e∈es,EvL gJ B e
def LP(P:Wv)(Post:Wx->Wj->Prop)(B:H)(g:Wk)(W:Wj):Prop:=
 ∀ (gs:dT Wk) (sl:eV (H×H)) (t:Trace) (q:H->H),gs[0]?=J g->Lv P (λ_=>gI) t gs q->Past gJ B t->Fin P Post gs W sl t
theorem An:∀ {n:H}{g:Wk}{W:Wj},Goes P Y AtRel (DB B) (LP P Post B) n g W->LP P Post B g W:=by
 intro n;induction n with
 |zero=>intro g W h;exact h W ⟨W.drawn,Q⟩
 |succ n ih=>
  intro g W h gs sl t q j v F;rcases h with h|⟨hr,h⟩;exact h W ⟨W.drawn,Q⟩ gs sl t q j v F;obtain⟨a,hM⟩:∃a,sumTo gs.size q<=a:=⟨_,Q0⟩;obtain⟨b,o⟩:∃b,W=W.at b:=⟨W.drawn,Q⟩;rw[o];clear o;induction a using Sq generalizing gs sl t q b with
  |_ a D=>
   have⟨i,x,f,p,r,X,c⟩:=xv (P:=P) (w:=W.at b) (sl:=sl) (iI v j hr) ⟨0,g,j,hr⟩;rw[rm]at c;rcases Sp i with rfl|m;obtain rfl:x=g:=by rw[j]at r;exact(oJ r).s
   have⟨g',W',es,z,A,y⟩:=goes_elim (h (W.at f) ⟨f,Q⟩);obtain⟨e,l,u,T,R,G,-,L⟩:=rl (w:=W.at b) v r (Rf Q) (d:=f) (by rw[rm];exact c) (show stepG P (0==0) x ((W.at b).at f)=_ from z);subst T;exact Fin.next u (ih y e p _ q G L (F.own A))
   obtain⟨e,q',l,u,T,R,G,V,L,-⟩:=slip (w:=W.at b) (d:=f) v F (jL B) r X m (λk=>k) (firm0 j hr _) (by rw[rm];exact c);rw[rm]at u;exact Fin.next u (D _ (by omega) e p (t++l) q' ((R 0 (Rf Q)).t j) G V Q0 f)
end
section
open Go.Conc Go.ConcX Go.ConcX.Gen
theorem jk{tm:ey}{fr:Wy}{a:Act}{cs:S Wy}{c:dT Oper}{d:S H}{K:Wk->Wj->dT Event->Prop}
  (h:∀K':Act->Wj->Prop,(∀f w',K (G (fr.at f (.inRegion c d::k)) cs) w' (listed P fr.fn a o w)->K' f w')->uponK o a K' ((SK a.eval o).run P w)) (m:c[i]?=J o:=by rfl) (j:Sx o (yielded c a.tmps)=true:=by rfl) (l:fr.kind≠.early:=by decide):
  (stepG P tm (G (fr.at a (.inRegion c (i::d)::k)) cs) w).goes K:=goes_oper_k m j l h
def i8:Code->Code
 | .seq a _=>a
 |c=>c
def dr:Code->Code
 | .seq _ b=>b
 |c=>c
def qh:Code->dT Oper
 | .region _ a _=>a
 |_=>#[]
def cD(fn:Func):Code:=fn.body.getD .skip
noncomputable def yD:dT Oper:=qh (i8 (dr (dr (cD S8))))
noncomputable def lr:Code:=dr (dr (dr (cD S8)))
def qV(a:ey)(p d b:gL):Wx:=Rd #[C a,U p,U d,U b]
def sV(root:eV Wu):Wx:=Rd #[O root]
def ptr(n:H):Wx:=O (J ⟨n,0,N⟩)
def fk(n:H):Wx:=.func (.func 98) #[] #[ptr (n+3),ptr n,ptr (n+1)]
def gN(n:H)(root:eV Wu)(a:ey)(p d b:gL)(x:Wx):dT Wx:=#[qV a p d b,sV root,ptr n,ptr (n+1),.chan N,ptr (n+3),.chan (J (n+2)),x,Wo]
def itW(W:Wj)(root:eV Wu)(b:ey)(p d c:gL)(a:H):Wj:=
 (((W.alloc (E #[C b,U p,U d,U c] 84)).alloc (E #[O root] 40)).alloc (.chan a #[] Z 0 0 Z)).alloc (E #[.chan (J (W.heap.size+2))] 187)
theorem Js:∃i,Tryz.prog.info? 67=J i/\i.bytes=32:=⟨Tryz.t67,by unfold Tables.info?;rw[if_pos (by rw[Tryz.types_size];decide)];exact type67,Q⟩
theorem G8 c(cs:nF Wy)(k:eV Wu)(r:ey)(p d s:gL)W B(hB:W.heap.size+4=B){Stop:Wk->Wj->Prop}
    (o:∀l,Stop (G ((base 76).at ⟨gN W.heap.size k r p d s (fk W.heap.size),[]⟩ [.inRegion yD [1],.code lr]) (c::cs)) ((itW W k r p d s 20).at l)):
    Goes S7 Y AtRel (DB B) Stop 20 (G (R6 S7 76 #[qV r p d s,sV k] .normal) (c::cs)) W:=by
  obtain⟨i41,m,n⟩:=Js;unfold qV sV;rw[Rt _ func76 Q]
  walk_nrmf S8
  refine n8 Q (λw₁ a=>?_);obtain⟨l,b⟩:=a;subst b
  try simp
  rw[xc];simp;refine⟨λe f=>by simp at f,?_⟩
  iterate 7
    refine n8 Q (λw₁ a=>?_);obtain⟨l,b⟩:=a;subst b
    try simp
    first
      |((first|rw[xc] |rw[vx] |rw[tb]);simp;refine⟨λe f=>by simp at f,?_⟩)
      | (refine jk (fun K j => ?_)
         go_simp
         refine j _ _ ⟨λe f=>?_,?_⟩;have i:=Rj f;simp[go_sem, *]at i
         try(subst i;exact Ro _ _ (λh=>h) (by simp<;>omega))
         clear j K)
  refine n8 Q (λw₁ a=>?_);obtain⟨l,b⟩:=a;subst b
  try simp
  refine jk (λK j=>?_);have t:=λw=>RU (P:=S7) (w:=w) underlying187 m .i64 20 (by omega) (by rw[n];omega)
  have q:=λw es=>events_makeChan (P:=S7) (w:=w) underlying187 m .i64 20 (by omega) (by rw[n];omega) es
  simp at t q
  go_simp
  refine j _ _ ⟨λe f=>?_,?_⟩;have i:=Rj f;simp[go_sem, *]at i
  try(subst i;exact Ro _ _ (λh=>h) (by simp<;>omega))
  clear j K;refine n8 Q (λw₁ a=>?_);obtain⟨l,b⟩:=a;subst b
  try simp
  refine jk (λK j=>?_)
  go_simp
  refine j _ _ ⟨λe f=>?_,?_⟩;have i:=Rj f;simp[go_sem, *]at i
  try(subst i;exact Ro _ _ (λh=>h) (by simp<;>omega))
  clear j K;refine n8 Q (λw₁ a=>?_);obtain⟨l,b⟩:=a;subst b
  try simp
  refine jk (λK j=>?_)
  go_simp
  refine j _ _ ⟨λe f=>?_,?_⟩;have i:=Rj f;simp[go_sem,storedEv, *]at i
  try(subst i;exact Ro _ _ (λh=>h) (by simp<;>omega))
  clear j K;refine n8 Q (λw₁ a=>?_);obtain⟨l,b⟩:=a;subst b
  try simp[setCell_at]
  rw[tb];simp;refine⟨λe f=>by simp at f,?_⟩
  iterate 3
    refine n8 Q (λw₁ a=>?_);obtain⟨l,b⟩:=a;subst b
    try simp
    first
      |((first|rw[xc] |rw[vx]);simp;refine⟨λe f=>by simp at f,?_⟩)
      | (refine jk (fun K j => ?_)
         go_simp
         refine j _ _ ⟨λe f=>?_,?_⟩;have i:=Rj f;simp[go_sem, *]at i
         try(subst i;exact Ro _ _ (λh=>h) (by simp<;>omega))
         clear j K)
  refine pt (λw₁ a=>?_);obtain⟨l,b⟩:=a;subst b;exact o l
end
section
open Go.Conc Go.ConcX Go.ConcX.Gen Go.RowKit
structure Lst where
 num:lk
 root:eV Wu
 vs:ey
 p:gL
 d:gL
 af:gL
 size:lk
 left:lk
def aT(l:Lst):dT Wx:=#[I K l.num,O l.root,C l.vs,U l.p,U l.d,U l.af,I K l.size,I K l.left]
def lV(l:Lst):Wx:=Rd (aT l)
def pgW(W:Wj)(l:Lst):Wj:=
 ((W.alloc (E (aT l) 116)).alloc (E #[M N 0 0,U ⟨#[]⟩] 79)).alloc (E #[M N 0 0,U ⟨#[]⟩] 79)
noncomputable def cU:Code:=dr (dr (dr (dr (cD S9))))
noncomputable def vE:dT Oper:=qh (i8 (i8 cU))
noncomputable def n9:S Item:=[.code (dr (i8 cU)),.code (dr cU)]
def mB(n:H)(l:Lst)(a:lk):dT Wx:=
 #[lV l,I K a,ptr n,Wo,ptr (n+1),ptr (n+2),I K (IntKind.i64.wrap (a*l.size)),I K 0,Wo,I K a,O (J ⟨n,6,N⟩),I K l.size,I K (IntKind.i64.wrap (a*l.size)),O (J ⟨n,2,N⟩),qV l.vs l.p l.d l.af,O (J ⟨n,1,N⟩),sV l.root,Wo,Wo,Wo,Wo,Wo,Wo,Wo,Wo,Wo,Wo,Wo,Wo,Wo,Wo,Wo,Wo,Wo,Wo,Wo,Wo,Wo,Wo,Wo,Wo,Wo,Wo,Wo,Wo,Wo,Wo,Wo,Wo]
theorem Kk:∃i,Yq.prog.info? 67=J i/\i.bytes=32:=Js
theorem G9 l(b:lk)cs w:Steps Vp (lone ((base 48).at ⟨#[lV l,I .i64 b]++Sl 47 Wo,[]⟩ [.code Yq.Po]) cs w) (lone ((base 48).at ⟨mB w.heap.size l b,[]⟩ (.inRegion vE [4]::n9)) cs (pgW w l)):=by
 have h:Ru Vp (λg' w'=>g'=G ((base 48).at ⟨mB w.heap.size l b,[]⟩ (.inRegion vE [4]::n9)) cs/\w'=pgW w l) (G ((base 48).at ⟨#[lV l,I .i64 b]++Sl 47 Wo,[]⟩ [.code Yq.Po]) cs) w:=by
  refine SZ (n:=40) ?_;unfold lV aT;dsimp only[Yq.Po,S9,Tc]
  walk_nrm
  iterate 28
   refine n8 Q (λw₁ a=>?_);subst a;first
    |((first|rw[xc] |rw[vx] |rw[tb]);refine⟨trivial,?_⟩)
    |(refine jk (λK c=>?_);go_simp;refine c _ _ ⟨trivial,?_⟩;clear c K)
  refine pt (λw₁ a=>?_);subst a;exact S0 ⟨Q,Q⟩
 obtain⟨g',w',hs,rfl,rfl⟩:=h;exact hs
theorem yE{ops:dT Oper}{a:Act}{w':Wj}{rest:S H}{b:Wy}{cs:S Wy}(d:ops[i]?=J o)(e:Sx o (yielded ops a.tmps)=Y)(hr:(SK a.eval o).run P w=.ok (.value v) w'):
  step P (lone (b.at a (.inRegion ops (i::rest)::k)) cs w)=.next (lone (b.at (a.put o.dst v) (.inRegion ops rest::k)) cs w'):=by
 have c:(b.at a (.inRegion ops (i::rest)::k)).finish v=b.at (a.put o.dst v) (.inRegion ops rest::k):=by rw[R7,d];rfl
 exact SE (by rw[(SJ (P:=P) (b:=b) (k:=k) (cs:=cs) (w:=w) (rest:=rest) d e),<-c];simp[stepG.apply,hr])
theorem tP{a:Act}{w':Wj}{c:S H}{fr:Wy}{cs:S Wy}(j:d[i]?=J o)(h:Sx o (yielded d a.tmps)=Y)(hr:(SK a.eval o).run P w=.ok (.enter f c') w'):
  step P (lone (fr.at a (.inRegion d (i::c)::k)) cs w)=.next (lone (R6 P f c' .normal) (fr.at a (.inRegion d (i::c)::k)::cs) w'):=SE (by rw[(SJ (P:=P) (b:=fr) (k:=k) (cs:=cs) (w:=w) (rest:=c) j h)];simp[stepG.apply,hr,Frame.at])
noncomputable def fQ(n:H)(root:eV Wu)(a:ey)(p d b:gL)(x:Wx)(r:S H):Wy:=(base 76).at ⟨gN n root a p d b x,[]⟩ [.inRegion Yq.N5 r,.code lr]
theorem DZ(root:eV Wu)(vs:ey)(p d af:gL)cs w:Steps Vp (lone (R6 Vp 76 #[qV vs p d af,sV root] .normal) cs w) (lone (R6 Vp 98 #[ptr (w.heap.size+3),ptr w.heap.size,ptr (w.heap.size+1)] .normal) (fQ w.heap.size root vs p d af (fk w.heap.size) [1,2]::cs) (itW w root vs p d af 1000)):=by
 have h:Ru Vp (λg' w'=>g'=G (fQ w.heap.size root vs p d af (fk w.heap.size) [1,2]) cs/\w'=itW w root vs p d af 1000) (G (R6 Vp 76 #[qV vs p d af,sV root] .normal) cs) w:=by
  obtain⟨i41,hi41,hb41⟩:=Kk;refine SZ (n:=40) ?_;unfold qV sV;rw[Rt _ Yq.func76 Q];dsimp only[Yq.b76,Yq.OF,Yq.OC,Yq.N5,Yq.OG]
  walk_nrmf S8
  iterate 8
   refine n8 Q (λw₁ h₁=>?_);subst h₁;first
    |((first|rw[xc] |rw[vx] |rw[tb]);simp;refine⟨trivial,?_⟩)
    |(refine jk (λK hK=>?_);go_simp;refine hK _ _ ⟨trivial,?_⟩;clear hK K)
  refine n8 Q (λw₁ h₁=>?_);subst h₁;refine jk (λK hK=>?_);have hmk:=λw=>RU (P:=Vp) (w:=w) (Yq.u underlying187) hi41 .i64 1000 (by omega) (by rw[hb41];omega)
  simp at hmk
  go_simp
  refine hK _ _ ⟨trivial,?_⟩;clear hK K
  iterate 6
   refine n8 Q (λw₁ h₁=>?_);subst h₁;first
    |((first|rw[xc] |rw[vx] |rw[tb]);simp;refine⟨trivial,?_⟩)
    |(refine jk (λK hK=>?_);go_simp;refine hK _ _ ⟨trivial,?_⟩;clear hK K)
  refine pt (λw₁ h₁=>?_);subst h₁;exact S0 ⟨Q,Q⟩
 obtain⟨g',w',hs,rfl,rfl⟩:=h
 refine Steps.t hs (.one (tP (o := { dst := N, op := .call { callee := .value (Rh 7), args := #[], argTypes := #[] }, type := 0, pos := "", after := #[], guard := N }) rfl rfl ?_))
 simp[go_sem,SY,gN,fk]
def stopEntry(x y:Wx):SG:={v:=.iface 3 (.func (.func 48) #[x,y] #[]),recovered:=Z}
def jO(x y:Wx):dT Wx:=#[x,y,Wo,Wo,Wo,Wo,Wo,Wo,Wo,Wo,Wo,Wo,Wo,Wo,Wo,Wo,Wo,Wo,Wo,Wo,Wo,Wo,Wo,Wo,Wo,Wo,Wo,Wo,Wo,Wo,Wo,Wo,Wo,Wo,Wo,Wo,Wo,Wo,Wo,Wo,Wo,Wo,Wo,Wo,Wo,Wo,Wo,Wo,Wo]
theorem vF x y:#[x,y]++Sl 47 Wo=jO x y:=Si.1 (by simp[jO,List.replicate])
theorem rQ x y:R6 Vp 48 #[x,y] .normal=(base 48).at ⟨jO x y,[]⟩ [.code (.seq Yq.Qb Yq.Po)]:=by
 rw[Rt _ Yq.func48 Q,<-vF];rfl
theorem LQ:Sv (Yq.prog.follows .mixedOrders) Yq.NH 1=[1,0]:=by
 have h:∀b,Sv b Yq.NH 1=[1,0]:=λb=>by cases b<;>simp[Sv,Sy,Region.linearise.go,Sz,Yq.NH,Th,Te]
 exact h _
theorem LR:Sv (Yq.prog.follows .mixedOrders) Yq.NH 0=[0,1]:=by
 have h:∀b,Sv b Yq.NH 0=[0,1]:=λb=>by cases b<;>simp[Sv,Sy,Region.linearise.go,Sz,Yq.NH,Th,Te]
 exact h _
def gO:Code:=.seq (.cond (Rh 9) (.region 101 Yq.N6 Z) .skip) (.region 102 Yq.OM Z)
theorem rR x y cs w t r(hr:Sv (Yq.prog.follows .mixedOrders) Yq.NH t=r)(c:w.tape w.drawn (.order 48 100)=t):
  Steps Vp (lone (R6 Vp 48 #[x,y] .normal) cs w) (lone ((base 48).at ⟨jO x y,[]⟩ [.inRegion Yq.NH r,.code gO,.code Yq.Po]) cs {w with drawn:=w.drawn+1}):=by
 rw[rQ];refine .head step_seq (.head (step_seq (x:=.region 100 Yq.NH Y) (y:=gO)) (.one ?_));have:=step_region_draw (P:=Vp) (b:=base 48) (a:=⟨jO x y,[]⟩) (k:=[.code gO,.code Yq.Po]) (cs:=cs) (w:=w) (ops:=Yq.NH) (id:=100);rw[show(base 48).fn=48 from Q,c,hr]at this;exact this
theorem Hb x y cs w(hr:Sv (Yq.prog.follows .mixedOrders) Yq.NH (w.tape w.drawn (.order 48 100))=[1,0]):
  Steps Vp (lone (R6 Vp 48 #[x,y] .normal) cs w) (lone ((base 48).at ⟨jO x y,[]⟩ [.code Yq.Po]) cs {w with drawn:=w.drawn+1}):=by
 refine Steps.t (rR x y cs w _ _ hr Q) ?_;generalize({w with drawn:=w.drawn+1}:Wj)=u;have h:Ru Vp (λg' w'=>g'=G ((base 48).at ⟨jO x y,[]⟩ [.code Yq.Po]) cs/\w'=u) (G ((base 48).at ⟨jO x y,[]⟩ [.inRegion Yq.NH [1,0],.code gO,.code Yq.Po]) cs) u:=by
  refine SZ (n:=20) ?_;unfold jO Yq.NH gO
  iterate 4
   refine n8 Q (λw₁ a=>?_);subst a;first
    |((first|rw[xc] |rw[tb]);refine⟨trivial,?_⟩)
    |(refine jk (λK b=>?_);refine b _ _ ⟨trivial,?_⟩;clear b K)
  refine n8 Q (λw₁ a=>?_);subst a;rw[R3 (t:=Z) Q];simp;refine⟨trivial,n8 Q (λw₁ a=>?_)⟩;subst a;rw[stepG_skip];refine⟨trivial,?_⟩;unfold Yq.OM
  iterate 3
   refine n8 Q (λw₁ a=>?_);subst a;first
    |((first|rw[vx] |rw[tb]);refine⟨trivial,?_⟩)
    |(refine jk (λK b=>?_);refine b _ _ ⟨trivial,?_⟩;clear b K)
  refine pt (λw₁ a=>?_);subst a;exact S0 ⟨Q,Q⟩
 obtain⟨g',w',hs,rfl,rfl⟩:=h;exact hs
theorem vG x y cs w(hr:Sv (Yq.prog.follows .mixedOrders) Yq.NH (w.tape w.drawn (.order 48 100))=[0,1]):
  ∃fr,Steps Vp (lone (R6 Vp 48 #[x,y] .normal) cs w) (lone fr cs {w with drawn:=w.drawn+1})/\fr.mode=.panicking [stopEntry x y]/\fr.defers=[]/\fr.fn=48:=by
 have h0:=rR x y cs w _ _ hr Q;generalize({w with drawn:=w.drawn+1}:Wj)=u at h0 ⊢;have h:Ru Vp (λg' w'=>(∃a k,g'=G ((base 48).at a (.inRegion Yq.N6 [2]::k)) cs/\a.eval (Rh 11)=.iface 3 (.func (.func 48) #[x,y] #[])/\a.defers=[])/\w'=u) (G ((base 48).at ⟨jO x y,[]⟩ [.inRegion Yq.NH [0,1],.code gO,.code Yq.Po]) cs) u:=by
  refine SZ (n:=20) ?_;unfold jO Yq.NH gO
  iterate 4
   refine n8 Q (λw₁ h₁=>?_);subst h₁;first
    |((first|rw[xc] |rw[tb]);refine⟨trivial,?_⟩)
    |(refine jk (λK hK=>?_);refine hK _ _ ⟨trivial,?_⟩;clear hK K)
  refine n8 Q (λw₁ h₁=>?_);subst h₁;rw[R3 (t:=Y) Q];simp only[Rp,↓reduceIte];refine⟨trivial,?_⟩;unfold Yq.N6
  iterate 3
   refine n8 Q (λw₁ h₁=>?_);subst h₁;first
    |(rw[vx];refine⟨trivial,?_⟩)
    |(refine jk (λK hK=>?_);go_simp;refine hK _ _ ⟨trivial,?_⟩;clear hK K)
  refine pt (λw₁ h₁=>?_);subst h₁;exact S0 ⟨⟨_,_,Q,Q,Q⟩,Q⟩
 obtain⟨g',w',hs,⟨⟨tm,df⟩,k,rfl,ha,hd⟩,rfl⟩:=h;refine⟨{(base 48).at ⟨tm,df⟩ (.inRegion Yq.N6 [2]::k)with mode:=.panicking [stopEntry x y]},Steps.t h0 (Steps.t hs (.one (SE ?_))),Q,hd,Q⟩
 have ho : Yq.N6[2]? = J { dst := N, op := .panic (Rh 11), type := 0, pos := "", after := #[], guard := N } := rfl
 rw[SJ ho Q]
 have e : SK (SY ⟨tm, df⟩) { dst := N, op := .panic (Rh 11), type := 0, pos := "", after := #[], guard := N } = (do let v ← Instr.panic (SY ⟨tm, df⟩ (Rh 11)); pure (.value v)) := rfl
 rw[e,ha];rfl
theorem Kl l(k:lk)(cs:nF Wy)W B(hB:W.heap.size+7=B){Stop:Wk->Wj->Prop}
    (f:∀i,Stop (G (R6 S7 76 #[qV l.vs l.p l.d l.af,sV l.root] .normal) ((base 48).at ⟨mB W.heap.size l k,[]⟩ (.inRegion vE [4]::n9)::cs)) ((pgW W l).at i)):
    Goes S7 Y AtRel (DB B) Stop 40 (G (R6 S7 48 #[lV l,I .i64 k] .normal) cs) W:=by
  obtain⟨num,root,vs,p,d,af,size,left⟩:=l;unfold lV aT;rw[Rt _ func48 Q]
  walk_nrmf S9
  refine n8 Q (λw₁ a=>?_);obtain⟨i,b⟩:=a;subst b
  try simp only[alloc_at,setCell_at,rm]
  rw[xc];simp only[Rp];refine⟨λe c=>by simp at c,?_⟩
  repeat
    refine n8 Q (λw₁ a=>?_);obtain⟨i,b⟩:=a;subst b
    try simp only[alloc_at,rm]
    first
      |(rw[xc];simp only[Rp];refine⟨λe c=>by simp at c,?_⟩)
      |(rw[vx];simp only[Rp,lZ,lC,lN,Su,zA,Th,Te];refine⟨λe c=>by simp at c,?_⟩)
      |(rw[tb];simp only[Rp];refine⟨λe c=>by simp at c,?_⟩)
      | (refine jk (fun K m => ?_)
         go_simp
         refine m _ _ ⟨λe c=>?_,?_⟩
         . have j:=Rj c
           simp[go_sem, *]at j;all_goals first
             |(subst j;exact Ro _ _ (λh=>h) (by simp<;>omega))
             |(rcases j with rfl|rfl|rfl|rfl<;>exact Ro _ _ (λh=>h) (by simp<;>omega))
         clear m K)
  refine n8 Q (λw₁ a=>?_);obtain⟨i,b⟩:=a;subst b
  try simp only[rm]
  refine goes_call Q Q (by decide) Q func76 Q Q ⟨λe c=>by simp at c,?_⟩
  walk_nrmf S8
  refine pt (λw₁ a=>?_);obtain⟨i,b⟩:=a;subst b;have:=f i;rw[Rt _ func76 Q]at this;exact this
structure Boxes (w:Wj)(bo bq bs c:H)(root:eV Wu)(vs:ey)(p d af:gL):Prop where
 o:w.cell? ⟨bo,0,N⟩=J (.chan (J c))
 q0:w.cell? ⟨bq,0,N⟩=J (C vs)
 q1:w.cell? ⟨bq,1,N⟩=J (U p)
 q2:w.cell? ⟨bq,2,N⟩=J (U d)
 q3:w.cell? ⟨bq,3,N⟩=J (U af)
 st:w.cell? ⟨bs,0,N⟩=J (O root)
noncomputable def oc:dT Oper:=qh (dr (cD Ta))
def tQ(c:H)(d:Deferred):Prop:=∃at_ t k,d={target:=.builtin .close at_ t k,args:=#[.chan (J c)]}
theorem Hc{a:Act}{w':Wj}{c:S H}{df:Deferred}{fr:Wy}{cs:S Wy}(f:d[i]?=J o)(h:Sx o (yielded d a.tmps)=Y)(hr:(SK a.eval o).run P w=.ok (.defer df) w'):
  step P (lone (fr.at a (.inRegion d (i::c)::k)) cs w)=.next (lone (fr.at ({a with defers:=df::a.defers}.put o.dst Wo) (.inRegion d c::k)) cs w'):=by
 have e:({fr.at a (.inRegion d (i::c)::k)with defers:=df::a.defers}:Wy).finish Wo=fr.at ({a with defers:=df::a.defers}.put o.dst Wo) (.inRegion d c::k):=by
  have:=R7 fr {a with defers:=df::a.defers} d i c k Wo;rw[f]at this;exact this
 refine SE ?_;rw[(SJ (P:=P) (b:=fr) (k:=k) (cs:=cs) (w:=w) (rest:=c) f h)];simp only[stepG.apply,Sem.runT_eq,hr,GStep.bare_after];exact kr (λj=>GStep.go {frame:=j,callers:=cs,status:=Ri,dying:=N} w') e
theorem Km{bo m c}{f:eV Wu}{l:ey}{p d k:gL}(o:Boxes w bo j m c f l p d k)cs:
  ∃a e,Steps Vp (lone (R6 Vp 98 #[ptr bo,ptr j,ptr m] .normal) cs w) (lone ((base 98).at ⟨a,[e]⟩ [.inRegion oc [3]]) cs w)/\tQ c e/\SY ⟨a,[e]⟩ (Rh 4)=qV l p d k/\SY ⟨a,[e]⟩ (Rh 5)=sV f/\SY ⟨a,[e]⟩ (Rh 6)=.chan (J c):=by
 obtain⟨ho,h0,h1,h2,h3,h4⟩:=o;have h:Ru Vp (λg' w'=>∃a e,(g'=G ((base 98).at ⟨a,[e]⟩ [.inRegion oc [3]]) cs/\w'=w)/\tQ c e/\SY ⟨a,[e]⟩ (Rh 4)=qV l p d k/\SY ⟨a,[e]⟩ (Rh 5)=sV f/\SY ⟨a,[e]⟩ (Rh 6)=.chan (J c)) (G (R6 Vp 98 #[ptr bo,ptr j,ptr m] .normal) cs) w:=by
  refine SZ (n:=20) ?_;unfold ptr;rw[Rt _ (Yq.nq func98) Q]
  iterate 3
   refine n8 Q (λw₁ b=>?_);subst b;first
    |((first|rw[xc] |rw[vx]);refine⟨trivial,?_⟩)
    |(refine jk (λK i=>?_);go_simp;refine i _ _ ⟨trivial,?_⟩;clear i K)
  refine pt (λw₁ b=>?_);subst b;refine LoneTo.step (Hc (w':=w) (df:={target:=.builtin .close #[187] 0 #[Z],args:=#[.chan (J c)]}) Q Q (by simp[go_sem,SY])) ?_;show Ru Vp _ (G _ cs) w;refine SZ (n:=20) ?_
  walk_nrm
  iterate 5
   refine n8 Q (λw₁ b=>?_);subst b;first
    |((first|rw[vx] |rw[tb]);refine⟨trivial,?_⟩)
    |(refine jk (λK i=>?_);go_simp;refine i _ _ ⟨trivial,?_⟩;clear i K)
  refine pt (λw₁ b=>?_);subst b;exact S0 ⟨_,_,⟨Q,Q⟩,⟨_,_,_,Q⟩,Q,Q,Q⟩
 obtain⟨g',w',hs,a,e,⟨rfl,rfl⟩,hr⟩:=h;exact⟨a,e,hs,hr⟩
theorem vH{bo bq bs c}{root:eV Wu}{vs:ey}{p d af:gL}(hb:Boxes w bo bq bs c root vs p d af){Q:Wj->Prop}
  (hsend:Calls Vp 99 #[qV vs p d af,sV root,.chan (J c)] w λe w'=>e=Rc (Re #[])/\Q w') (cs:S Wy):
  ∃fr w' df,Steps Vp (lone (R6 Vp 98 #[ptr bo,ptr bq,ptr bs] .normal) cs w) (lone fr cs w')/\fr.fn=98/\fr.mode=.returning/\fr.defers=[df]/\tQ c df/\fr.kind=.normal/\fr.roundOf=N/\Q w':=by
 have⟨a,df,hs,hc,h4,h5,h6⟩:=Km hb cs;obtain⟨e,w',fr,⟨rfl,hQ⟩,hcome,-,hlv⟩:=hsend ((base 98).at ⟨a,[df]⟩ [.inRegion oc [3]]::cs)
 have ho : oc[3]? = J { dst := J 7, op := .call { callee := .value (.func 99), args := #[Rh 4, Rh 5, Rh 6], argTypes := #[84, 40, 204] }, type := 0, pos := "items.go:24", after := #[{ on := 0, ground := .data }, { on := 1, ground := .data }, { on := 2, ground := .data }], guard := N } := rfl
 have hen:step Vp (lone ((base 98).at ⟨a,[df]⟩ [.inRegion oc [3]]) cs w)=.next (lone (R6 Vp 99 #[qV vs p d af,sV root,.chan (J c)] .normal) ((base 98).at ⟨a,[df]⟩ [.inRegion oc [3]]::cs) w):=by
  refine tP ho rfl ?_
  have e := run_call_body (P := Vp) (a := ⟨a, [df]⟩) (w := w) (o := { dst := J 7, op := .call { callee := .value (.func 99), args := #[Rh 4, Rh 5, Rh 6], argTypes := #[84, 40, 204] }, type := 0, pos := "items.go:24", after := #[{ on := 0, ground := .data }, { on := 1, ground := .data }, { on := 2, ground := .data }], guard := N }) rfl (Yq.nq func99) rfl rfl
  grind
 have hend:Steps Vp (lone (((base 98).at ⟨a,[df]⟩ [.inRegion oc [3]]).finish (Re #[])) cs w') (lone {(base 98).at (Act.put ⟨a,[df]⟩ ((oc[3]?).bind (·.dst)) (Re #[])) []with mode:=.returning} cs w'):=by
  rw[R7];exact .head step_region_end (.one step_end)
 exact⟨_,w',df,Steps.t hs (.head hen (Steps.t hcome (.head (SH hlv) hend))),rfl,rfl,rfl,hc,rfl,rfl,hQ⟩
theorem BW{fr}{cs}{c s}{f:ey}{i:Deferred}(l:fr.mode=.returning)(j:fr.defers=[i])(m:tQ c i)(e:w.heap[c]?=J (.chan n c' Z s q f)):
  step P (lone fr cs w)=.next (lone {fr with defers:=[]} cs (fP w c n c' s q f)):=by
 obtain⟨at_,t,k,rfl⟩:=m;have h:stepG P Y (G fr cs) w=.go (G {fr with defers:=[]} cs) (fP w c n c' s q f) (seen P fr.fn #[⟨.obj c,Z,Y⟩,⟨.obj c,Y,Y⟩]):=by
  simp only[stepG,G,l,unwind,j];unfold SN;simp only[vD at_ t k e];simp[GStep.after]
 exact step_solo_go (a:=G fr cs) Q h
theorem BX{fr:Wy}(c:fr.fn=98)(b:fr.mode=.returning)(a:fr.defers=[])(d:fr.kind=.normal):fr.leaving Vp w (Rc (Re #[])):=by
 refine⟨b,a,d,Ta,by rw[c];exact(Yq.nq func98),?_⟩;unfold results;rw[show Tryz.f98.results=#[]from Q,Array.mapM_eq_mapM_toList];rfl
theorem vJ{root root0:eV Wu}{vs:ey}{p d af:gL}(hb:Boxes w (n0+3) n0 (n0+1) (n0+2) root vs p d af){Q:Wj->Prop}{L:dT Wx}{m s}
  (hsend:Calls Vp 99 #[qV vs p d af,sV root,.chan (J (n0+2))] w λe w'=>e=Rc (Re #[])/\Q w'/\w'.heap[n0+2]?=J (.chan m L Z s q Z)) (cs:S Wy):
  ∃w',Q w'/\w'.heap[n0+2]?=J (.chan m L Z s q Z)/\Steps Vp (lone (R6 Vp 98 #[ptr (n0+3),ptr n0,ptr (n0+1)] .normal) (fQ n0 root0 vs p d af (fk n0) [1,2]::cs) w) (lone (fQ n0 root0 vs p d af Wo []) cs (fP w' (n0+2) m L s q Z)):=by
 have⟨fr,w',df,hs,hf,hm,hd,hc,hk,hr,hQ,hrow⟩:=vH hb hsend (fQ n0 root0 vs p d af (fk n0) [1,2]::cs);refine⟨w',hQ,hrow,Steps.t hs (.head (BW hm hd hc hrow) (.head (SH (BX (fr:={fr with defers:=[]}) hf hm rfl hk)) ?_))⟩;have e:(fQ n0 root0 vs p d af (fk n0) [1,2]).finish (Re #[])=fQ n0 root0 vs p d af (fk n0) [2]:=by
  unfold fQ;rw[R7];rfl
 rw[e];unfold fQ
 have := yE (P := Vp) (ops := Yq.N5) (a := ⟨gN n0 root0 vs p d af (fk n0), []⟩) (i := 2) (rest := []) (b := base 76) (k := [.code lr]) (cs := cs) (w := fP w' (n0 + 2) m L s q Z) (w' := fP w' (n0 + 2) m L s q Z) (v := Wo) (o := { dst := J 7, op := .move (.const Wo), type := 0, pos := "", after := #[], guard := N }) rfl rfl (by simp[go_sem, SY])
 exact .one this
def cIn:Code->Code
 | .block _ b=>b
 | .loop b=>b
 |c=>c
noncomputable def dE:Code:=cIn (cIn (dr (i8 cU)))
noncomputable def gQ:dT Oper:=qh (i8 dE)
noncomputable def Kn:S Item:=[.code (dr dE),.inLoop dE,.inBlock 0,.code (dr cU)]
noncomputable def mC(a:Act)(r:S H):Wy:=(base 48).at a (.inRegion gQ r::Kn)
def Kq(n:H)(l:Lst)(a:lk)(c:H):dT Wx:=
 #[lV l,I K a,ptr n,Wo,ptr (n+1),ptr (n+2),I K (IntKind.i64.wrap (a*l.size)),I K 0,Wo,I K a,O (J ⟨n,6,N⟩),I K l.size,I K (IntKind.i64.wrap (a*l.size)),O (J ⟨n,2,N⟩),qV l.vs l.p l.d l.af,O (J ⟨n,1,N⟩),sV l.root,.chan (J c),Wo,Wo,Wo,Wo,Wo,Wo,Wo,Wo,Wo,Wo,Wo,Wo,Wo,Wo,Wo,Wo,Wo,Wo,Wo,Wo,Wo,Wo,Wo,Wo,Wo,Wo,Wo,Wo,Wo,Wo,Wo]
noncomputable def pF(n:H)(l:Lst)(a:lk):Wy:=(base 48).at ⟨mB n l a,[]⟩ (.inRegion vE [4]::n9)
noncomputable def pF2(n:H)(l:Lst)(a:lk)(c:H):Wy:=(base 48).at ⟨Kq n l a c,[]⟩ (.inRegion vE []::n9)
theorem D1 n c l(e:lk)cs w(b:eV Wu)(hout:w.cell? ⟨c+3,0,N⟩=J (.chan (J (c+2)))):
  Steps Vp (lone (fQ c b l.vs l.p l.d l.af Wo []) (pF n l e::cs) w) (lone (pF2 n l e (c+2)) cs w):=by
 have h:Ru Vp (λg' w'=>g'=G (pF2 n l e (c+2)) cs/\w'=w) (G (fQ c b l.vs l.p l.d l.af Wo []) (pF n l e::cs)) w:=by
  refine SZ (n:=30) ?_;unfold pF fQ gN mB n9 qV sV ptr lV aT;dsimp only[lr,cD,S8,vE,cU,S9,i8,dr,qh,Tc]
  iterate 6
   refine n8 Q (λw₁ a=>?_);subst a;first
    |((first|rw[xc] |rw[vx] |rw[tb]);refine⟨trivial,?_⟩)
    |(refine jk (λK f=>?_);go_simp;refine f _ _ ⟨trivial,?_⟩;clear f K)
  refine n8 Q (λw₁ a=>?_);subst a;rw[R4];refine⟨trivial,n8 Q (λw₁ a=>?_)⟩;subst a;refine RY Q Q Yq.func76 Q ⟨trivial,pt (λw₁ a=>?_)⟩;subst a;exact S0 ⟨Q,Q⟩
 obtain⟨g',w',hs,rfl,rfl⟩:=h;exact hs
theorem yF n h l(m:lk)cs w(i:eV Wu)(c:w.cell? ⟨h+3,0,N⟩=J (.chan (J (h+2)))):
  Alone S7 (h+3) (G (pF2 n l m (h+2)) cs) 12 (G ((base 76).at ⟨gN h i l.vs l.p l.d l.af (fk h),[]⟩ [.inRegion yD [],.code lr]) (pF n l m::cs)) w:=by
 unfold Alone pF gN mB n9 qV sV ptr lV aT;dsimp only[yD,lr,cD,S8,vE,cU,S9,i8,dr,qh,Tc];refine n8 Q (λw₁ b=>?_);replace c:=(cB (a:=⟨h+3,0,N⟩) b).t c;rw[tb];refine⟨⟨by trivial,λe f=>by simp at f⟩,n8 Q (λw₁ b=>?_)⟩;replace c:=(cB (a:=⟨h+3,0,N⟩) b).t c;rw[xc];refine⟨⟨by trivial,λe f=>by simp at f⟩,n8 Q (λw₁ b=>?_)⟩;replace c:=(cB (a:=⟨h+3,0,N⟩) b).t c;rw[vx];simp only[Rp,lZ,lC,lN,Su,zA,Th,Te];refine⟨⟨by trivial,λe f=>by simp at f⟩,n8 Q (λw₁ b=>?_)⟩;replace c:=(cB (a:=⟨h+3,0,N⟩) b).t c;clear b;refine jk (λK j=>?_)
 go_simp
 refine j _ _ ⟨⟨Q,λe f=>?_⟩,?_⟩;have k:=Rj f;simp[go_sem, *]at k
 grind
 clear j K;refine n8 Q (λw₁ b=>?_);replace c:=(cB (a:=⟨h+3,0,N⟩) b).t c;clear b;refine jk (λK j=>?_)
 go_simp
 refine j _ _ ⟨⟨Q,λe f=>?_⟩,?_⟩;have k:=Rj f;simp[go_sem, *]at k
 try(subst k;exact⟨_,Q,Q⟩)
 clear j K;refine n8 Q (λw₁ b=>?_);replace c:=(cB (a:=⟨h+3,0,N⟩) b).t c;clear b;rw[tb];simp only[Rp];refine⟨⟨by trivial,λe f=>by simp at f⟩,n8 Q (λw₁ b=>?_)⟩;replace c:=(cB (a:=⟨h+3,0,N⟩) b).t c;clear b;rw[R4];simp only[Rp];refine⟨⟨by trivial,λe f=>by simp at f⟩,n8 Q (λw₁ b=>?_)⟩;replace c:=(cB (a:=⟨h+3,0,N⟩) b).t c;clear b;refine RY Q Q func76 Q ⟨⟨by trivial,λe f=>by simp at f⟩,?_⟩
 walk_nrm
 exact pt (λw₁ b=>Q)
end
