/- A part. -/
import Derived.Test.YtenhoolepfelcaaGreatDoorQP07
import Derived.Lib.AppendStr
import Derived.OwnWalkIn
import Derived.Shelf.SlSortCmp.WholeK
import Derived.Shelf.SlSortCmp.NoneTotal
import Derived.Deep.QuietTactic
import Derived.BigQuiet
set_option maxHeartbeats 4000000
set_option maxRecDepth 100000
open _root_ renaming ByteArray->dT,Int->ey,congrArg->eV,Array->eW,Option->gI,UInt8->gL,if_pos->ZS,if_neg->ZR,absurd->kr,getElem!_pos->lj,False->lk
open Go.Act renaming eval->nF,put->n8
open Go renaming maxLen->pt,bodyPost_ret->sq,info_parts->sT,wpIn_wide->ta,TypeInfo->tb,grownCap->tn,execOp->uc,bytesRow->vf
open Go.Region renaming wanted->vx
open Exists renaming intro->ZQ
open Go.World renaming cell?->xb,frozen?_alloc_at->xc,frozen?->xt,frozen?_setCell->xv,ownsRow_nil->yz,alloc->ZZ
open Go.Proofs.Tryz renaming underlying118->ZT,results8->ZX,underlying9->ZW,underlying5->PI,ntmps8->ZV,results54->PK,func8->PL,ntmps104->PM,ntmps19->PN,ntmps79->PO,underlying119->ZU,func104->PQ,underlying26->PR,func19->PS,func79->PT,f51->PU,f19->PV,f25->PW,ntmps52->PX,func52->PY
open Go.Lib renaming strCells->PZ,run_append_own_string->P0,wpList_append_run->P9,bitLen->Qg
open List renaming map_append->Qh,mem_append->Qi,getElem?_eq_none->Qj,length_eq_zero_iff->Qk,getElem_mem->Ql,mem_or_eq_of_mem_set->Qm,range->Qn,mem_of_mem_take->Qo,map_cons->Qp,map_nil->Qq,mem_map->Qr,mem_singleton->Qs,ext_getElem?->Qt,take_length->Qu,mem_flatMap->Qv,sum_append->Qx,mem_filter->Qz
open Nat renaming zero_le->QB,pow_le_pow_right->QC,mul_le_mul_right->QD,reduceAdd->QG,min_eq_left->QH
open Array renaming size_modify->QI,getElem?_append_left->QJ,getElem_modify_self->QK,toList_inj->QM,size_push->QQ
open Go.Addr renaming add_lit->QR
open Go.IntKind renaming bits->QS,signed->QT,wrap->QW
open Go.Value renaming ownBlock->QX,slice->QY,int->QZ,string->Q0
open Go.ByteArray renaming toList_eq->Q8
open Go.Instr renaming build->Q9
open Go.Code renaming wpIn->Ra,region->Rb
open List.range renaming loop->Rc
open UInt8 renaming ofNat->Rd
open ByteArray renaming ext->Re,size->Rf
open Or renaming inr->Rg,inl->Rh
open Int renaming emod_lt_of_pos->Ri,emod_nonneg->Rj,le_trans->Rk
open Go renaming World->Wj,Value->Wx,TypeId->Ww,Addr->Wu,undef->Wo
namespace Go.Proofs.Qw
open _root_ renaming rfl->Q
open _root_ renaming Nat->H,List->S
open Option renaming none->N,some->J
open Bool renaming true->Y,false->Z
open Value renaming int->I,string->U,slice->M,pointer->O,bool->C,agg->Qa,tuple->Qb
open IntKind renaming i64->K
open Obj renaming cells->E
open Ending renaming returned->ZY
open Or renaming inl->Qc,inr->Qd
open Operand renaming tmp->Qe
variable {a u:Act}{B V g k n r y:H}{W W1 w wr:Wj}{s s':dT}{b c:Exit->Act->Wj->Prop}{i l:ey}{F q:eW Oper}{o:Oper}{sc v v':Wx}{A:H->Prop}{xs:S Wx}{T:Ww}{L:S (dT×Ver)}{x:St×ey×dT}{R:S (mu×Wx)}
section
open Go.Conc Go.ConcX Go.ConcX.Gen Go.RowKit
theorem BK(c:ey)(w:Wj):(Q9 46 #[(0,I K c)]).run Yq.prog w=.ok (Qa #[I K c,I K 0,U ⟨#[]⟩,M N 0 0,U ⟨#[]⟩]) w:=by kernel_rfl
theorem BL(v:ey)(b:gI Wu)(a c:H)(w:Wj):(Q9 46 #[(1,I K v),(3,M b a c)]).run Yq.prog w=.ok (Qa #[I K 0,I K v,U ⟨#[]⟩,M b a c,U ⟨#[]⟩]) w:=by kernel_rfl
theorem nj(c:ey)(b:gI Wu)(a d:H)(t:dT)(w:Wj):(Q9 46 #[(0,I K c),(3,M b a d),(4,U t)]).run Yq.prog w=.ok (Qa #[I K c,I K 0,U ⟨#[]⟩,M b a d,U t]) w:=by kernel_rfl
section
variable {A:Nat->Prop} {B k0:Nat} {w:Wj} {st:St} {L:Lg}
def dA(w:Wj)(o:OpD):Wj:=(w.alloc (E #[I K o.kind,U o.key,U o.body,U o.eQ,U o.past,I K o.n,I K o.src] 30)).alloc (E #[I K 0,I K 0,U ⟨#[]⟩,M N 0 0,U ⟨#[]⟩] 46)
theorem aZ(o:OpD):ay w (dA w o):=(ay.refl.alloc _).alloc _
theorem ba(o:OpD):(dA w o).heap.size=w.heap.size+2:=by simp[dA]
theorem gU(o:OpD):(dA w o).heap[w.heap.size+1]?=J (E #[I K 0,I K 0,U ⟨#[]⟩,M N 0 0,U ⟨#[]⟩] 46):=by
 have:=aN (w.alloc (E #[I K o.kind,U o.key,U o.body,U o.eQ,U o.past,I K o.n,I K o.src] 30)) (E #[I K 0,I K 0,U ⟨#[]⟩,M N 0 0,U ⟨#[]⟩] 46)
 rwa [World.size_alloc]at this
theorem gw(o:OpD)(h:eE A B w k0 L):∀g,lp k0 (dA w o) g->g<w.heap.size:=λg d=>by
 obtain⟨v,a,e⟩:=d;obtain⟨v4,c,zs,z1,b,-⟩:=h.opened;rw[(aZ o).cell c]at a;cases a;exact(b.lt g e).2
theorem mw(o:OpD)(h:eE A B w k0 L){a:Wj}(b:FrC k0 (dA w o) a):a.heap[w.heap.size+1]?=J (E #[I K 0,I K 0,U ⟨#[]⟩,M N 0 0,U ⟨#[]⟩] 46):=by
 have hlt:=h.lt;rw[b.Mr _ ⟨_,gU o,Q⟩ (by omega) (λc=>by have:=gw o h _ c;omega)];exact gU o
def Box5(w1:Wj)(r:H):Prop:=
  (w1.cell? ⟨r,0,N⟩=J (I K 0)/\w1.cell? ⟨r,1,N⟩=J (I K 0)/\w1.cell? ⟨r,2,N⟩=J (U ⟨#[]⟩)/\w1.cell? ⟨r,3,N⟩=J (M N 0 0)/\w1.cell? ⟨r,4,N⟩=J (U ⟨#[]⟩)) /\
  (w1.frozen? ⟨r,0,N⟩=Z/\w1.frozen? ⟨r,1,N⟩=Z/\w1.frozen? ⟨r,2,N⟩=Z/\w1.frozen? ⟨r,3,N⟩=Z/\w1.frozen? ⟨r,4,N⟩=Z)
theorem box5{a:Wj}(e:a.heap[r]?=J (E #[I K 0,I K 0,U ⟨#[]⟩,M N 0 0,U ⟨#[]⟩] 46)):Box5 a r:=by
 refine⟨⟨?_,?_,?_,?_,?_⟩,?_,?_,?_,?_,?_⟩<;>simp[xb,xt,e]
theorem yx(h:aW A B w k0 st L)(hB:B<=w.heap.size)(p:L.opened.length<=3)(t:∀x∈L.opened,0<=x.left/\x.left<=10)(o:OpD)(T:o.kind=9):
  Calls Yq.prog 8 #[O (J ⟨k0,0,N⟩),aJ o] w (bQ A B k0 w st (fx L o.n).1 ⟨(fx L o.n).2,0,⟨#[]⟩,[],⟨#[]⟩⟩):=by
 have HT:=Kg (dA w o) (h.left (aZ o)) p o.n t;have q:∀a,FrC k0 (dA w o) a->_:=λa z=>box5 (mw o h.ls z)
 have HF:Hid (∀a f u l k j,aW A B a k0 st (fx L o.n).1->fi A B k0 (dA w o) a->FrC k0 (dA w o) a->bQ A B k0 w st (fx L o.n).1 ⟨(fx L o.n).2,0,⟨#[]⟩,[],⟨#[]⟩⟩ (ZY (j6 ⟨(fx L o.n).2,0,⟨#[]⟩,[],⟨#[]⟩⟩ (M N 0 0))) (put5 a (w.heap.size+1) f u l k j)):=λa f u l k j s i d=>by
  have⟨V,e2,e3,e4⟩:=ni (A':=A) (sv:=M N 0 0) (Mt:=[]) (r:=w.heap.size+1) (aZ o) h.ls.lt hB (by omega) (by rw[ba];omega) ⟨_,gU o,Q⟩ (λ_ h=>h) (λb G=>Qc G) h.ls.Ng s i d (gw o h.ls) ⟨N,0,Q,λ_=>Q,λh=>kr Q h⟩ f u l k j;exact⟨_,Q,A,λ_ h=>h,V,e2,e3,e4⟩
 generalize hR:(fx L o.n)=R at *;obtain⟨L',c⟩:=R;obtain⟨kind,key,body,eQ,past,n,src⟩:=o;subst T;unfold aJ;go_enter (Yq.nq PL),ZV;go_wp2_with (go_at_call 20;refine HT.m ?_;rintro e a ⟨rfl,s,i,d⟩;have⟨⟨X,y,D,P,F⟩,f0,f1,f2,f3,f4⟩:=(aI q).o a d)
 exact sq (v:=j6 ⟨c,0,⟨#[]⟩,[],⟨#[]⟩⟩ (M N 0 0)) (by simp[results,ZX,go_sem,j6,X,y,D,P,F]) Q (HF.o a _ _ _ _ _ s i d)
end
section
variable {A:Nat->Prop} {B k0:Nat} {w W w2:Wj} {st st':St} {L L':Lg} {o:OpD} {Mt:List ItD} {sv:Wx}
theorem Hg(h:eE A B w k0 L)(b:ay (dA w o) W)(a:bK A B k0 W L' Mt sv w2):w2.heap[w.heap.size+1]?=J (E #[I K 0,I K 0,U ⟨#[]⟩,M N 0 0,U ⟨#[]⟩] 46):=by
 obtain⟨A',-,-,-,-,-,c⟩:=a;have hlt:=h.lt;exact mw o h ((FrC.left (by rw[ba];omega) b).t c)
theorem tJ(L:Lg)(f:S gL->S Ver)(q:Qy)(n:ey):(fw L f q n).1.tm=L.tm:=by
 unfold fw
 repeat' split
 all_goals rfl
theorem zZ(L:Lg)(a:dT):(dR L a).1.tm=L.tm:=by
 unfold dR
 repeat' split
 all_goals rfl
theorem Hh(h:aW A B w k0 st L)(P:B<=w.heap.size)(d:ay (dA w o) W)(q:bK A B k0 W L' Mt sv w2)(a:mu)(z:a.items=Mt)(s:L'.tm=L.tm)(k p n m l:Wx):bQ A B k0 w st L' a (ZY (j6 a sv)) (put5 w2 (w.heap.size+1) k p n m l):=by
 subst z;obtain⟨A',f,D,R,j,T,v⟩:=q;have e:=h.ls.lt;have i:=h.left ((aZ o).t d);have hsW:=d.size;have G:=i.step j f R s;have c:k0<(dA w o).heap.size:=by rw[ba];omega
 have⟨x,V,y,F⟩:=ni (A':=A') (sv:=sv) (Mt:=a.items) (r:=w.heap.size+1) (aZ o) e P (by omega) (by rw[ba];omega) ⟨_,gU o,Q⟩ f (λb u=>(D b u).imp id (by omega)) h.ls.Ng G ((fi.left c d).t j.ND) ((FrC.left c d).t v) (gw o h.ls) T k p n m l;exact⟨_,Q,A',f,x,V,y,F⟩
theorem D6(h:aW A B w k0 st L)(hB:B<=w.heap.size)(D:ay (dA w o) W)(hp:bK A B k0 W L' Mt sv w2)(a:mu)(ha:a.items=Mt)(ht:L'.tm=L.tm)(c:H)(hb1:w.heap.size+2<=c)(hb2:c<W.heap.size)(q:dl W c)(p y x0 x1 x2 x3 x4:Wx):bQ A B k0 w st L' a (ZY (j6 a sv)) (put5 ((w2.setCell ⟨c,0,N⟩ p).setCell ⟨c,1,N⟩ y) (w.heap.size+1) x0 x1 x2 x3 x4):=by
 subst ha;obtain⟨A',T,a2,a3,a4,a5,a6⟩:=hp;have V:=h.ls.lt;have hlow:=h.ls.low;have ab:=h.left ((aZ o).t D);have hsW:=D.size;have d1:=ab.step a4 T a3 ht;have u:k0<(dA w o).heap.size:=by rw[ba];omega
 have i:¬A' c:=λf=>by
  rcases a2 c f with f|f
  .have:=h.ls.Ng c f;omega
  .omega
 have l:¬lp k0 W c:=by
  rintro⟨v,R,X⟩;obtain⟨v4,c4,zs,z1,z2,-⟩:=h.ls.opened;rw[((aZ o).t D).cell c4]at R;cases R;have:=(z2.lt c X).2;omega
 have m:¬lp k0 w2 c:=λf=>by
  rcases a6.own c f with f|f
  .exact l f
  .omega
 have F:dl w2 c:=q.same (a6.Mr c q (by omega) l);have P:¬lp k0 (w2.setCell ⟨c,0,N⟩ p) c:=by
  rintro⟨v,R,X⟩;exact m ⟨v,(cB (a:=⟨k0,4,N⟩) (bS _ _ _ _ (show k0≠c by omega))).s.t R,X⟩
 have d:c≠k0:=by omega
 have d2:=(d1.other (j:=0) (x:=p) d i F m (by omega)).other (j:=1) (x:=y) d i F.set P (by omega);have G:∀b,b≠c->((w2.setCell ⟨c,0,N⟩ p).setCell ⟨c,1,N⟩ y).heap[b]?=w2.heap[b]?:=λb n=>by rw[bS _ _ _ _ n,bS _ _ _ _ n]
 have k:¬A c:=λf=>i (T c f)
 have z:fi A B k0 (dA w o) ((w2.setCell ⟨c,0,N⟩ p).setCell ⟨c,1,N⟩ y):=(((fi.left u D).t a4.ND).t (aX.other d k (by omega)).ND).t (aX.other d k (by omega)).ND;have aa:FrC k0 (dA w o) ((w2.setCell ⟨c,0,N⟩ p).setCell ⟨c,1,N⟩ y):=(((FrC.left u D).t a6).fresh (by rw[ba];omega) d).fresh (by rw[ba];omega) d;have⟨e1,e2,e3,e4⟩:=ni (A':=A') (sv:=sv) (Mt:=a.items) (r:=w.heap.size+1) (aZ o) V hB (by omega) (by rw[ba];omega) ⟨_,gU o,Q⟩ T (λb n=>(a2 b n).imp id (by omega)) h.ls.Ng d2 z aa (gw o h.ls) (cw.Mr a5 λb n _=>⟨n,G b (λe=>i (e▸n))⟩) x0 x1 x2 x3 x4;exact⟨_,Q,A',T,e1,e2,e3,e4⟩
end
def eh(Mq:S dT)(src:ey)(body:dT):dT:=
 if 0<=src/\src<Mq.length then(if Mq[src.toNat]?.getD ⟨#[]⟩=⟨#[]⟩then body else Mq[src.toNat]?.getD ⟨#[]⟩)else body
noncomputable def yy:eW Oper:=pE (iG (iG (dm (cn PV))))
noncomputable def yA:eW Oper:=pE (iG (iG (dm (cn PW))))
def Mm(ops:eW Oper)(s so j i1 i2:H)(lv:Wx)(b:Bool):Prop:=
 (ops=yy/\j=8/\i1=so+s*5/\i2=so+s*5+4/\∃t:dT,lv=U t/\b=!(t.toList == []))\/(ops=yA/\j=7/\i1=so+s*7/\i2=so+s*7/\∃t:ey,lv=I K t/\b=(t==11))
theorem Aa{id m:H}{k:Exit->Act->Wj->Prop}{P:Act}{k0 z cp s so j i1 i2:H}{r:ey}{ops:eW Oper}{lv:Wx}{b:Bool}(hs:P.tmps.size=32)(e0:P.eval (Qe 0)=ptr k0)(e3:P.eval (Qe 3)=ptr y)(c6:W.cell? ⟨y,6,N⟩=J (I K r))(D:Mm ops s so j i1 i2 lv b)(c8:W.cell? ⟨k0,j,N⟩=J (M (J ⟨z,so,N⟩) n cp))(aa:r=s)(ab:s<n)(ct:W.cell? ⟨z,i2,N⟩=J lv)
  (hA:Calls Yq.prog 48 #[ptr k0,I K r] {W with drawn:=W.drawn+1} λe w'=>e=ZY (C Y)/\w'={W with drawn:=W.drawn+1})
  (B:∀a,a.tmps.size=32->a.defers=P.defers->(∀t,t<5->a.eval (Qe t)=P.eval (Qe t))->a.eval (Qe 20)=C b->k .normal a {W with drawn:=W.drawn+1}):
  (Rb id ops Y).wpIn (wf N) m Yq.prog k P W:=by
 obtain⟨W1,F⟩:∃W1:Wj,W1={W with drawn:=W.drawn+1}:=⟨_,Q⟩;rw[<-F]at hA B;have G:∀a,W1.cell? a=W.cell? a:=λa=>by rw[F];rfl
 have d6:W1.cell? ⟨y,6,N⟩=J (I K r):=(G _).t c6;have ad:W1.cell? ⟨y,6,N⟩=J (I K (s:ey)):=by rw[d6,aa]
 obtain⟨o4,ac,af⟩:∃o4,ops[4]?=J o4/\o4.dst=J 9:=by rcases D with⟨rfl,-⟩|⟨rfl,-⟩<;>exact⟨_,Q,Q⟩
 rcases D with⟨rfl,hj,T,h2,t,R,hb⟩|⟨rfl,hj,T,h2,t,R,hb⟩;all_goals
  refine gQ (ro:=N) (a0:=P) (w0:=W) mixed 5 16 (λi=>match i with| 0=>ptr k0| 1=>O (J ⟨y,6,N⟩)| 2=>I K r| 3=>C Y| 4=>C Y| 5=>ptr k0| 6=>ptr k0| 7=>O (J ⟨k0,j,N⟩)| 8=>M (J ⟨z,so,N⟩) n cp| 9=>O (J ⟨y,6,N⟩)| 10=>I K (s:ey)| 11=>O (J ⟨z,i1,N⟩)| 12=>O (J ⟨z,i2,N⟩)| 13=>lv|_=>C b) (λ_ w=>w=W1) (by omega) (by rfl) (by rfl) (λlisted a w i o hi q V l hcl=>?_) (λa w T h2 h3 h4 h5=>?_) (by rw[F])
  rotate_left
  obtain⟨d,-,rfl⟩:=h5;exact B a (T.t hs) h2 h3 (h4 15 (by omega) (by decide));obtain rfl:w=W1:=V.world;have hlt:i<16:=(di hi).1;have HY:=λh=>jX (a:=a) (x:=Y) ac af (by rw[V.size,hs];omega) (V.new 4 (by omega) h)
  rcases i with - | - | - | - | - | - | - | - | - | - | - | - | - | - | - | - |i;all_goals first|omega|(have L:=q;dsimp only[yy,yA,cn,PV,PW,iG,dm,pE,Option.getD]at L;simp only[gA,gS,gZ,oI,QG,zA]at L;subst L)
  have p:a.eval (Qe 0)=ptr k0:=(V.old 0 (by omega)).t e0;refine ax q Q (λc h=>by cases h) (v:=ptr k0) (w':=w) (by generalize a.eval=u at p ⊢;simp[go_sem,p]) ⟨_,Q,λ_=>Q,V.world⟩;have p:a.eval (Qe 3)=ptr y:=(V.old 3 (by omega)).t e3;refine ax q Q (λc h=>by cases h) (v:=O (J ⟨y,6,N⟩)) (w':=w) (by generalize a.eval=u at p ⊢;simp[go_sem,p,ptr]) ⟨_,Q,λ_=>Q,V.world⟩;have p:a.eval (Qe 6)=O (J ⟨y,6,N⟩):=V.new 1 (by omega) (l ⟨1,.data⟩ (by simp) Q);refine ax q Q (λc h=>by cases h) (v:=I K r) (w':=w) (by generalize a.eval=u at p ⊢;simp[go_sem,p,d6]) ⟨_,Q,λ_=>Q,V.world⟩;have p:a.eval (Qe 5)=ptr k0:=V.new 0 (by omega) (l ⟨0,.data⟩ (by simp) Q);have A:a.eval (Qe 7)=I K r:=V.new 2 (by omega) (l ⟨2,.data⟩ (by simp) Q);refine jt (f:=48) (args:=#[ptr k0,I K r]) (w':=w) q Q (λc h=>by cases h) (by have qf:=hfun a Q 48;generalize a.eval=u at p A qf ⊢;simp[go_sem,p,A,qf]) (hA.m ?_);rintro e X ⟨rfl,rfl⟩;exact⟨_,Q,_,Q,λ_=>Q,V.world⟩;have p:a.eval (Qe 8)=C true:=V.new 3 (by omega) (l ⟨3,.data⟩ (by simp) Q);refine ax q Q (λc h=>by cases h) (v:=C Y) (w':=w) (by generalize a.eval=u at p ⊢;simp[go_sem,p]) ⟨_,Q,λ_=>Q,V.world⟩;have p:a.eval (Qe 0)=ptr k0:=(V.old 0 (by omega)).t e0;refine ax q (by simp[vx,HY (l ⟨4,.guard⟩ (by simp) Q)]) (λc h=>by cases h) (v:=ptr k0) (w':=w) (by generalize a.eval=u at p ⊢;simp[go_sem,p]) ⟨_,Q,λ_=>Q,V.world⟩;have p:a.eval (Qe 10)=ptr k0:=V.new 5 (by omega) (l ⟨5,.data⟩ (by simp) Q);refine ax q (by simp[vx,HY (l ⟨4,.guard⟩ (by simp) Q)]) (λc h=>by cases h) (v:=ptr k0) (w':=w) (by generalize a.eval=u at p ⊢;simp[go_sem,p,ptr]) ⟨_,Q,λ_=>Q,V.world⟩;have p:a.eval (Qe 11)=ptr k0:=V.new 6 (by omega) (l ⟨6,.data⟩ (by simp) Q);refine ax q (by simp[vx,HY (l ⟨4,.guard⟩ (by simp) Q)]) (λc h=>by cases h) (v:=O (J ⟨k0,j,N⟩)) (w':=w) (by generalize a.eval=u at p ⊢;simp[go_sem,p,ptr,hj]) ⟨_,Q,λ_=>Q,V.world⟩;have p:a.eval (Qe 12)=O (J ⟨k0,j,N⟩):=V.new 7 (by omega) (l ⟨7,.data⟩ (by simp) Q);refine ax q (by simp[vx,HY (l ⟨4,.guard⟩ (by simp) Q)]) (λc h=>by cases h) (v:=M (J ⟨z,so,N⟩) n cp) (w':=w) (by generalize a.eval=u at p ⊢;simp[go_sem,p,((G _).t c8)]) ⟨_,Q,λ_=>Q,V.world⟩;have p:a.eval (Qe 3)=ptr y:=(V.old 3 (by omega)).t e3;refine ax q (by simp[vx,HY (l ⟨4,.guard⟩ (by simp) Q)]) (λc h=>by cases h) (v:=O (J ⟨y,6,N⟩)) (w':=w) (by generalize a.eval=u at p ⊢;simp[go_sem,p,ptr]) ⟨_,Q,λ_=>Q,V.world⟩;have p:a.eval (Qe 14)=O (J ⟨y,6,N⟩):=V.new 9 (by omega) (l ⟨9,.data⟩ (by simp) Q);refine ax q (by simp[vx,HY (l ⟨4,.guard⟩ (by simp) Q)]) (λc h=>by cases h) (v:=I K (s:ey)) (w':=w) (by generalize a.eval=u at p ⊢;simp[go_sem,p,ad]) ⟨_,Q,λ_=>Q,V.world⟩;have p:a.eval (Qe 13)=M (J ⟨z,so,N⟩) n cp:=V.new 8 (by omega) (l ⟨8,.data⟩ (by simp) Q);have A:a.eval (Qe 15)=I K (s:ey):=V.new 10 (by omega) (l ⟨10,.data⟩ (by simp) Q);refine ax q (by simp[vx,HY (l ⟨4,.guard⟩ (by simp) Q)]) (λc h=>by cases h) (v:=O (J ⟨z,i1,N⟩)) (w':=w) (by generalize a.eval=u at p A ⊢;simp[go_sem,p,A,ab,T]) ⟨_,Q,λ_=>Q,V.world⟩;have p:a.eval (Qe 16)=O (J ⟨z,i1,N⟩):=V.new 11 (by omega) (l ⟨11,.data⟩ (by simp) Q);refine ax q (by simp[vx,HY (l ⟨4,.guard⟩ (by simp) Q)]) (λc h=>by cases h) (v:=O (J ⟨z,i2,N⟩)) (w':=w) (by generalize a.eval=u at p ⊢;simp[go_sem,p,T,h2]) ⟨_,Q,λ_=>Q,V.world⟩;have p:a.eval (Qe 17)=O (J ⟨z,i2,N⟩):=V.new 12 (by omega) (l ⟨12,.data⟩ (by simp) Q);refine ax q (by simp[vx,HY (l ⟨4,.guard⟩ (by simp) Q)]) (λc h=>by cases h) (v:=lv) (w':=w) (by generalize a.eval=u at p ⊢;simp[go_sem,p,(G _).t ct,R]) ⟨_,Q,λ_=>Q,V.world⟩;have p:a.eval (Qe 18)=lv:=V.new 13 (by omega) (l ⟨13,.data⟩ (by simp) Q);have A:∀c,a.eval (.const c)=c:=λ_=>Q
  refine ax q (by simp[vx,HY (l ⟨4,.guard⟩ (by simp) Q)]) (λc h=>by cases h) (v:=C b) (w':=w) (by generalize a.eval=u at p A ⊢;simp[go_sem,p,A,R,hb]) ⟨_,Q,λ_=>Q,V.world⟩;have p:a.eval (Qe 9)=C true:=V.new 4 (by omega) (l ⟨4,.data⟩ (by simp) Q);have A:a.eval (Qe 19)=C b:=V.new 14 (by omega) (l ⟨14,.data⟩ (by simp) Q);have q2:a.eval (.const (C Z))=C false:=rfl;refine ax q Q (λc h=>by cases h) (v:=C b) (w':=w) (by generalize a.eval=u at p A q2 ⊢;simp[go_sem,p,A,q2]) ⟨_,Q,λ_=>Q,V.world⟩
theorem Lj{id m:H}{k0:H}{ops:eW Oper}  (L:u.tmps.size=32)(e0:u.eval (Qe 0)=ptr k0)(e3:u.eval (Qe 3)=ptr y)(c6:W.cell? ⟨y,6,N⟩=J (I K l))(q:ops=yy\/ops=yA)
  (R:Calls Yq.prog 48 #[ptr k0,I K l] {W with drawn:=W.drawn+1} λe w'=>e=ZY (C Z)/\w'={W with drawn:=W.drawn+1})
  (p:∀a,a.tmps.size=32->a.defers=u.defers->(∀t,t<5->a.eval (Qe t)=u.eval (Qe t))->a.eval (Qe 20)=C Z->b .normal a {W with drawn:=W.drawn+1}):
  (Rb id ops Y).wpIn (wf N) m Yq.prog b u W:=by
 obtain⟨W1,s⟩:∃W1:Wj,W1={W with drawn:=W.drawn+1}:=⟨_,Q⟩;rw[<-s]at R p;have A:∀a,W1.cell? a=W.cell? a:=λa=>by rw[s];rfl
 obtain⟨B,F,D⟩:∃B,ops[4]?=J B/\B.dst=J 9:=by rcases q with rfl|rfl<;>exact⟨_,Q,Q⟩
 rcases q with rfl|rfl;all_goals
  refine gQ (ro:=N) (a0:=u) (w0:=W) mixed 5 16 (λi=>match i with| 0=>ptr k0| 1=>O (J ⟨y,6,N⟩)| 2=>I K l| 3=>C Z| 4=>C Z| 15=>C Z|_=>Wo) (λ_ w=>w=W1) (by omega) (by rfl) (by rfl) (λlisted a w i o hi n V j hcl=>?_) (λa w h1 h2 h3 h4 h5=>?_) (by rw[s])
  rotate_left
  obtain⟨d,-,rfl⟩:=h5;exact p a (h1.t L) h2 h3 (h4 15 (by omega) (by decide));obtain rfl:w=W1:=V.world;have hlt:i<16:=(di hi).1;rcases i with - | - | - | - | - | - | - | - | - | - | - | - | - | - | - | - |i;all_goals first|omega|(have r:=n;dsimp only[yy,yA,cn,PV,PW,iG,dm,pE,Option.getD]at r;simp only[gA,gS,gZ,oI,QG,zA]at r;subst r)
  have k:a.eval (Qe 0)=ptr k0:=(V.old 0 (by omega)).t e0;refine ax n Q (λc h=>by cases h) (v:=ptr k0) (w':=w) (by generalize a.eval=z at k ⊢;simp[go_sem,k]) ⟨_,Q,λ_=>Q,V.world⟩;have k:a.eval (Qe 3)=ptr y:=(V.old 3 (by omega)).t e3;refine ax n Q (λc h=>by cases h) (v:=O (J ⟨y,6,N⟩)) (w':=w) (by generalize a.eval=z at k ⊢;simp[go_sem,k,ptr]) ⟨_,Q,λ_=>Q,V.world⟩;have k:a.eval (Qe 6)=O (J ⟨y,6,N⟩):=V.new 1 (by omega) (j ⟨1,.data⟩ (by simp) Q);refine ax n Q (λc h=>by cases h) (v:=I K l) (w':=w) (by generalize a.eval=z at k ⊢;simp[go_sem,k,((A _).t c6)]) ⟨_,Q,λ_=>Q,V.world⟩;have k:a.eval (Qe 5)=ptr k0:=V.new 0 (by omega) (j ⟨0,.data⟩ (by simp) Q);have P:a.eval (Qe 7)=I K l:=V.new 2 (by omega) (j ⟨2,.data⟩ (by simp) Q);refine jt (f:=48) (args:=#[ptr k0,I K l]) (w':=w) n Q (λc h=>by cases h) (by have G:=hfun a Q 48;generalize a.eval=z at k P G ⊢;simp[go_sem,k,P,G]) (R.m ?_);rintro e X ⟨rfl,rfl⟩;exact⟨_,Q,_,Q,λ_=>Q,V.world⟩;have k:a.eval (Qe 8)=C false:=V.new 3 (by omega) (j ⟨3,.data⟩ (by simp) Q);refine ax n Q (λc h=>by cases h) (v:=C Z) (w':=w) (by generalize a.eval=z at k ⊢;simp[go_sem,k]) ⟨_,Q,λ_=>Q,V.world⟩
  iterate 10 exact uY n (by simp[vx,(λh=>jX (a:=a) (x:=Z) F D (by rw[V.size,L];omega) (V.new 4 (by omega) h)) (j ⟨4,.guard⟩ (by simp) Q)]) ⟨_,Q,λ_=>Q,V.world⟩
  have k:a.eval (Qe 9)=C false:=V.new 4 (by omega) (j ⟨4,.data⟩ (by simp) Q);have T:a.eval (.const (C Z))=C false:=rfl;refine ax n Q (λc h=>by cases h) (v:=C Z) (w':=w) (by generalize a.eval=z at k T ⊢;simp[go_sem,k,T]) ⟨_,Q,λ_=>Q,V.world⟩
theorem Hi(k0 T c:H)(Mq:S dT)(o:OpD)(w:Wj)(hn:Mq.length<=2199023255552)(P:w.cell? ⟨k0,8,N⟩=J (M (J ⟨T,0,N⟩) Mq.length c))(ht:∀s (X:s<Mq.length),w.cell? ⟨T,s*5+4,N⟩=J (U Mq[s])):
  Calls Yq.prog 19 #[O (J ⟨k0,0,N⟩),aJ o] w λe w'=>e=ZY (U (eh Mq o.src o.body))/\Below w.heap.size w w':=by
 obtain⟨F,V,f,eQ,A,n,d⟩:=o;have hlt:=bC w _ P;obtain⟨W,R⟩:∃W,W=w.alloc (E #[I K F,U V,U f,U eQ,U A,I K n,I K d] 30):=⟨_,Q⟩;have h:Below w.heap.size w W:=by rw[R];exact(bR _ _).alloc (lR _) _
 have y:Below w.heap.size w {W with drawn:=W.drawn+1}:=⟨h.os,h.tape,h.output,h.size,h.block⟩;have d8:=ag h P;have HA:=zX k0 (J ⟨T,0,N⟩) Mq.length c d {W with drawn:=W.drawn+1} hn (ag y P);have v:W.heap[w.heap.size]?=J (E #[I K F,U V,U f,U eQ,U A,I K n,I K d] 30):=by rw[R];exact aN _ _
 have d6:W.cell? ⟨w.heap.size,6,N⟩=J (I K d):=by simp[xb,v]
 have HB:=xh h d8 d6;have HW:=aI R;have ac:({W with drawn:=W.drawn+1}:Wj).cell? ⟨w.heap.size,2,N⟩=J (U f):=by
  show W.cell? _=_
  simp_all
 have ad:({W with drawn:=W.drawn+1}:Wj).cell? ⟨w.heap.size,6,N⟩=J (I K d):=d6;have af:({W with drawn:=W.drawn+1}:Wj).cell? ⟨k0,8,N⟩=J (M (J ⟨T,0,N⟩) Mq.length c):=d8;obtain⟨D,L⟩:∃D:Wj,D={W with drawn:=W.drawn+1}:=⟨_,Q⟩;have i:Hid (D={W with drawn:=W.drawn+1}/\Below w.heap.size w D):=⟨L,by rw[L];exact y⟩;rw[<-L]at ac ad af HA;unfold aJ;simp only;by_cases q:0<=d/\d<Mq.length
 .have hd:decide (0<=d/\d<Mq.length)=true:=by simp[q]
  rw[hd]at HA;obtain⟨s,rfl⟩:∃s:H,d=s:=⟨d.toNat,by omega⟩;have X:s<Mq.length:=by omega
  have c4:=ht s X;have ct:=ag h c4;have ctD:D.cell? ⟨T,s*5+4,N⟩=J (U Mq[s]):=by rw[L];exact ct
  have e0:Mq[(s:ey).toNat]?.getD ⟨#[]⟩=Mq[s]:=by simp[X]
  have hR:eh Mq s f=if Mq[s]=⟨#[]⟩then f else Mq[s]:=by rw[eh,ZS q,e0]
  rw[hR];generalize Mq[s]=t at *;clear R h y d8 d6 v ht P c4 L;by_cases x:t=⟨#[]⟩
  .have G:(!(t.toList == []))=false:=by rw[x];simp
   rw[ZS x];go_enter (Yq.nq PS),PN
   go_upto_region 1 with fail
   rename_i K1 aa K2 k;rw[<-HW.o];refine ta.1 (show Ra (wf N) 0 _ _ _ _ _ from Aa (id:=1) (m:=0) (s:=s) (so:=0) (j:=8) (i1:=0+s*5) (i2:=0+s*5+4) (lv:=U t) (b:=!(t.toList == [])) (ops:=yy) Q Q Q HB.o.2.2 (Qc ⟨Q,Q,Q,Q,t,Q,Q⟩) HB.o.2.1 Q X (by rw[zA];exact ct) (by rw[<-i.o.1];exact HA) (λa B l r p=>?_));rw[<-i.o.1];have l:=l;have q:=jv a 32 B;rw[G]at p;have z:=r 0 (by decide);have u:=r 3 (by decide);refine k _ _ ?_;rw[q,l];clear q B l r;generalize a.eval=ρ at z u p ⊢;simp[Qn,Rc,u,p];clear z u p k K2 HA ct;go_wp2_with fail
   go_ret;exact⟨Q,i.o.2⟩
  have ab:=λhx=>by
   have:(t==(⟨#[]⟩:dT))=true:=by rw[beq_toListBytes];simpa using hx
   exact x ((MapKept.bytes_beq _ _).1 this)
  have G:(!(t.toList == []))=true:=by simpa using ab
  rw[ZR x];go_enter (Yq.nq PS),PN
  go_upto_region 1 with fail
  rename_i K1 aa K2 k;rw[<-HW.o];refine ta.1 (show Ra (wf N) 0 _ _ _ _ _ from Aa (id:=1) (m:=0) (s:=s) (so:=0) (j:=8) (i1:=0+s*5) (i2:=0+s*5+4) (lv:=U t) (b:=!(t.toList == [])) (ops:=yy) Q Q Q HB.o.2.2 (Qc ⟨Q,Q,Q,Q,t,Q,Q⟩) HB.o.2.1 Q X (by rw[zA];exact ct) (by rw[<-i.o.1];exact HA) (λa B l r p=>?_));rw[<-i.o.1];have l:=l;have q:=jv a 32 B;rw[G]at p;have z:=r 0 (by decide);have u:=r 3 (by decide);refine k _ _ ?_;rw[q,l];clear q B l r;generalize a.eval=ρ at z u p ⊢;simp[Qn,Rc,z,u,p];clear z u p k K2 HA ct;have h1i:¬((s:ey)<0):=by omega
  go_wp2_with fail
  go_region
  all_goals
   go_wp2;go_ret;exact⟨Q,i.o.2.drew⟩
 have hd:decide (0<=d/\d<Mq.length)=false:=by simpa using q
 rw[hd]at HA;have hR:eh Mq d f=f:=by rw[eh,ZR q]
 rw[hR];clear R h y d8 d6 v ht P L;go_enter (Yq.nq PS),PN
 go_upto_region 1 with fail
 rename_i K1 aa K2 k;rw[<-HW.o];refine ta.1 (show Ra (wf N) 0 _ _ _ _ _ from Lj (id:=1) (m:=0) (ops:=yy) Q Q Q HB.o.2.2 (Qc Q) (by rw[<-i.o.1];exact HA) (λa B l r p=>?_));rw[<-i.o.1];have l:=l;have q:=jv a 32 B;have z:=r 0 (by decide);have u:=r 3 (by decide);refine k _ _ ?_;rw[q,l];clear q B l r;generalize a.eval=ρ at z u p ⊢;simp[Qn,Rc,u,p];clear z u p k K2 HA;go_wp2_with fail
 go_ret;exact⟨Q,i.o.2⟩
theorem bJ{P:Program}{b:Act->Wj->Prop}{E:Prop}
  (r:o.guard=N) (f:FuncId) (j:eW Operand) (n:eW Ww) (l:o.op=Op.call {callee:=Callee.value (.func f),args:=j,argTypes:=n})
  (h:eW Wx) (s:j.map u.eval=h) (i:(callFunc f h).run P w=.ok (.enter f h) w)
  (R:Wx->Wj->Prop) (p:Calls P f h w λe w'=>∃v,e=ZY v/\R v w') (hK:∀v w',R v w'->b (u.put o.dst v) w'):
  if vx o (yielded F u.tmps)=Y then Oper.wp P o u w b c else E:=by
 rw[ZS (by simp[vx,r])];subst s;unfold Oper.wp;have e:(uc u.eval o).run P w=.ok (.enter f (j.map u.eval)) w:=by
  have q:uc u.eval o=(do let d <-resolve u.eval {callee:=Callee.value (.func f),args:=j,argTypes:=n} o.type;invoke d.target d.args):=by simp[uc,l]
  rw[q];simpa[resolve,Deferred.ofValue,nF,invoke]using i
 rw[e,Oper.upon_enter];refine p.m ?_
 grind
theorem au{b:H}(h:w.cell? ⟨b,r,N⟩=J v)(a:Obj):(w.alloc a).cell? ⟨b,r,N⟩=J v:=(ay.refl.alloc a).cell h
theorem aF{b:H}{f:Bool}(h:w.cell? ⟨b,r,N⟩=J v)(e:w.frozen? ⟨b,r,N⟩=f)(a:Obj):(w.alloc a).frozen? ⟨b,r,N⟩=f:=by
 have d:b<w.heap.size:=by
  rcases Nat.lt_or_ge b w.heap.size with c|c;exact c;simp[xb,Array.getElem?_eq_none c]at h
 rw[<-e];simp[xt,((ay.refl.alloc a (w:=w)).block b d)]
theorem bK.alloc{k0:H}{w':Wj}{L':Lg}{Mt:S ItD}{sv:Wx}(h:bK A B k0 w L' Mt sv w')(a:Obj):bK A B k0 w L' Mt sv (w'.alloc a):=by
 obtain⟨A',i,j,e,f,l,m⟩:=h;have d:ay w' (w'.alloc a):=ay.refl.alloc a;have c:=e.lt;exact⟨A',i,j,e.left d,f.t (aX.left c d),cw.Mr l λb k c=>⟨k,d.block b c⟩,m.t (FrC.left c d)⟩
section
variable {A:Nat->Prop} {B k0:Nat} {w:Wj} {st:St} {L:Lg}
structure LV (A:H->Prop)(B k0:H)(w:Wj)(st:St)(o:OpD)(R:Lg×S ItD×dT×ey):Prop where
 bx:∀W w2 bb,ay (dA w o) W->∀ {Mt:S ItD} {sv:Wx} {L':Lg},bK A B k0 W L' Mt sv w2->w.heap.size+2<=bb->W.heap[bb]?=J (E #[M N 0 0,U ⟨#[]⟩] 69)->w2.cell? ⟨bb,0,N⟩=J (M N 0 0)/\w2.cell? ⟨bb,1,N⟩=J (U ⟨#[]⟩)/\w2.frozen? ⟨bb,0,N⟩=Z/\w2.frozen? ⟨bb,1,N⟩=Z
 b5:∀W w2,ay (dA w o) W->∀ {sv:Wx},bK A B k0 W R.1 R.2.1 sv w2->Box5 w2 (w.heap.size+1)
 la:∀W w2 so sn sc,ay (dA w o) W->bK A B k0 W R.1 R.2.1 (M so sn sc) w2->∀x0 x1 x2 x3 x4 O,bQ A B k0 w st R.1 ⟨R.2.2.2,0,⟨#[]⟩,R.2.1,R.2.2.1⟩ (ZY (j6 ⟨R.2.2.2,0,⟨#[]⟩,R.2.1,R.2.2.1⟩ (M so sn sc))) (put5 (w2.alloc O) (w.heap.size+1) x0 x1 x2 x3 x4)
 lb:∀W w2 so sn sc,ay (dA w o) W->bK A B k0 W R.1 R.2.1 (M so sn sc) w2->∀bb,w.heap.size+2<=bb->W.heap[bb]?=J (E #[M N 0 0,U ⟨#[]⟩] 69)->∀y0 y1 x0 x1 x2 x3 x4,bQ A B k0 w st R.1 ⟨R.2.2.2,0,⟨#[]⟩,R.2.1,R.2.2.1⟩ (ZY (j6 ⟨R.2.2.2,0,⟨#[]⟩,R.2.1,R.2.2.1⟩ (M so sn sc))) (put5 ((w2.setCell ⟨bb,0,N⟩ y0).setCell ⟨bb,1,N⟩ y1) (w.heap.size+1) x0 x1 x2 x3 x4)
theorem D7(h:aW A B w k0 st L)(r:B<=w.heap.size)(o:OpD)(R:Lg×S ItD×dT×ey)(i:R.1.tm=L.tm):LV A B k0 w st o R where
 bx:=λW w2 d c Mt sv L' b hbb f=>by
  obtain⟨A',-,-,-,-,-,s⟩:=b;have hlt:=h.ls.lt;have e:w2.heap[d]?=J (E #[M N 0 0,U ⟨#[]⟩] 69):=by
   rw[s.Mr d ⟨_,f,Q⟩ (by omega) ?_]
   .exact f
   .rintro ⟨v,k,j⟩;obtain⟨v4,G,zs,z1,D,-⟩:=h.ls.opened;rw[((aZ o).t c).cell G]at k;cases k;have:=(D.lt d j).2;omega
  exact⟨by simp[xb,e],by simp[xb,e],by simp[xt,e],by simp[xt,e]⟩
 b5:=λW w2 c sv b=>box5 (Hg h.ls c b)
 la:=λW w2 x u F c b l q p n m a=>Hh h r c (b.alloc a) _ Q i l q p n m
 lb:=λW w2 x u F c b d k j z y l q p n m=>D6 h r c b _ Q i d k (eS j).1 ⟨_,j,Q⟩ z y l q p n m
theorem yB(Qok:Qy->Prop)(hQ:∀q,Qok q->jc q/\jd q)(h:aW A B w k0 st L)(hB:B<=w.heap.size)(bb:L.opened.length<=3)(o:OpD)(hk:o.kind=8)(g0 cp:H)(Mq:S dT)(hn:Mq.length<=2199023255552)(c8:w.cell? ⟨k0,8,N⟩=J (M (J ⟨g0,0,N⟩) Mq.length cp))(ht:∀s (hs:s<Mq.length),w.cell? ⟨g0,s*5+4,N⟩=J (U Mq[s]))
  (ad:∀x∈L.opened,Qok x.q/\fG (bL x.f x.q.p.data.toList)<=1000/\x.q.p.size<=pt) (a5:∀al n pg,ee al L.told=J (n,pg)->0<=pg/\pg<2199023255552) (G:Wj->Prop) (av:∀w',G w'->dE w') (hG:∀w',aX A B k0 w w'->G w') (hT:∀al n pg,ee al L.told=J (n,pg)->(mr n L.opened).isSome=Y->mq G n (pg+1)):
  Calls Yq.prog 8 #[O (J ⟨k0,0,N⟩),aJ o] w λe w'=>bQ A B k0 w st (dR L (eh Mq o.src o.body)).1 ⟨(dR L (eh Mq o.src o.body)).2.2.2,0,⟨#[]⟩,(dR L (eh Mq o.src o.body)).2.1,(dR L (eh Mq o.src o.body)).2.2.1⟩ e w'\/Stop Qok e w':=by
 obtain⟨z,ai⟩:∃z,z=eh Mq o.src o.body:=⟨_,Q⟩;obtain⟨R,hR⟩:∃R,R=dR L z:=⟨_,Q⟩;have X:Hid (∀W,ay (dA w o) W->Calls Yq.prog 19 #[O (J ⟨k0,0,N⟩),aJ o] W λe w'=>∃v,e=ZY v/\(v=U z/\Below W.heap.size W w')):=λW hl=>by
  have a0:=(aZ o).t hl;refine(Hi k0 g0 cp Mq o W hn (a0.cell c8) (λs hs=>a0.cell (ht s hs))).m ?_;rintro e w' ⟨rfl,hb⟩;exact⟨_,Q,by rw[ai],hb⟩
 have l:Hid (∀W,ay (dA w o) W->Calls Yq.prog 18 #[O (J ⟨k0,4,N⟩),U z] W λe w'=>(∃v,e=ZY v/\∃j sn k,v=Qb #[Qa #[M j sn k,U R.2.2.1],I K R.2.2.2]/\bK A B k0 W R.1 R.2.1 (M j sn k) w')\/∃u,e=.panicked u/\Stop Qok (.panicked u) w'):=λW hl=>by
  have hs:=((aZ o).t hl).size;refine(Kh Qok hQ W (h.left ((aZ o).t hl)).ls (by omega) z bb ad (a5 z) G av (λw' a9=>hG w' ((aX.left h.ls.lt ((aZ o).t hl)).t a9)) (hT z)).m ?_;rw[<-hR];rintro e w' (⟨sv,rfl,hp⟩|aj);obtain⟨A',a1,a2,a3,a4,⟨j,k,rfl,a6⟩,a7⟩:=hp;exact Qc ⟨_,Q,j,_,k,Q,A',a1,a2,a3,a4,⟨j,k,Q,a6⟩,a7⟩;obtain⟨a,b,r,rfl,aj⟩:=aj;exact Qd ⟨_,Q,a,b,r,Q,aj⟩
 rw[<-ai,<-hR];have T:Hid (∀ (f:H) (D:eW Wx) (wx:Wj),(f=18\/f=19)->(callFunc f D).run Yq.prog wx=.ok (.enter f D) wx):=λf D wx hf=>by rcases hf with rfl|rfl<;>go_simp
 have HD:=aI h;have V:=D7 h hB o R (by rw[hR];exact zZ _ _);have aa:=aI V.bx;have ac:Hid (∀i,Below ((dA w o).alloc (E #[M N 0 0,U ⟨#[]⟩] 69)).drew.heap.size ((dA w o).alloc (E #[M N 0 0,U ⟨#[]⟩] 69)).drew i->i.heap[w.heap.size+1+1]?=J (E #[M N 0 0,U ⟨#[]⟩] 69)):=λi hb=>by
  have:=aN (dA w o) (E #[M N 0 0,U ⟨#[]⟩] 69);rw[ba]at this;exact(hb.block _ (by simp[ba])).t this
 have y:Hid (∀i,Below (dA w o).drew.heap.size (dA w o).drew i->w.heap.size+2<=i.heap.size):=λi hb=>by
  have:=hb.size;have e:(dA w o).drew.heap.size=w.heap.size+2:=ba o;omega
 have P:=aI V.b5;have af:=aI V.la;have ab:=aI V.lb;have hb3:=nj;clear ai hR V;obtain⟨kind,bd,ap,eQ,ar,n,be⟩:=o;simp only at hk;subst hk;unfold dA at X l aa ac y P af ab;clear h c8 ht ad a5 hT hG av hQ;unfold aJ at X ⊢;go_enter (Yq.nq PL),ZV;go_wp2_with fail
 go_region_law (first
  |(refine bJ Q 19 #[Qe 124,Qe 125] #[58,30] Q #[O (J ⟨k0,0,N⟩),Qa #[I K 8,U bd,U ap,U eQ,U ar,I K n,I K be]] (by simp[nF]) (T.o _ _ _ (Rg Q)) _ (X.o _ (by first|exact ay.refl.drew|exact(ay.refl.alloc _).drew)) ?_;rintro v i ⟨rfl,d⟩)
  |(refine cP rfl 18 #[Qe 123,Qe 126] #[40,9] rfl #[O (J ⟨k0,4,N⟩),U z] (by simp[nF]) (T.o _ _ _ (Rh rfl)) _ (λu w'=>Stop Qok (.panicked u) w') (l.o _ (ay.refl.drew.t (.below d))) (λu w' hs=>⟨Q,Rg hs⟩) ?_;rintro v w2 ⟨j,sn,k,rfl,c⟩;obtain⟨⟨t0,t1,t2,t3,t4⟩,u0,u1,u2,u3,u4⟩:=P.o _ w2 (ay.refl.drew.t (.below d)) c;have F:=af.o _ w2 j sn k (ay.refl.drew.t (.below d)) c;have q0:=au t0;have q1:=au t1;have q2:=au t2;have q3:=au t3;have q4:=au t4;have p0:=aF t0 u0;have p1:=aF t1 u1;have p2:=aF t2 u2;have p3:=aF t3 u3;have p4:=aF t4 u4;clear c d)
  |(refine cP rfl 18 #[Qe 123,Qe 126] #[40,9] rfl #[O (J ⟨k0,4,N⟩),U z] (by simp[nF]) (T.o _ _ _ (Rh rfl)) _ (λu w'=>Stop Qok (.panicked u) w') (l.o _ ((ay.refl.alloc _).drew.t (.below d))) (λu w' hs=>⟨Q,Rg hs⟩) ?_;rintro v w2 ⟨j,sn,k,rfl,c⟩;obtain⟨v0,v1,o0,o1⟩:=aa.o i w2 (w.heap.size+1+1) ((ay.refl.alloc _).drew.t (.below d)) c (by omega) (ac.o _ d);obtain⟨⟨t0,t1,t2,t3,t4⟩,u0,u1,u2,u3,u4⟩:=P.o _ w2 ((ay.refl.alloc _).drew.t (.below d)) c;have F:=ab.o _ w2 j sn k ((ay.refl.alloc _).drew.t (.below d)) c (w.heap.size+1+1) (by omega) (ac.o _ d);clear c d)
  |(refine cP rfl 18 #[Qe 123,Qe 126] #[40,9] rfl #[O (J ⟨k0,4,N⟩),U z] (by simp[nF]) (T.o _ _ _ (Rh rfl)) _ (λu w'=>Stop Qok (.panicked u) w') (l.o _ ((ay.refl.drew.t (.below d)).alloc _)) (λu w' hs=>⟨Q,Rg hs⟩) ?_;rintro v w2 ⟨j,sn,k,rfl,c⟩;obtain⟨v0,v1,o0,o1⟩:=aa.o _ w2 i.heap.size ((ay.refl.drew.t (.below d)).alloc _) c (y.o _ d) (aN i _);obtain⟨⟨t0,t1,t2,t3,t4⟩,u0,u1,u2,u3,u4⟩:=P.o _ w2 ((ay.refl.drew.t (.below d)).alloc _) c;have F:=ab.o _ w2 j sn k ((ay.refl.drew.t (.below d)).alloc _) c i.heap.size (y.o _ d) (aN i _);have a8:w.heap.size+1≠i.heap.size:=(by have:=y.o _ d;omega);have hne2:i.heap.size≠w.heap.size+1:=a8.s;clear c d))
 all_goals
  go_wp2
 all_goals clear X l aa ac y P af ab T HD
 all_goals
  refine sq (v:=j6 ⟨R.2.2.2,0,⟨#[]⟩,R.2.1,R.2.2.1⟩ (M j sn k)) ?_ Q (Qc ?_);clear F;first
   |simp[results,ZX,go_sem,j6,q0,q1,q2,q3,q4]
   |simp[results,ZX,go_sem,j6,t0,t1,t2,t3,t4]
   |simp[results,ZX,go_sem,j6,t0,t1,t2,t3,t4]
  unfold put5 at F;refine F ..
end
section
variable {A:Nat->Prop} {B k0:Nat} {w w':Wj} {st st':St} {L:Lg}
theorem eE.grown(h:eE A B w k0 L)(a:dq w w' k0)(r:∀j,w'.frozen? ⟨k0,j,N⟩=Z){A':H->Prop}(q:∀b,A b->A' b)(s:∀b,A' b->A b\/w.heap.size<=b)(F:∀b,A' b->b<w'.heap.size):eE A' B w' k0 L:=by
 have d:=h.lt;have hlow:=h.low;have f:∀b,b<w.heap.size->b≠k0->w'.heap[b]?=w.heap[b]?:=λb l T=>a.g.block b l (λe=>T (oJ e))
 have c:∀g,g<w.heap.size->¬A g->¬A' g:=λg a ha R=>by
  rcases s g R with h|h
  .exact ha h
  .omega
 have⟨v,c4,D,z1,p,P,X⟩:=h.opened;have⟨V,c6,n⟩:=h.told;refine⟨⟨v,(a.t 4 (by omega)).t c4,D,z1,bH p λg q a=>f g a (by omega),λg a=>c g (p.lt g a).2 (P g a),λz hz=>ao.Mr (λb l d=>⟨q b l,f b d (λe=>h.Mv (e▸l))⟩) 41 _ _ (X z hz)⟩,(a.t 5 (by omega)).t h.begun,⟨V,(a.t 6 (by omega)).t c6,?_⟩,r,c k0 d h.Mv,h.low,F⟩;rcases n with n|⟨m,x,i,G,o,u,m4,y⟩
 .exact Qc n
 .have k:=(eS o).1;exact Qd ⟨m,x,i,G,(f m k (by omega)).t o,u,c m k m4,y⟩
theorem Hj(h:aW A B w k0 st L){r:St×Cu}{e:Ending}(o:dQ A w k0 r.1 (aG r.2) e w'):bQ A B k0 w r.1 L ⟨r.2.code,r.2.MG,r.2.body,[],⟨#[]⟩⟩ e w':=by
 obtain⟨rfl,c,d⟩:=o;have f:=h.ls.lt;have n:=d.g.size;have l:∀b,A b->Grow A w b/\b<w'.heap.size:=λb a=>⟨Qc ⟨a,h.ls.Ng b a⟩,by have:=h.ls.Ng b a;omega⟩
 have k:∀b,(Grow A w b/\b<w'.heap.size)->A b\/w.heap.size<=b:=λb a=>a.1.imp (·.1) id
 have i:∀b,b<w.heap.size->b≠k0->w'.heap[b]?=w.heap[b]?:=λb a y=>d.g.block b a (λe=>y (oJ e))
 have q:=h.time;have⟨p,z,x⟩:=c.tree;refine⟨M N 0 0,Q,λb=>Grow A w b/\b<w'.heap.size,l,k,⟨⟨λb a=>c.Mv b a.1,⟨p,z,ao.Mr (λb a f=>⟨⟨a,f⟩,Q⟩) 41 _ _ x⟩,c.count,c.last,c.frozen⟩,h.ls.grown d c.frozen l k (λb a=>a.2),(d.t 3 (by omega)).t q⟩,⟨d.g.os,n,λb _ m u=>i b m u,λb a m=>i b m (λe=>h.ls.Mv (e▸a)),λj hj=>d.t j (by omega),λj=>(c.frozen j).t (h.store.frozen j).s⟩,N,0,Q,λ_=>Q,λv=>kr Q v⟩
theorem BM(h:aW A B w k0 st L)(s:H)(o:OpD)(c:o.key.size<=pt)(a:o.body.size<=pt)(e:Inv st s)(f:s<2199023255340)(d:o.kind<6\/12<o.kind):
  Calls Yq.prog 8 #[O (J ⟨k0,0,N⟩),aJ o] w (bQ A B k0 w (aE st o).1 L ⟨(aE st o).2.code,(aE st o).2.MG,(aE st o).2.body,[],⟨#[]⟩⟩):=
 (BI A k0 st s o w c a h.store e f d).m λ_ _ b=>Hj h b
end
end
section
open Go.RowKit
theorem qh(a:S OpD)(i j:H)(c:i<a.length)(b:j<7):(a.flatMap cf)[i*7+j]?=(cf a[i])[j]?:=bE 7 cf (λ_=>Q) a i j c b
theorem Yq.Pb:(Yq.prog.info? 30).map (λi=>(i.zero,i.size,i.bytes))=J (J (Qa #[I K 0,U ⟨#[]⟩,U ⟨#[]⟩,U ⟨#[]⟩,U ⟨#[]⟩,I K 0,I K 0]),7,88):=by kernel_rfl
theorem yC{b:H}{ops:S OpD}(h:w.ownsRow b 30 7 v n (ops.flatMap cf))(m:n=ops.length)(e:Sized ops)(d:ops.length<=2199023255552):jC w v ops:=by
 subst m;rcases h.2 with⟨rfl,k⟩|⟨g,c,cur,rfl,hbg,hg,hnc,hcm,hcs,htake⟩;have:=Qk.1 k;subst this;exact⟨⟨N,0,rfl,λh=>kr Q h⟩,e,d⟩;refine⟨⟨_,c,Q,λ_=>⟨g,0,Q,λi l=>?_⟩⟩,e,d⟩;have a:∀j,j<7->w.cell? ⟨g,0+i*7+j,N⟩=(cf ops[i])[j]?:=λj f=>by
  rw[zA,<-qh ops i j l f];exact h.cellAt _ (by omega)
 exact⟨a 0 (by omega),a 1 (by omega),a 2 (by omega),a 3 (by omega),a 4 (by omega),a 5 (by omega),a 6 (by omega)⟩
theorem BN(w:Wj)(o:OpD)(T:Ww):∀j u,(cf o)[j]?=J u->(w.alloc (E #[I K o.kind,U o.key,U o.body,U o.eQ,U o.past,I K o.n,I K o.src] T)).cell? ((⟨w.heap.size,0,N⟩:Wu).add j)=J u:=by
 intro j u a;rw[QR,cA (w:=w) _ _ w.heap.size _ Q];simpa[cf]using a
theorem one7(o:OpD):∀u∈cf o,u.oneCell'=true:=by
 intro u a;simp[cf]at a;rcases a with rfl|rfl|rfl|rfl|rfl|rfl|rfl<;>rfl
structure Gb (w:Wj)(v:Wx)(w':Wj)(v':Wx):Prop where
 grown:w.grownBy w' v.ownBlock
 at_:∀g,v'.ownBlock=J g->v.ownBlock=J g\/w.heap.size<=g
theorem Gb.refl(w:Wj)(v:Wx):Gb w v w v:=⟨World.grownBy.refl _ _,λ_ h=>Qc h⟩
theorem Gb.t{w2:Wj}{d v2:Wx}(h:Gb w v wr d)(a:Gb wr d w2 v2):Gb w v w2 v2:=by
 refine⟨⟨a.grown.os.t h.grown.os,a.grown.tape.t h.grown.tape,a.grown.output.t h.grown.output,lT h.grown.size a.grown.size,λb i c=>?_⟩,λg j=>?_⟩;rw[a.grown.block b (lL i h.grown.size) ?_,h.grown.block b i c];intro e;rcases h.at_ b e.s with k|k
 grind
 omega;rcases a.at_ g j with e|e;exact h.at_ g e;exact Qd (lT h.grown.size e)
theorem Gb.alloc{w':Wj}{o:Obj}(h:Gb (w.alloc o) v w' v'):Gb w v w' v':=
 Gb.t ⟨World.grownBy_alloc _ _ _,λ_ h=>Qc h⟩ h
section
variable {P:Program}
theorem yD(w:Wj)(d:H)(t u r e:Ww)(i:tb)(A:P.underlying t=J (.slice e))(z:P.underlying u=J .string)(B:P.info? e=J i)(L:i.zero=J (.int .u8 0))
  (a:i.size=1) (h:i.bytes=1) (v:Wx) (n:H) (p:S Wx) (b:w.ownsRow d e 1 v n p) (s:dT)
  (o:n+s.size<=pt) (f:n+s.size<=140737488355328) (k:d<=w.heap.size):
  ∃q w',(Builtin.append_ #[t,u] r #[v,.string s]).run P w=.ok q w'/\w'.ownsRow d e 1 q (n+s.size) (p++PZ s)/\Gb w v w' q:=by
 obtain⟨q,w',y,T,V,-⟩:=P0 (P:=P) w d t u r e i A z B L a h v n p b s o f k;refine⟨q,w',y,T,V,λg m=>?_⟩;have hxl:p.length=n:=by simpa using b.1
 rcases b.2 with⟨rfl,rfl⟩|⟨F,l,D,rfl,hb0,x,hnc,hcm,hcs,-⟩;obtain⟨v2,w2,c,G,-⟩:=P0 (P:=P) w w.heap.size t u r e i A z B L a h (.slice N 0 0) 0 p ⟨b.1,.inl ⟨rfl,rfl⟩⟩ s o f (lR _);rw[y]at c;cases c;exact .inr (G.lt g m).1;by_cases R:n+s.size<=l
 have c:=Lib.run_append_room_string (P:=P) w t u r e i A z B a F n l D x s R (by omega);rw[y]at c;cases c;exact .inl m;have c:=Lib.run_append_grow_string (P:=P) w t u r e i (.int .u8 0) A z B L ⟨F,0,N⟩ n l p (by rw[a];omega) (λj u X=>b.cells (g:=F) rfl j u X) s (by omega) (by simp[pt]at o;omega) (by rw[h];exact growslice_fits (by omega) (by omega));rw[y]at c;cases c;cases m
 grind
theorem kK(w:Wj){q:S Oper}(G:o.guard=N)(s x:Operand)(t:Ww)
  (ho:o.op=.call {callee:=.builtin .append,args:=#[s,x],argTypes:=#[t,t]})
  (l:H) (e:Ww) (i:tb) (z:Wx) (d k:H) (ht:P.underlying t=J (.slice e)) (hi:P.info? e=J i) (hz:i.zero=J z)
  (r:i.size=d) (L:i.bytes=k) (V:z.cells.size=d) (aa:0<d)
  (v:Wx) (n:H) (R:S Wx) (hs:a.eval s=v) (D:w.ownsRow l e d v n R)
  (T:Wu) (m c:H) (f:S Wx) (hx:a.eval x=.slice (J T) m c) (hl:f.length=m*d) (y:∀j u,f[j]?=J u->w.cell? (T.add j)=J u) (h1:∀u∈f,u.oneCell'=Y)
  (X:n+m<=pt) (p:(n+m)*k<=140737488355328) (A:l<=w.heap.size)
  (h:∀B w',w'.ownsRow l e d B (n+m) (R++f)->Gb w v w' B->wpList P F b q (a.put o.dst B) w'):wpList P F b (o::q) a w:=by
 have⟨B,w',hr,h2,h3,h4⟩:=lq (P:=P) w l t o.type e i z d k ht hi hz r L V aa v n R D T m c f hl y h1 X p A;exact P9 w G s x t t ho v _ hs hx B w' hr (h B w' h2 ⟨h3,h4⟩)
theorem my(w:Wj){j:S Oper}(r:o.guard=N)(s x:Operand)(t u:Ww)
  (B:o.op=.call {callee:=.builtin .append,args:=#[s,x],argTypes:=#[t,u]})
  (d:H) (e:Ww) (i:tb) (L:P.underlying t=J (.slice e)) (G:P.underlying u=J .string) (V:P.info? e=J i) (hz:i.zero=J (.int .u8 0))
  (k:i.size=1) (y:i.bytes=1) (v:Wx) (n:H) (z:S Wx) (T:a.eval s=v) (p:w.ownsRow d e 1 v n z) (b:dT) (X:a.eval x=.string b)
  (A:n+b.size<=pt) (f:n+b.size<=140737488355328) (l:d<=w.heap.size)
  (h:∀m w',w'.ownsRow d e 1 m (n+b.size) (z++PZ b)->Gb w v w' m->wpList P q c j (a.put o.dst m) w'):wpList P q c (o::j) a w:=by
 have⟨m,w',F,D,R⟩:=yD (P:=P) w d t u o.type e i L G V hz k y v n z p b A f l;exact P9 w r s x t u B v _ T X m w' F (h m w' D R)
end
theorem Ab(w:Wj)(v:Wx)(T:Ww):∀j u,[v][j]?=J u->(w.alloc (E #[v] T)).cell? ((⟨w.heap.size,0,N⟩:Wu).add j)=J u:=by
 intro j u hj;rw[QR,cA (w:=w) _ _ w.heap.size _ Q]
 grind
theorem rJ(n:ey):∀u∈[QZ .u8 n],u.oneCell'=true:=by
 intro u a;simp at a;subst a;rfl
def ot(s:dT):S Wx:=[I .u8 ((s.size:ey)%256)]++PZ s
theorem vZ(s:dT):(ot s).length=1+s.size:=by simp[ot,Lib.strCells_length];omega
theorem tK(a n:H)(l:gI Wu)(m:H)(q:S Wx)(s:dT)(w:Wj)(h:w.ownsRow a 5 1 (M l n m) n q)(z:a<=w.heap.size)(hn:n+1+s.size<=100000000000):
  Calls Yq.prog 80 #[M l n m,U s] w λe w'=>∃p,e=ZY p/\w'.ownsRow a 5 1 p (n+1+s.size) (q++ot s)/\Gb w (M l n m) w' p:=by
 have⟨v,k,i,j,c⟩:=sT Yq.MW;have HO:=jf h z;go_enter (Yq.nq Tryz.func80),Tryz.ntmps80;go_wp2_with (first
  |(at_builtin;refine kK _ Q _ _ 118 Q a 5 v _ 1 1 (Yq.u ZT) k i j c Q (by decide) _ n _ Q (HO.o.1.alloc _) ⟨w.heap.size,0,N⟩ 1 1 [I .u8 ((s.size:ey)%256)] Q Q (Ab w _ _) (rJ _) (by simp[pt];omega) (by omega) (by have:=HO.o.2;simp;omega) ?_;intro y x f d;have b:Hid (x.ownsRow a 5 1 y (n+1) (q++[I .u8 ((s.size:ey)%256)])/\Gb w (M l n m) x y):=⟨f,d.alloc⟩;clear f d)
  |(at_builtin;refine my _ Q _ _ 118 9 Q a 5 v (Yq.u ZT) (Yq.u ZW) k i j c _ (n+1) _ Q b.o.1 s Q (by simp[pt];omega) (by omega) (lT HO.o.2 b.o.2.grown.size) ?_;intro v2 w2 ho2 r))
 go_ret;refine⟨_,Q,?_,b.o.2.t r⟩
 rwa [ot,<-pA]
def num8(m:ey)(k:H):S Wx:=(Qn k).map λi=>I .u8 (m/2 ^ (8*(7-i))%256)
theorem we(m:ey)(k:H):num8 m (k+1)=num8 m k++[I .u8 (m/2 ^ (8*(7-k))%256)]:=by
 simp[num8,List.range_succ]
theorem tM(m:ey)(k:H):(num8 m k).length=k:=by simp[num8]
theorem qi(a n:H)(d:gI Wu)(c:H)(r:S Wx)(m:ey)(w:Wj)(h:w.ownsRow a 5 1 (M d n c) n r)(z:a<=w.heap.size)(hn:n+8<=100000000000):
  Calls Yq.prog 53 #[M d n c,I .u64 m] w λe w'=>∃j,e=ZY j/\w'.ownsRow a 5 1 j (n+8) (r++num8 m 8)/\Gb w (M d n c) w' j:=by
 have⟨y,l,p,q,f⟩:=sT Yq.MW;generalize hv:QY d n c=v at *;go_enter (Yq.nq Tryz.func53),Tryz.ntmps53;go_wp2_with fail
 go_loopw [0,6] (λs0 s6 wr=>∃i:H,i<=8/\s6=I K i/\wr.ownsRow a 5 1 s0 (n+i) (r++num8 m i)/\Gb w v wr s0) (λ_ s6 _=>8-(intOf s6).toNat)
 case atStart=>exact⟨0,by omega,Q,by simpa[num8]using h,Gb.refl _ _⟩
 case round=>
  obtain⟨i,hin,rfl,b,x⟩:=hrel;obtain⟨d,c,rfl,-⟩:=az b;have HX:=xh b x z;by_cases hlt:i<8
  go_wp2_with (at_builtin;refine kK _ Q _ _ 118 Q a 5 y _ 1 1 (Yq.u ZT) l p q f Q (by decide) _ (n+i) _ Q (HX.o.1.alloc _) ⟨wr.heap.size,0,N⟩ 1 1 [I .u8 (m/2 ^ (8*(7-i))%256)] Q Q (Ab wr _ _) (rJ _) (by simp[pt];omega) (by omega) (by have:=HX.o.2.2;have:=HX.o.2.1.grown.size;simp;omega) ?_;intro v1 w1 ho1 s)
  refine⟨⟨i+1,by omega,by go_num,?_,HX.o.2.1.t s.alloc⟩,by simp[intOf];omega⟩
  rwa [we,<-pA]
  have k:i=8:=by omega
  subst k;go_wp2;go_ret;exact⟨_,Q,HX.o.1,HX.o.2.1⟩
def Cv(k:dT)(v:Ver):S Wx:=if v.mark then[I .u8 2]++num8 v.num 8++ot k else[I .u8 1]++num8 v.num 8++ot k++ot v.body
def Ad(k:dT)(v:Ver):Nat:=if v.mark then 10+k.size else 11+k.size+v.body.size
theorem Gb.box{d:Wx}{o:Obj}(f:w.ownsRow r 5 1 v n xs)(h:Gb (w.alloc o) v wr d):wr.heap[w.heap.size]?=J o:=by
 rw[h.grown.block w.heap.size (by simp) (λe=>by have:=(f.lt _ e.s).2;omega)];exact heap_alloc_new w o
def Box4(g:H)(a b c d:Wx)(w:Wj):Prop:=w.cell? ⟨g,0,N⟩=J a/\w.cell? ⟨g,1,N⟩=J b/\w.cell? ⟨g,2,N⟩=J c/\w.cell? ⟨g,3,N⟩=J d
theorem D8{b c d:Wx}(h:w.heap[g]?=J (E #[v,b,c,d] T)):Box4 g v b c d w:=by
 refine⟨?_,?_,?_,?_⟩<;>simp[xb,h]
theorem Gb.drew{w':Wj}(h:Gb w v w' v'):Gb w v w'.drew v':=⟨⟨h.grown.os,h.grown.tape,h.grown.output,h.grown.size,h.grown.block⟩,h.at_⟩
theorem Gb.Nz{w':Wj}(h:Gb w.drew v w' v'):Gb w v w' v':=⟨⟨h.grown.os,h.grown.tape,h.grown.output,h.grown.size,h.grown.block⟩,h.at_⟩
theorem wg(a n:H)(v:Wx)(b:S Wx)(s:dT)(w:Wj)(h:w.ownsRow a 5 1 v n b)(f:a<=w.heap.size)(i:n+1+s.size<=100000000000):
  Calls Yq.prog 80 #[v,U s] w λe w'=>∃c,e=ZY c/\w'.ownsRow a 5 1 c (n+1+s.size) (b++ot s)/\Gb w v w' c:=by
 obtain⟨j,d,rfl,-⟩:=az h;exact tK a n j d b s w h f i
theorem g7(a n:H)(v:Wx)(b:S Wx)(m:ey)(w:Wj)(h:w.ownsRow a 5 1 v n b)(f:a<=w.heap.size)(i:n+8<=100000000000):
  Calls Yq.prog 53 #[v,I .u64 m] w λe w'=>∃c,e=ZY c/\w'.ownsRow a 5 1 c (n+8) (b++num8 m 8)/\Gb w v w' c:=by
 obtain⟨j,d,rfl,-⟩:=az h;exact qi a n j d b m w h f i
theorem oH(h0:0<=l)(h1:l<=9223372036854775807):IntKind.u64.wrap l=l:=by
 simp[QW,QS,QT];omega
theorem qI(l n:H)(va:gI Wu)(vc:H)(xs:S Wx)(k:dT)(v:Ver)(w:Wj)(h:w.ownsRow l 5 1 (M va n vc) n xs)(hb:l<=w.heap.size)(hn:n+Ad k v<=100000000000)(h0:0<=v.num)(a7:v.num<=9223372036854775807):
  Calls Yq.prog 52 #[M va n vc,Qa #[U k,I K v.num,U v.body,C v.mark]] w λe w'=>∃P,e=ZY P/\w'.ownsRow l 5 1 P (n+Ad k v) (xs++Cv k v)/\Gb w (M va n vc) w' P:=by
 have⟨i0,a2,a3,a5,a1⟩:=sT Yq.MW;obtain⟨F,y,a0⟩:=v;simp only at *;have HO:=jf h hb;clear h hb;have al:Hid (∀ (f:H) (R:eW Wx) (wx:Wj),(f=53\/f=80)->(callFunc f R).run Yq.prog wx=.ok (.enter f R) wx):=λf R wx hf=>by rcases hf with rfl|rfl<;>go_simp
 have ab:Hid (∀ (i:Obj) (x:Wx) (j:H) (u:Wx),[x][j]?=J u->((((w.alloc i).drew).alloc (E #[x] 5)).cell? ((⟨w.heap.size+1,0,N⟩:Wu).add j))=J u):=λi x j u hj=>by
  have:=Ab (w.alloc i).drew x 5 j u hj;simpa using this
 have ac:Hid (∀ (i X:Obj),(((w.alloc i).drew).alloc X).ownsRow l 5 1 (M va n vc) n xs):=λi X=>((bH (HO.o.1.alloc i) λg _ _=>Q).alloc X)
 have ad:Hid (∀ (p:Wj) (q a b c d:Wx) (T:Ww) (X:Obj),Gb (((w.alloc (E #[a,b,c,d] T)).drew).alloc X) (M va n vc) p q->Gb (w.alloc (E #[a,b,c,d] T)) (M va n vc) p q/\Box4 w.heap.size a b c d p):=λp q a b c d T X h=>⟨h.alloc.Nz,D8 (h.alloc.Nz.box HO.o.1)⟩
 have ar:Hid (∀ (p:Wj) (q a b c d:Wx) (T:Ww),Gb (w.alloc (E #[a,b,c,d] T)) (M va n vc) p q->Box4 w.heap.size a b c d p):=λp q a b c d T h=>D8 (h.box HO.o.1)
 have L:Hid (∀ (p:Wj) (q:Wx) (i:Obj),Gb (w.alloc i) (M va n vc) p q->l<=p.heap.size):=λp q i h=>by
  have:=h.alloc.grown.size;have:=HO.o.2;omega
 have ai:Hid (∀ (p:Wj) (q:Wx) (n1:H) (r:S Wx),p.ownsRow l 5 1 q n1 r->l<=p.heap.size->n1+8<=100000000000->Calls Yq.prog 53 #[q,I .u64 (IntKind.u64.wrap F)] p λe w'=>∃P,e=ZY P/\w'.ownsRow l 5 1 P (n1+8) (r++num8 F 8)/\Gb p q w' P):=λp q n1 r h1 h2 h3=>by
  rw[oH h0 a7];exact g7 l n1 q r F p h1 h2 h3
 have av:Hid (∀ (p:Wj) (q:Wx) (n1:H) (r:S Wx) (s:dT),p.ownsRow l 5 1 q n1 r->l<=p.heap.size->n1+1+s.size<=100000000000->Calls Yq.prog 80 #[q,U s] p λe w'=>∃P,e=ZY P/\w'.ownsRow l 5 1 P (n1+1+s.size) (r++ot s)/\Gb p q w' P):=λp q n1 r s=>wg l n1 q r s p
 cases a0
 .have a9:n+(11+k.size+y.size)<=100000000000:=by simpa[Ad]using hn
  go_enter (Yq.nq PY),PX;go_wp2_with fail
  go_region_law (first
   |(refine dw Q (Qe 20) (Qe 21) 118 Q l 5 i0 _ 1 1 (Yq.u ZT) a2 a3 a5 a1 Q (by decide) (M va n vc) n xs (by first|(simp[nF];done)|(simp[nF,n8];done)|go_simp) (ac.o _ _) ⟨w.heap.size+1,0,N⟩ 1 1 [I .u8 1] (by first|(simp[nF];done)|(simp[nF,n8];done)|go_simp) Q (ab.o _ _) (rJ _) (by simp only[pt];omega) (by omega) (by have:=HO.o.2;simp;omega) ?_;intro q p G V z;obtain⟨B,c0,c1,c2,c3⟩:=ad.o _ q _ _ _ _ _ _ ⟨V,z⟩;clear V z)
   |(refine bJ Q 53 #[Qe 22,Qe 26] #[118,34] Q #[q,I .u64 (IntKind.u64.wrap F)] (by first|(simp[nF];done)|(simp[nF,n8];done)|go_simp) (al.o _ _ _ (Rh Q)) _ (ai.o p q _ _ G (L.o _ _ _ B) (by omega)) ?_;rintro v2 w2 ⟨ap,aa⟩;have A:=B.t aa;obtain⟨d0,d1,d2,d3⟩:=ar.o _ v2 _ _ _ _ _ A;clear aa c0 c1 c2 c3 B G))
  all_goals clear ad ab ac ai
  all_goals go_wp2_with fail
  all_goals go_region_law (first
   |(refine bJ Q 80 #[Qe 28,Qe 30] #[118,9] Q #[v2,U k] (by first|(simp[nF];done)|(simp[nF,n8];done)|go_simp) (al.o _ _ _ (Rg Q)) _ (av.o w2.drew v2 (n+1+8) _ k ap (L.o _ _ _ A.drew) (by omega)) ?_;rintro v3 w3 ⟨af,aj⟩;have D:=A.t aj.Nz;obtain⟨e0,e1,e2,e3⟩:=ar.o _ v3 _ _ _ _ _ D;clear aj d0 d1 d2 d3 A ap)
   |(refine bJ Q 80 #[Qe 31,Qe 34] #[118,9] Q #[v3,U y] (by first|(simp[nF];done)|(simp[nF,n8];done)|go_simp) (al.o _ _ _ (Rg Q)) _ (av.o w3 v3 (n+1+8+1+k.size) _ y af (L.o _ _ _ D) (by omega)) ?_;rintro v4 w4 ⟨a8,a4⟩;have a6:=(D.t a4).alloc;clear a4 e0 e1 e2 e3 D af))
  all_goals go_wp2
  all_goals go_ret
  all_goals refine⟨v4,Q,?_,a6⟩
  all_goals
   simp only[Ad,Cv,Bool.false_eq_true,if_false];have e1:n+(11+k.size+y.size)=n+1+8+1+k.size+1+y.size:=by omega
   rw[e1];simpa only[pA]using a8
 have a9:n+(10+k.size)<=100000000000:=by simpa[Ad]using hn
 go_enter (Yq.nq PY),PX;go_wp2_with fail
 go_region_law (first
  |(refine dw Q (Qe 8) (Qe 9) 118 Q l 5 i0 _ 1 1 (Yq.u ZT) a2 a3 a5 a1 Q (by decide) (M va n vc) n xs (by first|(simp[nF];done)|(simp[nF,n8];done)|go_simp) (ac.o _ _) ⟨w.heap.size+1,0,N⟩ 1 1 [I .u8 2] (by first|(simp[nF];done)|(simp[nF,n8];done)|go_simp) Q (ab.o _ _) (rJ _) (by simp only[pt];omega) (by omega) (by have:=HO.o.2;simp;omega) ?_;intro q p G V z;obtain⟨B,c0,c1,c2,c3⟩:=ad.o _ q _ _ _ _ _ _ ⟨V,z⟩;clear V z)
  |(refine bJ Q 53 #[Qe 10,Qe 14] #[118,34] Q #[q,I .u64 (IntKind.u64.wrap F)] (by first|(simp[nF];done)|(simp[nF,n8];done)|go_simp) (al.o _ _ _ (Rh Q)) _ (ai.o p q _ _ G (L.o _ _ _ B) (by omega)) ?_;rintro v2 w2 ⟨ap,aa⟩;have A:=B.t aa;obtain⟨d0,d1,d2,d3⟩:=ar.o _ v2 _ _ _ _ _ A;clear aa c0 c1 c2 c3 B G))
 all_goals clear ad ab ac ai
 all_goals go_wp2_with (go_at_call 80;refine(av.o w2 v2 (n+1+8) _ k ap (L.o _ _ _ A) (by omega)).m ?_;rintro e w3 ⟨v3,rfl,af,aj⟩;have D:=(A.t aj).alloc)
 all_goals go_ret
 all_goals refine⟨v3,Q,?_,D⟩
 all_goals
  simp only[Ad,Cv,if_true];have e1:n+(10+k.size)=n+1+8+1+k.size:=by omega
  rw[e1];simpa only[pA]using af
theorem Hk(x:ey)(w:Wj):Calls Yq.prog 101 #[I K x] w λe w'=>e=ZY (C Z)/\w'=w:=by
 go_enter (Yq.nq Tryz.func101),Tryz.ntmps101;go_wp2;go_ret;exact⟨by simp,Q⟩
def Lk(x y:ey):ey:=if x<y then -1 else if y<x then 1 else 0
theorem BO(x y:ey)(w:Wj):Calls Yq.prog 79 #[I K x,I K y] w λe w'=>e=ZY (I K (Lk x y))/\w'=w:=by
 have H1:=aI Hk;unfold Lk;by_cases a:x<y
 .rw [ZS a];go_enter (Yq.nq PT),PO;go_wp2_with (go_at_call 101;refine(H1.o _ _).m ?_;rintro e c ⟨rfl,rfl⟩)
  go_ret;exact⟨Q,Q⟩
 rw[ZR a];by_cases b:y<x
 .rw [ZS b];go_enter (Yq.nq PT),PO;go_wp2_with (go_at_call 101;refine(H1.o _ _).m ?_;rintro e c ⟨rfl,rfl⟩)
  go_ret;exact⟨Q,Q⟩
 rw[ZR b];go_enter (Yq.nq PT),PO;go_wp2_with (go_at_call 101;refine(H1.o _ _).m ?_;rintro e c ⟨rfl,rfl⟩)
 go_ret;exact⟨Q,Q⟩
def LW(k:dT)(v:Ver):Wx:=Qa #[U k,I K v.num,U v.body,C v.mark]
def wZ(k:dT)(v:Ver):S Wx:=[U k,I K v.num,U v.body,C v.mark]
theorem D9(c d:dT)(a b:Ver)(w:Wj):Calls Yq.prog 78 #[LW c a,LW d b] w λe w'=>e=ZY (I K (Lk a.num b.num))/\w'=(w.alloc (E (wZ c a).toArray 122)).alloc (E (wZ d b).toArray 122):=by
 obtain⟨n1,b1,m1⟩:=a;obtain⟨n2,b2,m2⟩:=b;unfold LW wZ;go_enter (Yq.nq Tryz.func78),Tryz.ntmps78;go_wp2_with (go_at_call 79;refine((aI BO).o _ _ _).m ?_;rintro e w1 ⟨rfl,rfl⟩)
 go_ret;exact⟨Q,Q⟩
def iA(L:S (dT×Ver)):S Wx:=L.flatMap λe=>Cv e.1 e.2
def fj(L:S (dT×Ver)):Nat:=(L.map λe=>Ad e.1 e.2).sum
def fO(L:S (dT×Ver)):S Wx:=L.flatMap λe=>wZ e.1 e.2
theorem BP(h:r<L.length):fj (L.take (r+1))=fj (L.take r)+Ad L[r].1 L[r].2:=by
 unfold fj;rw[tS h]
 grind
theorem BQ(h:r<L.length):iA (L.take (r+1))=iA (L.take r)++Cv L[r].1 L[r].2:=by
 unfold iA;rw[tS h]
 grind
theorem Hl(L:S (dT×Ver))(i:H):fj (L.take i)<=fj L:=by
 have:fj L=fj (L.take i)+fj (L.drop i):=by
  unfold fj;rw[<-Qx,<-Qh,List.take_append_drop]
 omega
theorem Ea(h:r<L.length):(fO L)[r*4]?=J (U L[r].1)/\(fO L)[r*4+1]?=J (I K L[r].2.num)/\(fO L)[r*4+2]?=J (U L[r].2.body)/\(fO L)[r*4+3]?=J (C L[r].2.mark):=by
 induction L generalizing r with
 |nil=>simp at h
 |cons e L ih=>
  cases r with
  |zero=>simp[fO,wZ]
  |succ r=>
   have a:r<L.length:=by grind
   have:=ih a;simp[fO,wZ]at this ⊢
   grind
theorem Eb(h0:0<=l)(h1:l<=9223372036854775808):IntKind.u64.wrap l=l:=by
 simp[QW,QS,QT];omega
theorem BR{b:H}(h:w.ownsRow b T r v n xs)(hn:0<n):∃g a,v=M (J ⟨g,0,N⟩) n a/\∀j u,xs[j]?=J u->w.cell? ⟨g,j,N⟩=J u:=by
 rcases h.2 with⟨rfl,e0⟩|⟨g,a,cur,rfl,-⟩;omega;refine⟨g,a,rfl,λj u f=>?_⟩;have:=(λg e=>h.cells (g:=g) e) g Q j u f;simpa only[QR,zA]using this
def Ec(xs:S Wx):Prop:=∃l:S gL,xs=l.map λb=>QZ .u8 b.toNat
theorem Ec.append{b:S Wx}(h:Ec xs)(c:Ec b):Ec (xs++b):=by
 obtain⟨l,rfl⟩:=h;obtain⟨m,rfl⟩:=c;exact⟨l++m,by rw[Qh]⟩
theorem j7(h0:0<=l)(h1:l<256):Ec [I .u8 l]:=by
 refine⟨[Rd l.toNat],?_⟩;have:(Rd l.toNat).toNat=l.toNat:=by simp_all
 grind
theorem oK(m:ey)(k:H):Ec (num8 m k):=by
 induction k with
 |zero=>exact⟨[],Q⟩
 |succ k ih=>rw[we];exact ih.append (j7 (Rj _ (by decide)) (Ri _ (by decide)))
theorem Hm(s:dT):Ec (PZ s):=⟨s.data.toList,Q⟩
theorem qj(s:dT):Ec (ot s):=(j7 (Rj _ (by decide)) (Ri _ (by decide))).append (Hm s)
theorem Hn(k:dT)(v:Ver):Ec (Cv k v):=by
 unfold Cv;split
 exact((j7 (by decide) (by decide)).append (oK _ _)).append (qj k);exact(((j7 (by decide) (by decide)).append (oK _ _)).append (qj k)).append (qj _)
theorem Ed(L:S (dT×Ver)):Ec (iA L):=by
 induction L with
 |nil=>exact⟨[],Q⟩
 |cons e L ih=>exact(Hn e.1 e.2).append ih
theorem BS(L:S (dT×Ver))(a b:ey):Ec (((((iA L++[I .u8 3])++num8 (a+1) 8)++[I .u8 4])++num8 b 8)):=
 ((((Ed L).append (j7 (by decide) (by decide))).append (oK _ _)).append (j7 (by decide) (by decide))).append (oK _ _)
theorem ay.grown{w':Wj}{row:gI H}(h:ay w W)(a:W.grownBy w' row)(d:∀g,row=J g->w.heap.size<=g):ay w w':=
 ⟨a.os.t h.os,lT h.size a.size,λb c=>(a.block b (lL c h.size) (λe=>by have:=d b e.s;omega)).t (h.block b c)⟩
theorem Ki(k0:H)(L:S (dT×Ver))(b tm:ey)(w:Wj)(c2:w.cell? ⟨k0,2,N⟩=J (I K b))(c3:w.cell? ⟨k0,3,N⟩=J (I .u64 tm))
  (hE:Calls Yq.prog 51 #[O (J ⟨k0,0,N⟩)] w λe w'=>∃v,e=ZY v/\w'.ownsRow w.heap.size 122 4 v L.length (fO L)/\ay w w')
  (hN:fj L+18<=100000000000) (hL:L.length<=1000000) (ac:∀e∈L,0<=e.2.num/\e.2.num<=9223372036854775807) (bo:0<=b) (bt:b<=9223372036854775807):
  Calls Yq.prog 23 #[O (J ⟨k0,0,N⟩)] w λe w'=>∃s,e=ZY (U s)/\PZ s=iA L++([I .u8 3]++num8 (b+1) 8++([I .u8 4]++num8 tm 8))/\ay w w':=by
 have⟨i0,a4,a5,a8,a3⟩:=sT Yq.MW;have HE:=aI hE;clear hE;go_enter (Yq.nq Tryz.func23),Tryz.ntmps23;go_wp2_with (go_at_call 51;refine HE.o.m ?_;rintro e h ⟨v,rfl,p,ar⟩;obtain⟨va,vc,rfl,-⟩:=az p)
 go_loopw [3,9] (λs3 s9 wr=>∃i:H,i<=L.length/\s9=I K i/\wr.ownsRow h.heap.size 5 1 s3 (fj (L.take i)) (iA (L.take i))/\Below h.heap.size h wr) (λ_ s9 _=>L.length-(intOf s9).toNat)
 case atStart=>exact⟨0,QB _,Q,by simpa[fj,iA]using yz _ _ _ _,bR _ _⟩
 case round=>
  obtain⟨i,hin,rfl,l,G⟩:=hrel;obtain⟨P,R,rfl,-⟩:=az l;by_cases T:i<L.length
  .have a9:∃g,va=J ⟨g,0,N⟩/\g<h.heap.size:=by
    rcases p.2 with⟨e,e0⟩|⟨g,cap,cur,e,-,hr,-⟩
    .omega
    .cases e;exact⟨g,Q,(eS hr).1⟩
   obtain⟨g,rfl,hg⟩:=a9;have⟨q0,q1,q2,q3⟩:=Ea T;have x0:=ag G (p.cells (g:=g) Q _ _ q0);have x1:=ag G (p.cells (g:=g) Q _ _ q1);have x2:=ag G (p.cells (g:=g) Q _ _ q2);have x3:=ag G (p.cells (g:=g) Q _ _ q3);simp only[QR,zA]at x0 x1 x2 x3;clear q0 q1 q2 q3;have z:=xh (BP T) (BQ T) (Hl L (i+1));have al:=aI (ac _ (Ql T));have HX:=jf l G;clear l G p ac;generalize L[i]=en at *;obtain⟨ek,d,c,f⟩:=en;simp only at x0 x1 x2 x3 z al;have HC:Hid (∀ (a:Wj) (P:gI Wu) (R n:H),a.ownsRow h.heap.size 5 1 (M P n R) n (iA (L.take i))->h.heap.size<=a.heap.size->n+Ad ek ⟨d,c,f⟩<=100000000000->0<=d->d<=9223372036854775807->Calls Yq.prog 52 #[M P n R,Qa #[U ek,I K d,U c,C f]] a λe w'=>∃q,e=ZY q/\w'.ownsRow h.heap.size 5 1 q (n+Ad ek ⟨d,c,f⟩) (iA (L.take i)++Cv ek ⟨d,c,f⟩)/\Gb a (M P n R) w' q):=λa P R n h1 h2 h3 h4 h5=>qI h.heap.size n P R _ ek ⟨d,c,f⟩ a h1 h2 h3 h4 h5
   go_wp2_with (go_at_call 52;refine(HC.o _ _ _ _ (HX.o.1.alloc _) (by have:=HX.o.2.size;simp;omega) (by have:=z.o.1;have:=z.o.2.2;omega) al.o.1 al.o.2).m ?_;rintro e w2 ⟨v2,rfl,F,V⟩)
   have A:=HX.o.2.size;refine⟨⟨i+1,by omega,by go_num,?_,(HX.o.2.alloc A _).grown V.grown (by simp;omega) (λk e=>(HX.o.1.lt k e).1)⟩,by simp[intOf];omega⟩;rw[z.o.1,z.o.2.1];exact F
  .have bv:i=L.length:=by omega
   subst bv;rw[Qu]at l;have bx:=G.size;have hk0:k0<w.heap.size:=bC w _ c2;have HX:Hid (wr.ownsRow h.heap.size 5 1 (M P (fj L) R) (fj L) (iA L)/\Below h.heap.size h wr/\ay w wr):=⟨l,G,ar.t (.below G)⟩;rw[Qu];have y2:=HX.o.2.2.cell c2;have y3:=HX.o.2.2.cell c3;have y2':=au y2;have bb:Hid (∀ (B:eW Wx) (a:Wj),(callFunc 53 B).run Yq.prog a=.ok (.enter 53 B) a):=λB a=>by go_simp
   have bq:Hid (∀ (X:Obj),(wr.drew.alloc X).ownsRow h.heap.size 5 1 (M P (fj L) R) (fj L) (iA L)):=λX=>((bH HX.o.1 λg _ _=>Q:wr.drew.ownsRow _ _ _ _ _ _).alloc X)
   have a1:Hid (∀ (a:Wj) (x:Wx) (j:H) (u:Wx),[x][j]?=J u->((a.drew.alloc (E #[x] 5)).cell? ((⟨a.heap.size,0,N⟩:Wu).add j))=J u):=λa x j u hj=>Ab a.drew x 5 j u hj
   have HK:Hid (∀ (a wy:Wj) (v q:Wx) (n:H) (r:S Wx),a.ownsRow h.heap.size 5 1 v n r->ay w a->h.heap.size<=a.heap.size->Gb a v wy q->ay w wy/\h.heap.size<=wy.heap.size/\wy.cell? ⟨k0,2,N⟩=J (I K b)/\wy.cell? ⟨k0,3,N⟩=J (I .u64 tm)):=λa wy v q n r ho b0 b2 hg=>by
    have ap:ay w wy:=ay.grown b0 hg.grown (λk e=>lT ar.size (ho.lt k e).1);exact⟨ap,lT b2 hg.grown.size,ap.cell c2,ap.cell c3⟩
   have bw:Hid (∀ (a:Wj) (v:Wx) (n:H) (r:S Wx),a.ownsRow h.heap.size 5 1 v n r->h.heap.size<=a.heap.size->n+8<=100000000000->Calls Yq.prog 53 #[v,I .u64 (IntKind.u64.wrap (IntKind.u64.wrap b+1))] a λe w'=>∃q,e=ZY q/\w'.ownsRow h.heap.size 5 1 q (n+8) (r++num8 (b+1) 8)/\Gb a v w' q):=λa v n r h1 h2 h3=>by
    rw[oH bo bt,Eb (by omega) (by omega)];exact g7 _ n v r _ a h1 h2 h3
   have b1:Hid (∀ (a:Wj) (v:Wx) (n:H) (r:S Wx),a.ownsRow h.heap.size 5 1 v n r->h.heap.size<=a.heap.size->n+8<=100000000000->Calls Yq.prog 53 #[v,I .u64 tm] a λe w'=>∃q,e=ZY q/\w'.ownsRow h.heap.size 5 1 q (n+8) (r++num8 tm 8)/\Gb a v w' q):=λa v n r h1 h2 h3=>g7 _ n v r _ a h1 h2 h3
   clear l G p ar;go_wp2_with fail
   go_region_law (first
    |(refine dw Q (Qe 17) (Qe 18) 118 Q h.heap.size 5 i0 _ 1 1 (Yq.u ZT) a4 a5 a8 a3 Q (by decide) (M P (fj L) R) (fj L) (iA L) (by first|(simp[nF];done)|(simp[nF,n8];done)|go_simp) (bq.o _) ⟨wr.heap.size,0,N⟩ 1 1 [I .u8 3] (by first|(simp[nF];done)|(simp[nF,n8];done)|go_simp) Q (a1.o _ _) (rJ _) (by simp only[pt];omega) (by omega) (by simp;omega) ?_;intro v1 w2 F V ab;have bi:Gb wr (M P (fj L) R) w2 v1:=Gb.Nz (Gb.alloc ⟨V,ab⟩);obtain⟨be,A,z2,z3⟩:=HK.o _ _ _ _ _ _ HX.o.1 HX.o.2.2 bx bi;clear V ab)
    |(refine bJ Q 53 #[Qe 19,Qe 25] #[118,34] Q #[v1,I .u64 (IntKind.u64.wrap (IntKind.u64.wrap b+1))] (by first|(simp[nF];done)|(simp[nF,n8];done)|go_simp) (bb.o _ _) _ (bw.o w2 v1 _ _ F A (by omega)) ?_;rintro v3 w3 ⟨ai,a7⟩;obtain⟨bn,a0,x2,x3⟩:=HK.o _ _ _ _ _ _ F be A a7;have bp:=au x3;clear a7 z2 z3 F be A bi))
   all_goals go_wp2_with fail
   all_goals go_region_law (first
    |(refine dw Q (Qe 27) (Qe 28) 118 Q h.heap.size 5 i0 _ 1 1 (Yq.u ZT) a4 a5 a8 a3 Q (by decide) v3 (fj L+1+8) _ (by first|(simp[nF];done)|(simp[nF,n8];done)|go_simp) ((bH ai λg _ _=>Q:w3.drew.ownsRow _ _ _ _ _ _).alloc _) ⟨w3.heap.size,0,N⟩ 1 1 [I .u8 4] (by first|(simp[nF];done)|(simp[nF,n8];done)|go_simp) Q (a1.o _ _) (rJ _) (by simp only[pt];omega) (by omega) (by simp;omega) ?_;intro v4 w4 aj a6 aa;obtain⟨bk,af,z2,z3⟩:=HK.o _ _ _ _ _ _ ai bn a0 (Gb.Nz (Gb.alloc ⟨a6,aa⟩));clear a6 aa x2 x3 bp ai bn a0)
    |(refine bJ Q 53 #[Qe 29,Qe 33] #[118,34] Q #[v4,I .u64 tm] (by first|(simp[nF];done)|(simp[nF,n8];done)|go_simp) (bb.o _ _) _ (b1.o w4 v4 _ _ aj af (by omega)) ?_;rintro v5 w5 ⟨ad,bl⟩;obtain⟨bd,-,-,-⟩:=HK.o _ _ _ _ _ _ aj bk af bl;clear bl z2 z3 aj bk af))
   all_goals obtain⟨g5,a2,rfl,av⟩:=BR ad (by omega)
   all_goals have⟨bs,y⟩:=BS L b tm
   all_goals
    have D:bs.length=fj L+1+8+1+8:=by
     have:=ad.1;rw[y,lM]at this;omega
    have hcv:(convert 118 9 (M (J ⟨g5,0,N⟩) (fj L+1+8+1+8) a2)).run Yq.prog w5=.ok (U ⟨bs.toArray⟩) w5:=by
     rw[<-D];refine run_convert_bytes_back w5 118 9 5 ⟨g5,0,N⟩ a2 bs (Yq.u ZT) (Yq.u PI) (Yq.u ZW) λj hj=>?_
     rw[QR,zA];refine av j _ ?_;rw[y,List.getElem?_map,eL hj];rfl
    have HF:Hid (PZ ⟨bs.toArray⟩=iA L++([I .u8 3]++num8 (b+1) 8++([I .u8 4]++num8 tm 8))/\ay w w5):=by
     refine⟨?_,bd⟩;rw[PZ];simp only[pA]at y ⊢;exact y.s
    clear y av bd ad D;go_wp2;go_ret;exact⟨_,Q,HF.o.1,HF.o.2⟩
end
section
open Go.Conc Go.ConcX Go.ConcX.Gen Go.RowKit
theorem Yq.OL:(Yq.prog.info? 122).map (λi=>(i.zero,i.size,i.bytes))=J (J (Qa #[U ⟨#[]⟩,I K 0,U ⟨#[]⟩,C Z]),4,48):=by kernel_rfl
def cU(l:KVs):S (dT×Ver):=l.flatMap λx=>x.2.map λv=>(⟨x.1.toArray⟩,v)
def yE(t:H)(X:Wj)(b:H):Prop:=∃v,X.cell? ⟨t,0,N⟩=J v/\v.ownBlock=J b
theorem yE.of{t:H}(X Y:Wj)(b:H)(h:Y.heap[t]?=X.heap[t]?):yE t Y b->yE t X b:=λ⟨v,c,d⟩=>⟨v,(cB (a:=⟨t,0,N⟩) h).s.t c,d⟩
def kM(w:Wj)(root:gI Wu):Wj:=((w.alloc (E #[M N 0 0] 119)).alloc (E #[O root] 33)).alloc (E #[U ⟨#[]⟩] 9)
theorem dL(w:Wj)(a:gI Wu):(kM w a).heap.size=w.heap.size+3:=by simp only[kM,ZZ,QQ]
theorem tN(w:Wj)(a:gI Wu){b:H}(h:b<w.heap.size):(kM w a).heap[b]?=w.heap[b]?:=by
 simp only[kM,ZZ,gP,QQ]
 grind
theorem tP(w:Wj)(a:gI Wu)(i:H)(h:i<3):(kM w a).heap[w.heap.size+i]?=(#[E #[M N 0 0] 119,E #[O a] 33,E #[U ⟨#[]⟩] 9]:eW Obj)[i]?:=by
 simp only[kM,ZZ,gP,QQ]
 grind
structure uf (t:H)(w3:Wj)(E:S (dT×Ver))(X:Wj):Prop where
 os:X.os=w3.os
 size:w3.heap.size<=X.heap.size
 block:∀b,b<w3.heap.size->b≠t->X.heap[b]?=w3.heap[b]?
 row:∃v,X.heap[t]?=J (.cells #[v] 119)/\X.ownsRow w3.heap.size 122 4 v E.length (fO E)
section
variable {t:Nat} {w3 X Y:Wj} {E:List (dT×Ver)}
theorem uf.own(a:uf t w3 E X)(b:H)(h:yE t X b):w3.heap.size<=b/\∃o:Obj,X.heap[b]?=J o/\o.isCells=true:=by
 have⟨v,j,d⟩:=a.row;obtain⟨v',f,c⟩:=h;have e:X.cell? ⟨t,0,N⟩=J v:=by simp[xb,j]
 rw[e]at f;cases f;refine⟨(d.lt b c).1,?_⟩;rcases d.2 with⟨rfl,-⟩|⟨g,cap,cur,rfl,-,i,-⟩
 .simp [QX]at c
 .simp only[QX,oI]at c;subst c;exact⟨_,i,Q⟩
theorem uf.MS(k:t<w3.heap.size)(a:uf t w3 E X)(e:∀b,b<w3.heap.size->Y.heap[b]?=X.heap[b]?)(i:∀b,yE t X b->Y.heap[b]?=X.heap[b]?)(l:X.heap.size<=Y.heap.size)(j:Y.os=X.os):uf t w3 E Y:=by
 have⟨v,d,h⟩:=a.row;exact⟨j.t a.os,lT a.size l,λb f c=>(e b f).t (a.block b f c),v,(e t k).t d,fH h λg m=>i g ⟨v,by simp[xb,d],m⟩⟩
theorem uf.push(ht:t<w3.heap.size)(a:uf t w3 E X){c:Wx}{w2:Wj}{x:Ver}(y:X.heap[t]?=J (.cells #[v] 119))(D:w2.ownsRow w3.heap.size 122 4 c (E.length+1) (fO E++wZ s' x))(q:Gb X v w2 c):
  uf t w3 (E++[(s',x)]) (w2.setCell ⟨t,0,N⟩ c)/\fv (yE t) t t X (w2.setCell ⟨t,0,N⟩ c):=by
 have⟨v0,F,G⟩:=a.row;rw[y]at F;cases F;have f:X.cell? ⟨t,0,N⟩=J v:=by simp[xb,y]
 have l:∀g,v.ownBlock=J g->w3.heap.size<=g:=λg p=>(G.lt g p).1
 have hX:=a.size;have m:∀b,b<X.heap.size->v.ownBlock≠J b->w2.heap[b]?=X.heap[b]?:=λb i A=>q.grown.block b i (λe=>A e.s)
 have B:v.ownBlock≠J t:=λe=>by have:=l t e;omega
 have z:w2.heap[t]?=J (.cells #[v] 119):=(m t (by omega) B).t y;have d:∀b,b≠t->(w2.setCell ⟨t,0,N⟩ c).heap[b]?=w2.heap[b]?:=λb i=>bS _ _ _ _ i
 have n:(w2.setCell ⟨t,0,N⟩ c).heap[t]?=J (.cells #[c] 119):=by
  have⟨r,u⟩:=eS z;show(w2.heap.modify t _)[t]?=_;rw[eG (by rw[QI];exact r),QK,u];rfl
 have hsz:(w2.setCell ⟨t,0,N⟩ c).heap.size=w2.heap.size:=by simp
 have o:(w2.setCell ⟨t,0,N⟩ c).os=X.os:=q.grown.os;have p:=q.grown.size;refine⟨⟨o.t a.os,by omega,λb i j=>?_,c,n,?_⟩,by omega,o,λb i=>?_,λb i j _ A=>?_⟩
 .rw [d b j,m b (by omega) (λe=>by have:=l b e;omega)];exact a.block b i j
 .have L:fO (E++[(s',x)])=fO E++wZ s' x:=by simp[fO]
  rw[L,lP,lS];exact fH D λg p=>d g (λe=>by have:=(D.lt g p).1;omega)
 .obtain ⟨v1,r,u⟩:=i;have e:(w2.setCell ⟨t,0,N⟩ c).cell? ⟨t,0,N⟩=J c:=by simp[xb,n]
  rw[e]at r;cases r;rcases q.at_ b u with h|h
  .exact Qc ⟨v,f,h⟩
  .exact Qd h
 .rw [d b j,m b i (λe=>A ⟨v,f,e⟩)]
end
theorem ou{F:Fence}{P:Program}(w:Wj){A:eW Oper}{p:S Oper}
  (hg:o.guard=N) (s x:Operand) (t:Ww) (q:o.op=Op.call {callee:=Callee.builtin Builtin.append,args:=#[s,x],argTypes:=#[t,t]})
  (n:H) (e:Ww) (i:tb) (z:Wx) (f l:H) (h1:P.underlying t=J (.slice e)) (h2:P.info? e=J i) (h3:i.zero=J z) (h4:i.size=f) (h5:i.bytes=l) (h6:z.cells.size=f) (h7:0<f)
  (v:Wx) (k:H) (R:S Wx) (hs:a.eval s=v) (r:w.ownsRow n e f v k R) (G:Wu) (m c:H) (h:S Wx) (hx:a.eval x=.slice (J G) m c) (hn:h.length=m*f)
  (hc:∀j u,h[j]?=J u->w.cell? (G.add j)=J u) (L:∀u∈h,u.oneCell'=Y) (X:k+m<=pt) (b2:(k+m)*l<=140737488355328) (b3:n<=w.heap.size)
  (hK:∀y w',w'.ownsRow n e f y (k+m) (R++h)->Gb w v w' y->wpListIn F V P A b p (a.put o.dst y) w'):
  wpListIn F V P A b (o::p) a w:=by
 refine wpListIn_plain hg λd T=>?_
 have⟨y,w',B,r1,r2,r3⟩:=lq (P:=P) w n t o.type e i z f l h1 h2 h3 h4 h5 h6 h7 v k R r G m c h hn hc L X b2 b3;refine⟨?_,?_⟩;simp[Oper.about,q,resolve,Target.leads,Sem.run_pure];rw[Oper.semAt_plain F _ _ (by rw[q];intro c D;cases D)];simp[uc,q,resolve,invoke,builtin,hs,hx,B,Result.andThen];exact T _ _ (hK y w' r1 ⟨r2,r3⟩)
noncomputable def Ee:Code:=BA (cIn (dm (iG (dm (dm (cn PU))))))
def gx(w:Wj)(k0:H)(root:gI Wu)(x4 c b a:Wx):eW Wx:=
 #[O (J ⟨k0,0,N⟩),Wo,M N 0 0,O (J ⟨w.heap.size,0,N⟩),x4,c,Wo,Wo,O (J ⟨k0,0,N⟩),O (J ⟨k0,0,N⟩),O (J ⟨k0,0,N⟩),
  .agg #[O root],.func (.func 97) #[] #[ptr (w.heap.size+1),ptr (w.heap.size+2)],b,a,Wo,Wo,Wo,Wo,Wo,Wo,Wo,Wo,Wo,Wo,Wo,Wo,Wo,Wo,Wo,Wo]
theorem fv.refl(a:Wj->H->Prop)(c t:H)(W:Wj):fv a c t W W:=⟨lR _,Q,λ_ h=>Qc h,λ_ _ _ _ _=>Q⟩
theorem fv.t{a:Wj->H->Prop}{c t:H}{W' W'':Wj}(h:fv a c t W W')(k:fv a c t W' W''):fv a c t W W'':=⟨lT h.1 k.1,k.2.1.t h.2.1,Dv h.1 h.2.2.1 k.2.2.1,λb d e i f=>by
 have l:=lL d h.1;have m:∃o,W.heap[b]?=J o:=⟨_,eG d⟩;obtain⟨o,j⟩:=m;exact(k.2.2.2 b l e i (ve h.2.2.1 j f)).t (h.2.2.2 b d e i f)⟩
theorem Kj(w:Wj)(a b c d:Wx)(T:Ww)(j:H)(u:Wx)(h:[a,b,c,d][j]?=J u):(w.alloc (E #[a,b,c,d] T)).cell? ((⟨w.heap.size,0,N⟩:Wu).add j)=J u:=by
 rw[QR,zA,cA (w:=w) _ _ w.heap.size j Q]
 grind
theorem Kk(k:dT)(v:Ver):∀u∈wZ k v,u.oneCell'=true:=λu a=>by
 simp[wZ]at a;rcases a with rfl|rfl|rfl|rfl<;>rfl
theorem BT(a:KVs)(k:S gL)(h:S Ver):cU (a++[(k,h)])=cU a++h.map λv=>(⟨k.toArray⟩,v):=by simp[cU]
section
attribute [local go_sem] Oper.semAt_some mo
theorem Ho(k0:H)(m:gI Wu)(w:Wj)(A:H->Prop)(hA:∀b,A b->b<w.heap.size)(l:H)(p:KVs)(k:S gL)(h:S Ver)(hv:Wx)(W:Wj)(hh:bO A (kM w m) hv h)(L:h≠[])(hl:(cU p).length+h.length<=1000000)(d:uf w.heap.size (kM w m) (cU p) W):
  Ee.wpIn (wf (J l)) 0 Yq.prog (λe _ W'=>e=.normal/\fv (yE w.heap.size) w.heap.size w.heap.size W W'/\uf w.heap.size (kM w m) (cU (p++[(k,h)])) W') ⟨gx w k0 m (U ⟨k.toArray⟩) hv (U ⟨k.toArray⟩) hv,[]⟩ W:=by
 obtain⟨c,hQ⟩:∃c:Exit->Act->Wj->Prop,c=λe _ W'=>e=.normal/\fv (yE w.heap.size) w.heap.size w.heap.size W W'/\uf w.heap.size (kM w m) (cU (p++[(k,h)])) W':=⟨_,Q⟩
 rw[<-hQ];have HQ:Hid (c=λe _ W'=>e=.normal/\fv (yE w.heap.size) w.heap.size w.heap.size W W'/\uf w.heap.size (kM w m) (cU (p++[(k,h)])) W'):=hQ;clear hQ;have⟨i0,a0,ad,ai,aj⟩:=sT Yq.OL;obtain⟨g,cap,rfl,G,av,aa,-⟩:=hh.cells L;have R:=hA g G;obtain⟨n,hn⟩:∃n,n=h.length:=⟨_,Q⟩;have hszW:w.heap.size+3<=W.heap.size:=by have:=d.size;rwa [dL]at this
 have HI:Hid (uf w.heap.size (kM w m) (cU p) W):=d;have HC:Hid (∀i (hi:i<h.length),(kM w m).cell? ⟨g,i*3,N⟩=J (I K h[i].num)/\(kM w m).cell? ⟨g,i*3+1,N⟩=J (U h[i].body)/\(kM w m).cell? ⟨g,i*3+2,N⟩=J (C h[i].mark)):=aa;have HN:Hid (n=h.length/\(cU p).length+h.length<=1000000/\g<w.heap.size):=⟨hn,hl,R⟩;rw[<-hn];clear d aa hh L hl R av G hn;unfold gx;dsimp only[Ee,BA,cn,PU,cIn,iG,dm,pE,Option.getD]
 gi_wp2_with fail
 gi_loopw [17] (λs17 wr=>∃i:H,i<=n/\s17=I K i/\uf w.heap.size (kM w m) (cU p++(h.take i).map λv=>(⟨k.toArray⟩,v)) wr/\fv (yE w.heap.size) w.heap.size w.heap.size W wr) (λs17 _=>n-(intOf s17).toNat)
 case atStart=>exact⟨0,QB _,Q,by simpa using HI.o,fv.refl _ _ _ _⟩
 case round=>
  obtain⟨i,hin,rfl,hE,hK⟩:=hrel;have HE:Hid (uf w.heap.size (kM w m) (cU p++(h.take i).map λv=>(⟨k.toArray⟩,v)) wr/\fv (yE w.heap.size) w.heap.size w.heap.size W wr):=⟨hE,hK⟩;by_cases ac:i<n
  .have ⟨v,z,D⟩:=hE.row;obtain⟨X,vc,rfl,-⟩:=az D;have F:i<h.length:=by rw[<-HN.o.1];exact ac
   have hwr:w.heap.size+3<=wr.heap.size:=by have:=hE.size;rwa [dL]at this
   have y:=hE.block g (by rw[dL];have:=HN.o.2.2;omega) (by have:=HN.o.2.2;omega);have⟨q0,q1,q2⟩:=HC.o i F;have c0:=(cB (a:=⟨g,i*3,N⟩) y).t q0;have c1:=(cB (a:=⟨g,i*3+1,N⟩) y).t q1;have c2:=(cB (a:=⟨g,i*3+2,N⟩) y).t q2;have d0:wr.cell? ⟨w.heap.size,0,N⟩=J (M X (cU p++(h.take i).map λv=>((⟨k.toArray⟩:dT),v)).length vc):=by simp[xb,z]
   have T:(cU p++(h.take i).map λv=>((⟨k.toArray⟩:dT),v)).length=(cU p).length+i:=by rw[lP,lM,tL,QH (Nat.le_of_lt F)]
   have P:cU p++(h.take (i+1)).map (λv=>((⟨k.toArray⟩:dT),v))=(cU p++(h.take i).map λv=>((⟨k.toArray⟩:dT),v))++[(⟨k.toArray⟩,h[i])]:=by
    rw[tS F,Qh,pA];rfl
   have hle:(cU p++(h.take i).map λv=>((⟨k.toArray⟩:dT),v)).length+1<=1000000:=by have:=HN.o;omega
   clear T;have hi6:i+1<=1000000:=by have:=HN.o;omega
   generalize ap:(cU p++(h.take i).map λv=>((⟨k.toArray⟩:dT),v))=EE at *;have HT:Hid (cU p++(h.take (i+1)).map (λv=>((⟨k.toArray⟩:dT),v))=EE++[(⟨k.toArray⟩,h[i])]):=P;have HR:Hid (wr.heap[w.heap.size]?=J (E #[M X EE.length vc] 119)/\wr.ownsRow (kM w m).heap.size 122 4 (M X EE.length vc) EE.length (fO EE)):=⟨z,D⟩;clear P z D hE hK ap q0 q1 q2 y;generalize h[i]=vv at *;obtain⟨x,q,r⟩:=vv;simp only at c0 c1 c2;have d0':=au d0;have af:Hid (∀ (B:Obj) (j:H) (u:Wx),(wZ ⟨k.toArray⟩ ⟨x,q,r⟩)[j]?=J u->((wr.alloc B).alloc (E #[U ⟨k.toArray⟩,I K x,U q,C r] 122)).cell? ((⟨wr.heap.size+1,0,N⟩:Wu).add j)=J u):=λB j u hj=>by
    have:=Kj (wr.alloc B) (U ⟨k.toArray⟩) (I K x) (U q) (C r) 122 j u hj;simpa using this
   have ar:Hid (∀ (B f:Obj) (w2:Wj) (v1:Wx),Gb ((wr.alloc B).alloc f) (M X EE.length vc) w2 v1->w2.cell? ⟨w.heap.size,0,N⟩=J (M X EE.length vc)/\w2.frozen? ⟨w.heap.size,0,N⟩=Z):=λB f w2 v1 hg=>by
    have hG:=hg.alloc.alloc;have e:=(hG.grown.block _ (by omega) (λe=>by have:=(HR.o.2.lt _ e.s).1;rw[dL]at this;omega)).t HR.o.1;exact⟨by simp[xb,e],by simp[xt,e]⟩
   gi_wp2_with (gi_at_builtin;refine ou _ Q _ _ 119 Q (kM w m).heap.size 122 i0 _ 4 48 (Yq.u ZU) a0 ad ai aj Q (by decide) _ EE.length (fO EE) Q ((HR.o.2.alloc _).alloc _) ⟨wr.heap.size+1,0,N⟩ 1 1 (wZ ⟨k.toArray⟩ ⟨x,q,r⟩) Q Q (af.o _) (Kk _ _) (by simp[pt];omega) (by omega) (by rw[dL];simp;omega) ?_;intro v1 w2 ab V;obtain⟨va1,vc1,rfl,-⟩:=az ab;obtain⟨b0,b1⟩:=ar.o _ _ _ _ V)
   have⟨p1,p2⟩:=HE.o.1.push (by rw[dL];omega) HR.o.1 ab V.alloc.alloc;exact⟨⟨i+1,by omega,by go_num,by rw[HT.o];exact p1,HE.o.2.t p2⟩,by simp[intOf];omega⟩
  .have al:i=n:=by omega
   subst al
   gi_wp2_with fail
   rw[HQ.o];refine⟨Q,HE.o.2,?_⟩;have:=HE.o.1;rw[tO (by rw[<-HN.o.1];exact lR _)]at this;rw[BT];exact this
end
end
end Go.Proofs.Qw
namespace Go.Proofs
open _root_ renaming rfl->Q
open _root_ renaming Nat->H,List->S
open Option renaming none->N,some->J
open Bool renaming true->Y,false->Z
open Value renaming int->I,string->U,slice->M,pointer->O,bool->C,agg->Qa,tuple->Qb
open IntKind renaming i64->K
open Obj renaming cells->E
open Ending renaming returned->ZY
open Or renaming inl->Qc,inr->Qd
open Operand renaming tmp->Qe
variable {a u:Act}{B V g k n r y:H}{W W1 w wr:Wj}{s s':dT}{b c:Exit->Act->Wj->Prop}{i l:ey}{F q:eW Oper}{o:Oper}{sc v v':Wx}{A:H->Prop}{xs:S Wx}{T:Ww}
section
open Go.Shelf Go.RowKit Go.Lib Go.Sort
def Yq.Oc:Go.Shelf.Ren:=⟨λ| 6=>77| 15=>100| 14=>99| 28=>125| 29=>126| 20=>117| 21=>118| 22=>119| 23=>120| 24=>121| 25=>122| 26=>123| 27=>124| 46=>134| 47=>135| 48=>136| 49=>137| 50=>138| 57=>146|n=>n,λ| 22=>119| 24=>122| 25=>160| 3=>3| 39=>186| 0=>0| 53=>209| 55=>34| 4=>4| 46=>203| 45=>202| 50=>146| 5=>5| 9=>9| 66=>218| 70=>222| 76=>230| 77=>231|n=>n,λn=>n⟩
theorem Yq.O3:SlLaysF0.n6 Yq.prog Yq.Oc:={
 mixed:=by kernel_rfl
 f6 := ZQ "slices.SortFunc[[]shelf/store.entry,shelf/store.entry]" ⟨by decide, (Yq.nq Tryz.func77).t (eV J (by kernel_rfl))⟩
 f14 := ZQ "slices.pdqsortCmpFunc[shelf/store.entry]" ⟨by decide, (Yq.nq Tryz.func99).t (eV J (by kernel_rfl))⟩
 f15:=(Yq.nq Tryz.func100).t (eV J (by kernel_rfl))
 f20 := ZQ "slices.insertionSortCmpFunc[shelf/store.entry]" ⟨by decide, (Yq.nq Tryz.func117).t (eV J (by kernel_rfl))⟩
 f21 := ZQ "slices.heapSortCmpFunc[shelf/store.entry]" ⟨by decide, (Yq.nq Tryz.func118).t (eV J (by kernel_rfl))⟩
 f22 := ZQ "slices.breakPatternsCmpFunc[shelf/store.entry]" ⟨by decide, (Yq.nq Tryz.func119).t (eV J (by kernel_rfl))⟩
 f23 := ZQ "slices.choosePivotCmpFunc[shelf/store.entry]" ⟨by decide, (Yq.nq Tryz.func120).t (eV J (by kernel_rfl))⟩
 f24 := ZQ "slices.reverseRangeCmpFunc[shelf/store.entry]" ⟨by decide, (Yq.nq Tryz.func121).t (eV J (by kernel_rfl))⟩
 f25 := ZQ "slices.partialInsertionSortCmpFunc[shelf/store.entry]" ⟨by decide, (Yq.nq Tryz.func122).t (eV J (by kernel_rfl))⟩
 f26 := ZQ "slices.partitionEqualCmpFunc[shelf/store.entry]" ⟨by decide, (Yq.nq Tryz.func123).t (eV J (by kernel_rfl))⟩
 f27 := ZQ "slices.partitionCmpFunc[shelf/store.entry]" ⟨by decide, (Yq.nq Tryz.func124).t (eV J (by kernel_rfl))⟩
 f28:=(Yq.nq Tryz.func125).t (eV J (by kernel_rfl))
 f29:=(Yq.nq Tryz.func126).t (eV J (by kernel_rfl))
 f46 := ZQ "slices.siftDownCmpFunc[shelf/store.entry]" ⟨by decide, (Yq.nq Tryz.func134).t (eV J (by kernel_rfl))⟩
 f47:=(Yq.nq Tryz.func135).t (eV J (by kernel_rfl))
 f48:=(Yq.nq Tryz.func136).t (eV J (by kernel_rfl))
 f49 := ZQ "slices.medianAdjacentCmpFunc[shelf/store.entry]" ⟨by decide, (Yq.nq Tryz.func137).t (eV J (by kernel_rfl))⟩
 f50 := ZQ "slices.medianCmpFunc[shelf/store.entry]" ⟨by decide, (Yq.nq Tryz.func138).t (eV J (by kernel_rfl))⟩
 f57 := ZQ "slices.order2CmpFunc[shelf/store.entry]" ⟨by decide, (Yq.nq Tryz.func146).t (eV J (by kernel_rfl))⟩
 t0:=(Yq.u Tryz.underlying0)
 a0:=(λw=>Yq.a (Tryz.isAgg0 w))
 z0:=(λw=>Yq.s (Tryz.sizeOf0 w))
 v0:=(λw=>Yq.z (Tryz.zeroValue0 w))
 t3:=(Yq.u Tryz.underlying3)
 a3:=(λw=>Yq.a (Tryz.isAgg3 w))
 z3:=(λw=>Yq.s (Tryz.sizeOf3 w))
 v3:=(λw=>Yq.z (Tryz.zeroValue3 w))
 t4:=(Yq.u Tryz.underlying4)
 a4:=(λw=>Yq.a (Tryz.isAgg4 w))
 z4:=(λw=>Yq.s (Tryz.sizeOf4 w))
 v4:=(λw=>Yq.z (Tryz.zeroValue4 w))
 t5:=(Yq.u PI)
 a5:=(λw=>Yq.a (Tryz.isAgg5 w))
 z5:=(λw=>Yq.s (Tryz.sizeOf5 w))
 v5:=(λw=>Yq.z (Tryz.zeroValue5 w))
 t9:=(Yq.u ZW)
 a9:=(λw=>Yq.a (Tryz.isAgg9 w))
 z9:=(λw=>Yq.s (Tryz.sizeOf9 w))
 v9:=(λw=>Yq.z (Tryz.zeroValue9 w))
 t22:=(Yq.u ZU)
 a22:=(λw=>Yq.a (Tryz.isAgg119 w))
 z22:=(λw=>Yq.s (Tryz.sizeOf119 w))
 v22:=(λw=>Yq.z (Tryz.zeroValue119 w))
 t25:=(Yq.u Tryz.underlying160)
 a25:=(λw=>Yq.a (Tryz.isAgg160 w))
 z25:=(λw=>Yq.s (Tryz.sizeOf160 w))
 v25:=(λw=>Yq.z (Tryz.zeroValue160 w))
 t39:=(Yq.u Tryz.underlying186)
 a39:=(λw=>Yq.a (Tryz.isAgg186 w))
 z39:=(λw=>Yq.s (Tryz.sizeOf186 w))
 v39:=(λw=>Yq.z (Tryz.zeroValue186 w))
 t45:=(Yq.u Tryz.underlying202)
 a45:=(λw=>Yq.a (Tryz.isAgg202 w))
 z45:=(λw=>Yq.s (Tryz.sizeOf202 w))
 v45:=(λw=>Yq.z (Tryz.zeroValue202 w))
 t46:=(Yq.u Tryz.underlying203)
 a46:=(λw=>Yq.a (Tryz.isAgg203 w))
 z46:=(λw=>Yq.s (Tryz.sizeOf203 w))
 v46:=(λw=>Yq.z (Tryz.zeroValue203 w))
 t50:=(Yq.u Tryz.underlying146)
 a50:=(λw=>Yq.a (Tryz.isAgg146 w))
 z50:=(λw=>Yq.s (Tryz.sizeOf146 w))
 v50:=(λw=>Yq.z (Tryz.zeroValue146 w))
 t53:=(Yq.u Tryz.underlying209)
 a53:=(λw=>Yq.a (Tryz.isAgg209 w))
 z53:=(λw=>Yq.s (Tryz.sizeOf209 w))
 v53:=(λw=>Yq.z (Tryz.zeroValue209 w))
 t55:=(Yq.u Tryz.underlying34)
 a55:=(λw=>Yq.a (Tryz.isAgg34 w))
 z55:=(λw=>Yq.s (Tryz.sizeOf34 w))
 v55:=(λw=>Yq.z (Tryz.zeroValue34 w))
 t66:=(Yq.u Tryz.underlying218)
 a66:=(λw=>Yq.a (Tryz.isAgg218 w))
 z66:=(λw=>Yq.s (Tryz.sizeOf218 w))
 v66:=(λw=>Yq.z (Tryz.zeroValue218 w))
 t70:=(Yq.u Tryz.underlying222)
 a70:=(λw=>Yq.a (Tryz.isAgg222 w))
 z70:=(λw=>Yq.s (Tryz.sizeOf222 w))
 v70:=(λw=>Yq.z (Tryz.zeroValue222 w))
 t76:=(Yq.u Tryz.underlying230)
 a76:=(λw=>Yq.a (Tryz.isAgg230 w))
 z76:=(λw=>Yq.s (Tryz.sizeOf230 w))
 v76:=(λw=>Yq.z (Tryz.zeroValue230 w))
 t77:=(Yq.u Tryz.underlying231)
 a77:=(λw=>Yq.a (Tryz.isAgg231 w))
 z77:=(λw=>Yq.s (Tryz.sizeOf231 w))
 v77:=(λw=>Yq.z (Tryz.zeroValue231 w))}
end
end Go.Proofs
namespace Go.Proofs.Qw
open _root_ renaming rfl->Q
open _root_ renaming Nat->H,List->S
open Option renaming none->N,some->J
open Bool renaming true->Y,false->Z
open Value renaming int->I,string->U,slice->M,pointer->O,bool->C,agg->Qa,tuple->Qb
open IntKind renaming i64->K
open Obj renaming cells->E
open Ending renaming returned->ZY
open Or renaming inl->Qc,inr->Qd
open Operand renaming tmp->Qe
variable {a u:Act}{B V g k n r y:H}{W W1 w wr:Wj}{s s':dT}{b c:Exit->Act->Wj->Prop}{i l:ey}{F q:eW Oper}{o:Oper}{sc v v':Wx}{A:H->Prop}{xs:S Wx}{T:Ww}{L:S (dT×Ver)}{x:St×ey×dT}{R:S (mu×Wx)}
section
open Go.Shelf Go.RowKit Go.Sort
@[reducible] def IJ:Inhabited (dT×Ver):=⟨(⟨#[]⟩,⟨0,⟨#[]⟩,Z⟩)⟩
def Ef(e:dT×Ver):S Wx:=wZ e.1 e.2
def cfE(x y:dT×Ver):ey:=Lk x.2.num y.2.num
def jG(E:S (dT×Ver)):S (dT×Ver):=(@Sort.pdq _ IJ (ltOf cfE) E.toArray 0 E.length (Qg E.length) Y Y).toList
theorem ltE(x y:dT×Ver):ltOf cfE x y=decide (x.2.num<y.2.num):=by
 unfold ltOf cfE Lk
 grind
theorem Md:SWO (ltOf cfE) where
 irrefl x:=by rw[ltE];simp
 trans x y z h1 h2:=by rw[ltE]at *;simp at *;omega
 ntrans x y z h1 h2:=by rw[ltE]at *;simp at *;omega
theorem qk(E:S (dT×Ver)):@PermIn _ IJ 0 E.length E.toArray (jG E).toArray/\@SortedIn _ IJ (ltOf cfE) 0 E.length (jG E).toArray:=by
 letI:=IJ
 have h:=pdq_sorts (ltOf cfE) Md E.toArray 0 E.length (Qg E.length) Y Y (QB _) (by simp) (Rh Q);unfold jG
 simp_all
theorem j8(E:S (dT×Ver)):(jG E).Perm E:=by
 have h:=(qk E).1;have h1:(jG E).length=E.length:=by simpa using h.1
 have h2:=h.2.2
 grind
theorem fy(E:S (dT×Ver)):(jG E).length=E.length:=(j8 E).length_eq
theorem Ll(E:S (dT×Ver)):(@flatK _ IJ Ef 4 E.toArray).toList=fO E:=by
 letI:=IJ
 refine Qt λj=>?_
 by_cases a:j<E.length*4
 .have i:j/4<E.length:=by omega
  have e:j=j/4*4+j%4:=by omega
  have c:(flatK Ef 4 E.toArray).toList[j]?=J (flatK Ef 4 E.toArray)[j]!:=by
   rw[gT,eG (by simpa using a),lj _ j (by simpa using a)]
  rw[c,get_flatK _ _ _ _ (by simpa using a)];have b:=bE 4 (λe:dT×Ver=>wZ e.1 e.2) (λ_=>Q) E (j/4) (j%4) i (by omega);rw[<-e]at b;show _=(E.flatMap λe=>wZ e.1 e.2)[j]?;have f:E.toArray[j/4]! =E[j/4]:=by grind
  rw[b,f];have d:j%4=0\/j%4=1\/j%4=2\/j%4=3:=by omega
  rcases d with h|h|h|h<;>rw[h]<;>rfl
 .rw [Qj (by simp;omega),Qj (by rw[show(fO E).length=E.length*4 from eN 4 _ (λ_=>Q) E];omega)]
theorem Kl(i:H)(E:S (dT×Ver))(v:Wx)(w:Wj)(h:w.ownsRow i 122 4 v E.length (fO E))(hE:E.length<=1000000):
  Calls Yq.prog 77 #[v,.func (.func 78) #[] #[]] w λe w'=>e=ZY (Qb #[])/\w'.ownsRow i 122 4 v E.length (fO (jG E))/\(∀b,b<w.heap.size->v.ownBlock≠J b->w'.heap[b]?=w.heap[b]?)/\w.heap.size<=w'.heap.size/\w'.os=w.os:=by
 letI:=IJ
 rcases h.2 with⟨rfl,h0⟩|⟨g,p,f,rfl,hb,z,n,r,u,htake⟩
 .have c:=AnyF.slices_SortFunc_none Yq.O3 N 0 (.func (.func 78) #[] #[]) w;change Calls Yq.prog 77 _ _ _ at c;refine c.m ?_;rintro e w' ⟨rfl,rfl⟩;have G:=Qk.1 h0;subst G;have e2:=Qk.1 (fy [])
  grind
 .have eg:∀d w,(callFunc 78 d).run Yq.prog w=.ok (.enter 78 d) w:=λd w=>by go_simp
  have k:=(eS z).1;have hcell:=λj=>cell_of_row w g j f 122 (0,0) z
  have hx:(fO E).length=E.length*4:=eN 4 _ (λ_=>Q) E;have V:HoldsK Ef 4 w g 0 E.toArray:=by
   intro j l;have hj':j<E.length*4:=by simpa using l
   have G:(flatK Ef 4 E.toArray)[j]?=(fO E)[j]?:=by rw[<-Ll,gT]
   have e2:f[j]?=(fO E)[j]?:=by
    grind
   refine⟨?_,?_⟩
   .grind
   .rw [zA];simp[xt,z]
  have o:CmpLays Yq.prog 78 #[] Ef 4 cfE g 0 E.toArray.size w:=λ_ _ _ _ x y=>by
   refine(D9 x.1 y.1 x.2 y.2 _).m ?_;rintro e w' ⟨rfl,rfl⟩;exact⟨Q,0,_,by rw[alloc_eq_grow,alloc_eq_grow,grow_grow];rfl⟩
  have c:=AnyQ.slices_SortFunc_eq Yq.O3 4 (λw=>Yq.a (Tryz.isAgg122 w)) (λw=>Yq.s (Tryz.sizeOf122 w)) Ef (λ_=>Q) (λx v L=>by simp[Ef,wZ]at L;rcases L with rfl|rfl|rfl|rfl<;>rfl) cfE Md 78 #[] g 0 p E.toArray w eg o V k (by simp;omega);change Calls Yq.prog 77 _ _ _ at c;have X:E.toArray.size=E.length:=by simp
  rw[X]at c;refine c.m ?_;rintro e w' ⟨rfl,m,A,rfl⟩;have P:(pdq (ltOf cfE) E.toArray 0 E.length (Qg E.length) Y Y)=(jG E).toArray:=by unfold jG;rw[Array.toArray_toList]
  rw[P];have q:(sortWorldK Ef 4 w g 0 m (jG E).toArray A).heap[g]?=J (.cells (putCells id 0 (flatK Ef 4 (jG E).toArray) f) 122 (0,0)):=by
   show((w.heap.modify g _)++A)[g]?=_;rw[QJ (by rw[QI];exact k),eG (by rw[QI];exact k),QK];have⟨h1,T⟩:=eS z;rw[T];rfl
  have R:(fO (jG E)).length=E.length*4:=by rw[<-fy E];exact eN 4 _ (λ_=>Q) _
  refine⟨Q,⟨R,Qd ⟨g,p,_,Q,hb,q,n,r,by simp[putCells,u],?_⟩⟩,λb F B=>?_,?_,Q⟩
  .refine Qt λj=>?_
   by_cases l:j<E.length*4
   .have D:j<f.size:=by rw[u];exact lL l (QD 4 n)
    have t:j<(flatK Ef 4 (jG E).toArray).size:=by simp[fy,l]
    rw[List.getElem?_take_of_lt l,gT,putCells,Array.getElem?_mapIdx,eG D,Option.map_some,ZS ⟨QB _,by omega⟩,<-Ll,gT,Nat.sub_zero,lj _ j t,eG t];rfl
   .rw [Qj (by simp;omega),Qj (by omega)]
  .show ((w.heap.modify g _)++A)[b]?=_;rw[QJ (by rw[QI];exact F),Array.getElem?_modify,ZR (λe=>B (by rw[e];rfl))]
  .show w.heap.size<=((w.heap.modify g _)++A).size;rw[Array.size_append,QI];omega
end
section
open Go.Conc Go.ConcX Go.ConcX.Gen Go.RowKit
theorem jH(l:KVs):(cU l).length=fG l:=by
 simp[cU,fG,List.length_flatMap]
section
attribute [local go_sem] Oper.semAt_some mo
theorem BU(k0:H)(u:gI Wu)(f:S gL->S Ver)(w:Wj)(c0:w.cell? ⟨k0,0,N⟩=J (O u))(hT:vI w u f)(z:fG (bL f [])<=1000):
  Calls Yq.prog 51 #[O (J ⟨k0,0,N⟩)] w λe w'=>∃v,e=ZY v/\w'.ownsRow w.heap.size 122 4 v (jG (cU (bL f []))).length (fO (jG (cU (bL f []))))/\ay w w':=by
 obtain⟨y,P⟩:∃y,bL f []=y:=⟨_,Q⟩;have L:∀x∈y,x.2≠[]:=by rw[<-P];exact fg _ _ _
 have hA:∀b,dl w b->b<w.heap.size:=λb B=>B.lt
 have V:=ao.Mr (λb B aj=>⟨B,tN w u aj⟩) 41 u f hT;rw[P]at z ⊢;have T:uf w.heap.size (kM w u) (cU []) (kM w u):=⟨Q,lR _,λ_ _ _=>Q,_,tP w u 0 (by omega),yz _ _ _ _⟩;refine(callsIn_wide (n:=0)).1 (callsIn_of_wp_marks (F:=Fence.wide) (Yq.nq Tryz.func51) Q trivial ?_);refine(ta (n:=0)).2 ?_;generalize hQ:bodyPostM Fence.wide 0 Yq.prog PU _=d;simp only[Tryz.ntmps51,List.size_toArray,lC,lN,QG,Nat.reduceSub,Array.replicate_succ,Array.replicate_zero,List.push_toArray,List.append_toArray,List.nil_append,List.cons_append];have HQ:Hid (bodyPostM Fence.wide 0 Yq.prog PU _=d):=hQ;have HX:Hid (ao (dl w) 41 (kM w u) u f/\uf w.heap.size (kM w u) (cU []) (kM w u)/\(∀x∈y,x.2≠[])/\fG y<=1000):=⟨V,T,L,z⟩;have c0':=au c0;clear hQ V T L hT z;go_wp2_with (go_at_call 76;refine(DI u _ _).m ?_;rintro e w6 ⟨rfl,rfl⟩)
 rename_i K1 ai;refine ta.1 (show Ra (wf N) 0 Yq.prog _ (Exit.inBlock 0 (Exit.then K1 d)) ⟨gx w k0 u Wo Wo Wo Wo,[]⟩ (kM w u)from ?_);have⟨V,T,L,z⟩:=HX.o;have af:w.heap.size<(kM w u).heap.size:=by rw[dL];omega
 refine vh (α:=S gL×S Ver) (β:=S gL×S Ver×Wx) (encs:=λx=>#[U ⟨x.1.toArray⟩,x.2.2]) (gf:=97) (lb:=#[ptr (w.heap.size+1),ptr (w.heap.size+2)]) (λx=>(x.1,x.2.1)) Q (λargs wx=>by go_simp) (λ_=>Q) w.heap.size w.heap.size af (yE w.heap.size) yE.of
  (λA X=>uf w.heap.size (kM w u) (cU A) X) (λA x=>A++[(x.1,x.2.1)] <+:y/\bO (dl w) (kM w u) x.2.2 x.2.1/\x.2.1≠[]) y (λA X b c h=>c.own b h) (λA X Y c G R h3 h4=>c.MS af G R h3 h4) (λA X c=>⟨Qc Q,Qc Q⟩) T
  (λx=>⟨gx w k0 u (U ⟨x.1.toArray⟩) x.2.2 (U ⟨x.1.toArray⟩) x.2.2,[]⟩) ?call ?assign ?body ?done
 case call=>
  intro l i W hW1 ab av ar a1 hy a3;have j:yc (dl w) (kM w u) ((kM w u).heap.size+2) w.heap.size l (yE w.heap.size) y i:=⟨λb B=>by
    have G:=B.lt;obtain⟨o,h3,h4⟩:=B;exact⟨by rw[dL];omega,by omega,o,(tN w u G).t h3,h4⟩,by omega,yE.of,av,ar,a1,λA k h hv X G R h3 h4=>hy A (k,h,hv) X ⟨G,R,h3⟩ h4⟩
  exact zH j u f ⟨#[]⟩ W (w.heap.size+1) (w.heap.size+2) V P.s (λb B=>ab b (by have:=B.lt;rw[dL];omega))
   (by rw[cB (a:=⟨w.heap.size+1,0,N⟩) (ab _ (by rw[dL];show w.heap.size+1<_;omega))];simp[xb,tP w u 1 (by omega)])
   (by rw[cB (a:=⟨w.heap.size+2,0,N⟩) (ab _ (by rw[dL];show w.heap.size+2<_;omega))];simp[xb,tP w u 2 (by omega)]) (by decide) a3
 case assign=>
  intro l x W q hK;obtain⟨k,h,hv⟩:=x;have e:(#[13,14].zip #[Q0 ⟨k.toArray⟩,hv]).foldl (λt x=>match x with|(p,v)=>t.setIfInBounds p v) (gx w k0 u Wo Wo Wo Wo)=gx w k0 u Wo Wo (U ⟨k.toArray⟩) hv:=by
   simp[gx]
  show Ra _ _ _ _ _ ⟨(#[13,14].zip #[Q0 ⟨k.toArray⟩,hv]).foldl (λt x=>match x with|(p,v)=>t.setIfInBounds p v) (gx w k0 u Wo Wo Wo Wo),[]⟩ _;rw[e];unfold gx;unfold gx at hK;gi_wp2;exact hK
 case body=>
  rintro l A ⟨k,h,hv⟩ W ⟨G,R,h3⟩ c;have h5:(cU A).length+h.length<=1000:=by
   obtain⟨r,hr⟩:=G;rw[<-hr]at z;rw[jH];simp only[fG,Qh,Qx,Qp,Qq,List.sum_cons,List.sum_nil]at z ⊢;omega
  exact Ho k0 u w (dl w) hA l A k h hv W R h3 (by omega) c
 case done=>
  intro D W hD c hK;have⟨v,al,aa⟩:=c.row;obtain⟨va,vc,rfl,-⟩:=az aa;have hlen:(cU y).length<=1000:=by rw[jH];exact z
  have HS:=Kl (kM w u).heap.size (cU y) _ W aa (by omega);have d0:W.cell? ⟨w.heap.size,0,N⟩=J (M va (cU y).length vc):=by simp[xb,al]
  have HB:Hid (∀w':Wj,w'.ownsRow (kM w u).heap.size 122 4 (M va (cU y).length vc) (cU y).length (fO (jG (cU y)))->(∀b,b<W.heap.size->(QY va (cU y).length vc).ownBlock≠J b->w'.heap[b]?=W.heap[b]?)->w'.cell? ⟨w.heap.size,0,N⟩=J (M va (cU y).length vc)/\w'.heap[D]?=J (.deferred (J []))):=λw' ho B=>by
   have hs:=c.size;refine⟨?_,?_⟩
   .rw [cB (a:=⟨w.heap.size,0,N⟩) (B w.heap.size (by omega) (λe=>by have:=(aa.lt _ e).1;omega))];exact d0
   .refine (B D (eS hK).1 (λe=>?_)).t hK;obtain⟨-,o,G,R⟩:=c.own D ⟨_,d0,e⟩;rw[hK]at G;cases G;cases R
  show K1 _ _;refine ai _ _ ?_;unfold gx;clear ai;go_wp2_with (go_at_call 77;refine HS.m ?_;clear HS;rintro e w' ⟨rfl,o1,o2,o3,o4⟩;have⟨p0,p1⟩:=HB.o w' o1 o2)
  have hQ:=HQ.o;subst hQ;refine⟨by simp,Qc ⟨_,_,Q,run_takeDeferred p1,?_⟩⟩;have ad:∀b,b≠D->(w'.putObj D (.deferred N)).heap[b]?=w'.heap[b]?:=λb B=>pO B
  have hs:=c.size;have ap:∀g,(QY va (cU y).length vc).ownBlock=J g->g≠D:=λg hg e=>by
   subst e;obtain⟨-,o,G,R⟩:=c.own g ⟨_,d0,hg⟩;rw[hK]at G;cases G;cases R
  have ac:∀b,b<w.heap.size->(QY va (cU y).length vc).ownBlock≠J b:=λb B e=>by have:=(aa.lt _ e).1;omega
  refine⟨M va (cU y).length vc,by simp[results,Tryz.results51,go_sem],⟨_,Q,?_,?_⟩⟩
  .rw [fy];have G:=fH o1 (w':=w'.putObj D (.deferred N)) λg hg=>ad g (ap g hg)
   exact⟨G.1,G.2.imp id λ⟨g,a0,a2,e,B,r⟩=>⟨g,a0,a2,e,by omega,r⟩⟩
  .refine ⟨o4.t c.os,by simp;omega,λb B=>?_⟩;rw[ad b (by omega),o2 b (by omega) (ac b B),c.block b (by omega) (by omega),tN w u B]
end
def bytesOf(xs:S Wx):dT:=⟨(xs.map λv=>Rd (intOf v).toNat).toArray⟩
theorem yF(h:PZ s=xs):s=bytesOf xs:=by
 subst h;unfold bytesOf PZ;have:((λv=>Rd (intOf v).toNat)∘λb:gL=>QZ .u8 (b.toNat:ey))=id:=by
  funext b;simp[intOf]
 simp_all
def cJ(st:St):S (dT×Ver):=jG (cU (bL st.f []))
def fI(st:St)(tm:ey):dT:=bytesOf (iA (cJ st)++([I .u8 3]++num8 (st.last+1) 8++([I .u8 4]++num8 tm 8)))
theorem iB(n:H):∀ (f:S gL->S Ver)(a:S gL),∀x∈dC n f a,∃k,x.1=a++k/\x.2=f k:=by
 induction n with
 |zero=>intro f a x b;simp[dC]at b
 |succ n ih=>
  intro f a x b;simp only[dC,Qi,Qv]at b
  grind
theorem fY{st:St}{e:dT×Ver}(h:e∈cJ st):e.1.size<=40/\∃k,e.2∈st.f k:=by
 have a:=(j8 _).mem_iff.1 h;simp only[cU,Qv,Qr]at a;obtain⟨x,b,v,c,rfl⟩:=a;obtain⟨k,-,d⟩:=iB _ _ _ x b;have:=(vM b).2;exact⟨by simpa[Rf]using this,k,by simpa[d]using c⟩
theorem wh{E:S (dT×Ver)}(h:∀e∈E,e.1.size<=40/\e.2.body.size<=100):fj E<=E.length*200:=by
 induction E with
 |nil=>simp[fj]
 |cons e E ih=>
  have a:=ih λx b=>h x (by simp[b])
  have h2:=h e (by simp);have h3:Ad e.1 e.2<=200:=by unfold Ad;split<;>omega
  simp[fj]at a ⊢;omega
section
variable {A:Nat->Prop} {B k0:Nat} {w:Wj} {st:St} {L:Lg}
theorem Eg(a:aP A w k0 st){j:ey}(o:w.cell? ⟨k0,3,N⟩=J (I .u64 j)){s:H}(l:Inv st s)(n:eH st):
  Calls Yq.prog 23 #[O (J ⟨k0,0,N⟩)] w λe w'=>e=ZY (U (fI st j))/\ay w w':=by
 have⟨c,u,v⟩:=a.tree;have b:fG (bL st.f [])<=1000:=by
  have h3:fG (bL st.f [])=tot 41 st.f:=rfl;have:=n.cnt;have:=n.le;omega
 have hlen:(cJ st).length<=1000:=by rw[cJ,fy,jH];exact b
 have hn:=wh (E:=cJ st) λe d=>⟨(fY d).1,by have⟨k,h⟩:=(fY d).2;exact n.body k _ h⟩
 have hl1:=l.MQ;refine(Ki k0 (cJ st) st.last j w a.last o (BU k0 c st.f w u (.of v) b) (by omega) (by omega) (λe d=>?_) l.MN (by omega)).m ?_;have⟨k,h⟩:=(fY d).2;have⟨i,p,q⟩:=gM h;have:=l.bounds k i p;rw[gX p,q]at this;omega;rintro e w' ⟨sb,rfl,t,r⟩;rw[yF t];exact⟨Q,r⟩
theorem Eh(h:aW A B w k0 st L){s:H}(b:Inv st s)(a:eH st):
  Calls Yq.prog 23 #[O (J ⟨k0,0,N⟩)] w λe w'=>e=ZY (U (fI st L.tm))/\ay w w':=Eg h.store h.time b a
theorem yG(h:aW A B w k0 st L)(V:B<=w.heap.size){s:H}(u:Inv st s)(R:eH st)(_hs:s<2199023255340)(o:OpD)(D:o.kind=11):
  Calls Yq.prog 8 #[O (J ⟨k0,0,N⟩),aJ o] w (bQ A B k0 w st L ⟨0,0,fI st L.tm,[],⟨#[]⟩⟩):=by
 have q:=h.left (aZ o);have c:k0<(dA w o).heap.size:=by have:=h.ls.lt;rw[ba];omega
 have HT:=Eh q u R;have HB:Hid (∀a,ay (dA w o) a->_):=λa d=>box5 (mw o h.ls (FrC.left c d))
 have HF:Hid (∀a f p l k j,ay (dA w o) a->bQ A B k0 w st L ⟨0,0,fI st L.tm,[],⟨#[]⟩⟩ (ZY (j6 ⟨0,0,fI st L.tm,[],⟨#[]⟩⟩ (M N 0 0))) (put5 a (w.heap.size+1) f p l k j)):=λa f p l k j i=>by
  have⟨F,e2,G,T⟩:=ni (A':=A) (sv:=M N 0 0) (Mt:=[]) (r:=w.heap.size+1) (aZ o) h.ls.lt V (by omega) (by rw[ba];omega) ⟨_,gU o,Q⟩ (λ_ h=>h) (λb d=>Qc d) h.ls.Ng (q.left i) (fi.left c i) (FrC.left c i) (gw o h.ls) ⟨N,0,Q,λ_=>Q,λh=>kr Q h⟩ f p l k j;exact⟨_,Q,A,λ_ h=>h,F,e2,G,T⟩
 generalize fI st L.tm=X at *;obtain⟨kind,key,body,eQ,past,n,src⟩:=o;subst D;unfold aJ;go_enter (Yq.nq PL),ZV;go_wp2_with (go_at_call 23;refine HT.m ?_;rintro e a ⟨rfl,d⟩;have⟨⟨P,t,x,z,y⟩,f0,f1,f2,f3,f4⟩:=HB.o a d)
 exact sq (v:=j6 ⟨0,0,X,[],⟨#[]⟩⟩ (M N 0 0)) (by simp[results,ZX,go_sem,j6,P,t,x,z,y]) Q (HF.o a _ _ _ _ _ d)
end
def tkB(s:dT)(n:H):dT:=s.extract 0 (min n s.size)
def rsB(s:dT)(n:H):dT:=s.extract (min n s.size) s.size
theorem Ei(r n:H)(s:dT)(w:Wj)(a:s.size<=pt)(hn:n<=1000)(c0:w.cell? ⟨r,0,N⟩=J (U s))(f0:w.frozen? ⟨r,0,N⟩=Z):
  Calls Yq.prog 127 #[O (J ⟨r,0,N⟩),I K n] w λe w'=>e=ZY (U (tkB s n))/\w'=w.setCell ⟨r,0,N⟩ (U (rsB s n)):=by
 unfold pt at a;unfold tkB rsB;have e:(min (n:ey) s.size).toNat=min n s.size:=by omega
 go_enter (Yq.nq Tryz.func127),Tryz.ntmps127;go_wp2_with fail
 go_ret
 simp_all
def ug(l:S gL):Nat:=l.foldl (λa b=>a*256+b.toNat) 0
theorem Ej(l:S gL)(b:gL):ug (l++[b])=ug l*256+b.toNat:=by simp[ug]
theorem Ae:∀ (l:S gL)(a:H),l.foldl (λa b=>a*256+b.toNat) a<(a+1)*256^l.length
 | [],a=>by simp
 |b::l,a=>by
  have h1:=Ae l (a*256+b.toNat);have h2:=b.toNat_lt;have h3:(a*256+b.toNat+1)*256^l.length<=((a+1)*256)*256^l.length:=QD _ (by omega);rw[List.foldl_cons,lC,Nat.pow_succ,Nat.mul_comm (256^l.length) 256,<-Nat.mul_assoc];omega
theorem yH(l:S gL):ug l<256^l.length:=by
 have:=Ae l 0
 rwa [zA,Nat.one_mul]at this
structure Cw (r:H)(w w':Wj)(s:dT):Prop where
 os:w'.os=w.os
 size:w.heap.size<=w'.heap.size
 block:∀b,b<w.heap.size->b≠r->w'.heap[b]?=w.heap[b]?
 cell:w'.cell? ⟨r,0,N⟩=J (U s)
 frozen:w'.frozen? ⟨r,0,N⟩=Z
theorem oL(s:dT)(n:H):(tkB s n).size<=n:=by simp[tkB];omega
theorem Km(a b:H)(ha:a<256^7)(hb:b<256):bits BinOp.or IntKind.u64 ((a:ey)*256) ((b:H):ey)=((a*256+b:H):ey):=by
 have h1:((a:ey)*256%2^IntKind.u64.bits).toNat=a*256:=by simp[QS];omega
 have h2:b%2^IntKind.u64.bits=b:=by simp[QS];omega
 have e:a*256 ||| b=a*256+b:=by
  have:=Nat.shiftLeft_add_eq_or_of_lt (i:=8) (b:=b) (by omega) a;rw[Nat.shiftLeft_eq]at this
  grind
 unfold bits;simp only[BitVec.toNat_or,BitVec.toNat_ofInt];have d:((b:ey)%((2^IntKind.u64.bits:H):ey)).toNat=b:=by grind
 have c:((a:ey)*256%((2^IntKind.u64.bits:H):ey)).toNat=a*256:=by grind
 rw[d,c,e];simp[QW,QS,QT];omega
theorem ql(r n:H)(s:dT)(w:Wj)(X:s.size<=pt)(hn:n<=8)(q:w.cell? ⟨r,0,N⟩=J (U s))(y:w.frozen? ⟨r,0,N⟩=Z):
  Calls Yq.prog 102 #[O (J ⟨r,0,N⟩),I K n] w λe w'=>e=ZY (I .u64 (ug (tkB s n).data.toList))/\Cw r w w' (rsB s n):=by
 have HT:=Ei r n s w X (by omega) q y;have R:=bC w _ q;obtain⟨p,t⟩:∃p,p=tkB s n:=⟨_,Q⟩;have hps:p.size<=8:=by rw[t];exact lT (oL s n) hn
 rw[<-t]at HT ⊢;obtain⟨W,z⟩:∃W,W=w.setCell ⟨r,0,N⟩ (U (rsB s n)):=⟨_,Q⟩;rw[<-z]at HT;have HW:=FG z q y R;have D:=run_bytes_of_string (P:=Yq.prog) W 9 118 5 p (Yq.u ZW) (Yq.u ZT) (Yq.u PI);have j:=rq (B:=0) W p (tn W p.size 0 5) (QB _) (grownCap_ge W p.size 0 5);obtain⟨W1,c⟩:∃W1,W1=W.drew.alloc (E (vf p (tn W p.size 0 5)) 5 ((vf p (tn W p.size 0 5)).size,(vf p (tn W p.size 0 5)).size+1)):=⟨_,Q⟩;rw[<-c]at D j;have d:=aI c;clear t z q y R c;go_enter (Yq.nq Tryz.func102),Tryz.ntmps102;go_wp2_with (go_at_call 127;refine HT.m ?_;clear HT;rintro e l ⟨rfl,rfl⟩)
 go_loopw [5,13] (λs5 s13 wr=>∃i:H,i<=p.size/\s13=I K i/\s5=I .u64 (ug (p.data.toList.take i))/\wr=W1) (λ_ s13 _=>p.size-(intOf s13).toNat)
 case atStart=>exact⟨0,QB _,Q,Q,Q⟩
 case round=>
  obtain⟨i,hi,rfl,rfl,rfl⟩:=hrel;by_cases v:i<p.size
  have L:i<p.data.toList.length:=by simpa using v
  have cb:=j.cells i L;have f:=tS L;have G:ug (p.data.toList.take i)<256^7:=by
   exact lL (yH (p.data.toList.take i)) (QC (by decide) (by rw[tL];omega))
  have A:Hid (ug (p.data.toList.take (i+1))=ug (p.data.toList.take i)*256+p.data.toList[i].toNat):=by
   show ug (p.data.toList.take (i+1))=_;rw[f,Ej]
  have hbl:=p.data.toList[i].toNat_lt;clear f;generalize p.data.toList[i].toNat=b at *;generalize ug (p.data.toList.take i)=acc at *;go_wp2_with fail
  exact⟨⟨i+1,by omega,by go_num,by rw[Km _ _ G (by omega),A.o],trivial⟩,by simp[intOf];omega⟩;have F:i=p.size:=by omega
  subst F;go_wp2_with fail
  go_ret;refine⟨by rw[(tO (by simp))];rfl,?_⟩;have⟨k,T,V,h4⟩:=HW.o;have hsz:l.heap.size=w.heap.size:=by rw[k];simp
  have h:∀b,b<l.heap.size->wr.heap[b]?=l.heap[b]?:=λb h=>by rw[d.o,bA _ _ _ (by exact h)];rfl
  refine⟨by rw[d.o,k];rfl,by rw[d.o];simp;show w.heap.size<=l.heap.size+1;omega,λb hb1 x=>?_,?_,?_⟩;rw[h b (by omega),k];exact bS _ _ _ _ x;rw[cB (a:=⟨r,0,N⟩) (h r (by omega)),k];exact cS _ _ _ (by rw[T];rfl);rw[fB (a:=⟨r,0,N⟩) (h r (by omega)),k,xv];exact V
theorem Cw.t{w' w'':Wj}(h:Cw r w w' s)(k:Cw r w' w'' s'):Cw r w w'' s':=
 ⟨k.os.t h.os,lT h.size k.size,λb a c=>(k.block b (lL a h.size) c).t (h.block b a c),k.cell,k.frozen⟩
theorem ew(s:dT)(n:H):(rsB s n).size<=s.size:=by simp[rsB]
def txL(s:dT):Nat:=ug (tkB s 1).data.toList
theorem IK(s:dT):txL s<256:=lL (yH (tkB s 1).data.toList) (lT (QC (by decide) (by simpa using oL s 1)) (by decide))
theorem yI(r:H)(s:dT)(w:Wj)(c:s.size<=pt)(d:w.cell? ⟨r,0,N⟩=J (U s))(f:w.frozen? ⟨r,0,N⟩=Z):
  Calls Yq.prog 103 #[O (J ⟨r,0,N⟩)] w λe w'=>e=ZY (U (tkB (rsB s 1) (txL s)))/\Cw r w w' (rsB (rsB s 1) (txL s)):=by
 have HN:=ql r 1 s w c (by omega) d f;have hlt:=IK s;have HT:Hid (∀a,Cw r w a (rsB s 1)->Calls Yq.prog 127 #[O (J ⟨r,0,N⟩),I K (txL s)] a λe w'=>e=ZY (U (tkB (rsB s 1) (txL s)))/\Cw r w w' (rsB (rsB s 1) (txL s))):=λa h=>by
  refine(Ei r (txL s) (rsB s 1) a (lT (ew s 1) c) (by omega) h.cell h.frozen).m ?_;rintro e w' ⟨rfl,rfl⟩;refine⟨Q,h.t ⟨Q,by simp,λb _ j=>bS _ _ _ _ j,cS _ _ _ (by rw[h.cell];rfl),by rw[xv];exact h.frozen⟩⟩
 change Calls _ _ _ _ (λe w'=>e=ZY (I .u64 (txL s))/\Cw r w w' (rsB s 1))at HN;clear d f;generalize txL s=k at *;have hw:wrap64 (k:ey)=k:=by unfold wrap64;omega
 have hw2:IntKind.i64.wrap (k:ey)=k:=by simp[QW,QS,QT];omega
 go_enter (Yq.nq Tryz.func103),Tryz.ntmps103;go_wp2_with (first
  |(go_at_call 102;refine HN.m ?_;clear HN;rintro e a ⟨rfl,i⟩)
  |(go_at_call 127;refine(HT.o a i).m ?_;clear HT;rintro e w2 ⟨rfl,h2⟩))
 go_ret
 simp_all
def mz(a:ey)(m:H):gI ey:=if(m:ey)<=a\/9223372036854775808<m then N else J (m-1)
theorem qm(k0 m:H)(a:ey)(w:Wj)(c:0<=a)(d:a<=9223372036854775807)(hm:m<18446744073709551616)(c2:w.cell? ⟨k0,2,N⟩=J (I K a))(f2:w.frozen? ⟨k0,2,N⟩=Z):
  Calls Yq.prog 104 #[O (J ⟨k0,0,N⟩),I .u64 m] w λe w'=>(mz a m=N/\e=ZY (C Z)/\w'=w)\/∃l,mz a m=J l/\e=ZY (C Y)/\w'=w.setCell ⟨k0,2,N⟩ (I K l):=by
 have hw:=oH c d;unfold mz;by_cases b:(m:ey)<=a
 .rw [ZS (Qc b)];go_enter (Yq.nq PQ),PM;go_wp2_with fail
  go_ret
  simp_all
 by_cases hb:(9223372036854775808:ey)<m
 .rw [ZS (Qd (by omega))];go_enter (Yq.nq PQ),PM;go_wp2_with fail
  go_ret
  simp_all
 rw[ZR (by omega)];go_enter (Yq.nq PQ),PM;go_wp2_with fail
 go_ret;exact⟨Q,Q⟩
theorem Kn(n:H)(f:S gL->S Ver)(k:S gL)(h:k.length<n):(f k).length<=tot n f:=by
 have a:=yi k n f;obtain⟨m,c⟩:∃m,n-k.length=m+1:=⟨n-k.length-1,by omega⟩;rw[c]at a;refine lT ?_ a;simp only[tot,dC,List.append_nil];by_cases b:f k=[]
 .simp [b]
 .have e:(f k).isEmpty=false:=by simpa using b
  simp[e,fG]
theorem Inv.norm{st:St}{s:H}(h:Inv st s)(a:eH st):Inv st 0:=by
 have h1:=a.cnt;have h2:=a.le;refine⟨h.MN,h.MQ,by omega,by omega,λk=>?_,h.sorted,h.bounds⟩;by_cases b:40<k.length
 .rw [a.long k b];simp
 .have:=Kn 41 st.f k (by omega);omega
def Ms(st:St)(l:ey):St:=⟨st.f,st.count,l⟩
theorem Inv.Ms{st:St}{s:H}(h:Inv st s)(a:st.last<=l)(c:l<=9223372036854775807):Inv (Ms st l) s:=
 ⟨Rk h.MN a,c,h.Ni,h.Nj,h.len,h.sorted,λk i b=>⟨(h.bounds k i b).1,Rk (h.bounds k i b).2 a⟩⟩
theorem eH.Ms{st:St}(h:eH st)(l:ey):eH (Ms st l):=⟨h.cnt,h.le,h.long,h.body⟩
theorem fo{a:ey}(h:mz a r=J l):a<=l/\l<=9223372036854775807:=by
 unfold mz at h
 grind
theorem Af{st:St}{s:H}(h:Inv st s)(c:eH st)(b a:dT):Inv (ky st b a).1 (s+1)/\eH (ky st b a).1:=by
 have e:=j1 st ⟨1,b,a,⟨#[]⟩,⟨#[]⟩,0,0⟩ Q;have h1:=h.step ⟨1,b,a,⟨#[]⟩,⟨#[]⟩,0,0⟩;have h2:=c.step ⟨1,b,a,⟨#[]⟩,⟨#[]⟩,0,0⟩
 grind
theorem wi{st:St}{s:H}(h:Inv st s)(b:eH st)(a:dT):Inv (MA st a).1 (s+1)/\eH (MA st a).1:=by
 have e:=iU st ⟨4,a,⟨#[]⟩,⟨#[]⟩,⟨#[]⟩,0,0⟩ Q;have h1:=h.step ⟨4,a,⟨#[]⟩,⟨#[]⟩,⟨#[]⟩,0,0⟩;have h2:=b.step ⟨4,a,⟨#[]⟩,⟨#[]⟩,⟨#[]⟩,0,0⟩
 grind
def nm8(s:dT):Nat:=ug (tkB s 8).data.toList
def txB(s:dT):dT:=tkB (rsB s 1) (txL s)
def txR(s:dT):dT:=rsB (rsB s 1) (txL s)
def dg(st:St)(tm:ey)(s:dT):gI (St×ey×dT):=
 if txL s=1 then
  match mz st.last (nm8 (rsB s 1))with
  |none=>N
  |some l=>if(ky (Ms st l) (txB (rsB (rsB s 1) 8)) (txB (txR (rsB (rsB s 1) 8)))).2.2=0 then J ((ky (Ms st l) (txB (rsB (rsB s 1) 8)) (txB (txR (rsB (rsB s 1) 8)))).1,tm,txR (txR (rsB (rsB s 1) 8)))else N
 else if txL s=2 then
  match mz st.last (nm8 (rsB s 1))with
  |none=>N
  |some l=>if(MA (Ms st l) (txB (rsB (rsB s 1) 8))).2.2=0 then J ((MA (Ms st l) (txB (rsB (rsB s 1) 8))).1,tm,txR (rsB (rsB s 1) 8))else N
 else if txL s=3 then
  match mz st.last (nm8 (rsB s 1))with
  |none=>N
  |some l=>J (Ms st l,tm,rsB (rsB s 1) 8)
 else if txL s=4 then J (st,nm8 (rsB s 1),rsB (rsB s 1) 8)
 else N
structure mH (A:H->Prop)(w:Wj)(k r:H)(st:St)(tm:ey)(s:dT):Prop where
 store:aP A w k st
 time:w.cell? ⟨k,3,N⟩=J (I .u64 tm)
 rd:w.cell? ⟨r,0,N⟩=J (U s)
 fz:w.frozen? ⟨r,0,N⟩=Z
 ne:k≠r
 Mv:¬A r
theorem mH.Oq{w':Wj}{st:St}{m:ey}(h:mH A w k r st m s)(d:Cw r w w' s'):mH A w' k r st m s':=by
 have⟨p,c,q⟩:=h.store.cells;have l:=d.block k h.store.lt h.ne;have i:=λj=>cB (a:=⟨k,j,N⟩) l
 refine⟨eD (p:=p) ⟨(i 0).t c.c0,(i 1).t c.c1,(i 2).t c.c2,λj=>(fB (a:=⟨k,j,N⟩) l).t (c.fz j)⟩ (ao.Mr (λb n o=>⟨n,d.block b o (λe=>h.Mv (e▸n))⟩) 41 p st.f q) h.store.Mv,(i 3).t h.time,d.cell,d.frozen,h.ne,h.Mv⟩
structure Two2 (k r:H)(w w':Wj):Prop where
 os:w'.os=w.os
 size:w.heap.size<=w'.heap.size
 block:∀b,b<w.heap.size->b≠k->b≠r->w'.heap[b]?=w.heap[b]?
theorem Two2.refl{k r:H}{w:Wj}:Two2 k r w w:=⟨Q,lR _,λ_ _ _ _=>Q⟩
theorem Two2.t{a b c:Wj}(h:Two2 k r a b)(d:Two2 k r b c):Two2 k r a c:=
 ⟨d.os.t h.os,lT h.size d.size,λx i e f=>(d.block x (lL i h.size) e f).t (h.block x i e f)⟩
theorem Cw.two{w':Wj}(h:Cw r w w' s):Two2 k r w w':=⟨h.os,h.size,λb c _ a=>h.block b c a⟩
theorem dq.two{w':Wj}(h:dq w w' k):Two2 k r w w':=⟨h.g.os,h.g.size,λb c a _=>h.g.block b c (λe=>a (oJ e))⟩
theorem wj(a c:ey)(w:Wj):Calls Yq.prog 105 #[I K a,I K c] w λe w'=>e=ZY (C (c==0))/\w'=w:=by
 go_enter (Yq.nq Tryz.func105),Tryz.ntmps105;go_wp2;go_ret
 simp_all
theorem mH.lt{st:St}(h:mH A w k r st l s):r<w.heap.size:=bC w _ h.rd
theorem mH.setLast{st:St}(h:mH A w k r st i s)(l:ey):mH A (w.setCell ⟨k,2,N⟩ (I K l)) k r (Ms st l) i s:=by
 have⟨p,c,m⟩:=h.store.cells;have e:∀b,b≠k->(w.setCell ⟨k,2,N⟩ (I K l)).heap[b]?=w.heap[b]?:=λb d=>bS _ _ _ _ d
 exact⟨eD (st:=Ms st l) (c.NP _) (ao.Mr (λb j _=>⟨j,e b (h.store.Mv b j)⟩) 41 p st.f m) h.store.Mv,
  (cO w ⟨k,2,N⟩ ⟨k,3,N⟩ _ (by simp)).t h.time,(cB (a:=⟨r,0,N⟩) (e r (Ne.s h.ne))).t h.rd,(fB (a:=⟨r,0,N⟩) (e r (Ne.s h.ne))).t h.fz,h.ne,h.Mv⟩
theorem mH.NV{st:St}(h:mH A w k r st l s)(x:ey):mH A (w.setCell ⟨k,3,N⟩ (I .u64 x)) k r st x s:=by
 have⟨p,c,m⟩:=h.store.cells;have e:∀b,b≠k->(w.setCell ⟨k,3,N⟩ (I .u64 x)).heap[b]?=w.heap[b]?:=λb d=>bS _ _ _ _ d
 exact⟨eD ⟨co (by simp) c.c0,co (by simp) c.c1,co (by simp) c.c2,λj=>fs (c.fz j)⟩ (ao.Mr (λb i _=>⟨i,e b (h.store.Mv b i)⟩) 41 p st.f m) h.store.Mv,
  cs h.time,(cB (a:=⟨r,0,N⟩) (e r (Ne.s h.ne))).t h.rd,(fB (a:=⟨r,0,N⟩) (e r (Ne.s h.ne))).t h.fz,h.ne,h.Mv⟩
theorem tQ(o:H)(v:Wx):Two2 k r w (w.setCell ⟨k,o,N⟩ v):=
 ⟨Q,by simp[World.setCell],λb _ a _=>bS _ _ _ _ a⟩
theorem mH.grow{w':Wj}{st st':St}(h:mH A w k r st l s)(j:aP (Grow A w) w' k st')(f:dq w w' k):mH (Grow A w) w' k r st' l s:=by
 have d:=f.g.block r h.lt (λe=>h.ne (oJ e).s);exact⟨j,(f.t 3 (by omega)).t h.time,(cB (a:=⟨r,0,N⟩) d).t h.rd,(fB (a:=⟨r,0,N⟩) d).t h.fz,h.ne,λi=>i.elim (λb=>h.Mv b.1) (λb=>by have:=h.lt;omega)⟩
def Hp(A:H->Prop)(w:Wj)(k r:H)(st:St)(tm:ey)(s:dT)(e:Ending)(w':Wj):Prop:=
 Two2 k r w w'/\((dg st tm s=N/\e=ZY (C Z))\/∃st' a c,dg st tm s=J (st',a,c)/\e=ZY (C Y)/\∃A':H->Prop,(∀b,A' b->A b\/w.heap.size<=b)/\mH A' w' k r st' a c/\Inv st' 0/\eH st')
theorem IL(s:dT):nm8 s<18446744073709551616:=by
 have a:=yH (tkB s 8).data.toList;have b:(tkB s 8).data.toList.length<=8:=by simpa using oL s 8
 exact lL a (lT (QC (by decide) b) (by decide))
theorem tR(s:dT):(txB s).size<=1000:=by
 have h1:=oL (rsB s 1) (txL s);have h2:=IK s;unfold txB;omega
theorem Kq{st:St}{c:ey}(h:mH A w k r st c s)(hs:s.size<=pt)(hI:Inv st 0)(hT:eH st):
  Calls Yq.prog 81 #[O (J ⟨k,0,N⟩),O (J ⟨r,0,N⟩)] w (Hp A w k r st c s):=by
 have HH:Hid (mH A w k r st c s/\s.size<=pt/\Inv st 0/\eH st):=⟨h,hs,hI,hT⟩;have T:=ql r 1 s w hs (by omega) h.rd h.fz;clear h hs hI hT;go_enter (Yq.nq Tryz.func81),Tryz.ntmps81;go_wp2_with fail
 refine T.m ?_;rintro e w1 ⟨rfl,r1⟩;have H1:Hid (mH A w1 k r st c (rsB s 1)/\Two2 k r w w1/\(rsB s 1).size<=pt):=⟨HH.o.1.Oq r1,r1.two,by have:=HH.o.2.1;exact lT (ew s 1) this⟩;have et:ug (tkB s 1).data.toList=txL s:=rfl;rw[et];have HP:Hid (dg st c s=dg st c s):=rfl;have f:Hid (Calls Yq.prog 102 #[O (J ⟨r,0,N⟩),I K 8] w1 λe w'=>e=ZY (I .u64 (nm8 (rsB s 1)))/\Hid (mH A w' k r st c (rsB (rsB s 1) 8)/\Two2 k r w w'/\(rsB (rsB s 1) 8).size<=pt)):=
  (ql r 8 (rsB s 1) w1 H1.o.2.2 (by omega) H1.o.1.rd H1.o.1.fz).m λe w2 h=>⟨h.1,H1.o.1.Oq h.2,H1.o.2.1.t h.2.two,lT (ew _ _) H1.o.2.2⟩
 have hm:=IL (rsB s 1);clear r1 T et;by_cases t1:txL s=1
 .go_wp2_with fail
  refine f.o.m ?_;rintro e w2 ⟨rfl,H2⟩;clear f;have j:=yI r (rsB (rsB s 1) 8) w2 H2.o.2.2 H2.o.1.rd H2.o.1.fz;go_wp2_with fail
  refine j.m ?_;rintro e w3 ⟨rfl,x⟩;have H3:Hid (mH A w3 k r st c (txR (rsB (rsB s 1) 8))/\Two2 k r w w3/\(txR (rsB (rsB s 1) 8)).size<=pt):=⟨H2.o.1.Oq x,H2.o.2.1.t x.two,lT (ew _ _) (lT (ew _ _) H2.o.2.2)⟩;have n:tkB (rsB (rsB (rsB s 1) 8) 1) (txL (rsB (rsB s 1) 8))=txB (rsB (rsB s 1) 8):=rfl;rw[n];clear x j n;have X:=yI r (txR (rsB (rsB s 1) 8)) w3 H3.o.2.2 H3.o.1.rd H3.o.1.fz;go_wp2_with fail
  refine X.m ?_;rintro e D ⟨rfl,r4⟩;have H4:Hid (mH A D k r st c (txR (txR (rsB (rsB s 1) 8)))/\Two2 k r w D/\(txR (txR (rsB (rsB s 1) 8))).size<=pt):=⟨H3.o.1.Oq r4,H3.o.2.1.t r4.two,lT (ew _ _) (lT (ew _ _) H3.o.2.2)⟩;have F:tkB (rsB (txR (rsB (rsB s 1) 8)) 1) (txL (txR (rsB (rsB s 1) 8)))=txB (txR (rsB (rsB s 1) 8)):=rfl;rw[F];clear r4 X F;have P:=qm k (nm8 (rsB s 1)) st.last D HH.o.2.2.1.MN HH.o.2.2.1.MQ hm H4.o.1.store.last (H4.o.1.store.frozen 2);go_wp2_with fail
  refine P.m ?_;clear P;rintro e w9 (⟨d,rfl,rfl⟩|⟨l,d,rfl,rfl⟩)
  .have i:dg st c s=none:=by simp[dg,t1,d]
   have HR:Hid (dg st c s=N):=i;clear i d;go_wp2;go_ret;exact⟨H4.o.2.1,Qc ⟨HR.o,Q⟩⟩
  .have a:Hid (mH A (D.setCell ⟨k,2,N⟩ (I K l)) k r (Ms st l) c (txR (txR (rsB (rsB s 1) 8)))/\Two2 k r w (D.setCell ⟨k,2,N⟩ (I K l))/\Inv (Ms st l) 0/\eH (Ms st l)):=⟨H4.o.1.setLast l,H4.o.2.1.t (tQ 2 _),HH.o.2.2.1.Ms (fo d).1 (fo d).2,HH.o.2.2.2.Ms l⟩;have HR:Hid (dg st c s=if(ky (Ms st l) (txB (rsB (rsB s 1) 8)) (txB (txR (rsB (rsB s 1) 8)))).2.2=0 then J ((ky (Ms st l) (txB (rsB (rsB s 1) 8)) (txB (txR (rsB (rsB s 1) 8)))).1,c,(txR (txR (rsB (rsB s 1) 8))))else N):=show dg st c s=_ by simp[dg,t1,d]
   clear d;generalize D.setCell ⟨k,2,N⟩ (I K l)=q at *;go_wp2_with fail
   refine(zO A k (Ms st l) 0 (txB (rsB (rsB s 1) 8)) (txB (txR (rsB (rsB s 1) 8))) q (lT (tR _) (by decide)) (lT (tR _) (by decide)) a.o.1.store a.o.2.2.1 (by omega)).m ?_;rintro e z ⟨rfl,S6,v⟩;have HV:=Af a.o.2.2.1 a.o.2.2.2 (txB (rsB (rsB s 1) 8)) (txB (txR (rsB (rsB s 1) 8)));have H6:Hid (mH (Grow A q) z k r (ky (Ms st l) (txB (rsB (rsB s 1) 8)) (txB (txR (rsB (rsB s 1) 8)))).1 c (txR (txR (rsB (rsB s 1) 8)))/\Two2 k r w z/\Inv (ky (Ms st l) (txB (rsB (rsB s 1) 8)) (txB (txR (rsB (rsB s 1) 8)))).1 0/\eH (ky (Ms st l) (txB (rsB (rsB s 1) 8)) (txB (txR (rsB (rsB s 1) 8)))).1):=⟨a.o.1.grow S6 v,a.o.2.1.t v.two,HV.1.norm HV.2,HV.2⟩;have B:Hid (w.heap.size<=q.heap.size):=a.o.2.1.size;clear S6 v HV;generalize ky (Ms st l) (txB (rsB (rsB s 1) 8)) (txB (txR (rsB (rsB s 1) 8)))=R at *;obtain⟨y,v6,c6⟩:=R;go_wp2_with fail
   refine(wj _ _ z).m ?_;rintro e w7 ⟨rfl,L⟩;obtain rfl:=L.s;clear L;go_wp2_with fail
   go_ret;refine⟨H6.o.2.1,?_⟩;by_cases u:c6=0
   .refine Qd ⟨y,c,_,?_,by simp[u],Grow A q,λb p=>?_,H6.o.1,H6.o.2.2.1,H6.o.2.2.2⟩
    .rw [HR.o,ZS u]
    .rcases p with⟨p,-⟩|p
     .exact Qc p
     .have:=B.o;exact Qd (by omega)
   .refine Qc ⟨?_,by simp[u]⟩;rw[HR.o,ZR u]
 by_cases t2:txL s=2
 .go_wp2_with fail
  refine f.o.m ?_;rintro e w2 ⟨rfl,H2⟩;clear f;have j:=yI r (rsB (rsB s 1) 8) w2 H2.o.2.2 H2.o.1.rd H2.o.1.fz;go_wp2_with fail
  refine j.m ?_;rintro e w3 ⟨rfl,x⟩;have H3:Hid (mH A w3 k r st c (txR (rsB (rsB s 1) 8))/\Two2 k r w w3/\(txR (rsB (rsB s 1) 8)).size<=pt):=⟨H2.o.1.Oq x,H2.o.2.1.t x.two,lT (ew _ _) (lT (ew _ _) H2.o.2.2)⟩;have n:tkB (rsB (rsB (rsB s 1) 8) 1) (txL (rsB (rsB s 1) 8))=txB (rsB (rsB s 1) 8):=rfl;rw[n];clear x j n;have G:=qm k (nm8 (rsB s 1)) st.last w3 HH.o.2.2.1.MN HH.o.2.2.1.MQ hm H3.o.1.store.last (H3.o.1.store.frozen 2);go_wp2_with fail
  refine G.m ?_;clear G;rintro e w9 (⟨d,rfl,rfl⟩|⟨l,d,rfl,rfl⟩)
  .have i:dg st c s=none:=by simp[dg,t2,d]
   have HR:Hid (dg st c s=N):=i;clear i d;go_wp2;go_ret;exact⟨H3.o.2.1,Qc ⟨HR.o,Q⟩⟩
  .have a:Hid (mH A (w3.setCell ⟨k,2,N⟩ (I K l)) k r (Ms st l) c (txR (rsB (rsB s 1) 8))/\Two2 k r w (w3.setCell ⟨k,2,N⟩ (I K l))/\Inv (Ms st l) 0/\eH (Ms st l)):=⟨H3.o.1.setLast l,H3.o.2.1.t (tQ 2 _),HH.o.2.2.1.Ms (fo d).1 (fo d).2,HH.o.2.2.2.Ms l⟩;have HR:Hid (dg st c s=if(MA (Ms st l) (txB (rsB (rsB s 1) 8))).2.2=0 then J ((MA (Ms st l) (txB (rsB (rsB s 1) 8))).1,c,(txR (rsB (rsB s 1) 8)))else N):=show dg st c s=_ by simp[dg,t2,d]
   clear d;generalize w3.setCell ⟨k,2,N⟩ (I K l)=q at *;go_wp2_with fail
   refine(vN A k (Ms st l) 0 (txB (rsB (rsB s 1) 8)) q (lT (tR _) (by decide)) a.o.1.store a.o.2.2.1 (by omega)).m ?_;rintro e z ⟨rfl,S6,v⟩;have HV:=wi a.o.2.2.1 a.o.2.2.2 (txB (rsB (rsB s 1) 8));have H6:Hid (mH (Grow A q) z k r (MA (Ms st l) (txB (rsB (rsB s 1) 8))).1 c (txR (rsB (rsB s 1) 8))/\Two2 k r w z/\Inv (MA (Ms st l) (txB (rsB (rsB s 1) 8))).1 0/\eH (MA (Ms st l) (txB (rsB (rsB s 1) 8))).1):=⟨a.o.1.grow S6 v,a.o.2.1.t v.two,HV.1.norm HV.2,HV.2⟩;have B:Hid (w.heap.size<=q.heap.size):=a.o.2.1.size;clear S6 v HV;generalize MA (Ms st l) (txB (rsB (rsB s 1) 8))=R at *;obtain⟨y,v6,c6⟩:=R;go_wp2_with fail
   refine(wj _ _ z).m ?_;rintro e w7 ⟨rfl,L⟩;obtain rfl:=L.s;clear L;go_wp2_with fail
   go_ret;refine⟨H6.o.2.1,?_⟩;by_cases u:c6=0
   .refine Qd ⟨y,c,_,?_,by simp[u],Grow A q,λb p=>?_,H6.o.1,H6.o.2.2.1,H6.o.2.2.2⟩
    .rw [HR.o,ZS u]
    .rcases p with⟨p,-⟩|p
     .exact Qc p
     .have:=B.o;exact Qd (by omega)
   .refine Qc ⟨?_,by simp[u]⟩;rw[HR.o,ZR u]
 by_cases t3:txL s=3
 .go_wp2_with fail
  refine f.o.m ?_;rintro e w2 ⟨rfl,H2⟩;clear f;have V:=qm k (nm8 (rsB s 1)) st.last w2 HH.o.2.2.1.MN HH.o.2.2.1.MQ hm H2.o.1.store.last (H2.o.1.store.frozen 2);go_wp2_with fail
  refine V.m ?_;clear V;rintro e w9 (⟨d,rfl,rfl⟩|⟨l,d,rfl,rfl⟩)
  .have i:dg st c s=none:=by simp[dg,t3,d]
   have HR:Hid (dg st c s=N):=i;clear i d;go_wp2;go_ret;exact⟨H2.o.2.1,Qc ⟨HR.o,Q⟩⟩
  .have HR:Hid (dg st c s=J (Ms st l,c,rsB (rsB s 1) 8)):=show dg st c s=_ by simp[dg,t3,d]
   have a:Hid (mH A (w2.setCell ⟨k,2,N⟩ (I K l)) k r (Ms st l) c (rsB (rsB s 1) 8)/\Two2 k r w (w2.setCell ⟨k,2,N⟩ (I K l))/\Inv (Ms st l) 0/\eH (Ms st l)):=⟨H2.o.1.setLast l,H2.o.2.1.t (tQ 2 _),HH.o.2.2.1.Ms (fo d).1 (fo d).2,HH.o.2.2.2.Ms l⟩;clear d;go_wp2_with fail
   go_ret;exact⟨a.o.2.1,Qd ⟨_,_,_,HR.o,Q,A,λb h=>Qc h,a.o.1,a.o.2.2.1,a.o.2.2.2⟩⟩
 by_cases t4:txL s=4
 .go_wp2_with fail
  refine f.o.m ?_;rintro e w2 ⟨rfl,H2⟩;clear f;have HR:Hid (dg st c s=J (st,((nm8 (rsB s 1):H):ey),rsB (rsB s 1) 8)):=show dg st c s=_ by simp[dg,t4]
  have c3:=H2.o.1.time;have f3:=H2.o.1.store.frozen 3;go_wp2_with fail
  go_ret;exact⟨H2.o.2.1.t (tQ 3 _),Qd ⟨_,_,_,HR.o,Q,A,λb h=>Qc h,H2.o.1.NV _,HH.o.2.2.1,HH.o.2.2.2⟩⟩
 .have i:dg st c s=none:=by simp[dg,t1,t2,t3,t4]
  have HR:Hid (dg st c s=N):=i;clear i hm f;generalize txL s=t at *;go_wp2;go_ret;exact⟨H1.o.2.1,Qc ⟨HR.o,Q⟩⟩
def fP:H->St->ey->dT->gI (St×ey)
 | 0,_,_,_=>N
 |n+1,st,tm,s=>if s.size=0 then J (st,tm)else match dg st tm s with
  |none=>N
  |some x=>fP n x.1 x.2.1 x.2.2
def iC(a:dT):gI (St×ey):=match fP (a.size+1) st0 0 a with
 |none=>N
 |some x=>if fI x.1 x.2=a then J x else N
theorem Hr(s:dT)(n:H)(hn:0<n)(hs:s.size≠0):(rsB s n).size<s.size:=by
 have:(rsB s n).size=s.size-min n s.size:=by simp[rsB]
 omega
theorem Ek{st:St}(a:s.size≠0)(h:dg st l s=J x):x.2.2.size<s.size:=by
 have h1:=Hr s 1 (by omega) a;have h2:=ew (rsB s 1) 8;have h3:∀s,(txR s).size<=s.size:=λs=>lT (ew _ _) (ew _ _)
 unfold dg at h
 grind
theorem iD{t:dT}(h:t≠⟨#[]⟩):t.toList.isEmpty=false:=by
 rw[Q8];cases e:t.data.toList with
 |nil=>exact kr (Re (QM.1 (e.t Q))) h
 |cons a r=>rfl
def LI(w:Wj)(r:H):Nat:=match w.cell? ⟨r,0,N⟩with
 |some (U s)=>s.size
 |_=>0
theorem El(w:Wj):(Q9 36 #[]).run Yq.prog w=.ok (Qa #[O N,I K 0,I K 0,I .u64 0]) w:=by kernel_rfl
theorem Ht(s:dT)(w:Wj):(Q9 163 #[(0,U s)]).run Yq.prog w=.ok (Qa #[U s]) w:=by kernel_rfl
def Hu(a:dT)(w:Wj)(e:Ending)(w':Wj):Prop:=
 ay w w'/\((iC a=N/\e=ZY (Qb #[Qa #[O N,I K 0,I K 0,I .u64 0],I K 12])) \/
  ∃ (st:St) (c:ey) (p:gI Wu) (A:H->Prop),iC a=J (st,c)/\e=ZY (Qb #[Qa #[O p,I K st.count,I K st.last,I .u64 c],I K 0])/\ao A 41 w' p st.f/\(∀b,A b->w.heap.size<=b)/\Inv st 0/\eH st)
structure LdI (saved:dT)(W wr:Wj)(k r:H)(A:H->Prop)(st:St)(tm:ey)(s:dT)(n:H):Prop where
 ld:mH A wr k r st tm s
 size:s.size<=maxLen
 fuel:s.size<n
 eq:fP n st tm s=fP (saved.size+1) st0 0 saved
 inv:Inv st 0
 O5:eH st
 two:Two2 k r W wr
 MV:∀b,A b->W.heap.size<=b
theorem Hv(w:Wj)(x y z:eW Wx)(T b V:Ww)(j:H):(((w.alloc (E x T)).alloc (E y b)).alloc (E z V)).cell? ⟨w.heap.size,j,N⟩=x[j]?/\(((w.alloc (E x T)).alloc (E y b)).alloc (E z V)).frozen? ⟨w.heap.size,j,N⟩=false:=by
 have c:(((w.alloc (E x T)).alloc (E y b)).alloc (E z V)).heap[w.heap.size]?=(w.alloc (E x T)).heap[w.heap.size]?:=by
  rw[bA _ _ _ (by simp;omega),bA _ _ _ (by simp)]
 exact⟨(cB (a:=⟨w.heap.size,j,N⟩) c).t (j4 w _ _ j),(fB (a:=⟨w.heap.size,j,N⟩) c).t (xc (w:=w) _ _ w.heap.size j Q)⟩
theorem Em(w:Wj)(x y z:eW Wx)(T b V:Ww)(j:H):(((w.alloc (E x T)).alloc (E y b)).alloc (E z V)).cell? ⟨w.heap.size+1,j,N⟩=y[j]?/\(((w.alloc (E x T)).alloc (E y b)).alloc (E z V)).frozen? ⟨w.heap.size+1,j,N⟩=false:=by
 have e:(w.alloc (E x T)).heap.size=w.heap.size+1:=by simp
 have f:(((w.alloc (E x T)).alloc (E y b)).alloc (E z V)).heap[w.heap.size+1]?=((w.alloc (E x T)).alloc (E y b)).heap[w.heap.size+1]?:=by
  rw[bA _ _ _ (by simp)]
 have c:=j4 (w.alloc (E x T)) y b j;have d:=xc (w:=w.alloc (E x T)) y b (w.alloc (E x T)).heap.size j Q;rw[e]at c d;exact⟨(cB (a:=⟨w.heap.size+1,j,N⟩) f).t c,(fB (a:=⟨w.heap.size+1,j,N⟩) f).t d⟩
theorem Hw(w:Wj)(x y z:eW Wx)(T a V:Ww)(j:H):(((w.alloc (E x T)).alloc (E y a)).alloc (E z V)).cell? ⟨w.heap.size+1+1,j,N⟩=z[j]?/\(((w.alloc (E x T)).alloc (E y a)).alloc (E z V)).frozen? ⟨w.heap.size+1+1,j,N⟩=false:=by
 have e:((w.alloc (E x T)).alloc (E y a)).heap.size=w.heap.size+1+1:=by simp
 have h1:=j4 ((w.alloc (E x T)).alloc (E y a)) z V j;have h2:=xc (w:=(w.alloc (E x T)).alloc (E y a)) z V ((w.alloc (E x T)).alloc (E y a)).heap.size j Q
 grind
theorem Kr(d:dT)(w:Wj)(hs:d.size<=pt):Calls Yq.prog 54 #[U d] w (Hu d w):=by
 have hb1:=El;have hb2:=Ht;have HS:Hid (d.size<=pt):=hs;clear hs;go_enter (Yq.nq Tryz.func54),Tryz.ntmps54;go_wp2_with fail
 obtain⟨t,P⟩:∃t,t=w.heap.size:=⟨_,Q⟩;obtain⟨W3,r⟩:∃W3,W3=((w.alloc (E #[O N,I K 0,I K 0,I .u64 0] 36)).alloc (E #[O N,I K 0,I K 0,I .u64 0] 36)).alloc (E #[U d] 163):=⟨_,Q⟩;rw[<-r,<-P];have L:Hid (ay w W3/\W3.heap.size=t+3/\t=w.heap.size):=⟨by rw[r];exact((ay.refl.alloc _).alloc _).alloc _,by rw[r,P];simp,P⟩;have R:∀j,W3.cell? ⟨t,j,N⟩=(#[O N,I K 0,I K 0,I .u64 0]:eW Wx)[j]?/\W3.frozen? ⟨t,j,N⟩=false:=λj=>by
  rw[r,P];exact Hv w _ _ _ _ _ _ j
 have l:∀j,W3.cell? ⟨t+1,j,N⟩=(#[O N,I K 0,I K 0,I .u64 0]:eW Wx)[j]?/\W3.frozen? ⟨t+1,j,N⟩=false:=λj=>by
  rw[r,P];exact Em w _ _ _ _ _ _ j
 have y:∀j,W3.cell? ⟨t+1+1,j,N⟩=(#[U d]:eW Wx)[j]?/\W3.frozen? ⟨t+1+1,j,N⟩=false:=λj=>by
  rw[r,P];exact Hw w _ _ _ _ _ _ j
 have ac:Hid (LdI d W3 W3 (t+1) (t+1+1) (λ_=>lk) st0 0 d (d.size+1)):=
  ⟨⟨⟨λ_ h=>h.elim,⟨N,(l 0).1,ao.nil (λ_=>Q)⟩,(l 1).1,(l 2).1,λj=>(l j).2⟩,(l 3).1,(y 0).1,(y 0).2,by omega,λh=>h⟩,HS.o,by omega,Q,inv0,GQ,Two2.refl,λ_ h=>h.elim⟩
 have ad:Hid (∀wr k,Two2 (t+1) (t+1+1) W3 wr->Two2 (t+1) (t+1+1) wr k->(k.cell? ⟨t,0,N⟩=J (O N)/\k.frozen? ⟨t,0,N⟩=Z)/\(k.cell? ⟨t,1,N⟩=J (I K 0)/\k.frozen? ⟨t,1,N⟩=Z)/\(k.cell? ⟨t,2,N⟩=J (I K 0)/\k.frozen? ⟨t,2,N⟩=Z)/\(k.cell? ⟨t,3,N⟩=J (I .u64 0)/\k.frozen? ⟨t,3,N⟩=Z)/\Hid (∀x0 x1 x2 x3,ay w ((((k.setCell ⟨t,0,N⟩ x0).setCell ⟨t,1,N⟩ x1).setCell ⟨t,2,N⟩ x2).setCell ⟨t,3,N⟩ x3))):=λwr k t0 t1=>by
  have F:=L.o;have X:=t0.t t1;have h3:=F.1.size;have q:=X.block t (by omega) (by omega) (by omega);have hz:∀j,k.cell? ⟨t,j,N⟩=(#[O N,I K 0,I K 0,I .u64 0]:eW Wx)[j]?/\k.frozen? ⟨t,j,N⟩=false:=λj=>⟨(cB (a:=⟨t,j,N⟩) q).t (R j).1,(fB (a:=⟨t,j,N⟩) q).t (R j).2⟩
  have hl:ay w k:=⟨X.os.t F.1.os,lT h3 X.size,λb z=>by rw[X.block b (by omega) (by omega) (by omega),F.1.block b z]⟩;exact⟨hz 0,hz 1,hz 2,hz 3,λx0 x1 x2 x3=>(((hl.set (by omega) _ _).set (by omega) _ _).set (by omega) _ _).set (by omega) _ _⟩
 clear R l y r P
 go_loopw [8] (λ_ wr=>∃ (A:H->Prop) (st:St) (u:ey) (s:dT) (n:H),LdI d W3 wr (t+1) (t+1+1) A st u s n) (λ_ wr=>LI wr (t+1+1))
 case atStart=>exact⟨_,_,_,_,_,ac.o⟩
 case round=>
  obtain⟨A,st,u,s,n,hL⟩:=hrel;have i:Hid (LdI d W3 wr (t+1) (t+1+1) A st u s n):=hL;have c0:=hL.ld.rd;clear hL ac;by_cases h0:s.size=0
  .obtain rfl:s=⟨#[]⟩:=Re (QM.1 (List.eq_nil_of_length_eq_zero (by simpa using h0)));clear h0;go_wp2_with fail
   refine(Eg i.o.ld.store i.o.ld.time i.o.inv i.o.O5).m ?_;rintro e k ⟨rfl,B⟩;obtain⟨⟨z0,y0⟩,⟨z1,y1⟩,⟨z2,y2⟩,⟨z3,y3⟩,D⟩:=ad.o wr k i.o.two ⟨B.os,B.size,λb z _ _=>B.block b z⟩;have⟨p,c,hN⟩:=i.o.ld.store.cells;have e0:=B.cell c.c0;have e1:=B.cell c.c1;have e2:=B.cell c.c2;have e3:=B.cell i.o.ld.time;have HN:Hid (ao A 41 wr p st.f/\ay wr k):=⟨hN,B⟩;have aa:Hid (fP (d.size+1) st0 0 d=J (st,u)):=by
    show fP (d.size+1) st0 0 d=J (st,u);rw[<-i.o.eq];have:=i.o.fuel;obtain⟨m,rfl⟩:∃m,n=m+1:=⟨n-1,by omega⟩;rw[fP,ZS (by decide)]
   clear c hN B;by_cases x:fI st u=d
   .have HF:Hid (iC d=J (st,u)):=by show iC d=J (st,u);rw[iC,aa.o];simp[x]
    rw[x];go_wp2_with fail
    refine sq (v:=Qb #[Qa #[O p,I K st.count,I K st.last,I .u64 u],I K 0]) (by simp[results,PK,go_sem,z0,z1,z2,z3]) Q ⟨D.o _ _ _ _,Qd ⟨st,u,p,A,HF.o,Q,?_,λb z=>?_,i.o.inv,i.o.O5⟩⟩
    .have F:=L.o;have X:=i.o;refine ao.Mr (λb z ai=>⟨z,?_⟩) 41 _ _ HN.o.1;have q:b≠t:=by have:=X.MV b z;omega
     rw[bS _ _ _ _ q,bS _ _ _ _ q,bS _ _ _ _ q,bS _ _ _ _ q];exact HN.o.2.block b ai
    .have F:=L.o;have:=i.o.MV b z;omega
   .have HF:Hid (iC d=N):=by show iC d=N;rw[iC,aa.o];simp[x]
    have G:=λe=>x (Re (QM.1 (by rw[<-Q8,<-Q8];exact e)))
    have hne:((fI st u).toList==d.toList)=false:=by simpa using G
    clear G;clear x;generalize fI st u=sb at *;go_wp2_with fail
    exact sq (v:=Qb #[Qa #[O N,I K 0,I K 0,I .u64 0],I K 12]) (by simp[results,PK,go_sem,z0,z1,z2,z3]) Q ⟨D.o _ _ _ _,Qc ⟨HF.o,Q⟩⟩
  .have hem:=iD (t:=s) (λe=>h0 (by rw[e];rfl));have V:Hid (s.size≠0):=h0;clear h0;go_wp2_with fail
   refine(Kq i.o.ld i.o.size i.o.inv i.o.O5).m ?_;rintro e k ⟨t1,⟨hp,rfl⟩|⟨st',al,s',hp,rfl,A',ab,T,i',j'⟩⟩
   .have HF:Hid (iC d=N):=by
     show iC d=N;rw[iC,<-i.o.eq];have:=i.o.fuel;obtain⟨m,rfl⟩:∃m,n=m+1:=⟨n-1,by omega⟩;rw[fP,ZR V.o,hp]
    have⟨⟨z0,y0⟩,⟨z1,y1⟩,⟨z2,y2⟩,⟨z3,y3⟩,D⟩:=ad.o wr k i.o.two t1;clear hp t1;go_wp2_with fail
    exact sq (v:=Qb #[Qa #[O N,I K 0,I K 0,I .u64 0],I K 12]) (by simp[results,PK,go_sem,z0,z1,z2,z3]) Q ⟨D.o _ _ _ _,Qc ⟨HF.o,Q⟩⟩
   .have aj:Hid ((∃A st u s n,LdI d W3 k (t+1) (t+1+1) A st u s n)/\LI k (t+1+1)<LI wr (t+1+1)):=by
     have af:=Ek V.o hp;simp only at af;have h:=i.o;have hf:=h.fuel;have hsz:=h.size;obtain⟨m,rfl⟩:∃m,n=m+1:=⟨n-1,by omega⟩;refine⟨⟨A',st',al,s',m,T,by omega,by omega,?_,i',j',h.two.t t1,λb z=>?_⟩,?_⟩
     .have:=h.eq;rw[fP,ZR V.o,hp]at this;exact this
     .rcases ab b z with F|F
      .exact h.MV b F
      .have:=h.two.size;omega
     .simp [LI,T.rd,h.ld.rd];exact af
    clear hp t1 ab T i' j';go_wp2_with fail
    exact aj.o
def dM(ks:S ey)(bs:S dT)(src:ey)(body:dT):dT:=
 if 0<=src/\src<bs.length then(if ks[src.toNat]?.getD 0=11 then bs[src.toNat]?.getD ⟨#[]⟩else body)else body
def dx(st:St)(L:Lg)(b:dT):St×Lg×mu:=match iC b with
 |none=>(st,L,⟨12,0,⟨#[]⟩,[],⟨#[]⟩⟩)
 |some x=>(x.1,{L with opened:=[],tm:=x.2},⟨0,0,⟨#[]⟩,[],⟨#[]⟩⟩)
theorem wk{st:St}{b:ey}(c:Inv st 0)(d:eH st)(h:dg st b s=J x):Inv x.1 0/\eH x.1:=by
 have a:∀l,mz st.last (nm8 (rsB s 1))=J l->Inv (Ms st l) 0/\eH (Ms st l):=λl e=>⟨c.Ms (fo e).1 (fo e).2,d.Ms l⟩
 unfold dg at h;split at h
 .split at h
  .grind
  .rename_i l e;split at h
   .rw [<-oJ h];dsimp only;have:=Af (a l e).1 (a l e).2 (txB (rsB (rsB s 1) 8)) (txB (txR (rsB (rsB s 1) 8)));exact⟨this.1.norm this.2,this.2⟩
   .grind
 .split at h
  .split at h
   .grind
   .rename_i l e;split at h
    .rw [<-oJ h];dsimp only;have:=wi (a l e).1 (a l e).2 (txB (rsB (rsB s 1) 8));exact⟨this.1.norm this.2,this.2⟩
    .grind
  .grind
theorem wl:∀ (n:H)(st:St)(a:ey)(s:dT)(x:St×ey),Inv st 0->eH st->fP n st a s=J x->Inv x.1 0/\eH x.1
 | 0,_,_,_,_,_,_,h=>by simp[fP]at h
 |n+1,st,a,s,x,hI,hT,h=>by
  unfold fP at h;split at h
  .cases h;exact⟨hI,hT⟩
  .split at h
   .exact kr h (by simp)
   .rename_i y e;have:=wk hI hT e;exact wl n _ _ _ x this.1 this.2 h
theorem rK{x:St×ey}(h:iC s'=J x):fP (s'.size+1) st0 0 s'=J x/\fI x.1 x.2=s':=by
 unfold iC at h
 grind
theorem En{x:St×ey}(h:iC s'=J x):Inv x.1 0/\eH x.1:=
 wl _ _ _ _ x inv0 GQ (rK h).1
theorem wm(a:S Wx):(bytesOf a).size=a.length:=by simp[bytesOf,Rf]
theorem Hx(k:dT)(v:Ver):(Cv k v).length=Ad k v:=by
 unfold Cv Ad;split
 .simp [tM,vZ];omega
 .simp [tM,vZ];omega
theorem Eo(E:S (dT×Ver)):(iA E).length=fj E:=by
 induction E with
 |nil=>rfl
 |cons e E ih=>
  simp[iA,fj]at ih ⊢;rw[ih,Hx]
theorem BV{st:St}(a:eH st):(cJ st).length<=200:=by
 have h3:fG (bL st.f [])=tot 41 st.f:=rfl;have:=a.cnt;have:=a.le;rw[cJ,fy,jH];omega
theorem BW{st:St}(b:eH st)(d:ey):(fI st d).size<=pt:=by
 have hn:=wh (E:=cJ st) λe a=>⟨(fY a).1,by have⟨k,c⟩:=(fY a).2;exact b.body k _ c⟩
 have hl:=BV b;rw[fI,wm];simp[tM,Eo,pt];omega
structure IM (w:Wj)(k0 g0 s:H)(ks:S ey)(bs:S dT):Prop where
 kl:ks.length=s
 bl:bs.length=s
 small:∀b∈bs,b.size<=maxLen
 NQ:∃sb so sn sc,w.cell? ⟨k0,7,N⟩=J (M (J ⟨sb,so,N⟩) sn sc)/\s<=sn/\∀i (hi:i<ks.length),w.cell? ⟨sb,so+i*7,N⟩=J (I K ks[i])
 OF:∀i (hi:i<bs.length),w.cell? ⟨g0,i*5+2,N⟩=J (U bs[i])
theorem IM.left{w':Wj}{k0 s:H}{d:S ey}{bs:S dT}(h:IM w k0 r s d bs)(a:ay w w'):IM w' k0 r s d bs:=by
 have⟨m,l,e,j,k,f,n⟩:=h.NQ;exact⟨h.kl,h.bl,h.small,⟨m,l,e,j,a.cell k,f,λi b=>a.cell (n i b)⟩,λi b=>a.cell (h.OF i b)⟩
section
variable {A:Nat->Prop} {B k0:Nat} {w:Wj} {st:St} {L:Lg}
theorem wn(h:aW A B w k0 st L)(hB:B<=w.heap.size)(x:L.opened.length<=3)(o:OpD)(F:o.kind=10):
  Calls Yq.prog 8 #[O (J ⟨k0,0,N⟩),aJ o] w (bQ A B k0 w st L ⟨0,st.count,⟨#[]⟩,L.opened.map iz,⟨#[]⟩⟩):=by
 have f:aW A B (dA w o).drew k0 st L:=h.left ((aZ o).drew);have HT:=DX (dA w o).drew f.ls x;have HN:=Hb k0 st.count (dA w o).drew f.store.count;obtain⟨Mt,c⟩:∃Mt,Mt=L.opened.map iz:=⟨_,Q⟩;rw[<-c]at HT ⊢;have d:ay (dA w o) (dA w o).drew:=ay.refl.drew;have l:k0<(dA w o).heap.size:=by have:=h.ls.lt;rw[ba];omega
 have HB:Hid (∀b,Below (dA w o).drew.heap.size (dA w o).drew b->_):=λb j=>box5 (mw o h.ls (FrC.left l (d.t (.below j))))
 have HF:Hid (∀b i p k q D y u s,Below (dA w o).drew.heap.size (dA w o).drew b->b.ownsRow (dA w o).drew.heap.size 117 3 (M i p k) Mt.length (aq Mt)->bQ A B k0 w st L ⟨0,st.count,⟨#[]⟩,Mt,⟨#[]⟩⟩ (ZY (j6 ⟨0,st.count,⟨#[]⟩,Mt,⟨#[]⟩⟩ (M i p k))) (put5 b (w.heap.size+1) q D y u s)):=λb i p k q D y u s j a=>by
  obtain⟨A',z,a2,V,G,X,a6⟩:=bK.Mz (h.ls.left (aZ o)) (d.t (.below j)) a (lR _) (λ_ _ _=>Q);have⟨e1,e2,e3,e4⟩:=ni (A':=A') (sv:=M i p k) (Mt:=Mt) (r:=w.heap.size+1) (aZ o) h.ls.lt hB (by omega) (by rw[ba];omega) ⟨_,gU o,Q⟩ z a2 h.ls.Ng ((h.left (aZ o)).step G z V Q) G.ND a6 (gw o h.ls) X q D y u s;exact⟨_,Q,A',z,e1,e2,e3,e4⟩
 have hb1:=BL;clear c f d l;obtain⟨kind,key,body,eQ,past,n,src⟩:=o;simp only at F;subst F;unfold dA at HT HF HB HN;clear h;unfold aJ;go_enter (Yq.nq PL),ZV;go_wp2_with fail
 go_region_with (first
  |(go_at_call 21;refine HN.m ?_;rintro e b ⟨rfl,rfl⟩)
  |(go_at_call 22;refine HT.m ?_;rintro e b ⟨sv,rfl,a,j⟩;obtain⟨i,k,rfl,-⟩:=az a;have⟨⟨T,P,b2,R,b4⟩,f0,f1,f2,f3,f4⟩:=HB.o b j))
 all_goals
  go_wp2;exact sq (v:=j6 ⟨0,st.count,⟨#[]⟩,Mt,⟨#[]⟩⟩ (M i Mt.length k)) (by simp[results,ZX,go_sem,j6,T,P,b2,R,b4]) Q (HF.o b _ _ _ _ _ _ _ _ j a)
end
def Ep(R:Lg×S ItD×dT×ey):mu:=⟨R.2.2.2,0,⟨#[]⟩,R.2.1,R.2.2.1⟩
def Mu(st:St)(L:Lg)(Mq:S dT)(o:OpD):St×Lg×mu:=
 if o.kind=6 then(st,(fw L st.f ⟨Z,o.key,o.eQ,o.past⟩ o.n).1,Ep (fw L st.f ⟨Z,o.key,o.eQ,o.past⟩ o.n))
 else if o.kind=7 then(st,(fw L st.f ⟨Y,o.key,o.eQ,o.past⟩ o.n).1,Ep (fw L st.f ⟨Y,o.key,o.eQ,o.past⟩ o.n))
 else if o.kind=8 then(st,(dR L (eh Mq o.src o.body)).1,Ep (dR L (eh Mq o.src o.body)))
 else if o.kind=9 then(st,(fx L o.n).1,⟨(fx L o.n).2,0,⟨#[]⟩,[],⟨#[]⟩⟩)
 else if o.kind=10 then(st,L,⟨0,st.count,⟨#[]⟩,L.opened.map iz,⟨#[]⟩⟩)
 else if o.kind=11 then(st,L,⟨0,0,fI st L.tm,[],⟨#[]⟩⟩)
 else((aE st o).1,L,⟨(aE st o).2.code,(aE st o).2.MG,(aE st o).2.body,[],⟨#[]⟩⟩)
def nk(st:St)(L:Lg)(Mq:S dT)(b:dT)(o:OpD):St×Lg×mu:=if o.kind=12 then dx st L b else Mu st L Mq o
structure qJ (Qok:Qy->Prop)(o:OpD):Prop where
 q:o.kind=6->Qok ⟨Z,o.key,o.eQ,o.past⟩
 q7:o.kind=7->Qok ⟨Y,o.key,o.eQ,o.past⟩
structure qA (Qok:Qy->Prop)(L:Lg)(s:H):Prop where
 len:L.opened.length<=3
 left:∀x∈L.opened,0<=x.left/\x.left<=10
 ok:∀x∈L.opened,Qok x.q/\fG (bL x.f x.q.p.data.toList)<=1000/\x.q.p.size<=maxLen
 begun:0<=L.begun/\L.begun<=s
 told:∀tok n pg,ee tok L.told=J (n,pg)->(0<=n/\n<=s)/\0<=pg/\pg<=s+1
theorem fZ(k b:dT)(x:ey×ey)(t:Told):ee k (lE b x t)=if k=b then J x else ee k t:=by
 induction t with
 |nil=>simp[lE,ee]
 |cons a r ih=>
  obtain⟨c,a2⟩:=a;by_cases h:b=c
  .subst h;simp[lE,ee]
   grind
  .simp [lE,ZR h,ee,ih]
   grind
theorem eH.sum{st:St}(h:eH st)(p:S gL):fG (bL st.f p)<=1000:=by
 have h2:=yi p 41 st.f;have h3:fG (bL st.f p)=tot (41-p.length) λk=>st.f (p++k):=pS _ _ _ _
 have:=h.cnt;have:=h.le;omega
section
variable {Qok:Qy->Prop} {L:Lg} {s:Nat} {st:St}
theorem qA.m(h:qA Qok L s){s':H}(hs:s<=s'):qA Qok L s':=
 ⟨h.len,h.left,h.ok,⟨h.begun.1,by have:=h.begun.2;omega⟩,λa n b e=>by have:=h.told a n b e;omega⟩
theorem qA.beg(h:qA Qok L s)(k:eH st)(q:Qy)(n:ey)(j:Qok q)(c:q.p.size<=pt):qA Qok (fw L st.f q n).1 (s+1):=by
 have hb:=h.begun;unfold fw;split
 .exact h.m (by omega)
 .split
  .exact h.m (by omega)
  .split
   .exact h.m (by omega)
   .refine ⟨by simp;omega,λx a=>?_,λx a=>?_,⟨by simp only;omega,by simp only;omega⟩,λb d i e=>?_⟩
    .rcases Qi.1 a with a|a
     .exact h.left x a
     .simp at a;subst a;exact⟨by simp[iW],by simp[iW]⟩
    .rcases Qi.1 a with a|a
     .exact h.ok x a
     .simp at a;subst a;exact⟨j,k.sum _,c⟩
    .simp [fZ]at e;split at e
     .grind
     .have:=h.told b d i e;omega
theorem qA.next(h:qA Qok L s)(c:dT):qA Qok (dR L c).1 (s+1):=by
 unfold dR;split
 .exact h.m (by omega)
 .rename_i n j k;split
  .exact h.m (by omega)
  .split
   .exact h.m (by omega)
   .rename_i i e2 x l;have p:x∈L.opened:=List.mem_of_getElem? l;have o:=h.begun;refine⟨by simpa using h.len,λy b=>?_,λy b=>?_,⟨o.1,by simp only;omega⟩,λa f d e=>?_⟩
    .rcases Qm b with b|rfl
     .exact h.left y b
     .exact ⟨by simp[LsA.again],by simp[LsA.again]⟩
    .rcases Qm b with b|rfl
     .exact h.ok y b
     .exact h.ok x p
    .simp only at e;split at e
     .have:=h.told a f d e;omega
     .rw [fZ]at e;split at e
      .cases e;have:=h.told c n j k;omega
      .have:=h.told a f d e;omega
theorem qA.tick(h:qA Qok L s)(u:ey):qA Qok (fx L u).1 (s+1):=by
 unfold fx;split
 .exact h.m (by omega)
 .rename_i hu;have f:=h.begun;refine⟨?_,λy a=>?_,λy a=>?_,⟨f.1,by simp only[mt];omega⟩,λb n d e=>by have:=h.told b n d e;omega⟩
  .have:=List.length_filter_le (λx:LsA=>!decide (x.left<=0)) (L.opened.map λx=>x.again (x.left-u));rw[lM]at this;exact lT this h.len
  .simp only[mt,Qz,Qr]at a;obtain⟨⟨x,c,rfl⟩,a⟩:=a;have:=h.left x c;have hy':¬(x.left-u<=0):=λe=>by simp[LsA.again,e]at a
   show 0<=x.left-u/\x.left-u<=10;omega
  .simp only[mt,Qz,Qr]at a;obtain⟨⟨x,c,rfl⟩,a⟩:=a;exact h.ok x c
theorem qA.step(h:qA Qok L s)(c:eH st)(Mq:S dT)(o:OpD)(b:qJ Qok o)(a:o.key.size<=pt):qA Qok (Mu st L Mq o).2.1 (s+1):=by
 unfold Mu;split
 .rename_i e;exact h.beg c _ _ (b.q e) a
 .split
  .rename_i d;exact h.beg c _ _ (b.q7 d) a
  .split
   .exact h.next _
   .split
    .exact h.tick _
    .split
     .exact h.m (by omega)
     .split
      .exact h.m (by omega)
      .exact h.m (by omega)
theorem eH.Mu(a:eH st)(Mq:S dT)(o:OpD):eH (Mu st L Mq o).1:=by
 unfold Go.Proofs.Qw.Mu
 repeat' split
 all_goals first|exact a|exact a.step o
theorem Inv.Mu(a:Inv st s)(Mq:S dT)(o:OpD):Inv (Mu st L Mq o).1 (s+1):=by
 have b:Inv st (s+1):=a.m (by omega);unfold Go.Proofs.Qw.Mu
 repeat' split
 all_goals first|exact b|exact a.step o
end
def LJ(_:OpD):Prop:=True
def wo(Qok:Qy->Prop)(K:OpD->Prop)(G:Wj->Prop)(N:H):Prop:=
 ∀ {A:H->Prop} {B k0:H} {w:Wj} {st:St} {L:Lg} (_:aW A B w k0 st L) (_:B<=w.heap.size) (_:∀w',aX A B k0 w w'->G w') (o:OpD) (_:K o) (_:qJ Qok o) (_:o.key.size<=pt) (_:o.body.size<=pt) {s:H} (_:Inv st s) (_:eH st) (_:qA Qok L s) (_:s<N)
  (c d:H) (Mq:S dT) (_:Mq.length=s) (_:w.cell? ⟨k0,8,none⟩=J (M (J ⟨c,0,none⟩) s d)) (_:∀i (hi:i<Mq.length),w.cell? ⟨c,i*5+4,none⟩=J (U Mq[i])) (a:S ey) (b:S dT) (_:IM w k0 c s a b),
  Calls Yq.prog 8 #[O (J ⟨k0,0,none⟩),aJ o] w λe w'=>bQ A B k0 w (nk st L Mq (dM a b o.src o.body) o).1 (nk st L Mq (dM a b o.src o.body) o).2.1 (nk st L Mq (dM a b o.src o.body) o).2.2 e w'\/Stop Qok e w'
structure Dk where
 st:St
 L:Lg
 al:S mu
def Dk.Mq(d:Dk):S dT:=d.al.map (·.tok)
def Hy(d:Dk)(o:OpD):Dk:=⟨(Mu d.st d.L d.Mq o).1,(Mu d.st d.L d.Mq o).2.1,d.al++[(Mu d.st d.L d.Mq o).2.2]⟩
def dk0:Dk:=⟨st0,⟨[],0,[],0⟩,[]⟩
structure Me (Qok:Qy->Prop)(d:Dk)(s:H):Prop where
 i:Inv d.st s
 t:eH d.st
 l:qA Qok d.L s
 n:d.al.length=s
theorem LX(Qok:Qy->Prop):Me Qok dk0 0:=⟨inv0,GQ,⟨by simp[dk0],by simp[dk0],by simp[dk0],by simp[dk0],by simp[dk0,ee]⟩,Q⟩
def Dk.MT(d:Dk):S dT:=d.al.map (·.body)
def iH(a:S OpD)(d:Dk)(o:OpD):St×Lg×mu:=nk d.st d.L d.Mq (dM (a.map (·.kind)) d.MT o.src o.body) o
def gy(a:S OpD)(d:Dk)(o:OpD):Dk:=⟨(iH a d o).1,(iH a d o).2.1,d.al++[(iH a d o).2.2]⟩
def je(ops:S OpD)(x:S OpD×Dk):S OpD×Dk:=ops.foldl (λx o=>(x.1++[o],gy x.1 x.2 o)) x
def cW(ops:S OpD):Dk:=(je ops ([],dk0)).2
theorem Er(a:S OpD):∀x,(je a x).1=x.1++a:=by
 induction a with
 |nil=>intro x;simp[je]
 |cons o r ih=>intro x;show(je r _).1=_;rw[ih];simp
theorem nS(a b:S OpD)(x:S OpD×Dk):je (a++b) x=je b (je a x):=by simp[je]
theorem mA(a:S OpD)(o:OpD):cW (a++[o])=gy a (cW a) o:=by
 rw[cW,nS];show gy (je a ([],dk0)).1 _ o=_;rw[Er];rfl
theorem Es(a:S OpD):∀x,(je a x).2.al.length=x.2.al.length+a.length:=by
 induction a with
 |nil=>intro x;rfl
 |cons o r ih=>intro x;show(je r _).2.al.length=_;rw[ih];simp[gy];omega
theorem j9(a:S OpD):(cW a).al.length=a.length:=by rw[cW,Es];simp[dk0]
theorem Hz{a:S OpD}{d:Dk}{o:OpD}(h:o.kind≠12):gy a d o=Hy d o:=by simp[gy,iH,nk,ZR h,Hy]
structure HU (Qok:Qy->Prop)(d:Dk)(s:H):Prop extends Me Qok d s where
 small:∀b∈d.MT,b.size<=maxLen
theorem Et{st:St}{L:Lg}{s:H}{Qok:Qy->Prop}(b:dT)(f:Inv st s)(j:eH st)(c:qA Qok L s):Inv (dx st L b).1 (s+1)/\eH (dx st L b).1/\qA Qok (dx st L b).2.1 (s+1)/\(dx st L b).2.2.body=⟨#[]⟩:=by
 unfold dx;cases h:iC b with
 |none=>exact⟨f.m (by omega),j,c.m (by omega),Q⟩
 |some x=>
  have⟨k,i⟩:=En h;have l:=c.begun;exact⟨k.m (by omega),i,⟨by simp,by simp,by simp,⟨l.1,by simp only;omega⟩,λa n d e=>by have:=c.told a n d e;omega⟩,Q⟩
theorem yJ{st:St}{L:Lg}(b:eH st)(Mq:S dT)(o:OpD):(Mu st L Mq o).2.2.body.size<=pt:=by
 have c:(⟨#[]⟩:dT).size<=pt:=QB _;have a:∀k,∀v∈st.f k,v.body.size<=pt:=λk v a=>lT (b.body k v a) (by simp only[pt];decide)
 unfold Mu
 repeat' split
 all_goals first
  |exact c
  |exact BW b _
  |skip
 unfold aE
 grind
theorem HU.step{Qok:Qy->Prop}{d:Dk}{s:H}{a:S OpD}(h:HU Qok d s)(o:OpD)(k:qJ Qok o)(j:o.key.size<=pt):HU Qok (gy a d o) (s+1):=by
 by_cases f:o.kind=12
 .have ⟨q,m,r,p⟩:=Et (dM (a.map (·.kind)) d.MT o.src o.body) h.i h.t h.l;have e:iH a d o=dx d.st d.L (dM (a.map (·.kind)) d.MT o.src o.body):=by simp[iH,nk,ZS f]
  refine⟨⟨by rw[gy,e];exact q,by rw[gy,e];exact m,by rw[gy,e];exact r,by simp[gy,h.n]⟩,λb c=>?_⟩;simp only[Dk.MT,gy,Qh,Qi,Qp,Qq,Qs]at c;rcases c with c|rfl
  .exact h.small b c
  .rw [e,p];exact QB _
 .rw [Hz f];refine⟨⟨h.i.Mu _ o,h.t.Mu _ o,h.l.step h.t _ o k j,by simp[Hy,h.n]⟩,λb c=>?_⟩;simp only[Dk.MT,Hy,Qh,Qi,Qp,Qq,Qs]at c;rcases c with c|rfl
  .exact h.small b c
  .exact yJ h.t _ o
theorem oM{Qok:Qy->Prop}(a:S OpD)(b:∀o∈a,qJ Qok o/\o.key.size<=pt):HU Qok (cW a) a.length:=by
 have:∀ (a:S OpD) (x:S OpD×Dk) (s:H),(∀o∈a,qJ Qok o/\o.key.size<=pt)->HU Qok x.2 s->HU Qok (je a x).2 (s+a.length):=λa=>by
  induction a with
  |nil=>intro x s _ h;exact h
  |cons o r ih=>
   intro x s b h;have:=ih (x.1++[o],gy x.1 x.2 o) (s+1) (λy c=>b y (by simp[c])) (h.step o (b o (by simp)).1 (b o (by simp)).2)
   rwa [lC,show s+(r.length+1)=s+1+r.length by omega]
 have:=this a ([],dk0) 0 b ⟨LX Qok,by simp[Dk.MT,dk0]⟩
 rwa [zA]at this
def bu(zs:S (mu×Wx)):S Wx:=zs.flatMap λz=>[I K z.1.code,I K z.1.MG,U z.1.body,z.2,U z.1.tok]
theorem rL(a:S (mu×Wx)):(bu a).length=a.length*5:=eN 5 _ (λ_=>Q) a
theorem qn(a:S (mu×Wx))(z:mu×Wx):bu (a++[z])=bu a++[I K z.1.code,I K z.1.MG,U z.1.body,z.2,U z.1.tok]:=by simp[bu]
theorem jI:∀ (a:S (mu×Wx))(i:H)(b:i<a.length),(bu a)[i*5]?=J (I K a[i].1.code)/\(bu a)[i*5+1]?=J (I K a[i].1.MG)/\(bu a)[i*5+2]?=J (U a[i].1.body)/\(bu a)[i*5+3]?=J a[i].2/\(bu a)[i*5+4]?=J (U a[i].1.tok)
 | [],i,b=>by simp at b
 |z::a,0,b=>by simp[bu]
 |z::a,i+1,b=>by
  have ih:=jI a i (by simpa using b);have e:bu (z::a)=[I K z.1.code,I K z.1.MG,U z.1.body,z.2,U z.1.tok]++bu a:=by simp[bu]
  have c:∀j,(bu (z::a))[(i+1)*5+j]?=(bu a)[i*5+j]?:=λj=>by
   rw[e,List.getElem?_append_right (by simp;omega)];congr 1;simp;omega
  simp only[List.getElem_cons_succ];exact⟨(c 0).t ih.1,(c 1).t ih.2.1,(c 2).t ih.2.2.1,(c 3).t ih.2.2.2.1,(c 4).t ih.2.2.2.2⟩
def IN(A:H->Prop)(w:Wj)(zs:S (mu×Wx)):Prop:=∀z∈zs,cw A w z.2 z.1.items.length (aq z.1.items)
def mB(ops:S OpD)(w:Wj)(e:Ending)(w':Wj):Prop:=
 ∃ (A:H->Prop) (a:S (mu×Wx)),e=ZY (M (J ⟨w.heap.size,0,N⟩) ops.length ops.length)/\a.map (·.1)=(cW ops).al/\w'.ownsRow w.heap.size 46 5 (M (J ⟨w.heap.size,0,N⟩) ops.length ops.length) ops.length (bu a)/\IN A w' a/\(∀b,A b->w.heap.size<b)/\ay w w'
section
variable {A:Nat->Prop} {B k0:Nat} {w w':Wj} {st:St} {L:Lg}
theorem aW.apart{g0:H}(h:aW A B w k0 st L)(hsz:w.heap.size<=w'.heap.size)(a:∀b,b<w.heap.size->b≠k0->b≠g0->w'.heap[b]?=w.heap[b]?)(hA:¬A g0)(hgB:g0<B)(d:∀j,j<7->w'.cell? ⟨k0,j,N⟩=w.cell? ⟨k0,j,N⟩)(r:∀j,w'.frozen? ⟨k0,j,N⟩=w.frozen? ⟨k0,j,N⟩):aW A B w' k0 st L:=by
 have l:=h.ls.Mv;have hlow:=h.ls.low;have u:=λn p f X=>ao.Mr (λb i k=>⟨i,a b k (λe=>l (e▸i)) (λe=>hA (e▸i))⟩) n p f X
 have D:=h.time;have⟨p,c0,x⟩:=h.store.tree;have⟨v,c4,P,z1,z2,V,z4⟩:=h.ls.opened;have⟨mv,c6,q⟩:=h.ls.told;refine⟨⟨h.store.Mv,⟨p,(d 0 (by omega)).t c0,u _ _ _ x⟩,(d 1 (by omega)).t h.store.count,(d 2 (by omega)).t h.store.last,λj=>(r j).t (h.store.frozen j)⟩,⟨⟨v,(d 4 (by omega)).t c4,P,z1,bH z2 λg h1 T=>a g T (by omega) (by omega),V,λz hz=>u _ _ _ (z4 z hz)⟩,(d 5 (by omega)).t h.ls.begun,⟨mv,(d 6 (by omega)).t c6,?_⟩,λj=>(r j).t (h.ls.frozen j),h.ls.Mv,h.ls.low,λb i=>by have:=h.ls.Ng b i;omega⟩,(d 3 (by omega)).t D⟩;rcases q with q|⟨m,F,c,R,s,y,m4,G⟩
 .exact Qc q
 .have o:=(eS s).1;exact Qd ⟨m,F,c,R,(a m o (by omega) (by omega)).t s,y,m4,G⟩
theorem Eu{b:Wx}:aW (λ_=>lk) (w.heap.size+1) (w.alloc (E #[O N,I K 0,I K 0,I .u64 0,M N 0 0,I K 0,.map N,v,b] T)) w.heap.size st0 ⟨[],0,[],0⟩:=by
 have a:∀j,(w.alloc (E #[O N,I K 0,I K 0,I .u64 0,M N 0 0,I K 0,.map N,v,b] T)).cell? ⟨w.heap.size,j,N⟩=(#[O N,I K 0,I K 0,I .u64 0,M N 0 0,I K 0,.map N,v,b]:eW Wx)[j]?:=λj=>cA (w:=w) _ _ w.heap.size j Q
 have d:∀j,(w.alloc (E #[O N,I K 0,I K 0,I .u64 0,M N 0 0,I K 0,.map N,v,b] T)).frozen? ⟨w.heap.size,j,N⟩=false:=λj=>xc (w:=w) _ _ w.heap.size j Q
 refine⟨⟨λ_ h=>h.elim,⟨N,a 0,ao.nil (λ_=>Q)⟩,a 1,a 2,d⟩,⟨⟨_,a 4,[],Q,⟨by simp[bW],Qc ⟨Q,Q⟩⟩,λg h=>by simp[QX]at h,λz e=>by simp at e⟩,a 5,⟨_,a 6,Qc ⟨Q,Q⟩⟩,d,λh=>h,by omega,λ_ h=>h.elim⟩,a 3⟩
theorem Ks{c:S mu}(j:R.map (·.1)=c)(h:w.ownsRow r T 5 (M (J ⟨g,0,N⟩) n k) n (bu R)):∀i (f:i<(c.map (·.body)).length),w.cell? ⟨g,i*5+2,N⟩=J (U (c.map (·.body))[i]):=by
 subst j;intro i f;have e:i<R.length:=by simpa using f
 have:=(jI R i e).2.2.1;rw[h.cellAt _ (by have:=h.1;rw[rL]at this;omega)];simpa using this
theorem Kt{c:S mu}(j:R.map (·.1)=c)(h:w.ownsRow r T 5 (M (J ⟨g,0,N⟩) n k) n (bu R)):∀i (f:i<(c.map (·.tok)).length),w.cell? ⟨g,i*5+4,N⟩=J (U (c.map (·.tok))[i]):=by
 subst j;intro i f;have e:i<R.length:=by simpa using f
 have:=(jI R i e).2.2.2.2;rw[h.cellAt _ (by have:=h.1;rw[rL]at this;omega)];simpa using this
end
theorem BX{k0:H}{w':Wj}(h:fi A B k0 w w'){b:H}(d:w.ownsRow r T 5 (M (J ⟨g,0,N⟩) n b) n xs)(f:g<B)(e:g≠k0):w'.ownsRow r T 5 (M (J ⟨g,0,N⟩) n b) n xs:=
 fH d λg' c=>by
  simp[QX]at c;subst c;exact h.low _ f (d.lt _ Q).2 e
structure FE (Qok:Qy->Prop)(ops:S OpD)(sc:Wx)(n k0:H)(w wr:Wj)(i:H)(A:H->Prop)(zs:S (mu×Wx)):Prop where
 Og:aW A (k0+1) wr k0 (cW (ops.take i)).st (cW (ops.take i)).L
 above:∀b,A b->w.heap.size<b
 c7:wr.cell? ⟨k0,7,N⟩=J sc
 c8:wr.cell? ⟨k0,8,N⟩=J (M (J ⟨w.heap.size,0,N⟩) i n)
 own:wr.ownsRow w.heap.size 46 5 (M (J ⟨w.heap.size,0,N⟩) i n) i (bu zs)
 al:zs.map (·.1)=(cW (ops.take i)).al
 rows:IN A wr zs
 left:ay w wr
 k0:w.heap.size<k0
theorem FE.Py{Qok:Qy->Prop}{d:S OpD}{k0:H}{w':Wj}(h:FE Qok d v n k0 w wr r A R)(e:ay wr W1)(a:aX A (k0+1) k0 W1 w'):ay w w':=by
 have c:=h.left;have hk:=h.k0;have hs:=c.size;have hs1:=e.size;refine⟨a.os.t (e.os.t c.os),by have:=a.size;omega,λb j=>?_⟩;rw[a.low b (by omega) (by omega) (by omega),e.block b (by omega),c.block b j]
theorem FE.next{Qok:Qy->Prop}{c:S OpD}{k0 i:H}{w2 w3:Wj}(h:FE Qok c sc n k0 w wr i A R)(hi:i<c.length)(r:ay wr W1){sv:Wx}{X:Obj}(hp:bQ A (k0+1) k0 W1 (iH (c.take i) (cW (c.take i)) c[i]).1 (iH (c.take i) (cW (c.take i)) c[i]).2.1 (iH (c.take i) (cW (c.take i)) c[i]).2.2 (ZY (j6 (iH (c.take i) (cW (c.take i)) c[i]).2.2 sv)) w2)
  (ho:w3.ownsRow w.heap.size 46 5 (M (J ⟨w.heap.size,0,N⟩) (i+1) n) (i+1) (bu (R++[((iH (c.take i) (cW (c.take i)) c[i]).2.2,sv)]))) (y:(w2.alloc X).grownBy w3 (J w.heap.size)) (aa:w3.cell? ⟨k0,8,N⟩=J (M (J ⟨w.heap.size,0,N⟩) i n)):
  ∃A',FE Qok c sc n k0 w (w3.setCell ⟨k0,8,N⟩ (M (J ⟨w.heap.size,0,N⟩) (i+1) n)) (i+1) A' (R++[((iH (c.take i) (cW (c.take i)) c[i]).2.2,sv)]):=by
 obtain⟨T,he,A',a1,a2,F,q,hrow⟩:=hp;have L:T=sv:=by
  simp[j6]at he;exact he.s
 subst L;have P:=tS hi;have u:cW (c.take (i+1))=gy (c.take i) (cW (c.take i)) c[i]:=by rw[P,mA]
 have hk:=h.k0;have hs0:=h.left.size;have hs1:=r.size;have hs2:=q.size;have G:=y.size;simp at G;have k:∀b,b<w2.heap.size->b≠k0->b≠w.heap.size->(w3.setCell ⟨k0,8,N⟩ (M (J ⟨w.heap.size,0,N⟩) (i+1) n)).heap[b]?=w2.heap[b]?:=λb d B h2=>by
  rw[bS _ _ _ _ B,y.block b (by simp;omega) (λe=>h2 (oJ e)),bA _ _ _ d]
 have V:=F.ls.lt;have x:w3.heap[k0]?=w2.heap[k0]?:=by
  rw[y.block k0 (by simp;omega) (λe=>by have:=oJ e;omega),bA _ _ _ V]
 have o:∀b,A' b->w.heap.size<b:=λb d=>by
  rcases a2 b d with B|B
  .exact h.above b B
  .have:=h.Og.ls.lt;omega
 have hc:∀j,j≠8->(w3.setCell ⟨k0,8,N⟩ (M (J ⟨w.heap.size,0,N⟩) (i+1) n)).cell? ⟨k0,j,N⟩=w2.cell? ⟨k0,j,N⟩:=λj hj=>by
  rw[cO _ _ _ _ (bB (λe=>hj e.s))];exact cB (a:=⟨k0,j,N⟩) x
 have hf:∀j,(w3.setCell ⟨k0,8,N⟩ (M (J ⟨w.heap.size,0,N⟩) (i+1) n)).frozen? ⟨k0,j,N⟩=w2.frozen? ⟨k0,j,N⟩:=λj=>by
  rw[xv];exact fB (a:=⟨k0,j,N⟩) x
 refine⟨A',?_,o,(hc 7 (by omega)).t ((q.cells 7 (by omega)).t (r.cell h.c7)),cS _ _ _ (by rw[aa];rfl),?_,?_,?_,?_,h.k0⟩
 .rw [u];show aW A' (k0+1) _ k0 (iH _ _ _).1 (iH _ _ _).2.1;exact F.apart (g0:=w.heap.size) (by simp;omega) k (λhx=>by have:=o _ hx;omega) (by omega) (λj hj=>hc j (by omega)) hf
 .exact fH ho λg p=>by
   simp[QX]at p;subst p;exact bS _ _ _ _ (by show w.heap.size≠k0;omega)
 .rw [u,Qh,h.al];rfl
 .intro z D;have l:∀ {v:Wx} {m:H} {xs:S Wx},cw A' w2 v m xs->cw A' (w3.setCell ⟨k0,8,N⟩ (M (J ⟨w.heap.size,0,N⟩) (i+1) n)) v m xs:=λhr=>cw.Mr hr λb d f=>⟨d,k b f (λe=>F.ls.Mv (e▸d)) (λe=>by have:=o b d;omega)⟩
  rcases Qi.1 D with D|D
  .refine l (cw.Mr (h.rows z D) λb d f=>⟨a1 b d,?_⟩);rw[q.tree b d (by omega),r.block b f]
  .grind
 .refine ⟨?_,by simp;omega,λb d=>?_⟩
  .show w3.os=w.os;rw[y.os];exact q.os.t (r.os.t h.left.os)
  .have hkk:=h.Og.ls.lt;rw[k b (by omega) (by omega) (by omega),q.low b (by omega) (by omega) (by omega),r.block b (by omega),h.left.block b d]
theorem Ev(Qok:Qy->Prop)(d:OpD->Prop)(G:Wj->Prop)(c:H)(bd:wo Qok d G c)(b V ab:H)(f:S OpD)(w:Wj)(hG:∀w',ay w w'->G w')(hS:j3 w b V f)(hz:Sized f)(hn:f.length<=c)(hN:c<2199023255300)(b7:∀o∈f,qJ Qok o)(bq:∀o∈f,d o):
  Calls Yq.prog 6 #[M (J ⟨b,V,N⟩) f.length ab] w λe w'=>mB f w e w'\/Stop Qok e w':=by
 have⟨i0,bw,cv,b2,cc⟩:=sT Yq.NU;have bb:Hid (j3 w b V f/\Sized f):=⟨hS,hz⟩;have b4:Hid (∀o∈f,qJ Qok o):=b7;have bs:Hid (wo Qok d G c):=bd;have dd:Hid (∀w',ay w w'->G w'):=hG;have b8:Hid (∀o∈f,d o):=bq;have b9:Hid (∀e w',mB f w e w'↔mB f w e w'):=λ_ _=>Iff.rfl
 obtain⟨P,hP⟩:∃P:Ending->Wj->Prop,P=λe w'=>mB f w e w'\/Stop Qok e w':=⟨_,Q⟩
 have df:Hid (∀e w',mB f w e w'->P e w'):=λe w' h=>by rw[hP];exact Qc h
 have cl:Hid (∀e w',Stop Qok e w'->P e w'):=λe w' h=>by rw[hP];exact Qd h
 rw[<-hP];obtain⟨n,bn⟩:∃n,f.length=n:=⟨_,Q⟩;have HN:Hid (f.length=n):=bn;rw[bn]at hn ⊢;clear hS hz bn b7 bd hP b9 bq hG;go_enter (Yq.nq Tryz.func6),Tryz.ntmps6;go_wp2_with (at_make;refine wpList_make_own _ Q _ _ 26 Q w.heap.size 46 i0 _ 5 (Yq.u PR) bw cv b2 _ _ _ n Q Q (by omega) ?qb1 ?qb2 ?qb3 ?_)
 case qb1=>rw[cc];omega
 case qb2=>simp only[pt];omega
 case qb3=>simp
 intro w1 af s;have b0:w.heap.size<w1.heap.size:=(af.lt w.heap.size Q).2;have b1:Below w.heap.size w w1:=⟨s.os,s.tape,s.output,s.size,λk hk=>s.block k hk (by simp)⟩;go_wp2_with fail
 obtain⟨W0,be⟩:∃W0,W0=w1.alloc (E #[O N,I K 0,I K 0,I .u64 0,M N 0 0,I K 0,.map N,M (J ⟨b,V,N⟩) n ab,M (J ⟨w.heap.size,0,N⟩) 0 n] 42):=⟨_,Q⟩;have b5:Hid (FE Qok f (M (J ⟨b,V,N⟩) n ab) n w1.heap.size w W0 0 (λ_=>lk) []):=by
  rw[be];exact⟨Eu,λ_ h=>h.elim,by rw[j4];rfl,by rw[j4];rfl,af.alloc _,Q,λz hz=>by simp at hz,(ay.below b1).alloc _,b0⟩
 rw[<-be];generalize w1.heap.size=k0 at *;clear b1 af s be
 go_loopw [5,13] (λ_ s12 wr=>∃ (i:H) (A:H->Prop) (zs:S (mu×Wx)),i<=n/\s12=I K i/\FE Qok f (M (J ⟨b,V,N⟩) n ab) n k0 w wr i A zs) (λ_ s12 _=>n-(intOf s12).toNat)
 case atStart=>exact⟨0,λ_=>lk,[],QB _,Q,b5.o⟩
 case round=>
  obtain⟨i,A,zs,hin,rfl,bp⟩:=hrel;have HR:Hid (FE Qok f (M (J ⟨b,V,N⟩) n ab) n k0 w wr i A zs):=bp;clear bp b5;by_cases ct:i<n
  .have ap:i<f.length:=by rw[HN.o];exact ct
   have hb:=HR.o.left;have⟨c0,c1,c2,c3,c4,c5,c6⟩:=bb.o.1 i ap;replace c0:=hb.cell c0;replace c1:=hb.cell c1;replace c2:=hb.cell c2;replace c3:=hb.cell c3;replace c4:=hb.cell c4;replace c5:=hb.cell c5;replace c6:=hb.cell c6;have⟨a9,a8⟩:=bb.o.2 f[i] (Ql ap);have bk:=b4.o f[i] (Ql ap);have bi:=b8.o f[i] (Ql ap);have ac:HU Qok (cW (f.take i)) i:=by
    have:=oM (Qok:=Qok) (f.take i) (λo ho=>⟨b4.o o (Qo ho),(bb.o.2 o (Qo ho)).1⟩)
    rwa [tL,QH (by omega)]at this
   have ai:∀ (W1 w2 w3:Wj) (sv:Wx) (X:Obj),ay wr W1->bQ A (k0+1) k0 W1 (iH (f.take i) (cW (f.take i)) f[i]).1 (iH (f.take i) (cW (f.take i)) f[i]).2.1 (iH (f.take i) (cW (f.take i)) f[i]).2.2 (ZY (j6 (iH (f.take i) (cW (f.take i)) f[i]).2.2 sv)) w2->w3.ownsRow w.heap.size 46 5 (M (J ⟨w.heap.size,0,N⟩) (i+1) n) (i+1) (bu (zs++[((iH (f.take i) (cW (f.take i)) f[i]).2.2,sv)]))->(w2.alloc X).grownBy w3 (J w.heap.size)->w3.cell? ⟨k0,8,N⟩=J (M (J ⟨w.heap.size,0,N⟩) i n)->∃A' aj,FE Qok f (M (J ⟨b,V,N⟩) n ab) n k0 w (w3.setCell ⟨k0,8,N⟩ (M (J ⟨w.heap.size,0,N⟩) (i+1) n)) (i+1) A' aj:=
    λW1 w2 w3 sv X hl hp ho hg hc=>by
     have⟨A',h⟩:=HR.o.next ap hl hp ho hg hc
     exact⟨A',_,h⟩
   obtain⟨o,ho⟩:∃o,o=f[i]:=⟨_,Q⟩;rw[<-ho]at ai c0 c1 c2 c3 c4 c5 c6 a9 a8 bk bi;obtain⟨F,T,B,eQ,D,nn,aa⟩:=o;simp only at c0 c1 c2 c3 c4 c5 c6 a9 a8;obtain⟨W1,a7⟩:∃W1,W1=wr.alloc (E #[I K F,U T,U B,U eQ,U D,I K nn,I K aa] 30):=⟨_,Q⟩;have R:ay wr W1.drew:=by rw[a7];exact(ay.refl.alloc _).drew
   have hkl:k0<wr.heap.size:=HR.o.Og.ls.lt;have b3:W1.drew.cell? ⟨k0,8,N⟩=J (M (J ⟨w.heap.size,0,N⟩) i n):=R.cell HR.o.c8;have dj:IM W1.drew k0 w.heap.size i ((f.take i).map (·.kind)) (cW (f.take i)).MT:=by
    refine⟨by simp;omega,by rw[Dk.MT,lM];exact ac.n,ac.small,⟨b,V,n,ab,R.cell HR.o.c7,by omega,λj hj=>?_⟩,λj hj=>R.cell (Ks HR.o.al HR.o.own j hj)⟩;have dc:j<f.length:=by simp at hj;omega
    have:=(HR.o.left.t R).cell (bb.o.1 j dc).1;simpa using this
   have a0:=bs.o (HR.o.Og.left R) (by have:=R.size;omega) (λw' hd=>dd.o w' (HR.o.Py R hd)) ⟨F,T,B,eQ,D,nn,aa⟩ bi bk a9 a8 ac.i ac.t ac.l (by omega) w.heap.size n (cW (f.take i)).Mq (by rw[Dk.Mq,lM];exact ac.n) b3 (λj hj=>R.cell (Kt HR.o.al HR.o.own j hj)) ((f.take i).map (·.kind)) (cW (f.take i)).MT dj;change Calls _ _ _ _ (λe w'=>bQ A (k0+1) k0 W1.drew (iH (f.take i) (cW (f.take i)) ⟨F,T,B,eQ,D,nn,aa⟩).1 (iH (f.take i) (cW (f.take i)) ⟨F,T,B,eQ,D,nn,aa⟩).2.1 (iH (f.take i) (cW (f.take i)) ⟨F,T,B,eQ,D,nn,aa⟩).2.2 e w'\/Stop Qok e w')at a0;generalize iH (f.take i) (cW (f.take i)) ⟨F,T,B,eQ,D,nn,aa⟩=sr at a0 ai;obtain⟨st',L',ad⟩:=sr;obtain⟨q,MG,p,Mt,L⟩:=ad;simp only[aJ]at a0 ai;have bo:Hid (∀ (w2 w3:Wj) (sv:Wx) (X:Obj),bQ A (k0+1) k0 W1.drew st' L' ⟨q,MG,p,Mt,L⟩ (ZY (j6 ⟨q,MG,p,Mt,L⟩ sv)) w2->w3.ownsRow w.heap.size 46 5 (M (J ⟨w.heap.size,0,N⟩) (i+1) n) (i+1) (bu zs++[I K q,I K MG,U p,sv,U L])->(w2.alloc X).grownBy w3 (J w.heap.size)->w3.cell? ⟨k0,8,N⟩=J (M (J ⟨w.heap.size,0,N⟩) i n)->∃A' aj,FE Qok f (M (J ⟨b,V,N⟩) n ab) n k0 w (w3.setCell ⟨k0,8,N⟩ (M (J ⟨w.heap.size,0,N⟩) (i+1) n)) (i+1) A' aj):=
    λw2 w3 sv X hp ho hg hc=>ai _ w2 w3 sv X R hp (by rw[qn];exact ho) hg hc
   have ds:Hid (Calls Yq.prog 8 #[O (J ⟨k0,0,N⟩),Qa #[I K F,U T,U B,U eQ,U D,I K nn,I K aa]] W1.drew λe w'=>(∃v,e=ZY v/\∃so sn sc,v=Qa #[I K q,I K MG,U p,M so sn sc,U L]/\bQ A (k0+1) k0 W1.drew st' L' ⟨q,MG,p,Mt,L⟩ (ZY (j6 ⟨q,MG,p,Mt,L⟩ (M so sn sc))) w')\/∃ch,e=.panicked ch/\Stop Qok (.panicked ch) w'):=
    a0.m λe w' h=>by
     rcases h with⟨sv,rfl,A',a1,a2,a3,a4,a5⟩|bl
     .obtain ⟨so,sc,rfl,a6⟩:=a5;exact Qc ⟨_,Q,so,_,sc,Q,_,Q,A',a1,a2,a3,a4,so,sc,Q,a6⟩
     .obtain ⟨x,y,r,rfl,bl⟩:=bl;exact Qd ⟨_,Q,x,y,r,Q,bl⟩
   have ca:Hid (∀w2 sv,bQ A (k0+1) k0 W1.drew st' L' ⟨q,MG,p,Mt,L⟩ (ZY (j6 ⟨q,MG,p,Mt,L⟩ sv)) w2->w2.cell? ⟨k0,8,N⟩=J (M (J ⟨w.heap.size,0,N⟩) i n)/\(∀X:Obj,(w2.alloc X).ownsRow w.heap.size 46 5 (M (J ⟨w.heap.size,0,N⟩) i n) i (bu zs))/\∀ (w3:Wj) (X:Obj),(w2.alloc X).grownBy w3 (J w.heap.size)->w3.cell? ⟨k0,8,N⟩=J (M (J ⟨w.heap.size,0,N⟩) i n)/\w3.frozen? ⟨k0,8,N⟩=Z):=λw2 sv hp=>by
    obtain⟨_,-,A',-,-,hd,hw,-⟩:=hp;have hk0:=HR.o.k0;have e2:w2.cell? ⟨k0,8,N⟩=J (M (J ⟨w.heap.size,0,N⟩) i n):=(hw.cells 8 (by omega)).t b3;have b6:=hd.ls.lt;refine⟨e2,λX=>(BX hw (bH HR.o.own λg _ hg=>R.block g hg) (by omega) (by omega)).alloc X,λw3 X av=>?_⟩;have bv:w3.heap[k0]?=w2.heap[k0]?:=by
     rw[av.block k0 (by simp;omega) (λe=>by have:=oJ e;omega),bA _ _ _ b6]
    exact⟨(cB (a:=⟨k0,8,N⟩) bv).t e2,(fB (a:=⟨k0,8,N⟩) bv).t (hd.ls.frozen 8)⟩
   have cj:Hid (W1=wr.alloc (E #[I K F,U T,U B,U eQ,U D,I K nn,I K aa] 30)):=a7;have W1c:∀j,W1.drew.cell? ⟨wr.heap.size,j,N⟩=(#[I K F,U T,U B,U eQ,U D,I K nn,I K aa]:eW Wx)[j]?:=λj=>by rw[a7];exact j4 wr _ _ j
   have q0:=W1c 0;have q1:=W1c 1;have q2:=W1c 2;have q3:=W1c 3;have q4:=W1c 4;have q5:=W1c 5;have q6:=W1c 6;have da:Hid (∀ (ar:eW Wx) (wx:Wj),(callFunc 8 ar).run Yq.prog wx=.ok (.enter 8 ar) wx):=λar wx=>by go_simp
   have k8n:=HR.o.c8;clear W1c a7 hb ac ai a0 bk bi a9 a8 ho R;simp only[gA,gZ,gS]at q0 q1 q2 q3 q4 q5 q6
   go_upto_region 5 with fail
   rw[<-cj.o]
   go_region_law (first
    |(refine cP Q 8 #[Qe 3,Qe 19] #[42,30] Q #[O (J ⟨k0,0,N⟩),Qa #[I K F,U T,U B,U eQ,U D,I K nn,I K aa]] (by simp[nF]) (da.o _ _) _ _ ds.o (by intro ch w' hs;exact⟨Q,cl.o _ _ hs⟩) ?_;rintro v w2 ⟨so,sn,sc,rfl,hp⟩;obtain⟨cd,o8,f8⟩:=ca.o w2 _ hp;have k8d:(w2.alloc (E #[I K q,I K MG,U p,M so sn sc,U L] 46)).cell? ⟨k0,8,N⟩=J (M (J ⟨w.heap.size,0,N⟩) i n):=au cd _;have c9:Hid (bQ A (k0+1) k0 W1.drew st' L' ⟨q,MG,p,Mt,L⟩ (ZY (j6 ⟨q,MG,p,Mt,L⟩ (M so sn sc))) w2):=hp;have cb:Hid (∀X:Obj,(w2.alloc X).ownsRow w.heap.size 46 5 (M (J ⟨w.heap.size,0,N⟩) i n) i (bu zs)):=o8;have cr:Hid (∀ (w3:Wj) (X:Obj),(w2.alloc X).grownBy w3 (J w.heap.size)->w3.cell? ⟨k0,8,N⟩=J (M (J ⟨w.heap.size,0,N⟩) i n)/\w3.frozen? ⟨k0,8,N⟩=Z):=f8;clear hp o8 f8)
    |(refine oq Q (Qe 18) (Qe 21) 26 Q w.heap.size 46 i0 5 (Yq.u PR) bw b2 w.heap.size i n (bu zs) (by simp[nF]) (cb.o _) ⟨w2.heap.size,0,N⟩ 1 1 [I K q,I K MG,U p,M so sn sc,U L] (by simp[nF]) Q (rF _ _ _ _ _ _ _) (by intro u hu;simp at hu;rcases hu with rfl|rfl|rfl|rfl|rfl<;>rfl) (by omega) ?_;intro w3 bx av;obtain⟨cp,f8c⟩:=cr.o _ _ av;have bt:Hid (w3.ownsRow w.heap.size 46 5 (M (J ⟨w.heap.size,0,N⟩) (i+1) n) (i+1) (bu zs++[I K q,I K MG,U p,M so sn sc,U L])/\(w2.alloc (E #[I K q,I K MG,U p,M so sn sc,U L] 46)).grownBy w3 (J w.heap.size)):=⟨bx,av⟩;clear bx av))
   all_goals
    go_wp2;obtain⟨A',aj,ck⟩:=bo.o w2 w3 _ _ c9.o bt.o.1 bt.o.2 cp;exact⟨⟨i+1,A',aj,by omega,by go_num,ck⟩,by simp[intOf];omega⟩
  .have cm:i=n:=by omega
   subst cm;have HT:Hid (f.take i=f):=tO (by rw[HN.o];exact lR _);have c8:=HR.o.c8;go_wp2;refine df.o _ _ ⟨A,zs,by rw[HN.o];rfl,?_,?_,HR.o.rows,HR.o.above,HR.o.left⟩
   .have:=HR.o.al;rw[HT.o]at this;exact this
   .rw [HN.o];exact HR.o.own
end
section
open Go.RowKit
end
section
open Go.Conc Go.ConcX Go.ConcX.Gen Go.RowKit
theorem jC.left{w':Wj}{ops:S OpD}(h:jC w v ops)(c:ay w w'):jC w' v ops:=by
 obtain⟨a,f,rfl,r⟩:=h.form;refine⟨⟨a,f,Q,λd=>?_⟩,h.sized,h.len⟩;obtain⟨b,e,rfl,k⟩:=r d;refine⟨b,e,Q,λi q=>?_⟩;have⟨p,s,j,l,o,m,n⟩:=k i q;exact⟨c.cell p,c.cell s,c.cell j,c.cell l,c.cell o,c.cell m,c.cell n⟩
def Cx(_:Qy):Prop:=True
end
