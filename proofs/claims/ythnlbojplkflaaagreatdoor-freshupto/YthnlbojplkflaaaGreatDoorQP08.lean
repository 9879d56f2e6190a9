/- A part. -/
import Derived.Test.YthnlbojplkflaaaGreatDoorQP07
import Derived.Lib.AppendStr
import Derived.OwnWalkIn
import Derived.Shelf.SlSortCmp.WholeK
import Derived.Shelf.SlSortCmp.NoneTotal
import Derived.Deep.QuietTactic
import Derived.BigQuiet
set_option maxHeartbeats 4000000
set_option maxRecDepth 100000
open _root_ renaming ByteArray->dT,Int->ey,congrArg->eV,Array->eW,Option->gI,UInt8->gL,if_pos->kr,if_neg->lj,getElem!_pos->lk,False->nF,absurd->n8
open Go.Act renaming eval->pt,put->sq
open Go renaming maxLen->sT,bodyPost_ret->tb,info_parts->tn,wpIn_wide->uc,callFunc->vf,TypeInfo->vx,grownCap->wz,execOp->xb,bytesRow->xc
open Go.Region renaming wanted->xt
open Exists renaming intro->xv
open Go.World renaming cell?->yz,frozen?_alloc_at->Rj,frozen?->Rk,frozen?_setCell->Rl,ownsRow_nil->Rm,alloc->Rn
open Go.Proofs.Tryz renaming underlying125->Ro,results11->Rp,underlying9->Rq,ntmps11->Rr,underlying5->Rt,func11->Ru,results58->Rv,ntmps108->Rw,ntmps23->Rx,ntmps83->Ry,underlying126->Rz,func108->RB,underlying30->RE,func23->RF,func83->RG,f23->RJ,f29->RN,ntmps56->RQ,f55->RU,func56->RY
open Go.Lib renaming strCells->RZ,run_append_own_string->R3,wpList_append_run->R4,bitLen->R5
open List renaming map_append->R6,getElem?_eq_none->R7,mem_append->R8,mem_singleton->R9,length_eq_zero_iff->Sa,getElem_mem->Sb,mem_or_eq_of_mem_set->Sc,range->Sd,mem_of_mem_take->Se,map_cons->Sf,map_nil->Sg,ext_getElem?->Sh,take_length->Si,sum_append->Sj,mem_map->Sk
open Go.Addr renaming add_lit->Sl
open Go.IntKind renaming bits->Sm,signed->Sn,wrap->Sp
open Go.Value renaming ownBlock->Sq,slice->Su,int->Sv,string->Sx
open Array renaming size_modify->Sy,getElem?_append_left->Sz,toList_inj->SB,size_push->SC
open Nat renaming pow_le_pow_right->SD,mul_le_mul_right->SE,reduceAdd->SG,min_eq_left->SH
open Go.ByteArray renaming toList_eq->SI
open Go.Instr renaming build->SJ
open Go.Code renaming wpIn->SK,region->SM
open List.range renaming loop->SN
open UInt8 renaming ofNat->SO
open ByteArray renaming ext->SQ,size->SU
open Int renaming emod_lt_of_pos->SX,emod_nonneg->SY,le_trans->SZ
open Go renaming World->Wj,Value->Wx,TypeId->Ww,Addr->Wu,undef->Wo
namespace Go.Proofs.Qw
open _root_ renaming rfl->Q
open _root_ renaming Nat->H,List->S
open Option renaming none->N,some->J
open Bool renaming true->Y,false->Z
open Value renaming int->I,string->U,slice->M,pointer->O,bool->C,agg->Rd,tuple->Re
open IntKind renaming i64->K
open Obj renaming cells->E
open Ending renaming returned->Rc
open Or renaming inl->Rf,inr->Rg
open Operand renaming tmp->Rh
variable {a u:Act}{B V g k n r y:H}{W W1 w wr:Wj}{s s':dT}{b c:Exit->Act->Wj->Prop}{l:ey}{F q:eW Oper}{o:Oper}{sc v v':Wx}{A:H->Prop}{xs:S Wx}{T:Ww}{L:S (dT×Ver)}{x:St×ey×dT}
section
open Go.Conc Go.ConcX Go.ConcX.Gen Go.RowKit
theorem Cz(c:ey)w:(SJ 53 #[(0,I K c)]).run Yq.prog w=.ok (Rd #[I K c,I K 0,U ⟨#[]⟩,M N 0 0,U ⟨#[]⟩]) w:=by kernel_rfl
theorem CA(v:ey)(b:gI Wu)a c w:(SJ 53 #[(1,I K v),(3,M b a c)]).run Yq.prog w=.ok (Rd #[I K 0,I K v,U ⟨#[]⟩,M b a c,U ⟨#[]⟩]) w:=by kernel_rfl
theorem nN(c:ey)(b:gI Wu)a d(t:dT)w:(SJ 53 #[(0,I K c),(3,M b a d),(4,U t)]).run Yq.prog w=.ok (Rd #[I K c,I K 0,U ⟨#[]⟩,M b a d,U t]) w:=by kernel_rfl
section
variable {A:Nat->Prop} {B k0:Nat} {w:Wj} {st:St} {L:Lg}
def dI(w:Wj)(o:OpD):Wj:=(w.alloc (E #[I K o.kind,U o.key,U o.body,U o.fe,U o.past,I K o.n,I K o.src] 37)).alloc (E #[I K 0,I K 0,U ⟨#[]⟩,M N 0 0,U ⟨#[]⟩] 53)
theorem bg o:ax w (dI w o):=(ax.refl.alloc _).alloc _
theorem aW o:(dI w o).heap.size=w.heap.size+2:=by simp[dI]
theorem iw o:(dI w o).heap[w.heap.size+1]?=J (E #[I K 0,I K 0,U ⟨#[]⟩,M N 0 0,U ⟨#[]⟩] 53):=by
 have:=aN (w.alloc (E #[I K o.kind,U o.key,U o.body,U o.fe,U o.past,I K o.n,I K o.src] 37)) (E #[I K 0,I K 0,U ⟨#[]⟩,M N 0 0,U ⟨#[]⟩] 53)
 rwa [World.size_alloc]at this
theorem gX o(h:eP A B w k0 L):∀g,ma k0 (dI w o) g->g<w.heap.size:=λg d=>by
 obtain⟨v,a,e⟩:=d;obtain⟨v4,c,zs,z1,b,-⟩:=h.opened;rw[(bg o).cell c]at a;cases a;exact(b.lt g e).2
theorem mS o(h:eP A B w k0 L){a}(b:FrC k0 (dI w o) a):a.heap[w.heap.size+1]?=J (E #[I K 0,I K 0,U ⟨#[]⟩,M N 0 0,U ⟨#[]⟩] 53):=by
 have hlt:=h.lt;rw[b.Nx _ ⟨_,iw o,Q⟩ (by omega) (λc=>by have:=gX o h _ c;omega)];exact iw o
def Box5(w1:Wj)(r:H):Prop:=
  (w1.cell? ⟨r,0,N⟩=J (I K 0)/\w1.cell? ⟨r,1,N⟩=J (I K 0)/\w1.cell? ⟨r,2,N⟩=J (U ⟨#[]⟩)/\w1.cell? ⟨r,3,N⟩=J (M N 0 0)/\w1.cell? ⟨r,4,N⟩=J (U ⟨#[]⟩)) /\
  (w1.frozen? ⟨r,0,N⟩=Z/\w1.frozen? ⟨r,1,N⟩=Z/\w1.frozen? ⟨r,2,N⟩=Z/\w1.frozen? ⟨r,3,N⟩=Z/\w1.frozen? ⟨r,4,N⟩=Z)
theorem box5{a}(e:a.heap[r]?=J (E #[I K 0,I K 0,U ⟨#[]⟩,M N 0 0,U ⟨#[]⟩] 53)):Box5 a r:=by
 refine⟨⟨?_,?_,?_,?_,?_⟩,?_,?_,?_,?_,?_⟩<;>simp[yz,Rk,e]
theorem zk(h:bh A B w k0 st L)(hB:B<=w.heap.size)(p:L.opened.length<=3)(t:∀x∈L.opened,0<=x.left/\x.left<=10)o(T:o.kind=9):
  Calls Yq.prog 11 #[O (J ⟨k0,0,N⟩),aL o] w (cf A B k0 w st (fI L o.n).1 ⟨(fI L o.n).2,0,⟨#[]⟩,[],⟨#[]⟩⟩):=by
 have HT:=Lb (dI w o) (h.left (bg o)) p o.n t;have q:∀a,FrC k0 (dI w o) a->_:=λa z=>box5 (mS o h.ls z)
 have HF:Hid (∀a f u l k j,bh A B a k0 st (fI L o.n).1->fS A B k0 (dI w o) a->FrC k0 (dI w o) a->cf A B k0 w st (fI L o.n).1 ⟨(fI L o.n).2,0,⟨#[]⟩,[],⟨#[]⟩⟩ (Rc (kJ ⟨(fI L o.n).2,0,⟨#[]⟩,[],⟨#[]⟩⟩ (M N 0 0))) (put5 a (w.heap.size+1) f u l k j)):=λa f u l k j s i d=>by
  have⟨V,e2,e3,e4⟩:=nM (A':=A) (sv:=M N 0 0) (NA:=[]) (r:=w.heap.size+1) (bg o) h.ls.lt hB (by omega) (by rw[aW];omega) ⟨_,iw o,Q⟩ (λ_ h=>h) (λb G=>Rf G) h.ls.Of s i d (gX o h.ls) .nil f u l k j;exact⟨_,Q,A,λ_ h=>h,V,e2,e3,e4⟩
 generalize hR:(fI L o.n)=R at *;obtain⟨L',c⟩:=R;obtain⟨kind,key,body,fe,past,n,src⟩:=o;subst T;unfold aL;go_enter (Yq.nq Ru),Rr;go_wp2_with (go_at_call 24;refine HT.m ?_;rintro e a ⟨rfl,s,i,d⟩;have⟨⟨X,y,D,P,F⟩,f0,f1,f2,f3,f4⟩:=q a d)
 exact tb (v:=kJ ⟨c,0,⟨#[]⟩,[],⟨#[]⟩⟩ (M N 0 0)) (by simp[results,Rp,go_sem,kJ,X,y,D,P,F]) Q (HF.o a _ _ _ _ _ s i d)
end
section
variable {A:Nat->Prop} {B k0:Nat} {w W w2:Wj} {st st':St} {L L':Lg} {o:OpD} {NA:List ItD} {sv:Wx}
theorem IC(h:eP A B w k0 L)(b:ax (dI w o) W)(a:bZ A B k0 W L' NA sv w2):w2.heap[w.heap.size+1]?=J (E #[I K 0,I K 0,U ⟨#[]⟩,M N 0 0,U ⟨#[]⟩] 53):=by
 obtain⟨A',-,-,-,-,-,c⟩:=a;have hlt:=h.lt;exact mS o h ((FrC.left (by rw[aW];omega) b).t c)
theorem us L(f:S gL->S Ver)q(n:ey):(fN L f q n).1.tm=L.tm:=by
 unfold fN
 grind
theorem AR L(a:dT):(dY L a).1.tm=L.tm:=by
 unfold dY
 grind
theorem ID(h:bh A B w k0 st L)(G:B<=w.heap.size)(d:ax (dI w o) W)(s:bZ A B k0 W L' NA sv w2)(a:iU)(z:a.items=NA)(u:L'.tm=L.tm)l q p n m:cf A B k0 w st L' a (Rc (kJ a sv)) (put5 w2 (w.heap.size+1) l q p n m):=by
 subst z;obtain⟨A',i,D,P,k,R,v⟩:=s;have e:=h.ls.lt;have j:=d.size;have c:k0<(dI w o).heap.size:=by rw[aW];omega
 have⟨x,T,y,F⟩:=nM (A':=A') (sv:=sv) (NA:=a.items) (r:=w.heap.size+1) (bg o) e G (by omega) (by rw[aW];omega) ⟨_,iw o,Q⟩ i (λb f=>(D b f).imp id (by omega)) h.ls.Of ((h.left ((bg o).t d)).step k i P u) ((fS.left c d).t k.OA) ((FrC.left c d).t v) (gX o h.ls) (R.Nx (by rw[aW]at j;omega) λ_ f _=>⟨f,Q⟩) l q p n m;exact⟨_,Q,A',i,x,T,y,F⟩
theorem EW(h:bh A B w k0 st L)(hB:B<=w.heap.size)(q:ax (dI w o) W)(hp:bZ A B k0 W L' NA sv w2)(a:iU)(ha:a.items=NA)(ht:L'.tm=L.tm)c(hb1:w.heap.size+2<=c)(hb2:c<W.heap.size)(n:dA W c)G V x0 x1 x2 x3 x4:cf A B k0 w st L' a (Rc (kJ a sv)) (put5 ((w2.setCell ⟨c,0,N⟩ G).setCell ⟨c,1,N⟩ V) (w.heap.size+1) x0 x1 x2 x3 x4):=by
 subst ha;obtain⟨A',P,a2,a3,a4,a5,X⟩:=hp;have R:=h.ls.lt;have aa:=q.size;have p:k0<(dI w o).heap.size:=by rw[aW];omega
 have i:¬A' c:=λf=>by
  rcases a2 c f with f|f;have:=h.ls.Of c f;omega;omega
 have u:¬ma k0 W c:=by
  rintro⟨v,F,T⟩;obtain⟨v4,c4,zs,z1,z2,-⟩:=h.ls.opened;rw[((bg o).t q).cell c4]at F;cases F;have:=(z2.lt c T).2;omega
 have l:¬ma k0 w2 c:=λf=>by
  rcases X.own c f with f|f
  grind
  omega
 have y:=n.same (X.Nx c n (by omega) u);have D:¬ma k0 (w2.setCell ⟨c,0,N⟩ G) c:=by
  exactλ⟨v,F,T⟩=>l ⟨v,(cB (a:=⟨k0,4,N⟩) (Ra (show k0≠c by omega))).s.t F,T⟩
 have d:c≠k0:=by omega
 have z:∀b,b≠c->((w2.setCell ⟨c,0,N⟩ G).setCell ⟨c,1,N⟩ V).heap[b]?=w2.heap[b]?:=λb m=>by rw[Ra m,Ra m]
 have k:=λf=>i (P c f)
 have⟨e1,e2,e3,e4⟩:=nM (A':=A') (sv:=sv) (NA:=a.items) (r:=w.heap.size+1) (bg o) R hB (by omega) (by rw[aW];omega) ⟨_,iw o,Q⟩ P (λb m=>(a2 b m).imp id (by omega)) h.ls.Of ((((h.left ((bg o).t q)).step a4 P a3 ht).other (j:=0) (x:=G) d i y l (by omega)).other (j:=1) (x:=V) d i y.set D (by omega)) ((((fS.left p q).t a4.OA).t (bf.other d k (by omega)).OA).t (bf.other d k (by omega)).OA) ((((FrC.left p q).t X).fresh (by rw[aW];omega) d).fresh (by rw[aW];omega) d) (gX o h.ls) (a5.Nx (by rw[aW]at aa;omega) λb m _=>⟨m,z b (λe=>i (e▸m))⟩) x0 x1 x2 x3 x4;exact⟨_,Q,A',P,e1,e2,e3,e4⟩
end
def eA(Ny:S dT)(src:ey)(body:dT):dT:=
 if 0<=src/\src<Ny.length then(if Ny[src.toNat]?.getD ⟨#[]⟩=⟨#[]⟩then body else Ny[src.toNat]?.getD ⟨#[]⟩)else body
noncomputable def zl:eW Oper:=qh (i8 (i8 (dr (cD RJ))))
noncomputable def zm:eW Oper:=qh (i8 (i8 (dr (cD RN))))
def Nt(ops:eW Oper)(s so j i1 i2:H)(lv:Wx)(b:Bool):Prop:=
 (ops=zl/\j=8/\i1=so+s*5/\i2=so+s*5+4/\∃t:dT,lv=U t/\b=!(t.toList == []))\/(ops=zm/\j=7/\i1=so+s*7/\i2=so+s*7/\∃t:ey,lv=I K t/\b=(t==11))
theorem AS{id m}{k:Exit->Act->Wj->Prop}{P}{k0 z cp s so j i1 i2}{r:ey}{ops:eW Oper}{lv}{b}(hs:P.tmps.size=32)(e0:P.eval (Rh 0)=ptr k0)(e3:P.eval (Rh 3)=ptr y)(c6:W.cell? ⟨y,6,N⟩=J (I K r))(D:Nt ops s so j i1 i2 lv b)(c8:W.cell? ⟨k0,j,N⟩=J (M (J ⟨z,so,N⟩) n cp))(aa:r=s)(ab:s<n)(ct:W.cell? ⟨z,i2,N⟩=J lv)
  (hA:Calls Yq.prog 52 #[ptr k0,I K r] {W with drawn:=W.drawn+1} λe w'=>e=Rc (C Y)/\w'={W with drawn:=W.drawn+1})
  (B:∀a,a.tmps.size=32->a.defers=P.defers->(∀t,t<5->a.eval (Rh t)=P.eval (Rh t))->a.eval (Rh 20)=C b->k .normal a {W with drawn:=W.drawn+1}):
  (SM id ops Y).wpIn (wf N) m Yq.prog k P W:=by
 obtain⟨W1,F⟩:∃W1:Wj,W1={W with drawn:=W.drawn+1}:=⟨_,Q⟩;rw[<-F]at hA B;have G:∀a,W1.cell? a=W.cell? a:=λa=>by rw[F];rfl
 have d6:W1.cell? ⟨y,6,N⟩=J (I K r):=(G _).t c6;have ad:W1.cell? ⟨y,6,N⟩=J (I K (s:ey)):=by rw[d6,aa]
 obtain⟨o4,ac,af⟩:∃o4,ops[4]?=J o4/\o4.dst=J 9:=by rcases D with⟨rfl,-⟩|⟨rfl,-⟩<;>exact⟨_,Q,Q⟩
 rcases D with⟨rfl,hj,T,h2,t,R,hb⟩|⟨rfl,hj,T,h2,t,R,hb⟩;all_goals
  refine ir (ro:=N) (a0:=P) (w0:=W) mixed 5 16 (λi=>match i with| 0=>ptr k0| 1=>O (J ⟨y,6,N⟩)| 2=>I K r| 3=>C Y| 4=>C Y| 5=>ptr k0| 6=>ptr k0| 7=>O (J ⟨k0,j,N⟩)| 8=>M (J ⟨z,so,N⟩) n cp| 9=>O (J ⟨y,6,N⟩)| 10=>I K (s:ey)| 11=>O (J ⟨z,i1,N⟩)| 12=>O (J ⟨z,i2,N⟩)| 13=>lv|_=>C b) (λ_ w=>w=W1) (by omega) (by rfl) (by rfl) (λlisted a w i o hi q V l hcl=>?_) (λa w T h2 h3 h4 h5=>?_) (by rw[F])
  rotate_left
  obtain⟨d,-,rfl⟩:=h5;exact B a (T.t hs) h2 h3 (h4 15 (by omega) (by decide));obtain rfl:w=W1:=V.world;have hlt:i<16:=(dn hi).1;have HY:=λh=>kC (a:=a) (x:=Y) ac af (by rw[V.size,hs];omega) (V.new 4 (by omega) h)
  rcases i with - | - | - | - | - | - | - | - | - | - | - | - | - | - | - | - |i;all_goals first|omega|(have L:=q;dsimp only[zl,zm,cD,RJ,RN,i8,dr,qh,Option.getD]at L;simp only[gA,gS,gZ,Option.some.injEq,SG,zA]at L;subst L)
  have p:a.eval (Rh 0)=ptr k0:=(V.old 0 (by omega)).t e0;refine ay q Q (λc h=>by cases h) (v:=ptr k0) (w':=w) (by generalize a.eval=u at p ⊢;simp[go_sem,p]) ⟨_,Q,λ_=>Q,V.world⟩;have p:a.eval (Rh 3)=ptr y:=(V.old 3 (by omega)).t e3;refine ay q Q (λc h=>by cases h) (v:=O (J ⟨y,6,N⟩)) (w':=w) (by generalize a.eval=u at p ⊢;simp[go_sem,p,ptr]) ⟨_,Q,λ_=>Q,V.world⟩;have p:a.eval (Rh 6)=O (J ⟨y,6,N⟩):=V.new 1 (by omega) (l ⟨1,.data⟩ (by simp) Q);refine ay q Q (λc h=>by cases h) (v:=I K r) (w':=w) (by generalize a.eval=u at p ⊢;simp[go_sem,p,d6]) ⟨_,Q,λ_=>Q,V.world⟩;have p:a.eval (Rh 5)=ptr k0:=V.new 0 (by omega) (l ⟨0,.data⟩ (by simp) Q);have A:a.eval (Rh 7)=I K r:=V.new 2 (by omega) (l ⟨2,.data⟩ (by simp) Q);refine jQ (f:=52) (args:=#[ptr k0,I K r]) (w':=w) q Q (λc h=>by cases h) (by have qf:=hfun a Q 52;generalize a.eval=u at p A qf ⊢;simp[go_sem,p,A,qf]) (hA.m ?_);rintro e X ⟨rfl,rfl⟩;exact⟨_,Q,_,Q,λ_=>Q,V.world⟩;have p:a.eval (Rh 8)=C true:=V.new 3 (by omega) (l ⟨3,.data⟩ (by simp) Q);refine ay q Q (λc h=>by cases h) (v:=C Y) (w':=w) (by generalize a.eval=u at p ⊢;simp[go_sem,p]) ⟨_,Q,λ_=>Q,V.world⟩;have p:a.eval (Rh 0)=ptr k0:=(V.old 0 (by omega)).t e0;refine ay q (by simp[xt,HY (l ⟨4,.guard⟩ (by simp) Q)]) (λc h=>by cases h) (v:=ptr k0) (w':=w) (by generalize a.eval=u at p ⊢;simp[go_sem,p]) ⟨_,Q,λ_=>Q,V.world⟩;have p:a.eval (Rh 10)=ptr k0:=V.new 5 (by omega) (l ⟨5,.data⟩ (by simp) Q);refine ay q (by simp[xt,HY (l ⟨4,.guard⟩ (by simp) Q)]) (λc h=>by cases h) (v:=ptr k0) (w':=w) (by generalize a.eval=u at p ⊢;simp[go_sem,p,ptr]) ⟨_,Q,λ_=>Q,V.world⟩;have p:a.eval (Rh 11)=ptr k0:=V.new 6 (by omega) (l ⟨6,.data⟩ (by simp) Q);refine ay q (by simp[xt,HY (l ⟨4,.guard⟩ (by simp) Q)]) (λc h=>by cases h) (v:=O (J ⟨k0,j,N⟩)) (w':=w) (by generalize a.eval=u at p ⊢;simp[go_sem,p,ptr,hj]) ⟨_,Q,λ_=>Q,V.world⟩;have p:a.eval (Rh 12)=O (J ⟨k0,j,N⟩):=V.new 7 (by omega) (l ⟨7,.data⟩ (by simp) Q);refine ay q (by simp[xt,HY (l ⟨4,.guard⟩ (by simp) Q)]) (λc h=>by cases h) (v:=M (J ⟨z,so,N⟩) n cp) (w':=w) (by generalize a.eval=u at p ⊢;simp[go_sem,p,((G _).t c8)]) ⟨_,Q,λ_=>Q,V.world⟩;have p:a.eval (Rh 3)=ptr y:=(V.old 3 (by omega)).t e3;refine ay q (by simp[xt,HY (l ⟨4,.guard⟩ (by simp) Q)]) (λc h=>by cases h) (v:=O (J ⟨y,6,N⟩)) (w':=w) (by generalize a.eval=u at p ⊢;simp[go_sem,p,ptr]) ⟨_,Q,λ_=>Q,V.world⟩;have p:a.eval (Rh 14)=O (J ⟨y,6,N⟩):=V.new 9 (by omega) (l ⟨9,.data⟩ (by simp) Q);refine ay q (by simp[xt,HY (l ⟨4,.guard⟩ (by simp) Q)]) (λc h=>by cases h) (v:=I K (s:ey)) (w':=w) (by generalize a.eval=u at p ⊢;simp[go_sem,p,ad]) ⟨_,Q,λ_=>Q,V.world⟩;have p:a.eval (Rh 13)=M (J ⟨z,so,N⟩) n cp:=V.new 8 (by omega) (l ⟨8,.data⟩ (by simp) Q);have A:a.eval (Rh 15)=I K (s:ey):=V.new 10 (by omega) (l ⟨10,.data⟩ (by simp) Q);refine ay q (by simp[xt,HY (l ⟨4,.guard⟩ (by simp) Q)]) (λc h=>by cases h) (v:=O (J ⟨z,i1,N⟩)) (w':=w) (by generalize a.eval=u at p A ⊢;simp[go_sem,p,A,ab,T]) ⟨_,Q,λ_=>Q,V.world⟩;have p:a.eval (Rh 16)=O (J ⟨z,i1,N⟩):=V.new 11 (by omega) (l ⟨11,.data⟩ (by simp) Q);refine ay q (by simp[xt,HY (l ⟨4,.guard⟩ (by simp) Q)]) (λc h=>by cases h) (v:=O (J ⟨z,i2,N⟩)) (w':=w) (by generalize a.eval=u at p ⊢;simp[go_sem,p,T,h2]) ⟨_,Q,λ_=>Q,V.world⟩;have p:a.eval (Rh 17)=O (J ⟨z,i2,N⟩):=V.new 12 (by omega) (l ⟨12,.data⟩ (by simp) Q);refine ay q (by simp[xt,HY (l ⟨4,.guard⟩ (by simp) Q)]) (λc h=>by cases h) (v:=lv) (w':=w) (by generalize a.eval=u at p ⊢;simp[go_sem,p,(G _).t ct,R]) ⟨_,Q,λ_=>Q,V.world⟩;have p:a.eval (Rh 18)=lv:=V.new 13 (by omega) (l ⟨13,.data⟩ (by simp) Q);have A:∀c,a.eval (.const c)=c:=λ_=>Q
  refine ay q (by simp[xt,HY (l ⟨4,.guard⟩ (by simp) Q)]) (λc h=>by cases h) (v:=C b) (w':=w) (by generalize a.eval=u at p A ⊢;simp[go_sem,p,A,R,hb]) ⟨_,Q,λ_=>Q,V.world⟩;have p:a.eval (Rh 9)=C true:=V.new 4 (by omega) (l ⟨4,.data⟩ (by simp) Q);have A:a.eval (Rh 19)=C b:=V.new 14 (by omega) (l ⟨14,.data⟩ (by simp) Q);have q2:a.eval (.const (C Z))=C false:=rfl;refine ay q Q (λc h=>by cases h) (v:=C b) (w':=w) (by generalize a.eval=u at p A q2 ⊢;simp[go_sem,p,A,q2]) ⟨_,Q,λ_=>Q,V.world⟩
theorem Mh{id m}{k0}{ops:eW Oper}(L:u.tmps.size=32)(e0:u.eval (Rh 0)=ptr k0)(e3:u.eval (Rh 3)=ptr y)(c6:W.cell? ⟨y,6,N⟩=J (I K l))(q:ops=zl\/ops=zm)
  (R:Calls Yq.prog 52 #[ptr k0,I K l] {W with drawn:=W.drawn+1} λe w'=>e=Rc (C Z)/\w'={W with drawn:=W.drawn+1})
  (p:∀a,a.tmps.size=32->a.defers=u.defers->(∀t,t<5->a.eval (Rh t)=u.eval (Rh t))->a.eval (Rh 20)=C Z->b .normal a {W with drawn:=W.drawn+1}):
  (SM id ops Y).wpIn (wf N) m Yq.prog b u W:=by
 obtain⟨W1,s⟩:∃W1:Wj,W1={W with drawn:=W.drawn+1}:=⟨_,Q⟩;rw[<-s]at R p;have A:∀a,W1.cell? a=W.cell? a:=λa=>by rw[s];rfl
 obtain⟨B,F,D⟩:∃B,ops[4]?=J B/\B.dst=J 9:=by rcases q with rfl|rfl<;>exact⟨_,Q,Q⟩
 rcases q with rfl|rfl;all_goals
  refine ir (ro:=N) (a0:=u) (w0:=W) mixed 5 16 (λi=>match i with| 0=>ptr k0| 1=>O (J ⟨y,6,N⟩)| 2=>I K l| 3=>C Z| 4=>C Z| 15=>C Z|_=>Wo) (λ_ w=>w=W1) (by omega) (by rfl) (by rfl) (λlisted a w i o hi n V j hcl=>?_) (λa w h1 h2 h3 h4 h5=>?_) (by rw[s])
  rotate_left
  obtain⟨d,-,rfl⟩:=h5;exact p a (h1.t L) h2 h3 (h4 15 (by omega) (by decide));obtain rfl:w=W1:=V.world;have hlt:i<16:=(dn hi).1;rcases i with - | - | - | - | - | - | - | - | - | - | - | - | - | - | - | - |i;all_goals first|omega|(have r:=n;dsimp only[zl,zm,cD,RJ,RN,i8,dr,qh,Option.getD]at r;simp only[gA,gS,gZ,Option.some.injEq,SG,zA]at r;subst r)
  have k:a.eval (Rh 0)=ptr k0:=(V.old 0 (by omega)).t e0;refine ay n Q (λc h=>by cases h) (v:=ptr k0) (w':=w) (by generalize a.eval=z at k ⊢;simp[go_sem,k]) ⟨_,Q,λ_=>Q,V.world⟩;have k:a.eval (Rh 3)=ptr y:=(V.old 3 (by omega)).t e3;refine ay n Q (λc h=>by cases h) (v:=O (J ⟨y,6,N⟩)) (w':=w) (by generalize a.eval=z at k ⊢;simp[go_sem,k,ptr]) ⟨_,Q,λ_=>Q,V.world⟩;have k:a.eval (Rh 6)=O (J ⟨y,6,N⟩):=V.new 1 (by omega) (j ⟨1,.data⟩ (by simp) Q);refine ay n Q (λc h=>by cases h) (v:=I K l) (w':=w) (by generalize a.eval=z at k ⊢;simp[go_sem,k,((A _).t c6)]) ⟨_,Q,λ_=>Q,V.world⟩;have k:a.eval (Rh 5)=ptr k0:=V.new 0 (by omega) (j ⟨0,.data⟩ (by simp) Q);have P:a.eval (Rh 7)=I K l:=V.new 2 (by omega) (j ⟨2,.data⟩ (by simp) Q);refine jQ (f:=52) (args:=#[ptr k0,I K l]) (w':=w) n Q (λc h=>by cases h) (by have G:=hfun a Q 52;generalize a.eval=z at k P G ⊢;simp[go_sem,k,P,G]) (R.m ?_);rintro e X ⟨rfl,rfl⟩;exact⟨_,Q,_,Q,λ_=>Q,V.world⟩;have k:a.eval (Rh 8)=C false:=V.new 3 (by omega) (j ⟨3,.data⟩ (by simp) Q);refine ay n Q (λc h=>by cases h) (v:=C Z) (w':=w) (by generalize a.eval=z at k ⊢;simp[go_sem,k]) ⟨_,Q,λ_=>Q,V.world⟩
  iterate 10 exact vU n (by simp[xt,(λh=>kC (a:=a) (x:=Z) F D (by rw[V.size,L];omega) (V.new 4 (by omega) h)) (j ⟨4,.guard⟩ (by simp) Q)]) ⟨_,Q,λ_=>Q,V.world⟩
  have k:a.eval (Rh 9)=C false:=V.new 4 (by omega) (j ⟨4,.data⟩ (by simp) Q);have T:a.eval (.const (C Z))=C false:=rfl;refine ay n Q (λc h=>by cases h) (v:=C Z) (w':=w) (by generalize a.eval=z at k T ⊢;simp[go_sem,k,T]) ⟨_,Q,λ_=>Q,V.world⟩
theorem IE(k0 T c:H)(Ny:S dT)(o:OpD)(w:Wj)(hn:Ny.length<=2199023255552)(P:w.cell? ⟨k0,8,N⟩=J (M (J ⟨T,0,N⟩) Ny.length c))(ht:∀s (X:s<Ny.length),w.cell? ⟨T,s*5+4,N⟩=J (U Ny[s])):
  Calls Yq.prog 23 #[O (J ⟨k0,0,N⟩),aL o] w λe w'=>e=Rc (U (eA Ny o.src o.body))/\Below w.heap.size w w':=by
 obtain⟨F,V,f,fe,A,n,d⟩:=o;have hlt:=bC w _ P;obtain⟨W,R⟩:∃W,W=w.alloc (E #[I K F,U V,U f,U fe,U A,I K n,I K d] 37):=⟨_,Q⟩;have h:Below w.heap.size w W:=by rw[R];exact(Q9).alloc Q0 _
 have y:Below w.heap.size w {W with drawn:=W.drawn+1}:=⟨h.os,h.tape,h.output,h.size,h.block⟩;have d8:=ag h P;have HA:=AP k0 (J ⟨T,0,N⟩) Ny.length c d {W with drawn:=W.drawn+1} hn (ag y P);have v:W.heap[w.heap.size]?=J (E #[I K F,U V,U f,U fe,U A,I K n,I K d] 37):=by rw[R];exact aN _ _
 have d6:W.cell? ⟨w.heap.size,6,N⟩=J (I K d):=by simp[yz,v]
 have HB:=eM h d8 d6;have HW:=aq R;have ac:({W with drawn:=W.drawn+1}:Wj).cell? ⟨w.heap.size,2,N⟩=J (U f):=by
  show W.cell? _=_
  simp_all
 have ad:({W with drawn:=W.drawn+1}:Wj).cell? ⟨w.heap.size,6,N⟩=J (I K d):=d6;have af:({W with drawn:=W.drawn+1}:Wj).cell? ⟨k0,8,N⟩=J (M (J ⟨T,0,N⟩) Ny.length c):=d8;obtain⟨D,L⟩:∃D:Wj,D={W with drawn:=W.drawn+1}:=⟨_,Q⟩;have i:Hid (D={W with drawn:=W.drawn+1}/\Below w.heap.size w D):=⟨L,by rw[L];exact y⟩;rw[<-L]at ac ad af HA;unfold aL;simp only;by_cases q:0<=d/\d<Ny.length
 .have hd:decide (0<=d/\d<Ny.length)=true:=by simp[q]
  rw[hd]at HA;obtain⟨s,rfl⟩:∃s:H,d=s:=⟨d.toNat,by omega⟩;have X:s<Ny.length:=by omega
  have c4:=ht s X;have ct:=ag h c4;have ctD:D.cell? ⟨T,s*5+4,N⟩=J (U Ny[s]):=by rw[L];exact ct
  have e0:Ny[(s:ey).toNat]?.getD ⟨#[]⟩=Ny[s]:=by simp[X]
  have hR:eA Ny s f=if Ny[s]=⟨#[]⟩then f else Ny[s]:=by rw[eA,kr q,e0]
  rw[hR];generalize Ny[s]=t at *;clear R h y d8 d6 v ht P c4 L;by_cases x:t=⟨#[]⟩
  .have G:(!(t.toList == []))=false:=by rw[x];simp
   rw[kr x];go_enter (Yq.nq RF),Rx
   go_upto_region 1 with fail
   rename_i K1 aa K2 k;rw[<-HW.o];refine uc.1 (show SK (wf N) 0 _ _ _ _ _ from AS (id:=1) (m:=0) (s:=s) (so:=0) (j:=8) (i1:=0+s*5) (i2:=0+s*5+4) (lv:=U t) (b:=!(t.toList == [])) (ops:=zl) Q Q Q HB.o.2.2 (Rf ⟨Q,Q,Q,Q,t,Q,Q⟩) HB.o.2.1 Q X (by rw[zA];exact ct) (by rw[<-i.o.1];exact HA) (λa B l r p=>?_));rw[<-i.o.1];have l:=l;have q:=jS a 32 B;rw[G]at p;have z:=r 0 (by decide);have u:=r 3 (by decide);refine k _ _ ?_;rw[q,l];clear q B l r;generalize a.eval=ρ at z u p ⊢;simp[Sd,SN,u,p];clear z u p k K2 HA ct;go_wp2_with fail
   go_ret;exact⟨Q,i.o.2⟩
  have ab:=λhx=>by
   have:(t==(⟨#[]⟩:dT))=true:=by rw[beq_toListBytes];simpa using hx
   exact x ((MapKept.bytes_beq _ _).1 this)
  have G:(!(t.toList == []))=true:=by simpa using ab
  rw[lj x];go_enter (Yq.nq RF),Rx
  go_upto_region 1 with fail
  rename_i K1 aa K2 k;rw[<-HW.o];refine uc.1 (show SK (wf N) 0 _ _ _ _ _ from AS (id:=1) (m:=0) (s:=s) (so:=0) (j:=8) (i1:=0+s*5) (i2:=0+s*5+4) (lv:=U t) (b:=!(t.toList == [])) (ops:=zl) Q Q Q HB.o.2.2 (Rf ⟨Q,Q,Q,Q,t,Q,Q⟩) HB.o.2.1 Q X (by rw[zA];exact ct) (by rw[<-i.o.1];exact HA) (λa B l r p=>?_));rw[<-i.o.1];have l:=l;have q:=jS a 32 B;rw[G]at p;have z:=r 0 (by decide);have u:=r 3 (by decide);refine k _ _ ?_;rw[q,l];clear q B l r;generalize a.eval=ρ at z u p ⊢;simp[Sd,SN,z,u,p];clear z u p k K2 HA ct;have h1i:¬((s:ey)<0):=by omega
  go_wp2_with fail
  go_region
  all_goals
   go_wp2;go_ret;exact⟨Q,i.o.2.drew⟩
 have hd:decide (0<=d/\d<Ny.length)=false:=by simpa using q
 rw[hd]at HA;have hR:eA Ny d f=f:=by rw[eA,lj q]
 rw[hR];clear R h y d8 d6 v ht P L;go_enter (Yq.nq RF),Rx
 go_upto_region 1 with fail
 rename_i K1 aa K2 k;rw[<-HW.o];refine uc.1 (show SK (wf N) 0 _ _ _ _ _ from Mh (id:=1) (m:=0) (ops:=zl) Q Q Q HB.o.2.2 (Rf Q) (by rw[<-i.o.1];exact HA) (λa B l r p=>?_));rw[<-i.o.1];have l:=l;have q:=jS a 32 B;have z:=r 0 (by decide);have u:=r 3 (by decide);refine k _ _ ?_;rw[q,l];clear q B l r;generalize a.eval=ρ at z u p ⊢;simp[Sd,SN,u,p];clear z u p k K2 HA;go_wp2_with fail
 go_ret;exact⟨Q,i.o.2⟩
theorem bQ{P:Program}{b:Act->Wj->Prop}{E:Prop}
  (r:o.guard=N) (f:FuncId) (j:eW Operand) (n:eW Ww) (l:o.op=Op.call {callee:=Callee.value (.func f),args:=j,argTypes:=n})
  (h:eW Wx) (s:j.map u.eval=h) (i:(vf f h).run P w=.ok (.enter f h) w)
  (R:Wx->Wj->Prop) (p:Calls P f h w λe w'=>∃v,e=Rc v/\R v w') (hK:∀v w',R v w'->b (u.put o.dst v) w'):
  if xt o (yielded F u.tmps)=Y then Oper.wp P o u w b c else E:=by
 rw[kr (by simp[xt,r])];subst s;unfold Oper.wp;have e:(xb u.eval o).run P w=.ok (.enter f (j.map u.eval)) w:=by
  have q:xb u.eval o=(do let d <-resolve u.eval {callee:=Callee.value (.func f),args:=j,argTypes:=n} o.type;invoke d.target d.args):=by simp[xb,l]
  rw[q];simpa[resolve,Deferred.ofValue,pt,invoke]using i
 rw[e,Oper.upon_enter];refine p.m ?_
 grind
theorem aw{b}(h:w.cell? ⟨b,r,N⟩=J v)a:(w.alloc a).cell? ⟨b,r,N⟩=J v:=(ax.refl.alloc a).cell h
theorem aF{b}{f}(h:w.cell? ⟨b,r,N⟩=J v)(e:w.frozen? ⟨b,r,N⟩=f)a:(w.alloc a).frozen? ⟨b,r,N⟩=f:=by
 have d:b<w.heap.size:=by
  rcases Nat.lt_or_ge b w.heap.size with c|c;exact c;simp[yz,Array.getElem?_eq_none c]at h
 rw[<-e];simp[Rk,((ax.refl.alloc a (w:=w)).block b d)]
theorem bZ.alloc{k0}{w'}{L'}{NA}{sv}(h:bZ A B k0 w L' NA sv w')a:bZ A B k0 w L' NA sv (w'.alloc a):=by
 obtain⟨A',i,j,e,f,l,m⟩:=h;have d:ax w' (w'.alloc a):=ax.refl.alloc a;have c:=e.lt;exact⟨A',i,j,e.left d,f.t (bf.left c d),l.Nx Q0 λb k c=>⟨k,d.block b c⟩,m.t (FrC.left c d)⟩
section
variable {A:Nat->Prop} {B k0:Nat} {w:Wj} {st:St} {L:Lg}
structure MS (A:H->Prop)(B k0:H)(w:Wj)(st:St)(o:OpD)(R:Lg×S ItD×dT×ey):Prop where
 bx:∀W w2 bb,ax (dI w o) W->∀ {NA:S ItD} {sv:Wx} {L':Lg},bZ A B k0 W L' NA sv w2->w.heap.size+2<=bb->W.heap[bb]?=J (E #[M N 0 0,U ⟨#[]⟩] 79)->w2.cell? ⟨bb,0,N⟩=J (M N 0 0)/\w2.cell? ⟨bb,1,N⟩=J (U ⟨#[]⟩)/\w2.frozen? ⟨bb,0,N⟩=Z/\w2.frozen? ⟨bb,1,N⟩=Z
 b5:∀W w2,ax (dI w o) W->∀ {sv:Wx},bZ A B k0 W R.1 R.2.1 sv w2->Box5 w2 (w.heap.size+1)
 la:∀W w2 so sn sc,ax (dI w o) W->bZ A B k0 W R.1 R.2.1 (M so sn sc) w2->∀x0 x1 x2 x3 x4 O,cf A B k0 w st R.1 ⟨R.2.2.2,0,⟨#[]⟩,R.2.1,R.2.2.1⟩ (Rc (kJ ⟨R.2.2.2,0,⟨#[]⟩,R.2.1,R.2.2.1⟩ (M so sn sc))) (put5 (w2.alloc O) (w.heap.size+1) x0 x1 x2 x3 x4)
 lb:∀W w2 so sn sc,ax (dI w o) W->bZ A B k0 W R.1 R.2.1 (M so sn sc) w2->∀bb,w.heap.size+2<=bb->W.heap[bb]?=J (E #[M N 0 0,U ⟨#[]⟩] 79)->∀y0 y1 x0 x1 x2 x3 x4,cf A B k0 w st R.1 ⟨R.2.2.2,0,⟨#[]⟩,R.2.1,R.2.2.1⟩ (Rc (kJ ⟨R.2.2.2,0,⟨#[]⟩,R.2.1,R.2.2.1⟩ (M so sn sc))) (put5 ((w2.setCell ⟨bb,0,N⟩ y0).setCell ⟨bb,1,N⟩ y1) (w.heap.size+1) x0 x1 x2 x3 x4)
theorem EX(h:bh A B w k0 st L)(r:B<=w.heap.size)o(R:Lg×S ItD×dT×ey)(i:R.1.tm=L.tm):MS A B k0 w st o R where
 bx:=λW w2 d c NA sv L' b hbb f=>by
  obtain⟨A',-,-,-,-,-,s⟩:=b;have hlt:=h.ls.lt;have e:w2.heap[d]?=J (E #[M N 0 0,U ⟨#[]⟩] 79):=by
   rw[s.Nx d ⟨_,f,Q⟩ (by omega) ?_]
   .exact f
   .rintro ⟨v,k,j⟩;obtain⟨v4,G,zs,z1,D,-⟩:=h.ls.opened;rw[((bg o).t c).cell G]at k;cases k;have:=(D.lt d j).2;omega
  exact⟨by simp[yz,e],by simp[yz,e],by simp[Rk,e],by simp[Rk,e]⟩
 b5:=λW w2 c sv b=>box5 (IC h.ls c b)
 la:=λW w2 x u F c b l q p n m a=>ID h r c (b.alloc a) _ Q i l q p n m
 lb:=λW w2 x u F c b d k j z y l q p n m=>EW h r c b _ Q i d k (eS j).1 ⟨_,j,Q⟩ z y l q p n m
theorem zo(Qok:Qy->Prop)(hQ:∀q,Qok q->jB q/\jC q)(h:bh A B w k0 st L)(hB:B<=w.heap.size)(bb:L.opened.length<=3)(o:OpD)(hk:o.kind=8)(g0 cp:H)(Ny:S dT)(hn:Ny.length<=2199023255552)(c8:w.cell? ⟨k0,8,N⟩=J (M (J ⟨g0,0,N⟩) Ny.length cp))(ht:∀s (hs:s<Ny.length),w.cell? ⟨g0,s*5+4,N⟩=J (U Ny[s]))
  (ad:∀x∈L.opened,Qok x.q/\fU (bV x.f x.q.p.data.toList)<=1000/\x.q.p.size<=sT) (a6:∀al n pg,ez al L.told=J (n,pg)->0<=pg/\pg<2199023255552) (G:Wj->Prop) (av:∀w',G w'->dH w') (hG:∀w',bf A B k0 w w'->G w') (hT:∀al n pg,ez al L.told=J (n,pg)->(mR n L.opened).isSome=Y->mO G n (pg+1)):
  Calls Yq.prog 11 #[O (J ⟨k0,0,N⟩),aL o] w λe w'=>cf A B k0 w st (dY L (eA Ny o.src o.body)).1 ⟨(dY L (eA Ny o.src o.body)).2.2.2,0,⟨#[]⟩,(dY L (eA Ny o.src o.body)).2.1,(dY L (eA Ny o.src o.body)).2.2.1⟩ e w'\/Stop Qok e w':=by
 obtain⟨y,ai⟩:∃y,y=eA Ny o.src o.body:=⟨_,Q⟩;obtain⟨R,hR⟩:∃R,R=dY L y:=⟨_,Q⟩;have X:Hid (∀W,ax (dI w o) W->Calls Yq.prog 23 #[O (J ⟨k0,0,N⟩),aL o] W λe w'=>∃v,e=Rc v/\(v=U y/\Below W.heap.size W w')):=λW hl=>by
  have a0:=(bg o).t hl;refine(IE k0 g0 cp Ny o W hn (a0.cell c8) (λs hs=>a0.cell (ht s hs))).m ?_;rintro e w' ⟨rfl,hb⟩;exact⟨_,Q,by rw[ai],hb⟩
 have j:Hid (∀W,ax (dI w o) W->Calls Yq.prog 22 #[O (J ⟨k0,4,N⟩),U y] W λe w'=>(∃v,e=Rc v/\∃k sn T,v=Re #[Rd #[M k sn T,U R.2.2.1],I K R.2.2.2]/\bZ A B k0 W R.1 R.2.1 (M k sn T) w')\/∃l,e=.panicked l/\Stop Qok (.panicked l) w'):=λW hl=>by
  have hs:=((bg o).t hl).size;refine(Lc Qok hQ W (h.left ((bg o).t hl)).ls (by omega) y bb ad (a6 y) G av (λw' a9=>hG w' ((bf.left h.ls.lt ((bg o).t hl)).t a9)) (hT y)).m ?_;rw[<-hR];rintro e w' (⟨sv,rfl,hp⟩|aj);obtain⟨A',a1,a2,a3,a4,a5,a7⟩:=hp;obtain⟨k,T,rfl,-⟩:=ao a5.1;exact Rf ⟨_,Q,k,_,T,Q,A',a1,a2,a3,a4,a5,a7⟩;obtain⟨a,b,r,rfl,aj⟩:=aj;exact Rg ⟨_,Q,a,b,r,Q,aj⟩
 rw[<-ai,<-hR];have P:Hid (∀ (f:H) (z:eW Wx) (wx:Wj),(f=22\/f=23)->(vf f z).run Yq.prog wx=.ok (.enter f z) wx):=λf z wx hf=>by rcases hf with rfl|rfl<;>go_simp
 have HD:=aq h;have V:=EX h hB o R (by rw[hR];exact AR _ _);have aa:=aq V.bx;have ac:Hid (∀i,Below ((dI w o).alloc (E #[M N 0 0,U ⟨#[]⟩] 79)).drew.heap.size ((dI w o).alloc (E #[M N 0 0,U ⟨#[]⟩] 79)).drew i->i.heap[w.heap.size+1+1]?=J (E #[M N 0 0,U ⟨#[]⟩] 79)):=λi hb=>by
  have:=aN (dI w o) (E #[M N 0 0,U ⟨#[]⟩] 79);rw[aW]at this;exact(hb.block _ (by simp[aW])).t this
 have u:Hid (∀i,Below (dI w o).drew.heap.size (dI w o).drew i->w.heap.size+2<=i.heap.size):=λi hb=>by
  have:=hb.size;have e:(dI w o).drew.heap.size=w.heap.size+2:=aW o;omega
 have F:=aq V.b5;have af:=aq V.la;have ab:=aq V.lb;have hb3:=nN;clear ai hR V;obtain⟨kind,bd,ap,fe,ar,n,be⟩:=o;simp only at hk;subst hk;unfold dI at X j aa ac u F af ab;clear h c8 ht ad a6 hT hG av hQ;unfold aL at X ⊢;go_enter (Yq.nq Ru),Rr;go_wp2_with fail
 go_region_law (first
  |(refine bQ Q 23 #[Rh 124,Rh 125] #[68,37] Q #[O (J ⟨k0,0,N⟩),Rd #[I K 8,U bd,U ap,U fe,U ar,I K n,I K be]] (by simp[pt]) (P.o _ _ _ (Rg Q)) _ (X.o _ (by first|exact ax.refl.drew|exact(ax.refl.alloc _).drew)) ?_;rintro v i ⟨rfl,d⟩)
  |(refine cX rfl 22 #[Rh 123,Rh 126] #[47,9] rfl #[O (J ⟨k0,4,N⟩),U y] (by simp[pt]) (P.o _ _ _ (Rf rfl)) _ (λl w'=>Stop Qok (.panicked l) w') (j.o _ (ax.refl.drew.t (.below d))) (λl w' hs=>⟨Q,Rg hs⟩) ?_;rintro v w2 ⟨k,sn,T,rfl,c⟩;obtain⟨⟨t0,t1,t2,t3,t4⟩,u0,u1,u2,u3,u4⟩:=F.o _ w2 (ax.refl.drew.t (.below d)) c;have D:=af.o _ w2 k sn T (ax.refl.drew.t (.below d)) c;have q0:=aw t0;have q1:=aw t1;have q2:=aw t2;have q3:=aw t3;have q4:=aw t4;have p0:=aF t0 u0;have p1:=aF t1 u1;have p2:=aF t2 u2;have p3:=aF t3 u3;have p4:=aF t4 u4;clear c d)
  |(refine cX rfl 22 #[Rh 123,Rh 126] #[47,9] rfl #[O (J ⟨k0,4,N⟩),U y] (by simp[pt]) (P.o _ _ _ (Rf rfl)) _ (λl w'=>Stop Qok (.panicked l) w') (j.o _ ((ax.refl.alloc _).drew.t (.below d))) (λl w' hs=>⟨Q,Rg hs⟩) ?_;rintro v w2 ⟨k,sn,T,rfl,c⟩;obtain⟨v0,v1,o0,o1⟩:=aa.o i w2 (w.heap.size+1+1) ((ax.refl.alloc _).drew.t (.below d)) c (by omega) (ac.o _ d);obtain⟨⟨t0,t1,t2,t3,t4⟩,u0,u1,u2,u3,u4⟩:=F.o _ w2 ((ax.refl.alloc _).drew.t (.below d)) c;have D:=ab.o _ w2 k sn T ((ax.refl.alloc _).drew.t (.below d)) c (w.heap.size+1+1) (by omega) (ac.o _ d);clear c d)
  |(refine cX rfl 22 #[Rh 123,Rh 126] #[47,9] rfl #[O (J ⟨k0,4,N⟩),U y] (by simp[pt]) (P.o _ _ _ (Rf rfl)) _ (λl w'=>Stop Qok (.panicked l) w') (j.o _ ((ax.refl.drew.t (.below d)).alloc _)) (λl w' hs=>⟨Q,Rg hs⟩) ?_;rintro v w2 ⟨k,sn,T,rfl,c⟩;obtain⟨v0,v1,o0,o1⟩:=aa.o _ w2 i.heap.size ((ax.refl.drew.t (.below d)).alloc _) c (u.o _ d) (aN i _);obtain⟨⟨t0,t1,t2,t3,t4⟩,u0,u1,u2,u3,u4⟩:=F.o _ w2 ((ax.refl.drew.t (.below d)).alloc _) c;have D:=ab.o _ w2 k sn T ((ax.refl.drew.t (.below d)).alloc _) c i.heap.size (u.o _ d) (aN i _);have a8:w.heap.size+1≠i.heap.size:=(by have:=u.o _ d;omega);have hne2:i.heap.size≠w.heap.size+1:=a8.s;clear c d))
 all_goals
  go_wp2
 all_goals clear X j aa ac u F af ab P HD
 all_goals
  refine tb (v:=kJ ⟨R.2.2.2,0,⟨#[]⟩,R.2.1,R.2.2.1⟩ (M k sn T)) ?_ Q (Rf ?_);clear D;first
   |simp[results,Rp,go_sem,kJ,q0,q1,q2,q3,q4]
   |simp[results,Rp,go_sem,kJ,t0,t1,t2,t3,t4]
   |simp[results,Rp,go_sem,kJ,t0,t1,t2,t3,t4]
  unfold put5 at D;refine D ..
end
section
variable {A:Nat->Prop} {B k0:Nat} {w w':Wj} {st st':St} {L:Lg}
theorem eP.grown(h:eP A B w k0 L)(a:dw w w' k0)(r:∀j,w'.frozen? ⟨k0,j,N⟩=Z){A':H->Prop}(q:∀b,A b->A' b)(h2:∀b,A' b->A b\/w.heap.size<=b)(D:∀b,A' b->b<w'.heap.size):eP A' B w' k0 L:=by
 have d:=h.lt;have hlow:=h.low;have f:∀b,b<w.heap.size->b≠k0->w'.heap[b]?=w.heap[b]?:=λb l P=>a.g.block b l (λe=>P (oJ e))
 have c:∀g,g<w.heap.size->¬A g->¬A' g:=λg a ha hx=>by
  grind
 have⟨v,c4,y,V,p,G,T⟩:=h.opened;have⟨R,X,n⟩:=h.told;refine⟨⟨v,(a.t 4 (by omega)).t c4,y,V,bO p λg q a=>f g a (by omega),λg a=>c g (p.lt g a).2 (G g a),λz hz=>au.Nx (λb l d=>⟨q b l,f b d (λe=>h.ND (e▸l))⟩) 41 _ _ (T z hz)⟩,(a.t 5 (by omega)).t h.begun,⟨R,(a.t 6 (by omega)).t X,?_⟩,r,c k0 d h.ND,h.low,D⟩;rcases n with n|⟨m,u,i,F,o,s,m4,x⟩;exact Rf n;have k:=(eS o).1;exact Rg ⟨m,u,i,F,(f m k (by omega)).t o,s,c m k m4,x⟩
theorem IF(h:bh A B w k0 st L){r:St×Do}{e:Ending}(o:dX A w k0 r.1 (aG r.2) e w'):cf A B k0 w r.1 L ⟨r.2.code,r.2.NP,r.2.body,[],⟨#[]⟩⟩ e w':=by
 obtain⟨rfl,c,d⟩:=o;have n:=d.g.size;have k:∀b,A b->Grow A w b/\b<w'.heap.size:=λb a=>⟨Rf ⟨a,h.ls.Of b a⟩,by have:=h.ls.Of b a;omega⟩
 have i:∀b,(Grow A w b/\b<w'.heap.size)->A b\/w.heap.size<=b:=λb a=>a.1.imp (·.1) id
 have f:∀b,b<w.heap.size->b≠k0->w'.heap[b]?=w.heap[b]?:=λb a q=>d.g.block b a (λe=>q (oJ e))
 have⟨p,u,x⟩:=c.tree;refine⟨M N 0 0,Q,λb=>Grow A w b/\b<w'.heap.size,k,i,⟨⟨λb a=>c.ND b a.1,⟨p,u,au.Nx (λb a l=>⟨⟨a,l⟩,Q⟩) 41 _ _ x⟩,c.count,c.last,c.frozen⟩,h.ls.grown d c.frozen k i (λb a=>a.2),(d.t 3 (by omega)).t h.time⟩,⟨d.g.os,n,λb _ m v=>f b m v,λb a m=>f b m (λe=>h.ls.ND (e▸a)),λj hj=>d.t j (by omega),λj=>(c.frozen j).t (h.store.frozen j).s⟩,.nil⟩
theorem CB(h:bh A B w k0 st L)s o(c:o.key.size<=sT)(a:o.body.size<=sT)(e:Inv st s)(f:s<2199023255340)(d:o.kind<6\/12<o.kind):
  Calls Yq.prog 11 #[O (J ⟨k0,0,N⟩),aL o] w (cf A B k0 w (aE st o).1 L ⟨(aE st o).2.code,(aE st o).2.NP,(aE st o).2.body,[],⟨#[]⟩⟩):=
 (Cx A k0 st s o w c a h.store e f d).m λ_ _ b=>IF h b
end
end
section
open Go.RowKit
theorem fv(a:S OpD)(i j:H)(c:i<a.length)(b:j<7):(a.flatMap aK)[i*7+j]?=(aK a[i])[j]?:=bL 7 aK (λ_=>Q) a i j c b
theorem Yq.OY:(Yq.prog.info? 37).map (λi=>(i.zero,i.size,i.bytes))=J (J (Rd #[I K 0,U ⟨#[]⟩,U ⟨#[]⟩,U ⟨#[]⟩,U ⟨#[]⟩,I K 0,I K 0]),7,88):=by kernel_rfl
theorem qG{b}{ops}(h:w.ownsRow b 37 7 v n (ops.flatMap aK))(m:n=ops.length)(e:Sized ops)(d:ops.length<=2199023255552):jD w v ops:=by
 subst m;rcases h.2 with⟨rfl,k⟩|⟨g,c,cur,rfl,hbg,hg,hnc,hcm,hcs,htake⟩;have:=Sa.1 k;subst this;exact⟨⟨N,0,rfl,λh=>n8 Q h⟩,e,d⟩;refine⟨⟨_,c,Q,λ_=>⟨g,0,Q,λi l=>?_⟩⟩,e,d⟩;have a:∀j,j<7->w.cell? ⟨g,0+i*7+j,N⟩=(aK ops[i])[j]?:=λj f=>by
  rw[zA,<-fv ops i j l f];exact h.cellAt _ (by omega)
 exact⟨a 0 (by omega),a 1 (by omega),a 2 (by omega),a 3 (by omega),a 4 (by omega),a 5 (by omega),a 6 (by omega)⟩
theorem CC(w:Wj)(o:OpD)(T:Ww):∀j u,(aK o)[j]?=J u->(w.alloc (E #[I K o.kind,U o.key,U o.body,U o.fe,U o.past,I K o.n,I K o.src] T)).cell? ((⟨w.heap.size,0,N⟩:Wu).add j)=J u:=by
 intro j u a;rw[Sl,cA (w:=w) _ _ w.heap.size _ Q];simpa[aK]using a
theorem one7 o:∀u∈aK o,u.oneCell'=true:=by
 intro u a;simp[aK]at a;rcases a with rfl|rfl|rfl|rfl|rfl|rfl|rfl<;>rfl
structure Gb (w:Wj)(v:Wx)(w':Wj)(v':Wx):Prop where
 grown:w.grownBy w' v.ownBlock
 at_:∀g,v'.ownBlock=J g->v.ownBlock=J g\/w.heap.size<=g
theorem Gb.refl w v:Gb w v w v:=⟨World.grownBy.refl _ _,λ_ h=>Rf h⟩
theorem Gb.t{w2}{d v2}(h:Gb w v wr d)(a:Gb wr d w2 v2):Gb w v w2 v2:=by
 refine⟨⟨a.grown.os.t h.grown.os,a.grown.tape.t h.grown.tape,a.grown.output.t h.grown.output,lT h.grown.size a.grown.size,λb i c=>?_⟩,λg j=>?_⟩;rw[a.grown.block b (lL i h.grown.size) ?_,h.grown.block b i c];intro e;rcases h.at_ b e.s with k|k
 grind
 omega;rcases a.at_ g j with e|e;exact h.at_ g e;exact Rg (lT h.grown.size e)
theorem Gb.alloc{w'}{o}(h:Gb (w.alloc o) v w' v'):Gb w v w' v':=
 Gb.t ⟨World.grownBy_alloc _ _ _,λ_ h=>Rf h⟩ h
section
variable {P:Program}
theorem zp(w:Wj)(d:H)(t u r e:Ww)(i:vx)(A:P.underlying t=J (.slice e))(z:P.underlying u=J .string)(B:P.info? e=J i)(L:i.zero=J (.int .u8 0))
  (a:i.size=1) (h:i.bytes=1) (v:Wx) (n:H) (p:S Wx) (b:w.ownsRow d e 1 v n p) (s:dT)
  (o:n+s.size<=sT) (f:n+s.size<=140737488355328) (k:d<=w.heap.size):
  ∃q w',(Builtin.append_ #[t,u] r #[v,.string s]).run P w=.ok q w'/\w'.ownsRow d e 1 q (n+s.size) (p++RZ s)/\Gb w v w' q:=by
 obtain⟨q,w',y,T,V,-⟩:=R3 (P:=P) w d t u r e i A z B L a h v n p b s o f k;refine⟨q,w',y,T,V,λg m=>?_⟩;have hxl:p.length=n:=by simpa using b.1
 rcases b.2 with⟨rfl,rfl⟩|⟨F,l,D,rfl,hb0,x,hnc,hcm,hcs,-⟩;obtain⟨v2,w2,c,G,-⟩:=R3 (P:=P) w w.heap.size t u r e i A z B L a h (.slice N 0 0) 0 p ⟨b.1,.inl ⟨rfl,rfl⟩⟩ s o f Q0;rw[y]at c;cases c;exact .inr (G.lt g m).1;by_cases R:n+s.size<=l
 have c:=Lib.run_append_room_string (P:=P) w t u r e i A z B a F n l D x s R (by omega);rw[y]at c;cases c;exact .inl m;have c:=Lib.run_append_grow_string (P:=P) w t u r e i (.int .u8 0) A z B L ⟨F,0,N⟩ n l p (by rw[a];omega) (λj u X=>b.cells (g:=F) rfl j u X) s (by omega) (by simp[sT]at o;omega) (by rw[h];exact growslice_fits (by omega) (by omega));rw[y]at c;cases c;cases m
 grind
theorem fC(w:Wj){q:S Oper}(G:o.guard=N)(s x:Operand)(t:Ww)
  (ho:o.op=.call {callee:=.builtin .append,args:=#[s,x],argTypes:=#[t,t]})
  (l:H) (e:Ww) (i:vx) (z:Wx) (d k:H) (ht:P.underlying t=J (.slice e)) (hi:P.info? e=J i) (hz:i.zero=J z)
  (r:i.size=d) (L:i.bytes=k) (V:z.cells.size=d) (aa:0<d)
  (v:Wx) (n:H) (R:S Wx) (hs:a.eval s=v) (D:w.ownsRow l e d v n R)
  (T:Wu) (m c:H) (f:S Wx) (hx:a.eval x=.slice (J T) m c) (hl:f.length=m*d) (y:∀j u,f[j]?=J u->w.cell? (T.add j)=J u) (h1:∀u∈f,u.oneCell'=Y)
  (X:n+m<=sT) (p:(n+m)*k<=140737488355328) (A:l<=w.heap.size)
  (h:∀B w',w'.ownsRow l e d B (n+m) (R++f)->Gb w v w' B->wpList P F b q (a.put o.dst B) w'):wpList P F b (o::q) a w:=by
 have⟨B,w',hr,h2,h3,h4⟩:=mb (P:=P) w l t o.type e i z d k ht hi hz r L V aa v n R D T m c f hl y h1 X p A;exact R4 w G s x t t ho v _ hs hx B w' hr (h B w' h2 ⟨h3,h4⟩)
theorem mT(w:Wj){j:S Oper}(r:o.guard=N)(s x:Operand)(t u:Ww)
  (B:o.op=.call {callee:=.builtin .append,args:=#[s,x],argTypes:=#[t,u]})
  (d:H) (e:Ww) (i:vx) (L:P.underlying t=J (.slice e)) (G:P.underlying u=J .string) (V:P.info? e=J i) (hz:i.zero=J (.int .u8 0))
  (k:i.size=1) (y:i.bytes=1) (v:Wx) (n:H) (z:S Wx) (T:a.eval s=v) (p:w.ownsRow d e 1 v n z) (b:dT) (X:a.eval x=.string b)
  (A:n+b.size<=sT) (f:n+b.size<=140737488355328) (l:d<=w.heap.size)
  (h:∀m w',w'.ownsRow d e 1 m (n+b.size) (z++RZ b)->Gb w v w' m->wpList P q c j (a.put o.dst m) w'):wpList P q c (o::j) a w:=by
 have⟨m,w',F,D,R⟩:=zp (P:=P) w d t u o.type e i L G V hz k y v n z p b A f l;exact R4 w r s x t u B v _ T X m w' F (h m w' D R)
end
theorem AT(w:Wj)(v:Wx)(T:Ww):∀j u,[v][j]?=J u->(w.alloc (E #[v] T)).cell? ((⟨w.heap.size,0,N⟩:Wu).add j)=J u:=by
 intro j u hj;rw[Sl,cA (w:=w) _ _ w.heap.size _ Q]
 grind
theorem sB(n:ey):∀u∈[Sv .u8 n],u.oneCell'=true:=by
 intro u a;simp at a;subst a;rfl
def oQ(s:dT):S Wx:=[I .u8 ((s.size:ey)%256)]++RZ s
theorem wS(s:dT):(oQ s).length=1+s.size:=by simp[oQ,Lib.strCells_length];omega
theorem ut a n(l:gI Wu)m q(s:dT)w(h:w.ownsRow a 5 1 (M l n m) n q)(z:a<=w.heap.size)(hn:n+1+s.size<=100000000000):
  Calls Yq.prog 84 #[M l n m,U s] w λe w'=>∃p,e=Rc p/\w'.ownsRow a 5 1 p (n+1+s.size) (q++oQ s)/\Gb w (M l n m) w' p:=by
 have⟨v,k,i,j,c⟩:=tn Yq.N4;have HO:=bJ h z;go_enter (Yq.nq Tryz.func84),Tryz.ntmps84;go_wp2_with (first
  |(at_builtin;refine fC _ Q _ _ 125 Q a 5 v _ 1 1 (Yq.u Ro) k i j c Q (by decide) _ n _ Q (HO.o.1.alloc _) ⟨w.heap.size,0,N⟩ 1 1 [I .u8 ((s.size:ey)%256)] Q Q (AT w _ _) (sB _) (by simp[sT];omega) (by omega) (by have:=HO.o.2;simp;omega) ?_;intro y x f d;have b:Hid (x.ownsRow a 5 1 y (n+1) (q++[I .u8 ((s.size:ey)%256)])/\Gb w (M l n m) x y):=⟨f,d.alloc⟩;clear f d)
  |(at_builtin;refine mT _ Q _ _ 125 9 Q a 5 v (Yq.u Ro) (Yq.u Rq) k i j c _ (n+1) _ Q b.o.1 s Q (by simp[sT];omega) (by omega) (lT HO.o.2 b.o.2.grown.size) ?_;intro v2 w2 ho2 r))
 go_ret;refine⟨_,Q,?_,b.o.2.t r⟩
 rwa [oQ,<-pA]
def num8(m:ey)(k:H):S Wx:=(Sd k).map λi=>I .u8 (m/2 ^ (8*(7-i))%256)
theorem wT(m:ey)k:num8 m (k+1)=num8 m k++[I .u8 (m/2 ^ (8*(7-k))%256)]:=by
 simp[num8,List.range_succ]
theorem uu(m:ey)k:(num8 m k).length=k:=by simp[num8]
theorem qH a n(d:gI Wu)c r(m:ey)w(h:w.ownsRow a 5 1 (M d n c) n r)(z:a<=w.heap.size)(hn:n+8<=100000000000):
  Calls Yq.prog 57 #[M d n c,I .u64 m] w λe w'=>∃j,e=Rc j/\w'.ownsRow a 5 1 j (n+8) (r++num8 m 8)/\Gb w (M d n c) w' j:=by
 have⟨y,l,p,q,f⟩:=tn Yq.N4;generalize hv:Su d n c=v at *;go_enter (Yq.nq Tryz.func57),Tryz.ntmps57;go_wp2_with fail
 go_loopw [0,6] (λs0 s6 wr=>∃i:H,i<=8/\s6=I K i/\wr.ownsRow a 5 1 s0 (n+i) (r++num8 m i)/\Gb w v wr s0) (λ_ s6 _=>8-(intOf s6).toNat)
 case atStart=>exact⟨0,by omega,Q,by simpa[num8]using h,Gb.refl _ _⟩
 case round=>
  obtain⟨i,hin,rfl,b,x⟩:=hrel;obtain⟨d,c,rfl,-⟩:=ao b;have HX:=eM b x z;by_cases hlt:i<8
  go_wp2_with (at_builtin;refine fC _ Q _ _ 125 Q a 5 y _ 1 1 (Yq.u Ro) l p q f Q (by decide) _ (n+i) _ Q (HX.o.1.alloc _) ⟨wr.heap.size,0,N⟩ 1 1 [I .u8 (m/2 ^ (8*(7-i))%256)] Q Q (AT wr _ _) (sB _) (by simp[sT];omega) (by omega) (by have:=HX.o.2.2;have:=HX.o.2.1.grown.size;simp;omega) ?_;intro v1 w1 ho1 s)
  refine⟨⟨i+1,by omega,by go_num,?_,HX.o.2.1.t s.alloc⟩,by simp[intOf];omega⟩
  rwa [wT,<-pA]
  have k:i=8:=by omega
  subst k;go_wp2;go_ret;exact⟨_,Q,HX.o.1,HX.o.2.1⟩
def Dp(k:dT)(v:Ver):S Wx:=if v.mark then[I .u8 2]++num8 v.num 8++oQ k else[I .u8 1]++num8 v.num 8++oQ k++oQ v.body
def AU(k:dT)(v:Ver):Nat:=if v.mark then 10+k.size else 11+k.size+v.body.size
theorem Gb.box{d}{o}(f:w.ownsRow r 5 1 v n xs)(h:Gb (w.alloc o) v wr d):wr.heap[w.heap.size]?=J o:=by
 rw[h.grown.block w.heap.size (by simp) (λe=>by have:=(f.lt _ e.s).2;omega)];exact heap_alloc_new w o
def Box4(g:H)(a b c d:Wx)(w:Wj):Prop:=w.cell? ⟨g,0,N⟩=J a/\w.cell? ⟨g,1,N⟩=J b/\w.cell? ⟨g,2,N⟩=J c/\w.cell? ⟨g,3,N⟩=J d
theorem EY{b c d}(h:w.heap[g]?=J (E #[v,b,c,d] T)):Box4 g v b c d w:=by
 refine⟨?_,?_,?_,?_⟩<;>simp[yz,h]
theorem Gb.drew{w'}(h:Gb w v w' v'):Gb w v w'.drew v':=⟨⟨h.grown.os,h.grown.tape,h.grown.output,h.grown.size,h.grown.block⟩,h.at_⟩
theorem Gb.Oy{w'}(h:Gb w.drew v w' v'):Gb w v w' v':=⟨⟨h.grown.os,h.grown.tape,h.grown.output,h.grown.size,h.grown.block⟩,h.at_⟩
theorem wU a n v b(s:dT)w(h:w.ownsRow a 5 1 v n b)(f:a<=w.heap.size)(i:n+1+s.size<=100000000000):
  Calls Yq.prog 84 #[v,U s] w λe w'=>∃c,e=Rc c/\w'.ownsRow a 5 1 c (n+1+s.size) (b++oQ s)/\Gb w v w' c:=by
 obtain⟨j,d,rfl,-⟩:=ao h;exact ut a n j d b s w h f i
theorem iC a n v b(m:ey)w(h:w.ownsRow a 5 1 v n b)(f:a<=w.heap.size)(i:n+8<=100000000000):
  Calls Yq.prog 57 #[v,I .u64 m] w λe w'=>∃c,e=Rc c/\w'.ownsRow a 5 1 c (n+8) (b++num8 m 8)/\Gb w v w' c:=by
 obtain⟨j,d,rfl,-⟩:=ao h;exact qH a n j d b m w h f i
theorem pi(h0:0<=l)(h1:l<=9223372036854775807):IntKind.u64.wrap l=l:=by
 simp[Sp,Sm,Sn];omega
theorem rr l n(va:gI Wu)vc xs(k:dT)v w(h:w.ownsRow l 5 1 (M va n vc) n xs)(hb:l<=w.heap.size)(hn:n+AU k v<=100000000000)(h0:0<=v.num)(a7:v.num<=9223372036854775807):
  Calls Yq.prog 56 #[M va n vc,Rd #[U k,I K v.num,U v.body,C v.mark]] w λe w'=>∃P,e=Rc P/\w'.ownsRow l 5 1 P (n+AU k v) (xs++Dp k v)/\Gb w (M va n vc) w' P:=by
 have⟨i0,a2,a3,a5,a1⟩:=tn Yq.N4;obtain⟨F,y,a0⟩:=v;simp only at *;have HO:=bJ h hb;clear h hb;have al:Hid (∀ (f:H) (R:eW Wx) (wx:Wj),(f=57\/f=84)->(vf f R).run Yq.prog wx=.ok (.enter f R) wx):=λf R wx hf=>by rcases hf with rfl|rfl<;>go_simp
 have ab:Hid (∀ (i:Obj) (x:Wx) (j:H) (u:Wx),[x][j]?=J u->((((w.alloc i).drew).alloc (E #[x] 5)).cell? ((⟨w.heap.size+1,0,N⟩:Wu).add j))=J u):=λi x j u hj=>by
  have:=AT (w.alloc i).drew x 5 j u hj;simpa using this
 have ac:Hid (∀ (i X:Obj),(((w.alloc i).drew).alloc X).ownsRow l 5 1 (M va n vc) n xs):=λi X=>((bO (HO.o.1.alloc i) λg _ _=>Q).alloc X)
 have ad:Hid (∀ (p:Wj) (q a b c d:Wx) (T:Ww) (X:Obj),Gb (((w.alloc (E #[a,b,c,d] T)).drew).alloc X) (M va n vc) p q->Gb (w.alloc (E #[a,b,c,d] T)) (M va n vc) p q/\Box4 w.heap.size a b c d p):=λp q a b c d T X h=>⟨h.alloc.Oy,EY (h.alloc.Oy.box HO.o.1)⟩
 have ar:Hid (∀ (p:Wj) (q a b c d:Wx) (T:Ww),Gb (w.alloc (E #[a,b,c,d] T)) (M va n vc) p q->Box4 w.heap.size a b c d p):=λp q a b c d T h=>EY (h.box HO.o.1)
 have L:Hid (∀ (p:Wj) (q:Wx) (i:Obj),Gb (w.alloc i) (M va n vc) p q->l<=p.heap.size):=λp q i h=>by
  have:=h.alloc.grown.size;have:=HO.o.2;omega
 have ai:Hid (∀ (p:Wj) (q:Wx) (n1:H) (r:S Wx),p.ownsRow l 5 1 q n1 r->l<=p.heap.size->n1+8<=100000000000->Calls Yq.prog 57 #[q,I .u64 (IntKind.u64.wrap F)] p λe w'=>∃P,e=Rc P/\w'.ownsRow l 5 1 P (n1+8) (r++num8 F 8)/\Gb p q w' P):=λp q n1 r h1 h2 h3=>by
  rw[pi h0 a7];exact iC l n1 q r F p h1 h2 h3
 have av:Hid (∀ (p:Wj) (q:Wx) (n1:H) (r:S Wx) (s:dT),p.ownsRow l 5 1 q n1 r->l<=p.heap.size->n1+1+s.size<=100000000000->Calls Yq.prog 84 #[q,U s] p λe w'=>∃P,e=Rc P/\w'.ownsRow l 5 1 P (n1+1+s.size) (r++oQ s)/\Gb p q w' P):=λp q n1 r s=>wU l n1 q r s p
 cases a0
 .have a9:n+(11+k.size+y.size)<=100000000000:=by simpa[AU]using hn
  go_enter (Yq.nq RY),RQ;go_wp2_with fail
  go_region_law (first
   |(refine dB Q (Rh 20) (Rh 21) 125 Q l 5 i0 _ 1 1 (Yq.u Ro) a2 a3 a5 a1 Q (by decide) (M va n vc) n xs (by first|(simp[pt];done)|(simp[pt,sq];done)|go_simp) (ac.o _ _) ⟨w.heap.size+1,0,N⟩ 1 1 [I .u8 1] (by first|(simp[pt];done)|(simp[pt,sq];done)|go_simp) Q (ab.o _ _) (sB _) (by simp only[sT];omega) (by omega) (by have:=HO.o.2;simp;omega) ?_;intro q p G V z;obtain⟨B,c0,c1,c2,c3⟩:=ad.o _ q _ _ _ _ _ _ ⟨V,z⟩;clear V z)
   |(refine bQ Q 57 #[Rh 22,Rh 26] #[125,41] Q #[q,I .u64 (IntKind.u64.wrap F)] (by first|(simp[pt];done)|(simp[pt,sq];done)|go_simp) (al.o _ _ _ (Rf Q)) _ (ai.o p q _ _ G (L.o _ _ _ B) (by omega)) ?_;rintro v2 w2 ⟨ap,aa⟩;have A:=B.t aa;obtain⟨d0,d1,d2,d3⟩:=ar.o _ v2 _ _ _ _ _ A;clear aa c0 c1 c2 c3 B G))
  all_goals clear ad ab ac ai
  all_goals go_wp2_with fail
  all_goals go_region_law (first
   |(refine bQ Q 84 #[Rh 28,Rh 30] #[125,9] Q #[v2,U k] (by first|(simp[pt];done)|(simp[pt,sq];done)|go_simp) (al.o _ _ _ (Rg Q)) _ (av.o w2.drew v2 (n+1+8) _ k ap (L.o _ _ _ A.drew) (by omega)) ?_;rintro v3 w3 ⟨af,aj⟩;have D:=A.t aj.Oy;obtain⟨e0,e1,e2,e3⟩:=ar.o _ v3 _ _ _ _ _ D;clear aj d0 d1 d2 d3 A ap)
   |(refine bQ Q 84 #[Rh 31,Rh 34] #[125,9] Q #[v3,U y] (by first|(simp[pt];done)|(simp[pt,sq];done)|go_simp) (al.o _ _ _ (Rg Q)) _ (av.o w3 v3 (n+1+8+1+k.size) _ y af (L.o _ _ _ D) (by omega)) ?_;rintro v4 w4 ⟨a8,a4⟩;have a6:=(D.t a4).alloc;clear a4 e0 e1 e2 e3 D af))
  all_goals go_wp2
  all_goals go_ret
  all_goals refine⟨v4,Q,?_,a6⟩
  all_goals
   simp only[AU,Dp,Bool.false_eq_true,if_false];have e1:n+(11+k.size+y.size)=n+1+8+1+k.size+1+y.size:=by omega
   rw[e1];simpa only[pA]using a8
 have a9:n+(10+k.size)<=100000000000:=by simpa[AU]using hn
 go_enter (Yq.nq RY),RQ;go_wp2_with fail
 go_region_law (first
  |(refine dB Q (Rh 8) (Rh 9) 125 Q l 5 i0 _ 1 1 (Yq.u Ro) a2 a3 a5 a1 Q (by decide) (M va n vc) n xs (by first|(simp[pt];done)|(simp[pt,sq];done)|go_simp) (ac.o _ _) ⟨w.heap.size+1,0,N⟩ 1 1 [I .u8 2] (by first|(simp[pt];done)|(simp[pt,sq];done)|go_simp) Q (ab.o _ _) (sB _) (by simp only[sT];omega) (by omega) (by have:=HO.o.2;simp;omega) ?_;intro q p G V z;obtain⟨B,c0,c1,c2,c3⟩:=ad.o _ q _ _ _ _ _ _ ⟨V,z⟩;clear V z)
  |(refine bQ Q 57 #[Rh 10,Rh 14] #[125,41] Q #[q,I .u64 (IntKind.u64.wrap F)] (by first|(simp[pt];done)|(simp[pt,sq];done)|go_simp) (al.o _ _ _ (Rf Q)) _ (ai.o p q _ _ G (L.o _ _ _ B) (by omega)) ?_;rintro v2 w2 ⟨ap,aa⟩;have A:=B.t aa;obtain⟨d0,d1,d2,d3⟩:=ar.o _ v2 _ _ _ _ _ A;clear aa c0 c1 c2 c3 B G))
 all_goals clear ad ab ac ai
 all_goals go_wp2_with (go_at_call 84;refine(av.o w2 v2 (n+1+8) _ k ap (L.o _ _ _ A) (by omega)).m ?_;rintro e w3 ⟨v3,rfl,af,aj⟩;have D:=(A.t aj).alloc)
 all_goals go_ret
 all_goals refine⟨v3,Q,?_,D⟩
 all_goals
  simp only[AU,Dp,if_true];have e1:n+(10+k.size)=n+1+8+1+k.size:=by omega
  rw[e1];simpa only[pA]using af
theorem IG(x:ey)w:Calls Yq.prog 105 #[I K x] w λe w'=>e=Rc (C Z)/\w'=w:=by
 go_enter (Yq.nq Tryz.func105),Tryz.ntmps105;go_wp2;go_ret;exact⟨by simp,Q⟩
def Mi(x y:ey):ey:=if x<y then -1 else if y<x then 1 else 0
theorem CD(x y:ey)w:Calls Yq.prog 83 #[I K x,I K y] w λe w'=>e=Rc (I K (Mi x y))/\w'=w:=by
 have H1:=aq IG;unfold Mi;by_cases a:x<y
 .rw [kr a];go_enter (Yq.nq RG),Ry;go_wp2_with (go_at_call 105;refine(H1.o _ _).m ?_;rintro e c ⟨rfl,rfl⟩)
  go_ret;exact⟨Q,Q⟩
 rw[lj a];by_cases b:y<x
 .rw [kr b];go_enter (Yq.nq RG),Ry;go_wp2_with (go_at_call 105;refine(H1.o _ _).m ?_;rintro e c ⟨rfl,rfl⟩)
  go_ret;exact⟨Q,Q⟩
 rw[lj b];go_enter (Yq.nq RG),Ry;go_wp2_with (go_at_call 105;refine(H1.o _ _).m ?_;rintro e c ⟨rfl,rfl⟩)
 go_ret;exact⟨Q,Q⟩
def MT(k:dT)(v:Ver):Wx:=Rd #[U k,I K v.num,U v.body,C v.mark]
def xV(k:dT)(v:Ver):S Wx:=[U k,I K v.num,U v.body,C v.mark]
theorem EZ(c d:dT)a b w:Calls Yq.prog 82 #[MT c a,MT d b] w λe w'=>e=Rc (I K (Mi a.num b.num))/\w'=(w.alloc (E (xV c a).toArray 129)).alloc (E (xV d b).toArray 129):=by
 obtain⟨n1,b1,m1⟩:=a;obtain⟨n2,b2,m2⟩:=b;unfold MT xV;go_enter (Yq.nq Tryz.func82),Tryz.ntmps82;go_wp2_with (go_at_call 83;refine(CD _ _ _).m ?_;rintro e w1 ⟨rfl,rfl⟩)
 go_ret;exact⟨Q,Q⟩
def iV(L:S (dT×Ver)):S Wx:=L.flatMap λe=>Dp e.1 e.2
def fw(L:S (dT×Ver)):Nat:=(L.map λe=>AU e.1 e.2).sum
def gY(L:S (dT×Ver)):S Wx:=L.flatMap λe=>xV e.1 e.2
theorem CE(h:r<L.length):fw (L.take (r+1))=fw (L.take r)+AU L[r].1 L[r].2:=by
 unfold fw;rw[tS h]
 grind
theorem CF(h:r<L.length):iV (L.take (r+1))=iV (L.take r)++Dp L[r].1 L[r].2:=by
 unfold iV;rw[tS h]
 grind
theorem II L i:fw (L.take i)<=fw L:=by
 have:fw L=fw (L.take i)+fw (L.drop i):=by
  unfold fw;rw[<-Sj,<-R6,List.take_append_drop]
 omega
theorem E1(h:r<L.length):(gY L)[r*4]?=J (U L[r].1)/\(gY L)[r*4+1]?=J (I K L[r].2.num)/\(gY L)[r*4+2]?=J (U L[r].2.body)/\(gY L)[r*4+3]?=J (C L[r].2.mark):=by
 induction L generalizing r with
 |nil=>simp at h
 |cons e L ih=>
  cases r with
  |zero=>simp[gY,xV]
  |succ r=>
   have a:r<L.length:=by grind
   have:=ih a;simp[gY,xV]at this ⊢
   grind
theorem E2(h0:0<=l)(h1:l<=9223372036854775808):IntKind.u64.wrap l=l:=by
 simp[Sp,Sm,Sn];omega
theorem CG{b}(h:w.ownsRow b T r v n xs)(hn:0<n):∃g a,v=M (J ⟨g,0,N⟩) n a/\∀j u,xs[j]?=J u->w.cell? ⟨g,j,N⟩=J u:=by
 rcases h.2 with⟨rfl,e0⟩|⟨g,a,cur,rfl,-⟩;omega;refine⟨g,a,rfl,λj u f=>?_⟩;have:=(λg e=>h.cells (g:=g) e) g Q j u f;simpa only[Sl,zA]using this
def E3(xs:S Wx):Prop:=∃l:S gL,xs=l.map λb=>Sv .u8 b.toNat
theorem E3.append{b}(h:E3 xs)(c:E3 b):E3 (xs++b):=by
 obtain⟨l,rfl⟩:=h;obtain⟨m,rfl⟩:=c;exact⟨l++m,by rw[R6]⟩
theorem kK(h0:0<=l)(h1:l<256):E3 [I .u8 l]:=by
 refine⟨[SO l.toNat],?_⟩;have:(SO l.toNat).toNat=l.toNat:=by simp_all
 grind
theorem pj(m:ey)k:E3 (num8 m k):=by
 induction k with
 |zero=>exact⟨[],Q⟩
 |succ k ih=>rw[wT];exact ih.append (kK (SY _ (by decide)) (SX _ (by decide)))
theorem IJ(s:dT):E3 (RZ s):=⟨s.data.toList,Q⟩
theorem qI(s:dT):E3 (oQ s):=(kK (SY _ (by decide)) (SX _ (by decide))).append (IJ s)
theorem IK(k:dT)v:E3 (Dp k v):=by
 unfold Dp;split
 exact((kK (by decide) (by decide)).append (pj _ _)).append (qI k);exact(((kK (by decide) (by decide)).append (pj _ _)).append (qI k)).append (qI _)
theorem E5 L:E3 (iV L):=by
 induction L with
 |nil=>exact⟨[],Q⟩
 |cons e L ih=>exact(IK e.1 e.2).append ih
theorem CH L(a b:ey):E3 (((((iV L++[I .u8 3])++num8 (a+1) 8)++[I .u8 4])++num8 b 8)):=
 ((((E5 L).append (kK (by decide) (by decide))).append (pj _ _)).append (kK (by decide) (by decide))).append (pj _ _)
theorem ax.grown{w'}{row:gI H}(h:ax w W)(a:W.grownBy w' row)(d:∀g,row=J g->w.heap.size<=g):ax w w':=
 ⟨a.os.t h.os,lT h.size a.size,λb c=>(a.block b (lL c h.size) (λe=>by have:=d b e.s;omega)).t (h.block b c)⟩
theorem Ld k0 L(b tm:ey)w(c2:w.cell? ⟨k0,2,N⟩=J (I K b))(c3:w.cell? ⟨k0,3,N⟩=J (I .u64 tm))
  (hE:Calls Yq.prog 55 #[O (J ⟨k0,0,N⟩)] w λe w'=>∃v,e=Rc v/\w'.ownsRow w.heap.size 129 4 v L.length (gY L)/\ax w w')
  (hN:fw L+18<=100000000000) (hL:L.length<=1000000) (ac:∀e∈L,0<=e.2.num/\e.2.num<=9223372036854775807) (bo:0<=b) (bt:b<=9223372036854775807):
  Calls Yq.prog 27 #[O (J ⟨k0,0,N⟩)] w λe w'=>∃s,e=Rc (U s)/\RZ s=iV L++([I .u8 3]++num8 (b+1) 8++([I .u8 4]++num8 tm 8))/\ax w w':=by
 have⟨i0,a4,a5,a8,a3⟩:=tn Yq.N4;have HE:=aq hE;clear hE;go_enter (Yq.nq Tryz.func27),Tryz.ntmps27;go_wp2_with (go_at_call 55;refine HE.o.m ?_;rintro e h ⟨v,rfl,p,ar⟩;obtain⟨va,vc,rfl,-⟩:=ao p)
 go_loopw [3,9] (λs3 s9 wr=>∃i:H,i<=L.length/\s9=I K i/\wr.ownsRow h.heap.size 5 1 s3 (fw (L.take i)) (iV (L.take i))/\Below h.heap.size h wr) (λ_ s9 _=>L.length-(intOf s9).toNat)
 case atStart=>exact⟨0,Q8,Q,by simpa[fw,iV]using Rm _ _ _ _,Q9⟩
 case round=>
  obtain⟨i,hin,rfl,l,G⟩:=hrel;obtain⟨P,R,rfl,-⟩:=ao l;by_cases T:i<L.length
  .have a9:∃g,va=J ⟨g,0,N⟩/\g<h.heap.size:=by
    rcases p.2 with⟨e,e0⟩|⟨g,cap,cur,e,-,hr,-⟩
    .omega
    .cases e;exact⟨g,Q,(eS hr).1⟩
   obtain⟨g,rfl,hg⟩:=a9;have⟨q0,q1,q2,q3⟩:=E1 T;have x0:=ag G (p.cells (g:=g) Q _ _ q0);have x1:=ag G (p.cells (g:=g) Q _ _ q1);have x2:=ag G (p.cells (g:=g) Q _ _ q2);have x3:=ag G (p.cells (g:=g) Q _ _ q3);simp only[Sl,zA]at x0 x1 x2 x3;clear q0 q1 q2 q3;have z:=eM (CE T) (CF T) (II L (i+1));have al:=aq (ac _ (Sb T));have HX:=bJ l G;clear l G p ac;generalize L[i]=en at *;obtain⟨ek,d,c,f⟩:=en;simp only at x0 x1 x2 x3 z al;have HC:Hid (∀ (a:Wj) (P:gI Wu) (R n:H),a.ownsRow h.heap.size 5 1 (M P n R) n (iV (L.take i))->h.heap.size<=a.heap.size->n+AU ek ⟨d,c,f⟩<=100000000000->0<=d->d<=9223372036854775807->Calls Yq.prog 56 #[M P n R,Rd #[U ek,I K d,U c,C f]] a λe w'=>∃q,e=Rc q/\w'.ownsRow h.heap.size 5 1 q (n+AU ek ⟨d,c,f⟩) (iV (L.take i)++Dp ek ⟨d,c,f⟩)/\Gb a (M P n R) w' q):=λa P R n h1 h2 h3 h4 h5=>rr h.heap.size n P R _ ek ⟨d,c,f⟩ a h1 h2 h3 h4 h5
   go_wp2_with (go_at_call 56;refine(HC.o _ _ _ _ (HX.o.1.alloc _) (by have:=HX.o.2.size;simp;omega) (by have:=z.o.1;have:=z.o.2.2;omega) al.o.1 al.o.2).m ?_;rintro e w2 ⟨v2,rfl,F,V⟩)
   have A:=HX.o.2.size;refine⟨⟨i+1,by omega,by go_num,?_,(HX.o.2.alloc A _).grown V.grown (by simp;omega) (λk e=>(HX.o.1.lt k e).1)⟩,by simp[intOf];omega⟩;rw[z.o.1,z.o.2.1];exact F
  .have bv:i=L.length:=by omega
   subst bv;rw[Si]at l;have bx:=G.size;have hk0:k0<w.heap.size:=bC w _ c2;have HX:Hid (wr.ownsRow h.heap.size 5 1 (M P (fw L) R) (fw L) (iV L)/\Below h.heap.size h wr/\ax w wr):=⟨l,G,ar.t (.below G)⟩;rw[Si];have y2:=HX.o.2.2.cell c2;have y3:=HX.o.2.2.cell c3;have y2':=aw y2;have bb:Hid (∀ (B:eW Wx) (a:Wj),(vf 57 B).run Yq.prog a=.ok (.enter 57 B) a):=λB a=>by go_simp
   have bq:Hid (∀ (X:Obj),(wr.drew.alloc X).ownsRow h.heap.size 5 1 (M P (fw L) R) (fw L) (iV L)):=λX=>((bO HX.o.1 λg _ _=>Q:wr.drew.ownsRow _ _ _ _ _ _).alloc X)
   have a1:Hid (∀ (a:Wj) (x:Wx) (j:H) (u:Wx),[x][j]?=J u->((a.drew.alloc (E #[x] 5)).cell? ((⟨a.heap.size,0,N⟩:Wu).add j))=J u):=λa x j u hj=>AT a.drew x 5 j u hj
   have HK:Hid (∀ (a wy:Wj) (v q:Wx) (n:H) (r:S Wx),a.ownsRow h.heap.size 5 1 v n r->ax w a->h.heap.size<=a.heap.size->Gb a v wy q->ax w wy/\h.heap.size<=wy.heap.size/\wy.cell? ⟨k0,2,N⟩=J (I K b)/\wy.cell? ⟨k0,3,N⟩=J (I .u64 tm)):=λa wy v q n r ho b0 b2 hg=>by
    have ap:ax w wy:=ax.grown b0 hg.grown (λk e=>lT ar.size (ho.lt k e).1);exact⟨ap,lT b2 hg.grown.size,ap.cell c2,ap.cell c3⟩
   have bw:Hid (∀ (a:Wj) (v:Wx) (n:H) (r:S Wx),a.ownsRow h.heap.size 5 1 v n r->h.heap.size<=a.heap.size->n+8<=100000000000->Calls Yq.prog 57 #[v,I .u64 (IntKind.u64.wrap (IntKind.u64.wrap b+1))] a λe w'=>∃q,e=Rc q/\w'.ownsRow h.heap.size 5 1 q (n+8) (r++num8 (b+1) 8)/\Gb a v w' q):=λa v n r h1 h2 h3=>by
    rw[pi bo bt,E2 (by omega) (by omega)];exact iC _ n v r _ a h1 h2 h3
   have b1:Hid (∀ (a:Wj) (v:Wx) (n:H) (r:S Wx),a.ownsRow h.heap.size 5 1 v n r->h.heap.size<=a.heap.size->n+8<=100000000000->Calls Yq.prog 57 #[v,I .u64 tm] a λe w'=>∃q,e=Rc q/\w'.ownsRow h.heap.size 5 1 q (n+8) (r++num8 tm 8)/\Gb a v w' q):=λa v n r h1 h2 h3=>iC _ n v r _ a h1 h2 h3
   clear l G p ar;go_wp2_with fail
   go_region_law (first
    |(refine dB Q (Rh 17) (Rh 18) 125 Q h.heap.size 5 i0 _ 1 1 (Yq.u Ro) a4 a5 a8 a3 Q (by decide) (M P (fw L) R) (fw L) (iV L) (by first|(simp[pt];done)|(simp[pt,sq];done)|go_simp) (bq.o _) ⟨wr.heap.size,0,N⟩ 1 1 [I .u8 3] (by first|(simp[pt];done)|(simp[pt,sq];done)|go_simp) Q (a1.o _ _) (sB _) (by simp only[sT];omega) (by omega) (by simp;omega) ?_;intro v1 w2 F V ab;have bi:Gb wr (M P (fw L) R) w2 v1:=Gb.Oy (Gb.alloc ⟨V,ab⟩);obtain⟨be,A,z2,z3⟩:=HK.o _ _ _ _ _ _ HX.o.1 HX.o.2.2 bx bi;clear V ab)
    |(refine bQ Q 57 #[Rh 19,Rh 25] #[125,41] Q #[v1,I .u64 (IntKind.u64.wrap (IntKind.u64.wrap b+1))] (by first|(simp[pt];done)|(simp[pt,sq];done)|go_simp) (bb.o _ _) _ (bw.o w2 v1 _ _ F A (by omega)) ?_;rintro v3 w3 ⟨ai,a7⟩;obtain⟨bn,a0,x2,x3⟩:=HK.o _ _ _ _ _ _ F be A a7;have bp:=aw x3;clear a7 z2 z3 F be A bi))
   all_goals go_wp2_with fail
   all_goals go_region_law (first
    |(refine dB Q (Rh 27) (Rh 28) 125 Q h.heap.size 5 i0 _ 1 1 (Yq.u Ro) a4 a5 a8 a3 Q (by decide) v3 (fw L+1+8) _ (by first|(simp[pt];done)|(simp[pt,sq];done)|go_simp) ((bO ai λg _ _=>Q:w3.drew.ownsRow _ _ _ _ _ _).alloc _) ⟨w3.heap.size,0,N⟩ 1 1 [I .u8 4] (by first|(simp[pt];done)|(simp[pt,sq];done)|go_simp) Q (a1.o _ _) (sB _) (by simp only[sT];omega) (by omega) (by simp;omega) ?_;intro v4 w4 aj a6 aa;obtain⟨bk,af,z2,z3⟩:=HK.o _ _ _ _ _ _ ai bn a0 (Gb.Oy (Gb.alloc ⟨a6,aa⟩));clear a6 aa x2 x3 bp ai bn a0)
    |(refine bQ Q 57 #[Rh 29,Rh 33] #[125,41] Q #[v4,I .u64 tm] (by first|(simp[pt];done)|(simp[pt,sq];done)|go_simp) (bb.o _ _) _ (b1.o w4 v4 _ _ aj af (by omega)) ?_;rintro v5 w5 ⟨ad,bl⟩;obtain⟨bd,-,-,-⟩:=HK.o _ _ _ _ _ _ aj bk af bl;clear bl z2 z3 aj bk af))
   all_goals obtain⟨g5,a2,rfl,av⟩:=CG ad (by omega)
   all_goals have⟨bs,y⟩:=CH L b tm
   all_goals
    have D:bs.length=fw L+1+8+1+8:=by
     have:=ad.1;rw[y,lM]at this;omega
    have hcv:(convert 125 9 (M (J ⟨g5,0,N⟩) (fw L+1+8+1+8) a2)).run Yq.prog w5=.ok (U ⟨bs.toArray⟩) w5:=by
     rw[<-D];refine run_convert_bytes_back w5 125 9 5 ⟨g5,0,N⟩ a2 bs (Yq.u Ro) (Yq.u Rt) (Yq.u Rq) λj hj=>?_
     rw[Sl,zA];refine av j _ ?_;rw[y,List.getElem?_map,eL hj];rfl
    have HF:Hid (RZ ⟨bs.toArray⟩=iV L++([I .u8 3]++num8 (b+1) 8++([I .u8 4]++num8 tm 8))/\ax w w5):=by
     refine⟨?_,bd⟩;rw[RZ];simp only[pA]at y ⊢;exact y.s
    clear y av bd ad D;go_wp2;go_ret;exact⟨_,Q,HF.o.1,HF.o.2⟩
end
section
open Go.Conc Go.ConcX Go.ConcX.Gen Go.RowKit
theorem Yq.PR:(Yq.prog.info? 129).map (λi=>(i.zero,i.size,i.bytes))=J (J (Rd #[U ⟨#[]⟩,I K 0,U ⟨#[]⟩,C Z]),4,48):=by kernel_rfl
def dC(l:KVs):S (dT×Ver):=l.flatMap λx=>x.2.map λv=>(⟨x.1.toArray⟩,v)
def CI(t:H)(X:Wj)(b:H):Prop:=∃v,X.cell? ⟨t,0,N⟩=J v/\v.ownBlock=J b
theorem CI.of{t}X Y b(h:Y.heap[t]?=X.heap[t]?):CI t Y b->CI t X b:=λ⟨v,c,d⟩=>⟨v,(cB (a:=⟨t,0,N⟩) h).s.t c,d⟩
def qY(w:Wj)(root:gI Wu):Wj:=((w.alloc (E #[M N 0 0] 126)).alloc (E #[O root] 40)).alloc (E #[U ⟨#[]⟩] 9)
theorem dP w(a:gI Wu):(qY w a).heap.size=w.heap.size+3:=by simp only[qY,Rn,SC]
theorem uv w(a:gI Wu){b}(h:b<w.heap.size):(qY w a).heap[b]?=w.heap[b]?:=by
 simp only[qY,Rn,gP,SC]
 grind
theorem uw w(a:gI Wu)i(h:i<3):(qY w a).heap[w.heap.size+i]?=(#[E #[M N 0 0] 126,E #[O a] 40,E #[U ⟨#[]⟩] 9]:eW Obj)[i]?:=by
 simp only[qY,Rn,gP,SC]
 grind
structure AV (t:H)(w3:Wj)(E:S (dT×Ver))(X:Wj):Prop where
 os:X.os=w3.os
 size:w3.heap.size<=X.heap.size
 block:∀b,b<w3.heap.size->b≠t->X.heap[b]?=w3.heap[b]?
 row:∃v,X.heap[t]?=J (.cells #[v] 126)/\X.ownsRow w3.heap.size 129 4 v E.length (gY E)
section
variable {t:Nat} {w3 X Y:Wj} {E:List (dT×Ver)}
theorem AV.own(a:AV t w3 E X)b(h:CI t X b):w3.heap.size<=b/\∃o:Obj,X.heap[b]?=J o/\o.isCells=true:=by
 have⟨v,j,d⟩:=a.row;obtain⟨v',f,c⟩:=h;have e:X.cell? ⟨t,0,N⟩=J v:=by simp[yz,j]
 rw[e]at f;cases f;refine⟨(d.lt b c).1,?_⟩;rcases d.2 with⟨rfl,-⟩|⟨g,cap,cur,rfl,-,i,-⟩;simp[Sq]at c;simp[Sq]at c;subst c;exact⟨_,i,Q⟩
theorem AV.N0(k:t<w3.heap.size)(a:AV t w3 E X)(e:∀b,b<w3.heap.size->Y.heap[b]?=X.heap[b]?)(i:∀b,CI t X b->Y.heap[b]?=X.heap[b]?)(l:X.heap.size<=Y.heap.size)(j:Y.os=X.os):AV t w3 E Y:=by
 have⟨v,d,h⟩:=a.row;exact⟨j.t a.os,lT a.size l,λb f c=>(e b f).t (a.block b f c),v,(e t k).t d,bG h λg m=>i g ⟨v,by simp[yz,d],m⟩⟩
theorem AV.push(ht:t<w3.heap.size)(a:AV t w3 E X){c}{w2}{x}(r:X.heap[t]?=J (.cells #[v] 126))(A:w2.ownsRow w3.heap.size 129 4 c (E.length+1) (gY E++xV s' x))(q:Gb X v w2 c):
  AV t w3 (E++[(s',x)]) (w2.setCell ⟨t,0,N⟩ c)/\gU (CI t) t t X (w2.setCell ⟨t,0,N⟩ c):=by
 have⟨v0,D,F⟩:=a.row;rw[r]at D;cases D;have f:X.cell? ⟨t,0,N⟩=J v:=by simp[yz,r]
 have l:=λg p=>(F.lt g p).1
 have hX:=a.size;have m:∀b,b<X.heap.size->v.ownBlock≠J b->w2.heap[b]?=X.heap[b]?:=λb i u=>q.grown.block b i (λe=>u e.s)
 have y:v.ownBlock≠J t:=λe=>by have:=l t e;omega
 have d:∀b,b≠t->(w2.setCell ⟨t,0,N⟩ c).heap[b]?=w2.heap[b]?:=λb i=>Ra i
 have n:(w2.setCell ⟨t,0,N⟩ c).heap[t]?=J (.cells #[c] 126):=by
  have⟨z,B⟩:=eS ((m t (by omega) y).t r);show(w2.heap.modify t _)[t]?=_
  grind
 have hsz:(w2.setCell ⟨t,0,N⟩ c).heap.size=w2.heap.size:=by simp
 have o:=q.grown.os;have p:=q.grown.size;refine⟨⟨o.t a.os,by omega,λb i j=>?_,c,n,?_⟩,by omega,o,λb i=>?_,λb i j _ u=>?_⟩;rw[d b j,m b (by omega) (λe=>by have:=l b e;omega)];exact a.block b i j;have G:gY (E++[(s',x)])=gY E++xV s' x:=by simp[gY]
 rw[G,lP,lS];exact bG A λg p=>d g (λe=>by have:=(A.lt g p).1;omega)
 obtain⟨v1,z,B⟩:=i;have e:(w2.setCell ⟨t,0,N⟩ c).cell? ⟨t,0,N⟩=J c:=by simp[yz,n]
 rw[e]at z;cases z;rcases q.at_ b B with h|h;exact Rf ⟨v,f,h⟩;exact Rg h;rw[d b j,m b i (λe=>u ⟨v,f,e⟩)]
end
theorem oR{F:Fence}{P:Program}(w:Wj){A:eW Oper}{p:S Oper}
  (hg:o.guard=N) (s x:Operand) (t:Ww) (q:o.op=Op.call {callee:=Callee.builtin Builtin.append,args:=#[s,x],argTypes:=#[t,t]})
  (n:H) (e:Ww) (i:vx) (z:Wx) (f l:H) (h1:P.underlying t=J (.slice e)) (h2:P.info? e=J i) (h3:i.zero=J z) (h4:i.size=f) (h5:i.bytes=l) (h6:z.cells.size=f) (h7:0<f)
  (v:Wx) (k:H) (R:S Wx) (hs:a.eval s=v) (r:w.ownsRow n e f v k R) (G:Wu) (m c:H) (h:S Wx) (hx:a.eval x=.slice (J G) m c) (hn:h.length=m*f)
  (hc:∀j u,h[j]?=J u->w.cell? (G.add j)=J u) (L:∀u∈h,u.oneCell'=Y) (X:k+m<=sT) (b2:(k+m)*l<=140737488355328) (b3:n<=w.heap.size)
  (hK:∀y w',w'.ownsRow n e f y (k+m) (R++h)->Gb w v w' y->wpListIn F V P A b p (a.put o.dst y) w'):
  wpListIn F V P A b (o::p) a w:=by
 refine wpListIn_plain hg λd T=>?_
 have⟨y,w',B,r1,r2,r3⟩:=mb (P:=P) w n t o.type e i z f l h1 h2 h3 h4 h5 h6 h7 v k R r G m c h hn hc L X b2 b3;refine⟨?_,?_⟩;simp[Oper.about,q,resolve,Target.leads,Sem.run_pure];rw[Oper.semAt_plain F _ _ (by rw[q];intro c D;cases D)];simp[xb,q,resolve,invoke,builtin,hs,hx,B,Result.andThen];exact T _ _ (hK y w' r1 ⟨r2,r3⟩)
noncomputable def E6:Code:=Cp (cIn (dr (i8 (dr (dr (cD RU))))))
def g7(w:Wj)(k0:H)(root:gI Wu)(x4 c b a:Wx):eW Wx:=
 #[O (J ⟨k0,0,N⟩),Wo,M N 0 0,O (J ⟨w.heap.size,0,N⟩),x4,c,Wo,Wo,O (J ⟨k0,0,N⟩),O (J ⟨k0,0,N⟩),O (J ⟨k0,0,N⟩),
  .agg #[O root],.func (.func 101) #[] #[ptr (w.heap.size+1),ptr (w.heap.size+2)],b,a,Wo,Wo,Wo,Wo,Wo,Wo,Wo,Wo,Wo,Wo,Wo,Wo,Wo,Wo,Wo,Wo]
theorem gU.refl(a:Wj->H->Prop)c t W:gU a c t W W:=⟨Q0,Q,λ_ h=>Rf h,λ_ _ _ _ _=>Q⟩
theorem gU.t{a:Wj->H->Prop}{c t}{W' W''}(h:gU a c t W W')(k:gU a c t W' W''):gU a c t W W'':=⟨lT h.1 k.1,k.2.1.t h.2.1,En h.1 h.2.2.1 k.2.2.1,λb d e i f=>by
 have l:=lL d h.1;have m:∃o,W.heap[b]?=J o:=⟨_,eG d⟩;obtain⟨o,j⟩:=m;exact(k.2.2.2 b l e i (vW h.2.2.1 j f)).t (h.2.2.2 b d e i f)⟩
theorem Le(w:Wj)(a b c d:Wx)(T:Ww)(j:H)(u:Wx)(h:[a,b,c,d][j]?=J u):(w.alloc (E #[a,b,c,d] T)).cell? ((⟨w.heap.size,0,N⟩:Wu).add j)=J u:=by
 rw[Sl,zA,cA (w:=w) _ _ w.heap.size j Q]
 grind
theorem Lf(k:dT)v:∀u∈xV k v,u.oneCell'=true:=λu a=>by
 simp[xV]at a;rcases a with rfl|rfl|rfl|rfl<;>rfl
theorem CJ(a:KVs)k h:dC (a++[(k,h)])=dC a++h.map λv=>(⟨k.toArray⟩,v):=by simp[dC]
section
attribute [local go_sem] Oper.semAt_some mN
theorem IL k0(p:gI Wu)w(A:H->Prop)(hA:∀b,A b->b<w.heap.size)l(m:KVs)k h hv W(hh:bX A (qY w p) hv h)(L:h≠[])(hl:(dC m).length+h.length<=1000000)(c:AV w.heap.size (qY w p) (dC m) W):
  E6.wpIn (wf (J l)) 0 Yq.prog (λe _ W'=>e=.normal/\gU (CI w.heap.size) w.heap.size w.heap.size W W'/\AV w.heap.size (qY w p) (dC (m++[(k,h)])) W') ⟨g7 w k0 p (U ⟨k.toArray⟩) hv (U ⟨k.toArray⟩) hv,[]⟩ W:=by
 obtain⟨f,hQ⟩:∃f:Exit->Act->Wj->Prop,f=λe _ W'=>e=.normal/\gU (CI w.heap.size) w.heap.size w.heap.size W W'/\AV w.heap.size (qY w p) (dC (m++[(k,h)])) W':=⟨_,Q⟩
 rw[<-hQ];have HQ:=aq hQ;clear hQ;have⟨i0,av,ac,af,ai⟩:=tn Yq.PR;obtain⟨g,cap,rfl,G,ar,X,-⟩:=hh.cells L;have R:=hA g G;obtain⟨n,hn⟩:∃n,n=h.length:=⟨_,Q⟩;have hszW:w.heap.size+3<=W.heap.size:=by have:=c.size;rwa [dP]at this
 have HI:=aq c;have HC:=aq X;have HN:=eM hn hl R;rw[<-hn];clear c X hh L hl R ar G hn;unfold g7;dsimp only[E6,Cp,cD,RU,cIn,i8,dr,qh,Option.getD]
 gi_wp2_with fail
 gi_loopw [17] (λs17 wr=>∃i:H,i<=n/\s17=I K i/\AV w.heap.size (qY w p) (dC m++(h.take i).map λv=>(⟨k.toArray⟩,v)) wr/\gU (CI w.heap.size) w.heap.size w.heap.size W wr) (λs17 _=>n-(intOf s17).toNat)
 case atStart=>exact⟨0,Q8,Q,by simpa using HI.o,gU.refl _ _ _ _⟩
 case round=>
  obtain⟨i,hin,rfl,hE,hK⟩:=hrel;have HE:=bJ hE hK;by_cases ab:i<n
  have⟨v,z,D⟩:=hE.row;obtain⟨va,vc,rfl,-⟩:=ao D;have F:i<h.length:=by rw[<-HN.o.1];exact ab
  have hwr:w.heap.size+3<=wr.heap.size:=by have:=hE.size;rwa [dP]at this
  have y:=hE.block g (by rw[dP];have:=HN.o.2.2;omega) (by have:=HN.o.2.2;omega);have⟨q0,q1,q2⟩:=HC.o i F;have c0:=(cB (a:=⟨g,i*3,N⟩) y).t q0;have c1:=(cB (a:=⟨g,i*3+1,N⟩) y).t q1;have c2:=(cB (a:=⟨g,i*3+2,N⟩) y).t q2;have d0:wr.cell? ⟨w.heap.size,0,N⟩=J (M va (dC m++(h.take i).map λv=>((⟨k.toArray⟩:dT),v)).length vc):=by simp[yz,z]
  have T:(dC m++(h.take i).map λv=>((⟨k.toArray⟩:dT),v)).length=(dC m).length+i:=by rw[lP,lM,tL,SH (Nat.le_of_lt F)]
  have P:dC m++(h.take (i+1)).map (λv=>((⟨k.toArray⟩:dT),v))=(dC m++(h.take i).map λv=>((⟨k.toArray⟩:dT),v))++[(⟨k.toArray⟩,h[i])]:=by
   rw[tS F,R6,pA];rfl
  have hle:(dC m++(h.take i).map λv=>((⟨k.toArray⟩:dT),v)).length+1<=1000000:=by have:=HN.o;omega
  clear T;have hi6:i+1<=1000000:=by have:=HN.o;omega
  generalize al:(dC m++(h.take i).map λv=>((⟨k.toArray⟩:dT),v))=EE at *;have HT:=aq P;have HR:=bJ z D;clear P z D hE hK al q0 q1 q2 y;generalize h[i]=vv at *;obtain⟨x,q,r⟩:=vv;simp only at c0 c1 c2;have d0':=aw d0;have ad:Hid (∀ (B:Obj) (j:H) (u:Wx),(xV ⟨k.toArray⟩ ⟨x,q,r⟩)[j]?=J u->((wr.alloc B).alloc (E #[U ⟨k.toArray⟩,I K x,U q,C r] 129)).cell? ((⟨wr.heap.size+1,0,N⟩:Wu).add j)=J u):=λB j u hj=>by
   have:=Le (wr.alloc B) (U ⟨k.toArray⟩) (I K x) (U q) (C r) 129 j u hj;simpa using this
  have ap:Hid (∀ (B d:Obj) (w2:Wj) (v1:Wx),Gb ((wr.alloc B).alloc d) (M va EE.length vc) w2 v1->w2.cell? ⟨w.heap.size,0,N⟩=J (M va EE.length vc)/\w2.frozen? ⟨w.heap.size,0,N⟩=Z):=λB d w2 v1 hg=>by
   have e:=(hg.alloc.alloc.grown.block _ (by omega) (λe=>by have:=(HR.o.2.lt _ e.s).1;rw[dP]at this;omega)).t HR.o.1;exact⟨by simp[yz,e],by simp[Rk,e]⟩
  gi_wp2_with (gi_at_builtin;refine oR _ Q _ _ 126 Q (qY w p).heap.size 129 i0 _ 4 48 (Yq.u Rz) av ac af ai Q (by decide) _ EE.length (gY EE) Q ((HR.o.2.alloc _).alloc _) ⟨wr.heap.size+1,0,N⟩ 1 1 (xV ⟨k.toArray⟩ ⟨x,q,r⟩) Q Q (ad.o _) (Lf _ _) (by simp[sT];omega) (by omega) (by rw[dP];simp;omega) ?_;intro v1 w2 aa V;obtain⟨va1,vc1,rfl,-⟩:=ao aa;obtain⟨b0,b1⟩:=ap.o _ _ _ _ V)
  have⟨p1,p2⟩:=HE.o.1.push (by rw[dP];omega) HR.o.1 aa V.alloc.alloc;exact⟨⟨i+1,by omega,by go_num,by rw[HT.o];exact p1,HE.o.2.t p2⟩,by simp[intOf];omega⟩;have aj:i=n:=by omega
  subst aj
  gi_wp2_with fail
  rw[HQ.o];refine⟨Q,HE.o.2,?_⟩;have:=HE.o.1;rw[tO (by rw[<-HN.o.1];exact Q0)]at this;rw[CJ];exact this
end
end
end Go.Proofs.Qw
namespace Go.Proofs
open _root_ renaming rfl->Q
open _root_ renaming Nat->H,List->S
open Option renaming none->N,some->J
open Bool renaming true->Y,false->Z
open Value renaming int->I,string->U,slice->M,pointer->O,bool->C,agg->Rd,tuple->Re
open IntKind renaming i64->K
open Obj renaming cells->E
open Ending renaming returned->Rc
open Or renaming inl->Rf,inr->Rg
open Operand renaming tmp->Rh
variable {a u:Act}{B V g k n r y:H}{W W1 w wr:Wj}{s s':dT}{b c:Exit->Act->Wj->Prop}{l:ey}{F q:eW Oper}{o:Oper}{sc v v':Wx}{A:H->Prop}{xs:S Wx}{T:Ww}
section
open Go.Shelf Go.RowKit Go.Lib Go.Sort
def Yq.Pb:Go.Shelf.Ren:=⟨λ| 6=>81| 15=>104| 14=>103| 28=>129| 29=>130| 20=>121| 21=>122| 22=>123| 23=>124| 24=>125| 25=>126| 26=>127| 27=>128| 46=>138| 47=>139| 48=>140| 49=>141| 50=>142| 57=>150|n=>n,λ| 22=>126| 24=>129| 25=>167| 3=>3| 39=>193| 0=>0| 53=>216| 55=>41| 4=>4| 46=>210| 45=>209| 50=>153| 5=>5| 9=>9| 66=>225| 70=>229| 76=>237| 77=>238|n=>n,λn=>n⟩
theorem Yq.Qf:SlLaysF0.n6 Yq.prog Yq.Pb:={
 mixed:=by kernel_rfl
 f6 := xv "slices.SortFunc[[]shelf/store.entry,shelf/store.entry]" ⟨by decide, (Yq.nq Tryz.func81).t (eV J (by kernel_rfl))⟩
 f14 := xv "slices.pdqsortCmpFunc[shelf/store.entry]" ⟨by decide, (Yq.nq Tryz.func103).t (eV J (by kernel_rfl))⟩
 f15:=(Yq.nq Tryz.func104).t (eV J (by kernel_rfl))
 f20 := xv "slices.insertionSortCmpFunc[shelf/store.entry]" ⟨by decide, (Yq.nq Tryz.func121).t (eV J (by kernel_rfl))⟩
 f21 := xv "slices.heapSortCmpFunc[shelf/store.entry]" ⟨by decide, (Yq.nq Tryz.func122).t (eV J (by kernel_rfl))⟩
 f22 := xv "slices.breakPatternsCmpFunc[shelf/store.entry]" ⟨by decide, (Yq.nq Tryz.func123).t (eV J (by kernel_rfl))⟩
 f23 := xv "slices.choosePivotCmpFunc[shelf/store.entry]" ⟨by decide, (Yq.nq Tryz.func124).t (eV J (by kernel_rfl))⟩
 f24 := xv "slices.reverseRangeCmpFunc[shelf/store.entry]" ⟨by decide, (Yq.nq Tryz.func125).t (eV J (by kernel_rfl))⟩
 f25 := xv "slices.partialInsertionSortCmpFunc[shelf/store.entry]" ⟨by decide, (Yq.nq Tryz.func126).t (eV J (by kernel_rfl))⟩
 f26 := xv "slices.partitionEqualCmpFunc[shelf/store.entry]" ⟨by decide, (Yq.nq Tryz.func127).t (eV J (by kernel_rfl))⟩
 f27 := xv "slices.partitionCmpFunc[shelf/store.entry]" ⟨by decide, (Yq.nq Tryz.func128).t (eV J (by kernel_rfl))⟩
 f28:=(Yq.nq Tryz.func129).t (eV J (by kernel_rfl))
 f29:=(Yq.nq Tryz.func130).t (eV J (by kernel_rfl))
 f46 := xv "slices.siftDownCmpFunc[shelf/store.entry]" ⟨by decide, (Yq.nq Tryz.func138).t (eV J (by kernel_rfl))⟩
 f47:=(Yq.nq Tryz.func139).t (eV J (by kernel_rfl))
 f48:=(Yq.nq Tryz.func140).t (eV J (by kernel_rfl))
 f49 := xv "slices.medianAdjacentCmpFunc[shelf/store.entry]" ⟨by decide, (Yq.nq Tryz.func141).t (eV J (by kernel_rfl))⟩
 f50 := xv "slices.medianCmpFunc[shelf/store.entry]" ⟨by decide, (Yq.nq Tryz.func142).t (eV J (by kernel_rfl))⟩
 f57 := xv "slices.order2CmpFunc[shelf/store.entry]" ⟨by decide, (Yq.nq Tryz.func150).t (eV J (by kernel_rfl))⟩
 t0:=(Yq.u Tryz.underlying0)
 a0:=(λw=>Yq.a (Tryz.isAgg0 w))
 z0:=(λw=>Yq.s (Tryz.sizeOf0 w))
 v0:=(λw=>Yq.z (Tryz.zeroValue0 w))
 t3:=(Yq.u Tryz.underlying3)
 a3:=(λw=>Yq.a (Tryz.isAgg3 w))
 z3:=(λw=>Yq.s (Tryz.sizeOf3 w))
 v3:=(λw=>Yq.z (Tryz.zeroValue3 w))
 t4:=(Yq.u Tryz.underlying4)
 a4:=(λw=>Yq.a (Tryz.isAgg4 w))
 z4:=(λw=>Yq.s (Tryz.sizeOf4 w))
 v4:=(λw=>Yq.z (Tryz.zeroValue4 w))
 t5:=(Yq.u Rt)
 a5:=(λw=>Yq.a (Tryz.isAgg5 w))
 z5:=(λw=>Yq.s (Tryz.sizeOf5 w))
 v5:=(λw=>Yq.z (Tryz.zeroValue5 w))
 t9:=(Yq.u Rq)
 a9:=(λw=>Yq.a (Tryz.isAgg9 w))
 z9:=(λw=>Yq.s (Tryz.sizeOf9 w))
 v9:=(λw=>Yq.z (Tryz.zeroValue9 w))
 t22:=(Yq.u Rz)
 a22:=(λw=>Yq.a (Tryz.isAgg126 w))
 z22:=(λw=>Yq.s (Tryz.sizeOf126 w))
 v22:=(λw=>Yq.z (Tryz.zeroValue126 w))
 t25:=(Yq.u Tryz.underlying167)
 a25:=(λw=>Yq.a (Tryz.isAgg167 w))
 z25:=(λw=>Yq.s (Tryz.sizeOf167 w))
 v25:=(λw=>Yq.z (Tryz.zeroValue167 w))
 t39:=(Yq.u Tryz.underlying193)
 a39:=(λw=>Yq.a (Tryz.isAgg193 w))
 z39:=(λw=>Yq.s (Tryz.sizeOf193 w))
 v39:=(λw=>Yq.z (Tryz.zeroValue193 w))
 t45:=(Yq.u Tryz.underlying209)
 a45:=(λw=>Yq.a (Tryz.isAgg209 w))
 z45:=(λw=>Yq.s (Tryz.sizeOf209 w))
 v45:=(λw=>Yq.z (Tryz.zeroValue209 w))
 t46:=(Yq.u Tryz.underlying210)
 a46:=(λw=>Yq.a (Tryz.isAgg210 w))
 z46:=(λw=>Yq.s (Tryz.sizeOf210 w))
 v46:=(λw=>Yq.z (Tryz.zeroValue210 w))
 t50:=(Yq.u Tryz.underlying153)
 a50:=(λw=>Yq.a (Tryz.isAgg153 w))
 z50:=(λw=>Yq.s (Tryz.sizeOf153 w))
 v50:=(λw=>Yq.z (Tryz.zeroValue153 w))
 t53:=(Yq.u Tryz.underlying216)
 a53:=(λw=>Yq.a (Tryz.isAgg216 w))
 z53:=(λw=>Yq.s (Tryz.sizeOf216 w))
 v53:=(λw=>Yq.z (Tryz.zeroValue216 w))
 t55:=(Yq.u Tryz.underlying41)
 a55:=(λw=>Yq.a (Tryz.isAgg41 w))
 z55:=(λw=>Yq.s (Tryz.sizeOf41 w))
 v55:=(λw=>Yq.z (Tryz.zeroValue41 w))
 t66:=(Yq.u Tryz.underlying225)
 a66:=(λw=>Yq.a (Tryz.isAgg225 w))
 z66:=(λw=>Yq.s (Tryz.sizeOf225 w))
 v66:=(λw=>Yq.z (Tryz.zeroValue225 w))
 t70:=(Yq.u Tryz.underlying229)
 a70:=(λw=>Yq.a (Tryz.isAgg229 w))
 z70:=(λw=>Yq.s (Tryz.sizeOf229 w))
 v70:=(λw=>Yq.z (Tryz.zeroValue229 w))
 t76:=(Yq.u Tryz.underlying237)
 a76:=(λw=>Yq.a (Tryz.isAgg237 w))
 z76:=(λw=>Yq.s (Tryz.sizeOf237 w))
 v76:=(λw=>Yq.z (Tryz.zeroValue237 w))
 t77:=(Yq.u Tryz.underlying238)
 a77:=(λw=>Yq.a (Tryz.isAgg238 w))
 z77:=(λw=>Yq.s (Tryz.sizeOf238 w))
 v77:=(λw=>Yq.z (Tryz.zeroValue238 w))}
end
end Go.Proofs
namespace Go.Proofs.Qw
open _root_ renaming rfl->Q
open _root_ renaming Nat->H,List->S
open Option renaming none->N,some->J
open Bool renaming true->Y,false->Z
open Value renaming int->I,string->U,slice->M,pointer->O,bool->C,agg->Rd,tuple->Re
open IntKind renaming i64->K
open Obj renaming cells->E
open Ending renaming returned->Rc
open Or renaming inl->Rf,inr->Rg
open Operand renaming tmp->Rh
variable {a u:Act}{B V g k n r y:H}{W W1 w wr:Wj}{s s':dT}{b c:Exit->Act->Wj->Prop}{l:ey}{F q:eW Oper}{o:Oper}{sc v v':Wx}{A:H->Prop}{xs:S Wx}{T:Ww}{L:S (dT×Ver)}{x:St×ey×dT}
section
open Go.Shelf Go.RowKit Go.Sort
@[reducible] def JE:Inhabited (dT×Ver):=⟨(⟨#[]⟩,⟨0,⟨#[]⟩,Z⟩)⟩
def E7(e:dT×Ver):S Wx:=xV e.1 e.2
def cfE(x y:dT×Ver):ey:=Mi x.2.num y.2.num
def j4(E:S (dT×Ver)):S (dT×Ver):=(@Sort.pdq _ JE (ltOf cfE) E.toArray 0 E.length (R5 E.length) Y Y).toList
theorem ltE(x y:dT×Ver):ltOf cfE x y=decide (x.2.num<y.2.num):=by
 unfold ltOf cfE Mi
 grind
theorem Ni:SWO (ltOf cfE) where
 irrefl x:=by rw[ltE];simp
 trans x y z h1 h2:=by rw[ltE]at *;simp at *;omega
 ntrans x y z h1 h2:=by rw[ltE]at *;simp at *;omega
theorem qJ E:@PermIn _ JE 0 E.length E.toArray (j4 E).toArray/\@SortedIn _ JE (ltOf cfE) 0 E.length (j4 E).toArray:=by
 letI:=JE
 have h:=pdq_sorts (ltOf cfE) Ni E.toArray 0 E.length (R5 E.length) Y Y Q8 (by simp) (Rf Q);unfold j4
 simp_all
theorem kM E:(j4 E).Perm E:=by
 have h:=(qJ E).1;have h1:(j4 E).length=E.length:=by simpa using h.1
 have h2:=h.2.2
 grind
theorem fJ E:(j4 E).length=E.length:=(kM E).length_eq
theorem Mj E:(@flatK _ JE E7 4 E.toArray).toList=gY E:=by
 letI:=JE
 refine Sh λj=>?_
 by_cases a:j<E.length*4
 have e:j=j/4*4+j%4:=by omega
 have c:(flatK E7 4 E.toArray).toList[j]?=J (flatK E7 4 E.toArray)[j]!:=by
  rw[gT,eG (by simpa using a),lk _ j (by simpa using a)]
 rw[c,get_flatK _ _ _ _ (by simpa using a)];have b:=bL 4 (λe:dT×Ver=>xV e.1 e.2) (λ_=>Q) E (j/4) (j%4) (by omega) (by omega);rw[<-e]at b;show _=(E.flatMap λe=>xV e.1 e.2)[j]?;have f:E.toArray[j/4]! =E[j/4]:=by grind
 rw[b,f];have d:j%4=0\/j%4=1\/j%4=2\/j%4=3:=by omega
 rcases d with h|h|h|h<;>rw[h]<;>rfl
 rw[R7 (by simp;omega),R7 (by rw[show(gY E).length=E.length*4 from cF 4 _ (λ_=>Q) E];omega)]
theorem Lh d E v w(h:w.ownsRow d 129 4 v E.length (gY E))(hE:E.length<=1000000):
  Calls Yq.prog 81 #[v,.func (.func 82) #[] #[]] w λe w'=>e=Rc (Re #[])/\w'.ownsRow d 129 4 v E.length (gY (j4 E))/\(∀b,b<w.heap.size->v.ownBlock≠J b->w'.heap[b]?=w.heap[b]?)/\w.heap.size<=w'.heap.size/\w'.os=w.os:=by
 letI:=JE
 rcases h.2 with⟨rfl,V⟩|⟨g,o,f,rfl,X,u,l,q,t,htake⟩;have c:=AnyF.slices_SortFunc_none Yq.Qf N 0 (.func (.func 82) #[] #[]) w;change Calls Yq.prog 81 _ _ _ at c;refine c.m ?_;rintro e w' ⟨rfl,rfl⟩;have D:=Sa.1 V;subst D;have e2:=Sa.1 (fJ [])
 grind
 have i:=(eS u).1;have hcell:=λj=>cell_of_row w g j f 129 (0,0) u
 have hx:(gY E).length=E.length*4:=cF 4 _ (λ_=>Q) E;have R:HoldsK E7 4 w g 0 E.toArray:=by
  intro j k;have hj':j<E.length*4:=by simpa using k
  have D:(flatK E7 4 E.toArray)[j]?=(gY E)[j]?:=by rw[<-Mj,gT]
  have e2:f[j]?=(gY E)[j]?:=by
   grind
  refine⟨?_,?_⟩
  grind
  rw[zA];simp[Rk,u]
 have n:CmpLays Yq.prog 82 #[] E7 4 cfE g 0 E.toArray.size w:=λ_ _ _ _ x y=>by
  refine(EZ x.1 y.1 x.2 y.2 _).m ?_;rintro e w' ⟨rfl,rfl⟩;exact⟨Q,0,_,by rw[alloc_eq_grow,alloc_eq_grow,grow_grow];rfl⟩
 have c:=AnyQ.slices_SortFunc_eq Yq.Qf 4 (λw=>Yq.a (Tryz.isAgg129 w)) (λw=>Yq.s (Tryz.sizeOf129 w)) E7 (λ_=>Q) (λx v F=>by simp[E7,xV]at F;rcases F with rfl|rfl|rfl|rfl<;>rfl) cfE Ni 82 #[] g 0 o E.toArray w (λargs w=>by go_simp) n R i (by simp;omega);change Calls Yq.prog 81 _ _ _ at c;have T:E.toArray.size=E.length:=by simp
 rw[T]at c;refine c.m ?_;rintro e w' ⟨rfl,m,z,rfl⟩;have G:(pdq (ltOf cfE) E.toArray 0 E.length (R5 E.length) Y Y)=(j4 E).toArray:=by unfold j4;rw[Array.toArray_toList]
 rw[G];have p:(sortWorldK E7 4 w g 0 m (j4 E).toArray z).heap[g]?=J (.cells (putCells id 0 (flatK E7 4 (j4 E).toArray) f) 129 (0,0)):=by
  show((w.heap.modify g _)++z)[g]?=_;rw[Sz (by rw[Sy];exact i),eG (by rw[Sy];exact i),Array.getElem_modify_self];have⟨h1,P⟩:=eS u;rw[P];rfl
 have L:(gY (j4 E)).length=E.length*4:=by rw[<-fJ E];exact cF 4 _ (λ_=>Q) _
 refine⟨Q,⟨L,Rg ⟨g,o,_,Q,X,p,l,q,by simp[putCells,t],?_⟩⟩,λb B A=>?_,?_,Q⟩;refine Sh λj=>?_
 by_cases k:j<E.length*4
 have r:j<(flatK E7 4 (j4 E).toArray).size:=by simp[fJ,k]
 rw[List.getElem?_take_of_lt k,gT,putCells,Array.getElem?_mapIdx,eG (by rw[t];exact lL k (SE 4 l)),Option.map_some,kr ⟨Q8,by omega⟩,<-Mj,gT,Nat.sub_zero,lk _ j r,eG r];rfl;rw[R7 (by simp;omega),R7 (by omega)];show((w.heap.modify g _)++z)[b]?=_;rw[Sz (by rw[Sy];exact B),Array.getElem?_modify,lj (λe=>A (by rw[e];rfl))];show w.heap.size<=((w.heap.modify g _)++z).size;rw[Array.size_append,Sy];omega
end
section
open Go.Conc Go.ConcX Go.ConcX.Gen Go.RowKit
theorem j5(l:KVs):(dC l).length=fU l:=by
 simp[dC,fU,List.length_flatMap]
section
attribute [local go_sem] Oper.semAt_some mN
theorem CK k0(u:gI Wu)(f:S gL->S Ver)w(c0:w.cell? ⟨k0,0,N⟩=J (O u))(hT:wD w u f)(z:fU (bV f [])<=1000):
  Calls Yq.prog 55 #[O (J ⟨k0,0,N⟩)] w λe w'=>∃v,e=Rc v/\w'.ownsRow w.heap.size 129 4 v (j4 (dC (bV f []))).length (gY (j4 (dC (bV f []))))/\ax w w':=by
 obtain⟨y,P⟩:∃y,bV f []=y:=⟨_,Q⟩;have L:∀x∈y,x.2≠[]:=by rw[<-P];exact ft _ _ _
 have V:=au.Nx (λb B aj=>⟨B,uv w u aj⟩) 41 u f hT;rw[P]at z ⊢;have T:AV w.heap.size (qY w u) (dC []) (qY w u):=⟨Q,Q0,λ_ _ _=>Q,_,uw w u 0 (by omega),Rm _ _ _ _⟩;refine(callsIn_wide (n:=0)).1 (callsIn_of_wp_marks (F:=Fence.wide) (Yq.nq Tryz.func55) Q trivial ((uc (n:=0)).2 ?_));generalize hQ:bodyPostM Fence.wide 0 Yq.prog RU _=i;simp only[Tryz.ntmps55,lZ,lC,lN,SG,Nat.reduceSub,Array.replicate_succ,Array.replicate_zero,List.push_toArray,List.append_toArray,List.nil_append,List.cons_append];have HQ:=aq hQ;have HX:=ig V T L z;have c0':=aw c0;clear hQ V T L hT z;go_wp2_with (go_at_call 80;refine(EA u _ _).m ?_;rintro e w6 ⟨rfl,rfl⟩)
 rename_i K1 ai;refine uc.1 (show SK (wf N) 0 Yq.prog _ (Exit.inBlock 0 (Exit.then K1 i)) ⟨g7 w k0 u Wo Wo Wo Wo,[]⟩ (qY w u)from ?_);have⟨V,T,L,z⟩:=HX.o;have af:w.heap.size<(qY w u).heap.size:=by rw[dP];omega
 refine vY (α:=S gL×S Ver) (β:=S gL×S Ver×Wx) (encs:=λx=>#[U ⟨x.1.toArray⟩,x.2.2]) (gf:=101) (lb:=#[ptr (w.heap.size+1),ptr (w.heap.size+2)]) (λx=>(x.1,x.2.1)) Q (λargs wx=>by go_simp) (λ_=>Q) w.heap.size w.heap.size af (CI w.heap.size) CI.of
  (λA X=>AV w.heap.size (qY w u) (dC A) X) (λA x=>A++[(x.1,x.2.1)] <+:y/\bX (dA w) (qY w u) x.2.2 x.2.1/\x.2.1≠[]) y (λA X b c h=>c.own b h) (λA X Y c G R h3 h4=>c.N0 af G R h3 h4) (λA X c=>⟨Rf Q,Rf Q⟩) T
  (λx=>⟨g7 w k0 u (U ⟨x.1.toArray⟩) x.2.2 (U ⟨x.1.toArray⟩) x.2.2,[]⟩) ?call ?assign ?body ?done
 case call=>
  intro l d W hW1 ab av ar a1 hy a3;have j:yO (dA w) (qY w u) ((qY w u).heap.size+2) w.heap.size l (CI w.heap.size) y d:=⟨λb B=>by
    have G:=B.lt;obtain⟨o,h3,h4⟩:=B;exact⟨by rw[dP];omega,by omega,o,(uv w u G).t h3,h4⟩,by omega,CI.of,av,ar,a1,λA k h hv X G R h3 h4=>hy A (k,h,hv) X ⟨G,R,h3⟩ h4⟩
  exact Av j u f ⟨#[]⟩ W (w.heap.size+1) (w.heap.size+2) V P.s (λb B=>ab b (by have:=B.lt;rw[dP];omega))
   (by rw[cB (a:=⟨w.heap.size+1,0,N⟩) (ab _ (by rw[dP];show w.heap.size+1<_;omega))];simp[yz,uw w u 1 (by omega)])
   (by rw[cB (a:=⟨w.heap.size+2,0,N⟩) (ab _ (by rw[dP];show w.heap.size+2<_;omega))];simp[yz,uw w u 2 (by omega)]) (by decide) a3
 case assign=>
  intro l x W q hK;obtain⟨k,h,hv⟩:=x;have e:(#[13,14].zip #[Sx ⟨k.toArray⟩,hv]).foldl (λt x=>match x with|(p,v)=>t.setIfInBounds p v) (g7 w k0 u Wo Wo Wo Wo)=g7 w k0 u Wo Wo (U ⟨k.toArray⟩) hv:=by
   simp[g7]
  show SK _ _ _ _ _ ⟨(#[13,14].zip #[Sx ⟨k.toArray⟩,hv]).foldl (λt x=>match x with|(p,v)=>t.setIfInBounds p v) (g7 w k0 u Wo Wo Wo Wo),[]⟩ _;rw[e];unfold g7;unfold g7 at hK;gi_wp2;exact hK
 case body=>
  rintro l A ⟨k,h,hv⟩ W ⟨G,R,h3⟩ c;have h5:(dC A).length+h.length<=1000:=by
   obtain⟨r,hr⟩:=G;rw[<-hr]at z;rw[j5];simp only[fU,R6,Sj,Sf,Sg,List.sum_cons,List.sum_nil]at z ⊢;omega
  exact IL k0 u w (dA w) (λb B=>B.lt) l A k h hv W R h3 (by omega) c
 case done=>
  intro D W hD c hK;have⟨v,al,aa⟩:=c.row;obtain⟨va,vc,rfl,-⟩:=ao aa;have hlen:(dC y).length<=1000:=by rw[j5];exact z
  have HS:=Lh (qY w u).heap.size (dC y) _ W aa (by omega);have d0:W.cell? ⟨w.heap.size,0,N⟩=J (M va (dC y).length vc):=by simp[yz,al]
  have HB:Hid (∀w':Wj,w'.ownsRow (qY w u).heap.size 129 4 (M va (dC y).length vc) (dC y).length (gY (j4 (dC y)))->(∀b,b<W.heap.size->(Su va (dC y).length vc).ownBlock≠J b->w'.heap[b]?=W.heap[b]?)->w'.cell? ⟨w.heap.size,0,N⟩=J (M va (dC y).length vc)/\w'.heap[D]?=J (.deferred (J []))):=λw' ho B=>by
   have hs:=c.size;refine⟨?_,?_⟩;rw[cB (a:=⟨w.heap.size,0,N⟩) (B w.heap.size (by omega) (λe=>by have:=(aa.lt _ e).1;omega))];exact d0;refine(B D (eS hK).1 (λe=>?_)).t hK;obtain⟨-,o,G,R⟩:=c.own D ⟨_,d0,e⟩;rw[hK]at G;cases G;cases R
  show K1 _ _;refine ai _ _ ?_;unfold g7;clear ai;go_wp2_with (go_at_call 81;refine HS.m ?_;clear HS;rintro e w' ⟨rfl,o1,o2,o3,o4⟩;have⟨p0,p1⟩:=HB.o w' o1 o2)
  have hQ:=HQ.o;subst hQ;refine⟨by simp,Rf ⟨_,_,Q,run_takeDeferred p1,?_⟩⟩;have ad:∀b,b≠D->(w'.putObj D (.deferred N)).heap[b]?=w'.heap[b]?:=λb B=>pO B
  have hs:=c.size;have ap:∀g,(Su va (dC y).length vc).ownBlock=J g->g≠D:=λg hg e=>by
   subst e;obtain⟨-,o,G,R⟩:=c.own g ⟨_,d0,hg⟩;rw[hK]at G;cases G;cases R
  have ac:∀b,b<w.heap.size->(Su va (dC y).length vc).ownBlock≠J b:=λb B e=>by have:=(aa.lt _ e).1;omega
  refine⟨M va (dC y).length vc,by simp[results,Tryz.results55,go_sem],⟨_,Q,?_,?_⟩⟩;rw[fJ];have G:=bG o1 (w':=w'.putObj D (.deferred N)) λg hg=>ad g (ap g hg)
  exact⟨G.1,G.2.imp id λ⟨g,a0,a2,e,B,r⟩=>⟨g,a0,a2,e,by omega,r⟩⟩;refine⟨o4.t c.os,by simp;omega,λb B=>?_⟩;rw[ad b (by omega),o2 b (by omega) (ac b B),c.block b (by omega) (by omega),uv w u B]
end
def bytesOf(xs:S Wx):dT:=⟨(xs.map λv=>SO (intOf v).toNat).toArray⟩
theorem zq(h:RZ s=xs):s=bytesOf xs:=by
 subst h;unfold bytesOf RZ;have:((λv=>SO (intOf v).toNat)∘λb:gL=>Sv .u8 (b.toNat:ey))=id:=by
  funext b;simp[intOf]
 simp_all
def cN(st:St):S (dT×Ver):=j4 (dC (bV st.f []))
def fT(st:St)(tm:ey):dT:=bytesOf (iV (cN st)++([I .u8 3]++num8 (st.last+1) 8++([I .u8 4]++num8 tm 8)))
theorem iW n:∀ (f:S gL->S Ver)(a:S gL),∀x∈dF n f a,∃k,x.1=a++k/\x.2=f k:=by
 induction n with
 |zero=>intro f a x b;simp[dF]at b
 |succ n ih=>
  intro f a x b;simp[dF]at b
  grind
theorem gy{st}{e:dT×Ver}(h:e∈cN st):e.1.size<=40/\∃k,e.2∈st.f k:=by
 have a:=(kM _).mem_iff.1 h;simp only[dC,List.mem_flatMap,Sk]at a;obtain⟨x,b,v,c,rfl⟩:=a;obtain⟨k,-,d⟩:=iW _ _ _ x b;have:=(wG b).2;exact⟨by simpa[SU]using this,k,by simpa[d]using c⟩
theorem wV{E}(h:∀e∈E,e.1.size<=40/\e.2.body.size<=100):fw E<=E.length*200:=by
 induction E with
 |nil=>simp[fw]
 |cons e E ih=>
  have a:=ih λx b=>h x (by simp[b])
  have h2:=h e (by simp);have h3:AU e.1 e.2<=200:=by unfold AU;split<;>omega
  simp[fw]at a ⊢;omega
section
variable {A:Nat->Prop} {B k0:Nat} {w:Wj} {st:St} {L:Lg}
theorem E8(a:aS A w k0 st){j:ey}(o:w.cell? ⟨k0,3,N⟩=J (I .u64 j)){s}(l:Inv st s)(n:eR st):
  Calls Yq.prog 27 #[O (J ⟨k0,0,N⟩)] w λe w'=>e=Rc (U (fT st j))/\ax w w':=by
 have⟨c,u,v⟩:=a.tree;have b:fU (bV st.f [])<=1000:=by
  have h3:fU (bV st.f [])=tot 41 st.f:=rfl;have:=n.cnt;have:=n.le;omega
 have hlen:(cN st).length<=1000:=by rw[cN,fJ,j5];exact b
 have hn:=wV (E:=cN st) λe d=>⟨(gy d).1,by have⟨k,h⟩:=(gy d).2;exact n.body k _ h⟩
 have hl1:=l.NY;refine(Ld k0 (cN st) st.last j w a.last o (CK k0 c st.f w u (.of v) b) (by omega) (by omega) (λe d=>?_) l.NV (by omega)).m ?_;have⟨k,h⟩:=(gy d).2;have⟨i,p,q⟩:=gM h;have:=l.bounds k i p;rw[iA p,q]at this;omega;rintro e w' ⟨sb,rfl,t,r⟩;rw[zq t];exact⟨Q,r⟩
theorem E9(h:bh A B w k0 st L){s}(b:Inv st s)(a:eR st):
  Calls Yq.prog 27 #[O (J ⟨k0,0,N⟩)] w λe w'=>e=Rc (U (fT st L.tm))/\ax w w':=E8 h.store h.time b a
theorem zr(h:bh A B w k0 st L)(V:B<=w.heap.size){s}(u:Inv st s)(R:eR st)(_hs:s<2199023255340)o(D:o.kind=11):
  Calls Yq.prog 11 #[O (J ⟨k0,0,N⟩),aL o] w (cf A B k0 w st L ⟨0,0,fT st L.tm,[],⟨#[]⟩⟩):=by
 have q:=h.left (bg o);have c:k0<(dI w o).heap.size:=by have:=h.ls.lt;rw[aW];omega
 have HT:=E9 q u R;have HB:Hid (∀a,ax (dI w o) a->_):=λa d=>box5 (mS o h.ls (FrC.left c d))
 have HF:Hid (∀a f p l k j,ax (dI w o) a->cf A B k0 w st L ⟨0,0,fT st L.tm,[],⟨#[]⟩⟩ (Rc (kJ ⟨0,0,fT st L.tm,[],⟨#[]⟩⟩ (M N 0 0))) (put5 a (w.heap.size+1) f p l k j)):=λa f p l k j i=>by
  have⟨F,e2,G,T⟩:=nM (A':=A) (sv:=M N 0 0) (NA:=[]) (r:=w.heap.size+1) (bg o) h.ls.lt V (by omega) (by rw[aW];omega) ⟨_,iw o,Q⟩ (λ_ h=>h) (λb d=>Rf d) h.ls.Of (q.left i) (fS.left c i) (FrC.left c i) (gX o h.ls) .nil f p l k j;exact⟨_,Q,A,λ_ h=>h,F,e2,G,T⟩
 generalize fT st L.tm=X at *;obtain⟨kind,key,body,fe,past,n,src⟩:=o;subst D;unfold aL;go_enter (Yq.nq Ru),Rr;go_wp2_with (go_at_call 27;refine HT.m ?_;rintro e a ⟨rfl,d⟩;have⟨⟨P,t,x,z,y⟩,f0,f1,f2,f3,f4⟩:=HB.o a d)
 exact tb (v:=kJ ⟨0,0,X,[],⟨#[]⟩⟩ (M N 0 0)) (by simp[results,Rp,go_sem,kJ,P,t,x,z,y]) Q (HF.o a _ _ _ _ _ d)
end
def tkB(s:dT)(n:H):dT:=s.extract 0 (min n s.size)
def rsB(s:dT)(n:H):dT:=s.extract (min n s.size) s.size
theorem Fb(r n:H)(s:dT)(w:Wj)(a:s.size<=sT)(hn:n<=1000)(c0:w.cell? ⟨r,0,N⟩=J (U s))(f0:w.frozen? ⟨r,0,N⟩=Z):
  Calls Yq.prog 131 #[O (J ⟨r,0,N⟩),I K n] w λe w'=>e=Rc (U (tkB s n))/\w'=w.setCell ⟨r,0,N⟩ (U (rsB s n)):=by
 unfold sT at a;unfold tkB rsB;have e:(min (n:ey) s.size).toNat=min n s.size:=by omega
 go_enter (Yq.nq Tryz.func131),Tryz.ntmps131;go_wp2_with fail
 go_ret
 simp_all
def uK(l:S gL):Nat:=l.foldl (λa b=>a*256+b.toNat) 0
theorem Fc l(b:gL):uK (l++[b])=uK l*256+b.toNat:=by simp[uK]
theorem AW:∀ (l:S gL)(a:H),l.foldl (λa b=>a*256+b.toNat) a<(a+1)*256^l.length
 | [],a=>by simp
 |b::l,a=>by
  have h1:=AW l (a*256+b.toNat);have h2:=b.toNat_lt;have h3:(a*256+b.toNat+1)*256^l.length<=((a+1)*256)*256^l.length:=SE _ (by omega);rw[List.foldl_cons,lC,Nat.pow_succ,Nat.mul_comm (256^l.length) 256,<-Nat.mul_assoc];omega
theorem zt l:uK l<256^l.length:=by
 have:=AW l 0
 rwa [zA,Nat.one_mul]at this
structure Dq (r:H)(w w':Wj)(s:dT):Prop where
 os:w'.os=w.os
 size:w.heap.size<=w'.heap.size
 block:∀b,b<w.heap.size->b≠r->w'.heap[b]?=w.heap[b]?
 cell:w'.cell? ⟨r,0,N⟩=J (U s)
 frozen:w'.frozen? ⟨r,0,N⟩=Z
theorem pk(s:dT)n:(tkB s n).size<=n:=by simp[tkB];omega
theorem Li(a b:H)(ha:a<256^7)(hb:b<256):bits BinOp.or IntKind.u64 ((a:ey)*256) ((b:H):ey)=((a*256+b:H):ey):=by
 have h1:((a:ey)*256%2^IntKind.u64.bits).toNat=a*256:=by simp[Sm];omega
 have h2:b%2^IntKind.u64.bits=b:=by simp[Sm];omega
 have e:a*256 ||| b=a*256+b:=by
  have:=Nat.shiftLeft_add_eq_or_of_lt (i:=8) (b:=b) (by omega) a;rw[Nat.shiftLeft_eq]at this
  grind
 unfold bits;simp only[BitVec.toNat_or,BitVec.toNat_ofInt];have d:((b:ey)%((2^IntKind.u64.bits:H):ey)).toNat=b:=by grind
 have c:((a:ey)*256%((2^IntKind.u64.bits:H):ey)).toNat=a*256:=by grind
 rw[d,c,e];simp[Sp,Sm,Sn];omega
theorem qK(r n:H)(s:dT)(w:Wj)(X:s.size<=sT)(hn:n<=8)(q:w.cell? ⟨r,0,N⟩=J (U s))(y:w.frozen? ⟨r,0,N⟩=Z):
  Calls Yq.prog 106 #[O (J ⟨r,0,N⟩),I K n] w λe w'=>e=Rc (I .u64 (uK (tkB s n).data.toList))/\Dq r w w' (rsB s n):=by
 have HT:=Fb r n s w X (by omega) q y;have R:=bC w _ q;obtain⟨p,t⟩:∃p,p=tkB s n:=⟨_,Q⟩;have hps:p.size<=8:=by rw[t];exact lT (pk s n) hn
 rw[<-t]at HT ⊢;obtain⟨W,z⟩:∃W,W=w.setCell ⟨r,0,N⟩ (U (rsB s n)):=⟨_,Q⟩;rw[<-z]at HT;have HW:=ig z q y R;have D:=run_bytes_of_string (P:=Yq.prog) W 9 125 5 p (Yq.u Rq) (Yq.u Ro) (Yq.u Rt);have j:=r7 (B:=0) W p (wz W p.size 0 5) Q8 (grownCap_ge W p.size 0 5);obtain⟨W1,c⟩:∃W1,W1=W.drew.alloc (E (xc p (wz W p.size 0 5)) 5 ((xc p (wz W p.size 0 5)).size,(xc p (wz W p.size 0 5)).size+1)):=⟨_,Q⟩;rw[<-c]at D j;have d:=aq c;clear t z q y R c;go_enter (Yq.nq Tryz.func106),Tryz.ntmps106;go_wp2_with (go_at_call 131;refine HT.m ?_;clear HT;rintro e l ⟨rfl,rfl⟩)
 go_loopw [5,13] (λs5 s13 wr=>∃i:H,i<=p.size/\s13=I K i/\s5=I .u64 (uK (p.data.toList.take i))/\wr=W1) (λ_ s13 _=>p.size-(intOf s13).toNat)
 case atStart=>exact⟨0,Q8,Q,Q,Q⟩
 case round=>
  obtain⟨i,hi,rfl,rfl,rfl⟩:=hrel;by_cases v:i<p.size
  have L:i<p.data.toList.length:=by simpa using v
  have cb:=j.cells i L;have f:=tS L;have G:uK (p.data.toList.take i)<256^7:=by
   exact lL (zt (p.data.toList.take i)) (SD (by decide) (by rw[tL];omega))
  have A:Hid (uK (p.data.toList.take (i+1))=uK (p.data.toList.take i)*256+p.data.toList[i].toNat):=by
   show uK (p.data.toList.take (i+1))=_;rw[f,Fc]
  have hbl:=p.data.toList[i].toNat_lt;clear f;generalize p.data.toList[i].toNat=b at *;generalize uK (p.data.toList.take i)=acc at *;go_wp2_with fail
  exact⟨⟨i+1,by omega,by go_num,by rw[Li _ _ G (by omega),A.o],trivial⟩,by simp[intOf];omega⟩;have F:i=p.size:=by omega
  subst F;go_wp2_with fail
  go_ret;refine⟨by rw[(tO (by simp))];rfl,?_⟩;have⟨k,T,V,h4⟩:=HW.o;have hsz:l.heap.size=w.heap.size:=by rw[k];simp
  have h:∀b,b<l.heap.size->wr.heap[b]?=l.heap[b]?:=λb h=>by rw[d.o,Rb (by exact h)];rfl
  refine⟨by rw[d.o,k];rfl,by rw[d.o];simp;show w.heap.size<=l.heap.size+1;omega,λb hb1 x=>?_,?_,?_⟩;rw[h b (by omega),k];exact Ra x;rw[cB (a:=⟨r,0,N⟩) (h r (by omega)),k];exact cS _ _ _ (by rw[T];rfl);rw[fB (a:=⟨r,0,N⟩) (h r (by omega)),k,Rl];exact V
theorem Dq.t{w' w''}(h:Dq r w w' s)(k:Dq r w' w'' s'):Dq r w w'' s':=
 ⟨k.os.t h.os,lT h.size k.size,λb a c=>(k.block b (lL a h.size) c).t (h.block b a c),k.cell,k.frozen⟩
theorem eE(s:dT)n:(rsB s n).size<=s.size:=by simp[rsB]
def txL(s:dT):Nat:=uK (tkB s 1).data.toList
theorem JF(s:dT):txL s<256:=lL (zt (tkB s 1).data.toList) (lT (SD (by decide) (by simpa using pk s 1)) (by decide))
theorem zu r(s:dT)w(c:s.size<=sT)(d:w.cell? ⟨r,0,N⟩=J (U s))(f:w.frozen? ⟨r,0,N⟩=Z):
  Calls Yq.prog 107 #[O (J ⟨r,0,N⟩)] w λe w'=>e=Rc (U (tkB (rsB s 1) (txL s)))/\Dq r w w' (rsB (rsB s 1) (txL s)):=by
 have HN:=qK r 1 s w c (by omega) d f;have hlt:=JF s;have HT:Hid (∀a,Dq r w a (rsB s 1)->Calls Yq.prog 131 #[O (J ⟨r,0,N⟩),I K (txL s)] a λe w'=>e=Rc (U (tkB (rsB s 1) (txL s)))/\Dq r w w' (rsB (rsB s 1) (txL s))):=λa h=>by
  refine(Fb r (txL s) (rsB s 1) a (lT (eE s 1) c) (by omega) h.cell h.frozen).m ?_;rintro e w' ⟨rfl,rfl⟩;refine⟨Q,h.t ⟨Q,by simp,λb _ j=>Ra j,cS _ _ _ (by rw[h.cell];rfl),by rw[Rl];exact h.frozen⟩⟩
 change Calls _ _ _ _ (λe w'=>e=Rc (I .u64 (txL s))/\Dq r w w' (rsB s 1))at HN;clear d f;generalize txL s=k at *;have hw:wrap64 (k:ey)=k:=by unfold wrap64;omega
 have hw2:IntKind.i64.wrap (k:ey)=k:=by simp[Sp,Sm,Sn];omega
 go_enter (Yq.nq Tryz.func107),Tryz.ntmps107;go_wp2_with (first
  |(go_at_call 106;refine HN.m ?_;clear HN;rintro e a ⟨rfl,i⟩)
  |(go_at_call 131;refine(HT.o a i).m ?_;clear HT;rintro e w2 ⟨rfl,h2⟩))
 go_ret
 simp_all
def mU(a:ey)(m:H):gI ey:=if(m:ey)<=a\/9223372036854775808<m then N else J (m-1)
theorem qL(k0 m:H)(a:ey)(w:Wj)(c:0<=a)(d:a<=9223372036854775807)(hm:m<18446744073709551616)(c2:w.cell? ⟨k0,2,N⟩=J (I K a))(f2:w.frozen? ⟨k0,2,N⟩=Z):
  Calls Yq.prog 108 #[O (J ⟨k0,0,N⟩),I .u64 m] w λe w'=>(mU a m=N/\e=Rc (C Z)/\w'=w)\/∃l,mU a m=J l/\e=Rc (C Y)/\w'=w.setCell ⟨k0,2,N⟩ (I K l):=by
 have hw:=pi c d;unfold mU;by_cases b:(m:ey)<=a
 .rw [kr (Rf b)];go_enter (Yq.nq RB),Rw;go_wp2_with fail
  go_ret
  simp_all
 by_cases hb:(9223372036854775808:ey)<m
 .rw [kr (Rg (by omega))];go_enter (Yq.nq RB),Rw;go_wp2_with fail
  go_ret
  simp_all
 rw[lj (by omega)];go_enter (Yq.nq RB),Rw;go_wp2_with fail
 go_ret;exact⟨Q,Q⟩
theorem Lj n(f:S gL->S Ver)k(h:k.length<n):(f k).length<=tot n f:=by
 have a:=yT k n f;obtain⟨m,c⟩:∃m,n-k.length=m+1:=⟨n-k.length-1,by omega⟩;rw[c]at a;refine lT ?_ a;simp only[tot,dF,List.append_nil];by_cases b:f k=[]
 simp[b];simp[(by simpa using b),fU]
theorem Inv.norm{st}{s}(h:Inv st s)(a:eR st):Inv st 0:=by
 have h1:=a.cnt;have h2:=a.le;refine⟨h.NV,h.NY,by omega,by omega,λk=>?_,h.sorted,h.bounds⟩;by_cases b:40<k.length
 rw[a.long k b];simp;have:=Lj 41 st.f k (by omega);omega
def Nz(st:St)(l:ey):St:=⟨st.f,st.count,l⟩
theorem Inv.Nz{st}{s}(h:Inv st s)(a:st.last<=l)(c:l<=9223372036854775807):Inv (Nz st l) s:=
 ⟨SZ h.NV a,c,h.Oh,h.Oj,h.len,h.sorted,λk i b=>⟨(h.bounds k i b).1,SZ (h.bounds k i b).2 a⟩⟩
theorem eR.Nz{st}(h:eR st)(l:ey):eR (Nz st l):=⟨h.cnt,h.le,h.long,h.body⟩
theorem fD{a:ey}(h:mU a r=J l):a<=l/\l<=9223372036854775807:=by
 unfold mU at h
 grind
theorem AX{st}{s}(h:Inv st s)(c:eR st)(b a:dT):Inv (lh st b a).1 (s+1)/\eR (lh st b a).1:=by
 have e:=kF st ⟨1,b,a,⟨#[]⟩,⟨#[]⟩,0,0⟩ Q;have h1:=h.step ⟨1,b,a,⟨#[]⟩,⟨#[]⟩,0,0⟩;have h2:=c.step ⟨1,b,a,⟨#[]⟩,⟨#[]⟩,0,0⟩
 grind
theorem wW{st}{s}(h:Inv st s)(b:eR st)(a:dT):Inv (NJ st a).1 (s+1)/\eR (NJ st a).1:=by
 have e:=jq st ⟨4,a,⟨#[]⟩,⟨#[]⟩,⟨#[]⟩,0,0⟩ Q;have h1:=h.step ⟨4,a,⟨#[]⟩,⟨#[]⟩,⟨#[]⟩,0,0⟩;have h2:=b.step ⟨4,a,⟨#[]⟩,⟨#[]⟩,⟨#[]⟩,0,0⟩
 grind
def nm8(s:dT):Nat:=uK (tkB s 8).data.toList
def txB(s:dT):dT:=tkB (rsB s 1) (txL s)
def txR(s:dT):dT:=rsB (rsB s 1) (txL s)
def dq(st:St)(tm:ey)(s:dT):gI (St×ey×dT):=
 if txL s=1 then
  match mU st.last (nm8 (rsB s 1))with
  |none=>N
  |some l=>if(lh (Nz st l) (txB (rsB (rsB s 1) 8)) (txB (txR (rsB (rsB s 1) 8)))).2.2=0 then J ((lh (Nz st l) (txB (rsB (rsB s 1) 8)) (txB (txR (rsB (rsB s 1) 8)))).1,tm,txR (txR (rsB (rsB s 1) 8)))else N
 else if txL s=2 then
  match mU st.last (nm8 (rsB s 1))with
  |none=>N
  |some l=>if(NJ (Nz st l) (txB (rsB (rsB s 1) 8))).2.2=0 then J ((NJ (Nz st l) (txB (rsB (rsB s 1) 8))).1,tm,txR (rsB (rsB s 1) 8))else N
 else if txL s=3 then
  match mU st.last (nm8 (rsB s 1))with
  |none=>N
  |some l=>J (Nz st l,tm,rsB (rsB s 1) 8)
 else if txL s=4 then J (st,nm8 (rsB s 1),rsB (rsB s 1) 8)
 else N
structure nO (A:H->Prop)(w:Wj)(k r:H)(st:St)(tm:ey)(s:dT):Prop where
 store:aS A w k st
 time:w.cell? ⟨k,3,N⟩=J (I .u64 tm)
 rd:w.cell? ⟨r,0,N⟩=J (U s)
 fz:w.frozen? ⟨r,0,N⟩=Z
 ne:k≠r
 ND:¬A r
theorem nO.Pt{w'}{st}{m:ey}(h:nO A w k r st m s)(d:Dq r w w' s'):nO A w' k r st m s':=by
 have⟨p,c,q⟩:=h.store.cells;have l:=d.block k h.store.lt h.ne;have i:=λj=>cB (a:=⟨k,j,N⟩) l
 refine⟨eK (p:=p) ⟨(i 0).t c.c0,(i 1).t c.c1,(i 2).t c.c2,λj=>(fB (a:=⟨k,j,N⟩) l).t (c.fz j)⟩ (au.Nx (λb n o=>⟨n,d.block b o (λe=>h.ND (e▸n))⟩) 41 p st.f q) h.store.ND,(i 3).t h.time,d.cell,d.frozen,h.ne,h.ND⟩
structure Two2 (k r:H)(w w':Wj):Prop where
 os:w'.os=w.os
 size:w.heap.size<=w'.heap.size
 block:∀b,b<w.heap.size->b≠k->b≠r->w'.heap[b]?=w.heap[b]?
theorem Two2.refl{k r}{w}:Two2 k r w w:=⟨Q,Q0,λ_ _ _ _=>Q⟩
theorem Two2.t{a b c}(h:Two2 k r a b)(d:Two2 k r b c):Two2 k r a c:=
 ⟨d.os.t h.os,lT h.size d.size,λx i e f=>(d.block x (lL i h.size) e f).t (h.block x i e f)⟩
theorem Dq.two{w'}(h:Dq r w w' s):Two2 k r w w':=⟨h.os,h.size,λb c _ a=>h.block b c a⟩
theorem dw.two{w'}(h:dw w w' k):Two2 k r w w':=⟨h.g.os,h.g.size,λb c a _=>h.g.block b c (λe=>a (oJ e))⟩
theorem wX(a c:ey)w:Calls Yq.prog 109 #[I K a,I K c] w λe w'=>e=Rc (C (c==0))/\w'=w:=by
 go_enter (Yq.nq Tryz.func109),Tryz.ntmps109;go_wp2;go_ret
 simp_all
theorem nO.lt{st}(h:nO A w k r st l s):r<w.heap.size:=bC w _ h.rd
theorem nO.setLast{st}{i:ey}(h:nO A w k r st i s)(l:ey):nO A (w.setCell ⟨k,2,N⟩ (I K l)) k r (Nz st l) i s:=by
 have⟨p,c,m⟩:=h.store.cells;have e:∀b,b≠k->(w.setCell ⟨k,2,N⟩ (I K l)).heap[b]?=w.heap[b]?:=λb d=>Ra d
 exact⟨eK (st:=Nz st l) (c.OL _) (au.Nx (λb j _=>⟨j,e b (h.store.ND b j)⟩) 41 p st.f m) h.store.ND,
  (cO w ⟨k,2,N⟩ ⟨k,3,N⟩ _ (by simp)).t h.time,(cB (a:=⟨r,0,N⟩) (e r (Ne.s h.ne))).t h.rd,(fB (a:=⟨r,0,N⟩) (e r (Ne.s h.ne))).t h.fz,h.ne,h.ND⟩
theorem nO.OP{st}(h:nO A w k r st l s)(x:ey):nO A (w.setCell ⟨k,3,N⟩ (I .u64 x)) k r st x s:=by
 have⟨p,c,m⟩:=h.store.cells;have e:∀b,b≠k->(w.setCell ⟨k,3,N⟩ (I .u64 x)).heap[b]?=w.heap[b]?:=λb d=>Ra d
 exact⟨eK ⟨co (by simp) c.c0,co (by simp) c.c1,co (by simp) c.c2,λj=>fs (c.fz j)⟩ (au.Nx (λb i _=>⟨i,e b (h.store.ND b i)⟩) 41 p st.f m) h.store.ND,
  cs h.time,(cB (a:=⟨r,0,N⟩) (e r (Ne.s h.ne))).t h.rd,(fB (a:=⟨r,0,N⟩) (e r (Ne.s h.ne))).t h.fz,h.ne,h.ND⟩
theorem ux o v:Two2 k r w (w.setCell ⟨k,o,N⟩ v):=
 ⟨Q,by simp[World.setCell],λb _ a _=>Ra a⟩
theorem nO.grow{w'}{st st'}(h:nO A w k r st l s)(j:aS (Grow A w) w' k st')(f:dw w w' k):nO (Grow A w) w' k r st' l s:=by
 have d:=f.g.block r h.lt (λe=>h.ne (oJ e).s);exact⟨j,(f.t 3 (by omega)).t h.time,(cB (a:=⟨r,0,N⟩) d).t h.rd,(fB (a:=⟨r,0,N⟩) d).t h.fz,h.ne,λi=>i.elim (λb=>h.ND b.1) (λb=>by have:=h.lt;omega)⟩
def IM(A:H->Prop)(w:Wj)(k r:H)(st:St)(tm:ey)(s:dT)(e:Ending)(w':Wj):Prop:=
 Two2 k r w w'/\((dq st tm s=N/\e=Rc (C Z))\/∃st' a c,dq st tm s=J (st',a,c)/\e=Rc (C Y)/\∃A':H->Prop,(∀b,A' b->A b\/w.heap.size<=b)/\nO A' w' k r st' a c/\Inv st' 0/\eR st')
theorem JG(s:dT):nm8 s<18446744073709551616:=lL (zt (tkB s 8).data.toList) (lT (SD (by decide) (by simpa using pk s 8)) (by decide))
theorem uy(s:dT):(txB s).size<=1000:=by
 have h1:=pk (rsB s 1) (txL s);have h2:=JF s;unfold txB;omega
theorem Lk{st}{c:ey}(h:nO A w k r st c s)(hs:s.size<=sT)(hI:Inv st 0)(hT:eR st):
  Calls Yq.prog 85 #[O (J ⟨k,0,N⟩),O (J ⟨r,0,N⟩)] w (IM A w k r st c s):=by
 have HH:=ig h hs hI hT;have T:=qK r 1 s w hs (by omega) h.rd h.fz;clear h hs hI hT;go_enter (Yq.nq Tryz.func85),Tryz.ntmps85;go_wp2_with fail
 refine T.m ?_;rintro e w1 ⟨rfl,r1⟩;have H1:Hid (nO A w1 k r st c (rsB s 1)/\Two2 k r w w1/\(rsB s 1).size<=sT):=⟨HH.o.1.Pt r1,r1.two,by have:=HH.o.2.1;exact lT (eE s 1) this⟩;have et:uK (tkB s 1).data.toList=txL s:=rfl;rw[et];have HP:Hid (dq st c s=dq st c s):=rfl;have f:Hid (Calls Yq.prog 106 #[O (J ⟨r,0,N⟩),I K 8] w1 λe w'=>e=Rc (I .u64 (nm8 (rsB s 1)))/\Hid (nO A w' k r st c (rsB (rsB s 1) 8)/\Two2 k r w w'/\(rsB (rsB s 1) 8).size<=sT)):=
  (qK r 8 (rsB s 1) w1 H1.o.2.2 (by omega) H1.o.1.rd H1.o.1.fz).m λe w2 h=>⟨h.1,H1.o.1.Pt h.2,H1.o.2.1.t h.2.two,lT (eE _ _) H1.o.2.2⟩
 have hm:=JG (rsB s 1);clear r1 T et;by_cases t1:txL s=1
 .go_wp2_with fail
  refine f.o.m ?_;rintro e w2 ⟨rfl,H2⟩;clear f;have j:=zu r (rsB (rsB s 1) 8) w2 H2.o.2.2 H2.o.1.rd H2.o.1.fz;go_wp2_with fail
  refine j.m ?_;rintro e w3 ⟨rfl,x⟩;have H3:Hid (nO A w3 k r st c (txR (rsB (rsB s 1) 8))/\Two2 k r w w3/\(txR (rsB (rsB s 1) 8)).size<=sT):=⟨H2.o.1.Pt x,H2.o.2.1.t x.two,lT (eE _ _) (lT (eE _ _) H2.o.2.2)⟩;have n:tkB (rsB (rsB (rsB s 1) 8) 1) (txL (rsB (rsB s 1) 8))=txB (rsB (rsB s 1) 8):=rfl;rw[n];clear x j n;have X:=zu r (txR (rsB (rsB s 1) 8)) w3 H3.o.2.2 H3.o.1.rd H3.o.1.fz;go_wp2_with fail
  refine X.m ?_;rintro e D ⟨rfl,r4⟩;have H4:Hid (nO A D k r st c (txR (txR (rsB (rsB s 1) 8)))/\Two2 k r w D/\(txR (txR (rsB (rsB s 1) 8))).size<=sT):=⟨H3.o.1.Pt r4,H3.o.2.1.t r4.two,lT (eE _ _) (lT (eE _ _) H3.o.2.2)⟩;have F:tkB (rsB (txR (rsB (rsB s 1) 8)) 1) (txL (txR (rsB (rsB s 1) 8)))=txB (txR (rsB (rsB s 1) 8)):=rfl;rw[F];clear r4 X F;have P:=qL k (nm8 (rsB s 1)) st.last D HH.o.2.2.1.NV HH.o.2.2.1.NY hm H4.o.1.store.last (H4.o.1.store.frozen 2);go_wp2_with fail
  refine P.m ?_;clear P;rintro e w9 (⟨d,rfl,rfl⟩|⟨l,d,rfl,rfl⟩)
  .have i:dq st c s=none:=by simp[dq,t1,d]
   have HR:=aq i;clear i d;go_wp2;go_ret;exact⟨H4.o.2.1,Rf ⟨HR.o,Q⟩⟩
  .have a:Hid (nO A (D.setCell ⟨k,2,N⟩ (I K l)) k r (Nz st l) c (txR (txR (rsB (rsB s 1) 8)))/\Two2 k r w (D.setCell ⟨k,2,N⟩ (I K l))/\Inv (Nz st l) 0/\eR (Nz st l)):=⟨H4.o.1.setLast l,H4.o.2.1.t (ux 2 _),HH.o.2.2.1.Nz (fD d).1 (fD d).2,HH.o.2.2.2.Nz l⟩;have HR:Hid (dq st c s=if(lh (Nz st l) (txB (rsB (rsB s 1) 8)) (txB (txR (rsB (rsB s 1) 8)))).2.2=0 then J ((lh (Nz st l) (txB (rsB (rsB s 1) 8)) (txB (txR (rsB (rsB s 1) 8)))).1,c,(txR (txR (rsB (rsB s 1) 8))))else N):=show dq st c s=_ by simp[dq,t1,d]
   clear d;generalize D.setCell ⟨k,2,N⟩ (I K l)=q at *;go_wp2_with fail
   refine(AD A k (Nz st l) 0 (txB (rsB (rsB s 1) 8)) (txB (txR (rsB (rsB s 1) 8))) q (lT (uy _) (by decide)) (lT (uy _) (by decide)) a.o.1.store a.o.2.2.1 (by omega)).m ?_;rintro e z ⟨rfl,S6,v⟩;have HV:=AX a.o.2.2.1 a.o.2.2.2 (txB (rsB (rsB s 1) 8)) (txB (txR (rsB (rsB s 1) 8)));have H6:Hid (nO (Grow A q) z k r (lh (Nz st l) (txB (rsB (rsB s 1) 8)) (txB (txR (rsB (rsB s 1) 8)))).1 c (txR (txR (rsB (rsB s 1) 8)))/\Two2 k r w z/\Inv (lh (Nz st l) (txB (rsB (rsB s 1) 8)) (txB (txR (rsB (rsB s 1) 8)))).1 0/\eR (lh (Nz st l) (txB (rsB (rsB s 1) 8)) (txB (txR (rsB (rsB s 1) 8)))).1):=⟨a.o.1.grow S6 v,a.o.2.1.t v.two,HV.1.norm HV.2,HV.2⟩;have B:Hid (w.heap.size<=q.heap.size):=a.o.2.1.size;clear S6 v HV;generalize lh (Nz st l) (txB (rsB (rsB s 1) 8)) (txB (txR (rsB (rsB s 1) 8)))=R at *;obtain⟨y,v6,c6⟩:=R;go_wp2_with fail
   refine(wX _ _ z).m ?_;rintro e w7 ⟨rfl,L⟩;obtain rfl:=L.s;clear L;go_wp2_with fail
   go_ret;refine⟨H6.o.2.1,?_⟩;by_cases u:c6=0
   .refine Rg ⟨y,c,_,?_,by simp[u],Grow A q,λb p=>?_,H6.o.1,H6.o.2.2.1,H6.o.2.2.2⟩
    .rw [HR.o,kr u]
    .rcases p with⟨p,-⟩|p
     .exact Rf p
     .have:=B.o;exact Rg (by omega)
   .refine Rf ⟨?_,by simp[u]⟩;rw[HR.o,lj u]
 by_cases t2:txL s=2
 .go_wp2_with fail
  refine f.o.m ?_;rintro e w2 ⟨rfl,H2⟩;clear f;have j:=zu r (rsB (rsB s 1) 8) w2 H2.o.2.2 H2.o.1.rd H2.o.1.fz;go_wp2_with fail
  refine j.m ?_;rintro e w3 ⟨rfl,x⟩;have H3:Hid (nO A w3 k r st c (txR (rsB (rsB s 1) 8))/\Two2 k r w w3/\(txR (rsB (rsB s 1) 8)).size<=sT):=⟨H2.o.1.Pt x,H2.o.2.1.t x.two,lT (eE _ _) (lT (eE _ _) H2.o.2.2)⟩;have n:tkB (rsB (rsB (rsB s 1) 8) 1) (txL (rsB (rsB s 1) 8))=txB (rsB (rsB s 1) 8):=rfl;rw[n];clear x j n;have G:=qL k (nm8 (rsB s 1)) st.last w3 HH.o.2.2.1.NV HH.o.2.2.1.NY hm H3.o.1.store.last (H3.o.1.store.frozen 2);go_wp2_with fail
  refine G.m ?_;clear G;rintro e w9 (⟨d,rfl,rfl⟩|⟨l,d,rfl,rfl⟩)
  .have i:dq st c s=none:=by simp[dq,t2,d]
   have HR:Hid (dq st c s=N):=i;clear i d;go_wp2;go_ret;exact⟨H3.o.2.1,Rf ⟨HR.o,Q⟩⟩
  .have a:Hid (nO A (w3.setCell ⟨k,2,N⟩ (I K l)) k r (Nz st l) c (txR (rsB (rsB s 1) 8))/\Two2 k r w (w3.setCell ⟨k,2,N⟩ (I K l))/\Inv (Nz st l) 0/\eR (Nz st l)):=⟨H3.o.1.setLast l,H3.o.2.1.t (ux 2 _),HH.o.2.2.1.Nz (fD d).1 (fD d).2,HH.o.2.2.2.Nz l⟩;have HR:Hid (dq st c s=if(NJ (Nz st l) (txB (rsB (rsB s 1) 8))).2.2=0 then J ((NJ (Nz st l) (txB (rsB (rsB s 1) 8))).1,c,(txR (rsB (rsB s 1) 8)))else N):=show dq st c s=_ by simp[dq,t2,d]
   clear d;generalize w3.setCell ⟨k,2,N⟩ (I K l)=q at *;go_wp2_with fail
   refine(wH A k (Nz st l) 0 (txB (rsB (rsB s 1) 8)) q (lT (uy _) (by decide)) a.o.1.store a.o.2.2.1 (by omega)).m ?_;rintro e z ⟨rfl,S6,v⟩;have HV:=wW a.o.2.2.1 a.o.2.2.2 (txB (rsB (rsB s 1) 8));have H6:Hid (nO (Grow A q) z k r (NJ (Nz st l) (txB (rsB (rsB s 1) 8))).1 c (txR (rsB (rsB s 1) 8))/\Two2 k r w z/\Inv (NJ (Nz st l) (txB (rsB (rsB s 1) 8))).1 0/\eR (NJ (Nz st l) (txB (rsB (rsB s 1) 8))).1):=⟨a.o.1.grow S6 v,a.o.2.1.t v.two,HV.1.norm HV.2,HV.2⟩;have B:Hid (w.heap.size<=q.heap.size):=a.o.2.1.size;clear S6 v HV;generalize NJ (Nz st l) (txB (rsB (rsB s 1) 8))=R at *;obtain⟨y,v6,c6⟩:=R;go_wp2_with fail
   refine(wX _ _ z).m ?_;rintro e w7 ⟨rfl,L⟩;obtain rfl:=L.s;clear L;go_wp2_with fail
   go_ret;refine⟨H6.o.2.1,?_⟩;by_cases u:c6=0
   .refine Rg ⟨y,c,_,?_,by simp[u],Grow A q,λb p=>?_,H6.o.1,H6.o.2.2.1,H6.o.2.2.2⟩
    .rw [HR.o,kr u]
    .rcases p with⟨p,-⟩|p
     .exact Rf p
     .have:=B.o;exact Rg (by omega)
   .refine Rf ⟨?_,by simp[u]⟩;rw[HR.o,lj u]
 by_cases t3:txL s=3
 .go_wp2_with fail
  refine f.o.m ?_;rintro e w2 ⟨rfl,H2⟩;clear f;have V:=qL k (nm8 (rsB s 1)) st.last w2 HH.o.2.2.1.NV HH.o.2.2.1.NY hm H2.o.1.store.last (H2.o.1.store.frozen 2);go_wp2_with fail
  refine V.m ?_;clear V;rintro e w9 (⟨d,rfl,rfl⟩|⟨l,d,rfl,rfl⟩)
  .have i:dq st c s=none:=by simp[dq,t3,d]
   have HR:Hid (dq st c s=N):=i;clear i d;go_wp2;go_ret;exact⟨H2.o.2.1,Rf ⟨HR.o,Q⟩⟩
  .have HR:Hid (dq st c s=J (Nz st l,c,rsB (rsB s 1) 8)):=show dq st c s=_ by simp[dq,t3,d]
   have a:Hid (nO A (w2.setCell ⟨k,2,N⟩ (I K l)) k r (Nz st l) c (rsB (rsB s 1) 8)/\Two2 k r w (w2.setCell ⟨k,2,N⟩ (I K l))/\Inv (Nz st l) 0/\eR (Nz st l)):=⟨H2.o.1.setLast l,H2.o.2.1.t (ux 2 _),HH.o.2.2.1.Nz (fD d).1 (fD d).2,HH.o.2.2.2.Nz l⟩;clear d;go_wp2_with fail
   go_ret;exact⟨a.o.2.1,Rg ⟨_,_,_,HR.o,Q,A,λb h=>Rf h,a.o.1,a.o.2.2.1,a.o.2.2.2⟩⟩
 by_cases t4:txL s=4
 .go_wp2_with fail
  refine f.o.m ?_;rintro e w2 ⟨rfl,H2⟩;clear f;have HR:Hid (dq st c s=J (st,((nm8 (rsB s 1):H):ey),rsB (rsB s 1) 8)):=show dq st c s=_ by simp[dq,t4]
  have c3:=H2.o.1.time;have f3:=H2.o.1.store.frozen 3;go_wp2_with fail
  go_ret;exact⟨H2.o.2.1.t (ux 3 _),Rg ⟨_,_,_,HR.o,Q,A,λb h=>Rf h,H2.o.1.OP _,HH.o.2.2.1,HH.o.2.2.2⟩⟩
 .have i:dq st c s=none:=by simp[dq,t1,t2,t3,t4]
  have HR:Hid (dq st c s=N):=i;clear i hm f;generalize txL s=t at *;go_wp2;go_ret;exact⟨H1.o.2.1,Rf ⟨HR.o,Q⟩⟩
def gg:H->St->ey->dT->gI (St×ey)
 | 0,_,_,_=>N
 |n+1,st,tm,s=>if s.size=0 then J (st,tm)else match dq st tm s with
  |none=>N
  |some x=>gg n x.1 x.2.1 x.2.2
def iY(a:dT):gI (St×ey):=match gg (a.size+1) st0 0 a with
 |none=>N
 |some x=>if fT x.1 x.2=a then J x else N
theorem IN(s:dT)n(hn:0<n)(hs:s.size≠0):(rsB s n).size<s.size:=by
 have:(rsB s n).size=s.size-min n s.size:=by simp[rsB]
 omega
theorem Fd{st}(a:s.size≠0)(h:dq st l s=J x):x.2.2.size<s.size:=by
 have h1:=IN s 1 (by omega) a;have h2:=eE (rsB s 1) 8;have h3:∀s,(txR s).size<=s.size:=λs=>lT (eE _ _) (eE _ _)
 unfold dq at h
 grind
theorem iZ{t:dT}(h:t≠⟨#[]⟩):t.toList.isEmpty=false:=by
 rw[SI];cases e:t.data.toList with
 |nil=>exact n8 (SQ (SB.1 (e.t Q))) h
 |cons a r=>rfl
def MF(w:Wj)(r:H):Nat:=match w.cell? ⟨r,0,N⟩with
 |some (U s)=>s.size
 |_=>0
theorem Fe w:(SJ 43 #[]).run Yq.prog w=.ok (Rd #[O N,I K 0,I K 0,I .u64 0]) w:=by kernel_rfl
theorem IP(s:dT)w:(SJ 170 #[(0,U s)]).run Yq.prog w=.ok (Rd #[U s]) w:=by kernel_rfl
def IQ(a:dT)(w:Wj)(e:Ending)(w':Wj):Prop:=
 ax w w'/\((iY a=N/\e=Rc (Re #[Rd #[O N,I K 0,I K 0,I .u64 0],I K 12])) \/
  ∃ (st:St) (c:ey) (p:gI Wu) (A:H->Prop),iY a=J (st,c)/\e=Rc (Re #[Rd #[O p,I K st.count,I K st.last,I .u64 c],I K 0])/\au A 41 w' p st.f/\(∀b,A b->w.heap.size<=b)/\Inv st 0/\eR st)
structure LdI (saved:dT)(W wr:Wj)(k r:H)(A:H->Prop)(st:St)(tm:ey)(s:dT)(n:H):Prop where
 ld:nO A wr k r st tm s
 size:s.size<=maxLen
 fuel:s.size<n
 eq:gg n st tm s=gg (saved.size+1) st0 0 saved
 inv:Inv st 0
 Qh:eR st
 two:Two2 k r W wr
 N3:∀b,A b->W.heap.size<=b
theorem IR(w:Wj)(x y z:eW Wx)(T b V:Ww)(j:H):(((w.alloc (E x T)).alloc (E y b)).alloc (E z V)).cell? ⟨w.heap.size,j,N⟩=x[j]?/\(((w.alloc (E x T)).alloc (E y b)).alloc (E z V)).frozen? ⟨w.heap.size,j,N⟩=false:=by
 have c:(((w.alloc (E x T)).alloc (E y b)).alloc (E z V)).heap[w.heap.size]?=(w.alloc (E x T)).heap[w.heap.size]?:=by
  rw[Rb (by simp;omega),Rb (by simp)]
 exact⟨(cB (a:=⟨w.heap.size,j,N⟩) c).t (kG w _ _ j),(fB (a:=⟨w.heap.size,j,N⟩) c).t (Rj (w:=w) _ _ w.heap.size j Q)⟩
theorem Ff(w:Wj)(x y z:eW Wx)(T b V:Ww)(j:H):(((w.alloc (E x T)).alloc (E y b)).alloc (E z V)).cell? ⟨w.heap.size+1,j,N⟩=y[j]?/\(((w.alloc (E x T)).alloc (E y b)).alloc (E z V)).frozen? ⟨w.heap.size+1,j,N⟩=false:=by
 have e:(w.alloc (E x T)).heap.size=w.heap.size+1:=by simp
 have f:(((w.alloc (E x T)).alloc (E y b)).alloc (E z V)).heap[w.heap.size+1]?=((w.alloc (E x T)).alloc (E y b)).heap[w.heap.size+1]?:=by
  rw[Rb (by simp)]
 have c:=kG (w.alloc (E x T)) y b j;have d:=Rj (w:=w.alloc (E x T)) y b (w.alloc (E x T)).heap.size j Q;rw[e]at c d;exact⟨(cB (a:=⟨w.heap.size+1,j,N⟩) f).t c,(fB (a:=⟨w.heap.size+1,j,N⟩) f).t d⟩
theorem IS(w:Wj)(x y z:eW Wx)(T a V:Ww)(j:H):(((w.alloc (E x T)).alloc (E y a)).alloc (E z V)).cell? ⟨w.heap.size+1+1,j,N⟩=z[j]?/\(((w.alloc (E x T)).alloc (E y a)).alloc (E z V)).frozen? ⟨w.heap.size+1+1,j,N⟩=false:=by
 have e:((w.alloc (E x T)).alloc (E y a)).heap.size=w.heap.size+1+1:=by simp
 have h1:=kG ((w.alloc (E x T)).alloc (E y a)) z V j;have h2:=Rj (w:=(w.alloc (E x T)).alloc (E y a)) z V ((w.alloc (E x T)).alloc (E y a)).heap.size j Q
 grind
theorem Ll(d:dT)w(hs:d.size<=sT):Calls Yq.prog 58 #[U d] w (IQ d w):=by
 have hb1:=Fe;have hb2:=IP;have HS:=aq hs;clear hs;go_enter (Yq.nq Tryz.func58),Tryz.ntmps58;go_wp2_with fail
 obtain⟨t,L⟩:∃t,t=w.heap.size:=⟨_,Q⟩;obtain⟨W3,q⟩:∃W3,W3=((w.alloc (E #[O N,I K 0,I K 0,I .u64 0] 43)).alloc (E #[O N,I K 0,I K 0,I .u64 0] 43)).alloc (E #[U d] 170):=⟨_,Q⟩;rw[<-q,<-L];have G:Hid (ax w W3/\W3.heap.size=t+3/\t=w.heap.size):=⟨by rw[q];exact((ax.refl.alloc _).alloc _).alloc _,by rw[q,L];simp,L⟩;have P:∀j,W3.cell? ⟨t,j,N⟩=(#[O N,I K 0,I K 0,I .u64 0]:eW Wx)[j]?/\W3.frozen? ⟨t,j,N⟩=false:=λj=>by
  rw[q,L];exact IR w _ _ _ _ _ _ j
 have k:∀j,W3.cell? ⟨t+1,j,N⟩=(#[O N,I K 0,I K 0,I .u64 0]:eW Wx)[j]?/\W3.frozen? ⟨t+1,j,N⟩=false:=λj=>by
  rw[q,L];exact Ff w _ _ _ _ _ _ j
 have x:∀j,W3.cell? ⟨t+1+1,j,N⟩=(#[U d]:eW Wx)[j]?/\W3.frozen? ⟨t+1+1,j,N⟩=false:=λj=>by
  rw[q,L];exact IS w _ _ _ _ _ _ j
 have ac:Hid (LdI d W3 W3 (t+1) (t+1+1) (λ_=>nF) st0 0 d (d.size+1)):=
  ⟨⟨⟨λ_ h=>h.elim,⟨N,(k 0).1,au.nil (λ_=>Q)⟩,(k 1).1,(k 2).1,λj=>(k j).2⟩,(k 3).1,(x 0).1,(x 0).2,by omega,λh=>h⟩,HS.o,by omega,Q,inv0,Ih,Two2.refl,λ_ h=>h.elim⟩
 have ad:Hid (∀wr i,Two2 (t+1) (t+1+1) W3 wr->Two2 (t+1) (t+1+1) wr i->(i.cell? ⟨t,0,N⟩=J (O N)/\i.frozen? ⟨t,0,N⟩=Z)/\(i.cell? ⟨t,1,N⟩=J (I K 0)/\i.frozen? ⟨t,1,N⟩=Z)/\(i.cell? ⟨t,2,N⟩=J (I K 0)/\i.frozen? ⟨t,2,N⟩=Z)/\(i.cell? ⟨t,3,N⟩=J (I .u64 0)/\i.frozen? ⟨t,3,N⟩=Z)/\Hid (∀x0 x1 x2 x3,ax w ((((i.setCell ⟨t,0,N⟩ x0).setCell ⟨t,1,N⟩ x1).setCell ⟨t,2,N⟩ x2).setCell ⟨t,3,N⟩ x3))):=λwr i t0 X=>by
  have D:=G.o;have h2:=t0.t X;have l:=h2.block t (by omega) (by omega) (by omega);have hz:∀j,i.cell? ⟨t,j,N⟩=(#[O N,I K 0,I K 0,I .u64 0]:eW Wx)[j]?/\i.frozen? ⟨t,j,N⟩=false:=λj=>⟨(cB (a:=⟨t,j,N⟩) l).t (P j).1,(fB (a:=⟨t,j,N⟩) l).t (P j).2⟩
  have hl:ax w i:=⟨h2.os.t D.1.os,lT D.1.size h2.size,λb y=>by rw[h2.block b (by omega) (by omega) (by omega),D.1.block b y]⟩;exact⟨hz 0,hz 1,hz 2,hz 3,λx0 x1 x2 x3=>(((hl.set (by omega) _ _).set (by omega) _ _).set (by omega) _ _).set (by omega) _ _⟩
 clear P k x q L
 go_loopw [8] (λ_ wr=>∃ (A:H->Prop) (st:St) (r:ey) (s:dT) (n:H),LdI d W3 wr (t+1) (t+1+1) A st r s n) (λ_ wr=>MF wr (t+1+1))
 case atStart=>exact⟨_,_,_,_,_,ac.o⟩
 case round=>
  obtain⟨A,st,r,s,n,hL⟩:=hrel;have f:=aq hL;have c0:=hL.ld.rd;clear hL ac;by_cases h0:s.size=0
  .obtain rfl:s=⟨#[]⟩:=SQ (SB.1 (List.eq_nil_of_length_eq_zero (by simpa using h0)));clear h0;go_wp2_with fail
   refine(E8 f.o.ld.store f.o.ld.time f.o.inv f.o.Qh).m ?_;rintro e i ⟨rfl,z⟩;obtain⟨⟨z0,y0⟩,⟨z1,y1⟩,⟨z2,y2⟩,⟨z3,y3⟩,B⟩:=ad.o wr i f.o.two ⟨z.os,z.size,λb y _ _=>z.block b y⟩;have⟨p,c,hN⟩:=f.o.ld.store.cells;have e0:=z.cell c.c0;have e1:=z.cell c.c1;have e2:=z.cell c.c2;have e3:=z.cell f.o.ld.time;have HN:=bJ hN z;have aa:Hid (gg (d.size+1) st0 0 d=J (st,r)):=by
    show gg (d.size+1) st0 0 d=J (st,r);rw[<-f.o.eq];have:=f.o.fuel;obtain⟨m,rfl⟩:∃m,n=m+1:=⟨n-1,by omega⟩;rw[gg,kr (by decide)]
   clear c hN z;by_cases u:fT st r=d
   .have HF:Hid (iY d=J (st,r)):=by show iY d=J (st,r);rw[iY,aa.o];simp[u]
    rw[u];go_wp2_with fail
    refine tb (v:=Re #[Rd #[O p,I K st.count,I K st.last,I .u64 r],I K 0]) (by simp[results,Rv,go_sem,z0,z1,z2,z3]) Q ⟨B.o _ _ _ _,Rg ⟨st,r,p,A,HF.o,Q,?_,λb y=>?_,f.o.inv,f.o.Qh⟩⟩;have D:=G.o;refine au.Nx (λb y ai=>⟨y,?_⟩) 41 _ _ HN.o.1;have l:b≠t:=by have:=f.o.N3 b y;omega
    rw[Ra l,Ra l,Ra l,Ra l];exact HN.o.2.block b ai;have D:=G.o;have:=f.o.N3 b y;omega
   have HF:Hid (iY d=N):=by show iY d=N;rw[iY,aa.o];simp[u]
   have F:=λe=>u (SQ (SB.1 (by rw[<-SI,<-SI];exact e)))
   have hne:((fT st r).toList==d.toList)=false:=by simpa using F
   clear F u;generalize fT st r=sb at *;go_wp2_with fail
   exact tb (v:=Re #[Rd #[O N,I K 0,I K 0,I .u64 0],I K 12]) (by simp[results,Rv,go_sem,z0,z1,z2,z3]) Q ⟨B.o _ _ _ _,Rf ⟨HF.o,Q⟩⟩
  have hem:=iZ (t:=s) (λe=>h0 (by rw[e];rfl));have T:=aq h0;clear h0;go_wp2_with fail
  refine(Lk f.o.ld f.o.size f.o.inv f.o.Qh).m ?_;rintro e i ⟨X,⟨V,rfl⟩|⟨st',al,s',V,rfl,A',ab,R,i',j'⟩⟩;have HF:Hid (iY d=N):=by
   show iY d=N;rw[iY,<-f.o.eq];have:=f.o.fuel;obtain⟨m,rfl⟩:∃m,n=m+1:=⟨n-1,by omega⟩;rw[gg,lj T.o,V]
  have⟨⟨z0,y0⟩,⟨z1,y1⟩,⟨z2,y2⟩,⟨z3,y3⟩,B⟩:=ad.o wr i f.o.two X;clear V X;go_wp2_with fail
  exact tb (v:=Re #[Rd #[O N,I K 0,I K 0,I .u64 0],I K 12]) (by simp[results,Rv,go_sem,z0,z1,z2,z3]) Q ⟨B.o _ _ _ _,Rf ⟨HF.o,Q⟩⟩;have aj:Hid ((∃A st r s n,LdI d W3 i (t+1) (t+1+1) A st r s n)/\MF i (t+1+1)<MF wr (t+1+1)):=by
   have af:=Fd T.o V;simp only at af;have h:=f.o;have hf:=h.fuel;have hsz:=h.size;obtain⟨m,rfl⟩:∃m,n=m+1:=⟨n-1,by omega⟩;refine⟨⟨A',st',al,s',m,R,by omega,by omega,?_,i',j',h.two.t X,λb y=>?_⟩,?_⟩;have:=h.eq;rw[gg,lj T.o,V]at this;exact this;rcases ab b y with D|D;exact h.N3 b D;have:=h.two.size;omega;simp[MF,R.rd,h.ld.rd];exact af
  clear V X ab R i' j';go_wp2_with fail
  exact aj.o
def dQ(ks:S ey)(bs:S dT)(src:ey)(body:dT):dT:=
 if 0<=src/\src<bs.length then(if ks[src.toNat]?.getD 0=11 then bs[src.toNat]?.getD ⟨#[]⟩else body)else body
def dD(st:St)(L:Lg)(b:dT):St×Lg×iU:=match iY b with
 |none=>(st,L,⟨12,0,⟨#[]⟩,[],⟨#[]⟩⟩)
 |some x=>(x.1,{L with opened:=[],tm:=x.2},⟨0,0,⟨#[]⟩,[],⟨#[]⟩⟩)
theorem wY{st}{b:ey}(c:Inv st 0)(d:eR st)(h:dq st b s=J x):Inv x.1 0/\eR x.1:=by
 have a:∀l,mU st.last (nm8 (rsB s 1))=J l->Inv (Nz st l) 0/\eR (Nz st l):=λl e=>⟨c.Nz (fD e).1 (fD e).2,d.Nz l⟩
 unfold dq at h;split at h
 split at h
 grind
 rename_i l e;split at h
 rw[<-oJ h];dsimp only;have:=AX (a l e).1 (a l e).2 (txB (rsB (rsB s 1) 8)) (txB (txR (rsB (rsB s 1) 8)));exact⟨this.1.norm this.2,this.2⟩
 grind
 split at h
 split at h
 grind
 rename_i l e;split at h
 rw[<-oJ h];dsimp only;have:=wW (a l e).1 (a l e).2 (txB (rsB (rsB s 1) 8));exact⟨this.1.norm this.2,this.2⟩
 grind
 grind
theorem wZ:∀ (n:H)(st:St)(a:ey)(s:dT)(x:St×ey),Inv st 0->eR st->gg n st a s=J x->Inv x.1 0/\eR x.1
 | 0,_,_,_,_,_,_,h=>by simp[gg]at h
 |n+1,st,a,s,x,hI,hT,h=>by
  unfold gg at h;split at h
  .cases h;exact⟨hI,hT⟩
  .split at h
   .exact n8 h (by simp)
   .rename_i y e;have:=wY hI hT e;exact wZ n _ _ _ x this.1 this.2 h
theorem sC{x:St×ey}(h:iY s'=J x):gg (s'.size+1) st0 0 s'=J x/\fT x.1 x.2=s':=by
 unfold iY at h
 grind
theorem Fg{x:St×ey}(h:iY s'=J x):Inv x.1 0/\eR x.1:=
 wZ _ _ _ _ x inv0 Ih (sC h).1
theorem xd a:(bytesOf a).size=a.length:=by simp[bytesOf,SU]
theorem IT(k:dT)v:(Dp k v).length=AU k v:=by
 unfold Dp AU;split
 simp[uu,wS];omega;simp[uu,wS];omega
theorem Fh E:(iV E).length=fw E:=by
 induction E with
 |nil=>rfl
 |cons e E ih=>
  simp[iV,fw]at ih ⊢;rw[ih,IT]
theorem CL{st}(a:eR st):(cN st).length<=200:=by
 have h3:fU (bV st.f [])=tot 41 st.f:=rfl;have:=a.cnt;have:=a.le;rw[cN,fJ,j5];omega
theorem CM{st}(b:eR st)(d:ey):(fT st d).size<=sT:=by
 have hn:=wV (E:=cN st) λe a=>⟨(gy a).1,by have⟨k,c⟩:=(gy a).2;exact b.body k _ c⟩
 have hl:=CL b;rw[fT,xd];simp[uu,Fh,sT];omega
structure JH (w:Wj)(k0 g0 s:H)(ks:S ey)(bs:S dT):Prop where
 kl:ks.length=s
 bl:bs.length=s
 small:∀b∈bs,b.size<=maxLen
 Pz:∃sb so sn sc,w.cell? ⟨k0,7,N⟩=J (M (J ⟨sb,so,N⟩) sn sc)/\s<=sn/\∀i (hi:i<ks.length),w.cell? ⟨sb,so+i*7,N⟩=J (I K ks[i])
 PK:∀i (hi:i<bs.length),w.cell? ⟨g0,i*5+2,N⟩=J (U bs[i])
theorem JH.left{w'}{k0 s}{d}{bs}(h:JH w k0 r s d bs)(a:ax w w'):JH w' k0 r s d bs:=by
 have⟨m,l,e,j,k,f,n⟩:=h.Pz;exact⟨h.kl,h.bl,h.small,⟨m,l,e,j,a.cell k,f,λi b=>a.cell (n i b)⟩,λi b=>a.cell (h.PK i b)⟩
section
variable {A:Nat->Prop} {B k0:Nat} {w:Wj} {st:St} {L:Lg}
theorem xh(h:bh A B w k0 st L)(hB:B<=w.heap.size)(x:L.opened.length<=3)o(F:o.kind=10):
  Calls Yq.prog 11 #[O (J ⟨k0,0,N⟩),aL o] w (cf A B k0 w st L ⟨0,st.count,⟨#[]⟩,L.opened.map iT,⟨#[]⟩⟩):=by
 have i:bh A B (dI w o).drew k0 st L:=h.left ((bg o).drew);have HT:=EP (dI w o).drew i.ls x;have HN:=Ix k0 st.count (dI w o).drew i.store.count;obtain⟨NA,c⟩:∃NA,NA=L.opened.map iT:=⟨_,Q⟩;rw[<-c]at HT ⊢;have f:ax (dI w o) (dI w o).drew:=ax.refl.drew;have l:k0<(dI w o).heap.size:=by have:=h.ls.lt;rw[aW];omega
 have HB:Hid (∀b,Below (dI w o).drew.heap.size (dI w o).drew b->_):=λb d=>box5 (mS o h.ls (FrC.left l (f.t (.below d))))
 have HF:Hid (∀b j p k q D y u s,Below (dI w o).drew.heap.size (dI w o).drew b->b.ownsRow (dI w o).drew.heap.size 67 3 (M j p k) NA.length (az NA)->cf A B k0 w st L ⟨0,st.count,⟨#[]⟩,NA,⟨#[]⟩⟩ (Rc (kJ ⟨0,st.count,⟨#[]⟩,NA,⟨#[]⟩⟩ (M j p k))) (put5 b (w.heap.size+1) q D y u s)):=λb j p k q D y u s d a=>by
  obtain⟨A',z,a2,V,G,X,a6⟩:=bZ.NI (h.ls.left (bg o)) (f.t (.below d)) a Q0 (λ_ _ _=>Q);have⟨e1,e2,e3,e4⟩:=nM (A':=A') (sv:=M j p k) (NA:=NA) (r:=w.heap.size+1) (bg o) h.ls.lt hB (by omega) (by rw[aW];omega) ⟨_,iw o,Q⟩ z a2 h.ls.Of ((h.left (bg o)).step G z V Q) G.OA a6 (gX o h.ls) (X.Nx (by rw[aW];omega) λ_ d _=>⟨d,Q⟩) q D y u s;exact⟨_,Q,A',z,e1,e2,e3,e4⟩
 have hb1:=CA;clear c i f l;obtain⟨kind,key,body,fe,past,n,src⟩:=o;simp only at F;subst F;unfold dI at HT HF HB HN;clear h;unfold aL;go_enter (Yq.nq Ru),Rr;go_wp2_with fail
 go_region_with (first
  |(go_at_call 25;refine HN.m ?_;rintro e b ⟨rfl,rfl⟩)
  |(go_at_call 26;refine HT.m ?_;rintro e b ⟨sv,rfl,a,d⟩;obtain⟨j,k,rfl,-⟩:=ao a;have⟨⟨T,P,b2,R,b4⟩,f0,f1,f2,f3,f4⟩:=HB.o b d))
 all_goals
  go_wp2;exact tb (v:=kJ ⟨0,st.count,⟨#[]⟩,NA,⟨#[]⟩⟩ (M j NA.length k)) (by simp[results,Rp,go_sem,kJ,T,P,b2,R,b4]) Q (HF.o b _ _ _ _ _ _ _ _ d a)
end
def Fi(R:Lg×S ItD×dT×ey):iU:=⟨R.2.2.2,0,⟨#[]⟩,R.2.1,R.2.2.1⟩
def NC(st:St)(L:Lg)(Ny:S dT)(o:OpD):St×Lg×iU:=
 if o.kind=6 then(st,(fN L st.f ⟨Z,o.key,o.fe,o.past⟩ o.n).1,Fi (fN L st.f ⟨Z,o.key,o.fe,o.past⟩ o.n))
 else if o.kind=7 then(st,(fN L st.f ⟨Y,o.key,o.fe,o.past⟩ o.n).1,Fi (fN L st.f ⟨Y,o.key,o.fe,o.past⟩ o.n))
 else if o.kind=8 then(st,(dY L (eA Ny o.src o.body)).1,Fi (dY L (eA Ny o.src o.body)))
 else if o.kind=9 then(st,(fI L o.n).1,⟨(fI L o.n).2,0,⟨#[]⟩,[],⟨#[]⟩⟩)
 else if o.kind=10 then(st,L,⟨0,st.count,⟨#[]⟩,L.opened.map iT,⟨#[]⟩⟩)
 else if o.kind=11 then(st,L,⟨0,0,fT st L.tm,[],⟨#[]⟩⟩)
 else((aE st o).1,L,⟨(aE st o).2.code,(aE st o).2.NP,(aE st o).2.body,[],⟨#[]⟩⟩)
def nP(st:St)(L:Lg)(Ny:S dT)(b:dT)(o:OpD):St×Lg×iU:=if o.kind=12 then dD st L b else NC st L Ny o
structure uz (Qok:Qy->Prop)(o:OpD):Prop where
 q:o.kind=6->Qok ⟨Z,o.key,o.fe,o.past⟩
 q7:o.kind=7->Qok ⟨Y,o.key,o.fe,o.past⟩
structure qZ (Qok:Qy->Prop)(L:Lg)(s:H):Prop where
 len:L.opened.length<=3
 left:∀x∈L.opened,0<=x.left/\x.left<=10
 ok:∀x∈L.opened,Qok x.q/\fU (bV x.f x.q.p.data.toList)<=1000/\x.q.p.size<=maxLen
 begun:0<=L.begun/\L.begun<=s
 told:∀tok n pg,ez tok L.told=J (n,pg)->(0<=n/\n<=s)/\0<=pg/\pg<=s+1
theorem gz(k b:dT)(x:ey×ey)(t:Told):ez k (ml b x t)=if k=b then J x else ez k t:=by
 induction t with
 |nil=>simp[ml,ez]
 |cons a r ih=>
  obtain⟨c,a2⟩:=a;by_cases h:b=c
  subst h;simp[ml,ez]
  grind
  simp[ml,lj h,ez,ih]
  grind
theorem eR.sum{st}(h:eR st)p:fU (bV st.f p)<=1000:=by
 have h2:=yT p 41 st.f;have h3:fU (bV st.f p)=tot (41-p.length) λk=>st.f (p++k):=qv _ _ _ _
 have:=h.cnt;have:=h.le;omega
section
variable {Qok:Qy->Prop} {L:Lg} {s:Nat} {st:St}
theorem qZ.m(h:qZ Qok L s){s'}(hs:s<=s'):qZ Qok L s':=
 ⟨h.len,h.left,h.ok,⟨h.begun.1,by have:=h.begun.2;omega⟩,λa n b e=>by have:=h.told a n b e;omega⟩
theorem qZ.beg(h:qZ Qok L s)(k:eR st)q(n:ey)(j:Qok q)(c:q.p.size<=sT):qZ Qok (fN L st.f q n).1 (s+1):=by
 have hb:=h.begun;unfold fN;split
 exact h.m (by omega);split
 exact h.m (by omega);split
 exact h.m (by omega);refine⟨by simp;omega,λx a=>?_,λx a=>?_,⟨by simp only;omega,by simp only;omega⟩,λb d i e=>?_⟩;rcases R8.1 a with a|a;exact h.left x a;simp at a;subst a;exact⟨by simp[js],by simp[js]⟩;rcases R8.1 a with a|a;exact h.ok x a;simp at a;subst a;exact⟨j,k.sum _,c⟩;simp[gz]at e;split at e
 grind
 have:=h.told b d i e;omega
theorem qZ.next(h:qZ Qok L s)(c:dT):qZ Qok (dY L c).1 (s+1):=by
 unfold dY;split
 exact h.m (by omega);rename_i n j k;split
 exact h.m (by omega);split
 exact h.m (by omega);rename_i i e2 x l;have o:=h.begun;refine⟨by simpa using h.len,λy b=>?_,λy b=>?_,⟨o.1,by simp only;omega⟩,λa f d e=>?_⟩;rcases Sc b with b|rfl;exact h.left y b;exact⟨by simp[LsA.again],by simp[LsA.again]⟩;rcases Sc b with b|rfl;exact h.ok y b;exact h.ok x (List.mem_of_getElem? l);simp only at e;split at e
 have:=h.told a f d e;omega;rw[gz]at e;split at e
 cases e;have:=h.told c n j k;omega;have:=h.told a f d e;omega
theorem qZ.tick(h:qZ Qok L s)(u:ey):qZ Qok (fI L u).1 (s+1):=by
 unfold fI;split
 exact h.m (by omega);rename_i hu;have f:=h.begun;refine⟨?_,λy a=>?_,λy a=>?_,⟨f.1,by simp[nL];omega⟩,λb n d e=>by have:=h.told b n d e;omega⟩;have:=List.length_filter_le (λx:LsA=>!decide (x.left<=0)) (L.opened.map λx=>x.again (x.left-u));rw[lM]at this;exact lT this h.len;simp only[nL,List.mem_filter,Sk]at a;obtain⟨⟨x,c,rfl⟩,a⟩:=a;have:=h.left x c;have hy':¬(x.left-u<=0):=λe=>by simp[LsA.again,e]at a
 show 0<=x.left-u/\x.left-u<=10;omega;simp[nL]at a;obtain⟨⟨x,c,rfl⟩,a⟩:=a;exact h.ok x c
theorem qZ.step(h:qZ Qok L s)(c:eR st)Ny o(b:uz Qok o)(a:o.key.size<=sT):qZ Qok (NC st L Ny o).2.1 (s+1):=by
 unfold NC;split
 rename_i e;exact h.beg c _ _ (b.q e) a;split
 rename_i d;exact h.beg c _ _ (b.q7 d) a;split
 exact h.next _
 split
 exact h.tick _;split
 exact h.m (by omega);split
 exact h.m (by omega);exact h.m (by omega)
theorem eR.NC(a:eR st)Ny o:eR (NC st L Ny o).1:=by
 unfold Go.Proofs.Qw.NC
 repeat' split
 all_goals first|exact a|exact a.step o
theorem Inv.NC(a:Inv st s)Ny o:Inv (NC st L Ny o).1 (s+1):=by
 unfold Go.Proofs.Qw.NC
 repeat' split
 all_goals first|exact(a.m (by omega))|exact a.step o
end
def MG(_:OpD):Prop:=True
def xi(Qok:Qy->Prop)(K:OpD->Prop)(G:Wj->Prop)(N:H):Prop:=
 ∀ {A:H->Prop} {B k0:H} {w:Wj} {st:St} {L:Lg} (_:bh A B w k0 st L) (_:B<=w.heap.size) (_:∀w',bf A B k0 w w'->G w') (o:OpD) (_:K o) (_:uz Qok o) (_:o.key.size<=sT) (_:o.body.size<=sT) {s:H} (_:Inv st s) (_:eR st) (_:qZ Qok L s) (_:s<N)
  (c d:H) (Ny:S dT) (_:Ny.length=s) (_:w.cell? ⟨k0,8,none⟩=J (M (J ⟨c,0,none⟩) s d)) (_:∀i (hi:i<Ny.length),w.cell? ⟨c,i*5+4,none⟩=J (U Ny[i])) (a:S ey) (b:S dT) (_:JH w k0 c s a b),
  Calls Yq.prog 11 #[O (J ⟨k0,0,none⟩),aL o] w λe w'=>cf A B k0 w (nP st L Ny (dQ a b o.src o.body) o).1 (nP st L Ny (dQ a b o.src o.body) o).2.1 (nP st L Ny (dQ a b o.src o.body) o).2.2 e w'\/Stop Qok e w'
structure Dk where
 st:St
 L:Lg
 al:S iU
def Dk.Ny(d:Dk):S dT:=d.al.map (·.tok)
def IU(d:Dk)(o:OpD):Dk:=⟨(NC d.st d.L d.Ny o).1,(NC d.st d.L d.Ny o).2.1,d.al++[(NC d.st d.L d.Ny o).2.2]⟩
def dk0:Dk:=⟨st0,⟨[],0,[],0⟩,[]⟩
structure Nj (Qok:Qy->Prop)(d:Dk)(s:H):Prop where
 i:Inv d.st s
 t:eR d.st
 l:qZ Qok d.L s
 n:d.al.length=s
theorem MU(Qok:Qy->Prop):Nj Qok dk0 0:=⟨inv0,Ih,⟨by simp[dk0],by simp[dk0],by simp[dk0],by simp[dk0],by simp[dk0,ez]⟩,Q⟩
def Dk.N1(d:Dk):S dT:=d.al.map (·.body)
def ja(a:S OpD)(d:Dk)(o:OpD):St×Lg×iU:=nP d.st d.L d.Ny (dQ (a.map (·.kind)) d.N1 o.src o.body) o
def g8(a:S OpD)(d:Dk)(o:OpD):Dk:=⟨(ja a d o).1,(ja a d o).2.1,d.al++[(ja a d o).2.2]⟩
def jE(ops:S OpD)(x:S OpD×Dk):S OpD×Dk:=ops.foldl (λx o=>(x.1++[o],g8 x.1 x.2 o)) x
def cZ(ops:S OpD):Dk:=(jE ops ([],dk0)).2
theorem Fj a:∀x,(jE a x).1=x.1++a:=by
 induction a with
 |nil=>intro x;simp[jE]
 |cons o r ih=>intro x;show(jE r _).1=_;rw[ih];simp
theorem ov a b x:jE (a++b) x=jE b (jE a x):=by simp[jE]
theorem mV a o:cZ (a++[o])=g8 a (cZ a) o:=by
 rw[cZ,ov];show g8 (jE a ([],dk0)).1 _ o=_;rw[Fj];rfl
theorem Fk a:∀x,(jE a x).2.al.length=x.2.al.length+a.length:=by
 induction a with
 |nil=>intro x;rfl
 |cons o r ih=>intro x;show(jE r _).2.al.length=_;rw[ih];simp[g8];omega
theorem fE a:(cZ a).al.length=a.length:=by rw[cZ,Fk];simp[dk0]
theorem IV{i}{d}{o}(h:o.kind≠12):g8 i d o=IU d o:=by simp[g8,ja,nP,lj h,IU]
structure IW (Qok:Qy->Prop)(d:Dk)(s:H):Prop extends Nj Qok d s where
 small:∀b∈d.N1,b.size<=maxLen
theorem Fm{st}{L}{s}{Qok:Qy->Prop}(b:dT)(f:Inv st s)(j:eR st)(c:qZ Qok L s):Inv (dD st L b).1 (s+1)/\eR (dD st L b).1/\qZ Qok (dD st L b).2.1 (s+1)/\(dD st L b).2.2.body=⟨#[]⟩:=by
 unfold dD;cases h:iY b with
 |none=>exact⟨f.m (by omega),j,c.m (by omega),Q⟩
 |some x=>
  have⟨k,i⟩:=Fg h;have l:=c.begun;exact⟨k.m (by omega),i,⟨by simp,by simp,by simp,⟨l.1,by simp only;omega⟩,λa n d e=>by have:=c.told a n d e;omega⟩,Q⟩
theorem zv{st}{L}(b:eR st)Ny o:(NC st L Ny o).2.2.body.size<=sT:=by
 have c:(⟨#[]⟩:dT).size<=sT:=Q8;have a:∀k,∀v∈st.f k,v.body.size<=sT:=λk v a=>lT (b.body k v a) (by simp only[sT];decide)
 unfold NC
 repeat' split
 all_goals first
  |exact c
  |exact CM b _
  |skip
 unfold aE
 grind
theorem IW.step{Qok:Qy->Prop}{d}{s}{a}(h:IW Qok d s)o(k:uz Qok o)(j:o.key.size<=sT):IW Qok (g8 a d o) (s+1):=by
 by_cases f:o.kind=12
 have⟨q,m,r,p⟩:=Fm (dQ (a.map (·.kind)) d.N1 o.src o.body) h.i h.t h.l;have e:ja a d o=dD d.st d.L (dQ (a.map (·.kind)) d.N1 o.src o.body):=by simp[ja,nP,kr f]
 refine⟨⟨by rw[g8,e];exact q,by rw[g8,e];exact m,by rw[g8,e];exact r,by simp[g8,h.n]⟩,λb c=>?_⟩;simp only[Dk.N1,g8,R6,R8,Sf,Sg,R9]at c;rcases c with c|rfl;exact h.small b c;rw[e,p];exact Q8;rw[IV f];refine⟨⟨h.i.NC _ o,h.t.NC _ o,h.l.step h.t _ o k j,by simp[IU,h.n]⟩,λb c=>?_⟩;simp only[Dk.N1,IU,R6,R8,Sf,Sg,R9]at c;rcases c with c|rfl;exact h.small b c;exact zv h.t _ o
theorem pm{Qok:Qy->Prop}a(b:∀o∈a,uz Qok o/\o.key.size<=sT):IW Qok (cZ a) a.length:=by
 have:∀ (a:S OpD) (x:S OpD×Dk) (s:H),(∀o∈a,uz Qok o/\o.key.size<=sT)->IW Qok x.2 s->IW Qok (jE a x).2 (s+a.length):=λa=>by
  induction a with
  |nil=>intro x s _ h;exact h
  |cons o r ih=>
   intro x s b h;have:=ih (x.1++[o],g8 x.1 x.2 o) (s+1) (λy c=>b y (by simp[c])) (h.step o (b o (by simp)).1 (b o (by simp)).2)
   rwa [lC,show s+(r.length+1)=s+1+r.length by omega]
 have:=this a ([],dk0) 0 b ⟨MU Qok,by simp[Dk.N1,dk0]⟩
 rwa [zA]at this
def br(zs:S (iU×Wx)):S Wx:=zs.flatMap λz=>[I K z.1.code,I K z.1.NP,U z.1.body,z.2,U z.1.tok]
theorem sD a:(br a).length=a.length*5:=cF 5 _ (λ_=>Q) a
theorem qM a(z:iU×Wx):br (a++[z])=br a++[I K z.1.code,I K z.1.NP,U z.1.body,z.2,U z.1.tok]:=by simp[br]
theorem i6:∀ (a:S (iU×Wx))(i:H)(b:i<a.length),(br a)[i*5]?=J (I K a[i].1.code)/\(br a)[i*5+1]?=J (I K a[i].1.NP)/\(br a)[i*5+2]?=J (U a[i].1.body)/\(br a)[i*5+3]?=J a[i].2/\(br a)[i*5+4]?=J (U a[i].1.tok)
 | [],i,b=>by simp at b
 |z::a,0,b=>by simp[br]
 |z::a,i+1,b=>by
  have ih:=i6 a i (by simpa using b);have e:br (z::a)=[I K z.1.code,I K z.1.NP,U z.1.body,z.2,U z.1.tok]++br a:=by simp[br]
  have c:∀j,(br (z::a))[(i+1)*5+j]?=(br a)[i*5+j]?:=λj=>by
   rw[e,aR (by simp;omega)];congr 1;simp;omega
  simp only[List.getElem_cons_succ];exact⟨(c 0).t ih.1,(c 1).t ih.2.1,(c 2).t ih.2.2.1,(c 3).t ih.2.2.2.1,(c 4).t ih.2.2.2.2⟩
def JI(A:H->Prop)(w:Wj)(zs:S (iU×Wx)):Prop:=(∀z∈zs,GC 0 A w z.2 z.1.items)/\zs.Pairwise λa b=>∀g,a.2.ownBlock=J g->b.2.ownBlock≠J g
def mW(ops:S OpD)(w:Wj)(e:Ending)(w':Wj):Prop:=
 ∃ (A:H->Prop) (a:S (iU×Wx)),e=Rc (M (J ⟨w.heap.size,0,N⟩) ops.length ops.length)/\a.map (·.1)=(cZ ops).al/\w'.ownsRow w.heap.size 53 5 (M (J ⟨w.heap.size,0,N⟩) ops.length ops.length) ops.length (br a)/\JI A w' a/\(∀b,A b->w.heap.size<b)/\ax w w'
section
variable {A:Nat->Prop} {B k0:Nat} {w w':Wj} {st:St} {L:Lg}
theorem bh.apart{g0}(h:bh A B w k0 st L)(hsz:w.heap.size<=w'.heap.size)(a:∀b,b<w.heap.size->b≠k0->b≠g0->w'.heap[b]?=w.heap[b]?)(hA:¬A g0)(hgB:g0<B)(d:∀j,j<7->w'.cell? ⟨k0,j,N⟩=w.cell? ⟨k0,j,N⟩)(o:∀j,w'.frozen? ⟨k0,j,N⟩=w.frozen? ⟨k0,j,N⟩):bh A B w' k0 st L:=by
 have hlow:=h.ls.low;have r:=λn p f R=>au.Nx (λb i k=>⟨i,a b k (λe=>h.ls.ND (e▸i)) (λe=>hA (e▸i))⟩) n p f R
 have⟨p,c0,s⟩:=h.store.tree;have⟨v,c4,D,z1,V,P,X⟩:=h.ls.opened;have⟨T,c6,l⟩:=h.ls.told;refine⟨⟨h.store.ND,⟨p,(d 0 (by omega)).t c0,r _ _ _ s⟩,(d 1 (by omega)).t h.store.count,(d 2 (by omega)).t h.store.last,λj=>(o j).t (h.store.frozen j)⟩,⟨⟨v,(d 4 (by omega)).t c4,D,z1,bO V λg h1 G=>a g G (by omega) (by omega),P,λz hz=>r _ _ _ (X z hz)⟩,(d 5 (by omega)).t h.ls.begun,⟨T,(d 6 (by omega)).t c6,?_⟩,λj=>(o j).t (h.ls.frozen j),h.ls.ND,h.ls.low,λb i=>by have:=h.ls.Of b i;omega⟩,(d 3 (by omega)).t h.time⟩;rcases l with l|⟨m,x,c,F,q,u,m4,y⟩;exact Rf l;exact Rg ⟨m,x,c,F,(a m ((eS q).1) (by omega) (by omega)).t q,u,m4,y⟩
theorem Fo{b}:bh (λ_=>nF) (w.heap.size+1) (w.alloc (E #[O N,I K 0,I K 0,I .u64 0,M N 0 0,I K 0,.map N,v,b] T)) w.heap.size st0 ⟨[],0,[],0⟩:=by
 have a:∀j,(w.alloc (E #[O N,I K 0,I K 0,I .u64 0,M N 0 0,I K 0,.map N,v,b] T)).cell? ⟨w.heap.size,j,N⟩=(#[O N,I K 0,I K 0,I .u64 0,M N 0 0,I K 0,.map N,v,b]:eW Wx)[j]?:=λj=>cA (w:=w) _ _ w.heap.size j Q
 have d:∀j,(w.alloc (E #[O N,I K 0,I K 0,I .u64 0,M N 0 0,I K 0,.map N,v,b] T)).frozen? ⟨w.heap.size,j,N⟩=false:=λj=>Rj (w:=w) _ _ w.heap.size j Q
 refine⟨⟨λ_ h=>h.elim,⟨N,a 0,au.nil (λ_=>Q)⟩,a 1,a 2,d⟩,⟨⟨_,a 4,[],Q,⟨by simp[cy],Rf ⟨Q,Q⟩⟩,λg h=>by simp[Sq]at h,λz e=>by simp at e⟩,a 5,⟨_,a 6,Rf ⟨Q,Q⟩⟩,d,λh=>h,by omega,λ_ h=>h.elim⟩,a 3⟩
theorem Lm{b:S (iU×Wx)}{c:S iU}(hz:b.map (·.1)=c)(h:w.ownsRow r T 5 (M (J ⟨g,0,N⟩) n k) n (br b)):∀i (f:i<(c.map (·.body)).length),w.cell? ⟨g,i*5+2,N⟩=J (U (c.map (·.body))[i]):=by
 intro i f;have e:i<b.length:=by grind
 have:=(i6 b i e).2.2.1;rw[h.cellAt _ (by have:=h.1;rw[sD]at this;omega)]
 grind
theorem Ln{b:S (iU×Wx)}{c:S iU}(hz:b.map (·.1)=c)(h:w.ownsRow r T 5 (M (J ⟨g,0,N⟩) n k) n (br b)):∀i (f:i<(c.map (·.tok)).length),w.cell? ⟨g,i*5+4,N⟩=J (U (c.map (·.tok))[i]):=by
 intro i f;have e:i<b.length:=by grind
 have:=(i6 b i e).2.2.2.2;rw[h.cellAt _ (by have:=h.1;rw[sD]at this;omega)]
 grind
end
theorem CN{k0}{w'}(h:fS A B k0 w w'){b}(d:w.ownsRow r T 5 (M (J ⟨g,0,N⟩) n b) n xs)(f:g<B)(e:g≠k0):w'.ownsRow r T 5 (M (J ⟨g,0,N⟩) n b) n xs:=
 bG d λg' c=>by
  simp[Sq]at c;subst c;exact h.low _ f (d.lt _ Q).2 e
structure IY (Qok:Qy->Prop)(ops:S OpD)(sc:Wx)(n k0:H)(w wr:Wj)(i:H)(A:H->Prop)(zs:S (iU×Wx)):Prop where
 Pf:bh A (k0+1) wr k0 (cZ (ops.take i)).st (cZ (ops.take i)).L
 above:∀b,A b->w.heap.size<b
 c7:wr.cell? ⟨k0,7,N⟩=J sc
 c8:wr.cell? ⟨k0,8,N⟩=J (M (J ⟨w.heap.size,0,N⟩) i n)
 own:wr.ownsRow w.heap.size 53 5 (M (J ⟨w.heap.size,0,N⟩) i n) i (br zs)
 al:zs.map (·.1)=(cZ (ops.take i)).al
 rows:JI A wr zs
 left:ax w wr
 k0:w.heap.size<k0
theorem IY.QQ{Qok:Qy->Prop}{d}{k0}{w'}{f}(h:IY Qok d v n k0 w wr r A f)(e:ax wr W1)(a:bf A (k0+1) k0 W1 w'):ax w w':=by
 have c:=h.left;have hk:=h.k0;have hs:=c.size;have hs1:=e.size;refine⟨a.os.t (e.os.t c.os),by have:=a.size;omega,λb j=>?_⟩;rw[a.low b (by omega) (by omega) (by omega),e.block b (by omega),c.block b j]
theorem IY.next{Qok:Qy->Prop}{c:S OpD}{k0 i:H}{w2 w3:Wj}{L:S (iU×Wx)}(h:IY Qok c sc n k0 w wr i A L)(hi:i<c.length)(v:ax wr W1){sv:Wx}{X:Obj}(hp:cf A (k0+1) k0 W1 (ja (c.take i) (cZ (c.take i)) c[i]).1 (ja (c.take i) (cZ (c.take i)) c[i]).2.1 (ja (c.take i) (cZ (c.take i)) c[i]).2.2 (Rc (kJ (ja (c.take i) (cZ (c.take i)) c[i]).2.2 sv)) w2)
  (ho:w3.ownsRow w.heap.size 53 5 (M (J ⟨w.heap.size,0,N⟩) (i+1) n) (i+1) (br (L++[((ja (c.take i) (cZ (c.take i)) c[i]).2.2,sv)]))) (p:(w2.alloc X).grownBy w3 (J w.heap.size)) (T:w3.cell? ⟨k0,8,N⟩=J (M (J ⟨w.heap.size,0,N⟩) i n)):
  ∃A',IY Qok c sc n k0 w (w3.setCell ⟨k0,8,N⟩ (M (J ⟨w.heap.size,0,N⟩) (i+1) n)) (i+1) A' (L++[((ja (c.take i) (cZ (c.take i)) c[i]).2.2,sv)]):=by
 obtain⟨P,he,A',a1,a2,D,u,k⟩:=hp;have G:P=sv:=by
  simp[kJ]at he;exact he.s
 subst G;have x:cZ (c.take (i+1))=g8 (c.take i) (cZ (c.take i)) c[i]:=by rw[(tS hi),mV]
 have hk:=h.k0;have hs0:=h.left.size;have hs1:=v.size;have hs2:=u.size;have F:=p.size;simp at F;have m:∀b,b<w2.heap.size->b≠k0->b≠w.heap.size->(w3.setCell ⟨k0,8,N⟩ (M (J ⟨w.heap.size,0,N⟩) (i+1) n)).heap[b]?=w2.heap[b]?:=λb d B h2=>by
  rw[Ra B,p.block b (by simp;omega) (λe=>h2 (oJ e)),Rb d]
 have R:=D.ls.lt;have y:w3.heap[k0]?=w2.heap[k0]?:=by
  rw[p.block k0 (by simp;omega) (λe=>by have:=oJ e;omega),Rb R]
 have o:∀b,A' b->w.heap.size<b:=λb d=>by
  rcases a2 b d with B|B;exact h.above b B;have:=h.Pf.ls.lt;omega
 have V:∀j,j≠8->(w3.setCell ⟨k0,8,N⟩ (M (J ⟨w.heap.size,0,N⟩) (i+1) n)).cell? ⟨k0,j,N⟩=w2.cell? ⟨k0,j,N⟩:=λj hj=>by
  rw[cO _ _ _ _ (bI (λe=>hj e.s))];exact cB (a:=⟨k0,j,N⟩) y
 have hf:∀j,(w3.setCell ⟨k0,8,N⟩ (M (J ⟨w.heap.size,0,N⟩) (i+1) n)).frozen? ⟨k0,j,N⟩=w2.frozen? ⟨k0,j,N⟩:=λj=>by
  rw[Rl];exact fB (a:=⟨k0,j,N⟩) y
 refine⟨A',?_,o,(V 7 (by omega)).t ((u.cells 7 (by omega)).t (v.cell h.c7)),cS _ _ _ (by rw[T];rfl),?_,?_,?_,?_,h.k0⟩;rw[x];show bh A' (k0+1) _ k0 (ja _ _ _).1 (ja _ _ _).2.1;exact D.apart (g0:=w.heap.size) (by simp;omega) m (λhx=>by have:=o _ hx;omega) (by omega) (λj hj=>V j (by omega)) hf;exact bG ho λg q=>by
  simp[Sq]at q;subst q;exact Ra (by show w.heap.size≠k0;omega)
 rw[x,R6,h.al];rfl;have f:∀b,A' b->b<w2.heap.size->A' b/\(w3.setCell ⟨k0,8,N⟩ (M (J ⟨w.heap.size,0,N⟩) (i+1) n)).heap[b]?=w2.heap[b]?:=λb d l=>⟨d,m b l (λe=>D.ls.ND (e▸d)) (λe=>by have:=o b d;omega)⟩
 refine⟨λz r=>?_,List.pairwise_append.2 ⟨h.rows.2,List.pairwise_singleton _ _,λa ha b d g p e=>?_⟩⟩;rcases R8.1 r with r|r;exact((h.rows.1 z r).Nx Q0 λb d l=>⟨a1 b d,by rw[u.tree b d (by omega),v.block b l]⟩).Nx Q0 f;rw[R9.1 r];exact k.Nx Q8 f;rw[R9.1 d]at e;have:=((h.rows.1 a ha).1.lt g p).2;have:=(k.1.lt g e).1;omega;refine⟨?_,by simp;omega,λb d=>?_⟩;show w3.os=w.os;rw[p.os];exact u.os.t (v.os.t h.left.os);have hkk:=h.Pf.ls.lt;rw[m b (by omega) (by omega) (by omega),u.low b (by omega) (by omega) (by omega),v.block b (by omega),h.left.block b d]
theorem Fq(Qok:Qy->Prop)(d:OpD->Prop)(G:Wj->Prop)c(bb:xi Qok d G c)b aa ac f w(hG:∀w',ax w w'->G w')(hS:mP w b aa f)(hz:Sized f)(hn:f.length<=c)(hN:c<2199023255300)(b5:∀o∈f,uz Qok o)(bp:∀o∈f,d o):
  Calls Yq.prog 6 #[M (J ⟨b,aa,N⟩) f.length ac] w λe w'=>mW f w e w'\/Stop Qok e w':=by
 have⟨i0,bv,cr,bx,ca⟩:=tn Yq.On;have a9:=bJ hS hz;have b2:=aq b5;have bq:Hid (xi Qok d G c):=bb;have cv:=aq hG;have b6:=aq bp;have b7:Hid (∀e w',mW f w e w'↔mW f w e w'):=λ_ _=>Iff.rfl
 obtain⟨P,hP⟩:∃P:Ending->Wj->Prop,P=λe w'=>mW f w e w'\/Stop Qok e w':=⟨_,Q⟩
 have c9:Hid (∀e w',mW f w e w'->P e w'):=λe w' h=>by rw[hP];exact Rf h
 have cj:Hid (∀e w',Stop Qok e w'->P e w'):=λe w' h=>by rw[hP];exact Rg h
 rw[<-hP];obtain⟨n,bl⟩:∃n,f.length=n:=⟨_,Q⟩;have HN:=aq bl;rw[bl]at hn ⊢;clear hS hz bl b5 bb hP b7 bp hG;go_enter (Yq.nq Tryz.func6),Tryz.ntmps6;go_wp2_with (at_make;refine wpList_make_own _ Q _ _ 30 Q w.heap.size 53 i0 _ 5 (Yq.u RE) bv cr bx _ _ _ n Q Q (by omega) ?qb1 ?qb2 ?qb3 ?_)
 case qb1=>rw[ca];omega
 case qb2=>simp only[sT];omega
 case qb3=>simp
 intro w1 af s;have b1:Below w.heap.size w w1:=⟨s.os,s.tape,s.output,s.size,λk hk=>s.block k hk (by simp)⟩;go_wp2_with fail
 obtain⟨W0,bd⟩:∃W0,W0=w1.alloc (E #[O N,I K 0,I K 0,I .u64 0,M N 0 0,I K 0,.map N,M (J ⟨b,aa,N⟩) n ac,M (J ⟨w.heap.size,0,N⟩) 0 n] 49):=⟨_,Q⟩;have b3:Hid (IY Qok f (M (J ⟨b,aa,N⟩) n ac) n w1.heap.size w W0 0 (λ_=>nF) []):=by
  rw[bd];exact⟨Fo,λ_ h=>h.elim,by rw[kG];rfl,by rw[kG];rfl,af.alloc _,Q,⟨λz hz=>by simp at hz,.nil⟩,(ax.below b1).alloc _,(af.lt w.heap.size Q).2⟩
 rw[<-bd];generalize w1.heap.size=k0 at *;clear b1 af s bd
 go_loopw [5,13] (λ_ s12 wr=>∃ (i:H) (A:H->Prop) (zs:S (iU×Wx)),i<=n/\s12=I K i/\IY Qok f (M (J ⟨b,aa,N⟩) n ac) n k0 w wr i A zs) (λ_ s12 _=>n-(intOf s12).toNat)
 case atStart=>exact⟨0,λ_=>nF,[],Q8,Q,b3.o⟩
 case round=>
  obtain⟨i,A,zs,hin,rfl,bo⟩:=hrel;have HR:=aq bo;clear bo b3;by_cases cp:i<n
  .have ap:i<f.length:=by rw[HN.o];exact cp
   have hb:=HR.o.left;have⟨c0,c1,c2,c3,c4,c5,c6⟩:=a9.o.1 i ap;replace c0:=hb.cell c0;replace c1:=hb.cell c1;replace c2:=hb.cell c2;replace c3:=hb.cell c3;replace c4:=hb.cell c4;replace c5:=hb.cell c5;replace c6:=hb.cell c6;have⟨a8,a7⟩:=a9.o.2 f[i] (Sb ap);have bi:=b2.o f[i] (Sb ap);have be:=b6.o f[i] (Sb ap);have ab:IW Qok (cZ (f.take i)) i:=by
    have:=pm (Qok:=Qok) (f.take i) (λo ho=>⟨b2.o o (Se ho),(a9.o.2 o (Se ho)).1⟩)
    rwa [tL,SH (by omega)]at this
   have ai:∀ (W1 w2 w3:Wj) (sv:Wx) (X:Obj),ax wr W1->cf A (k0+1) k0 W1 (ja (f.take i) (cZ (f.take i)) f[i]).1 (ja (f.take i) (cZ (f.take i)) f[i]).2.1 (ja (f.take i) (cZ (f.take i)) f[i]).2.2 (Rc (kJ (ja (f.take i) (cZ (f.take i)) f[i]).2.2 sv)) w2->w3.ownsRow w.heap.size 53 5 (M (J ⟨w.heap.size,0,N⟩) (i+1) n) (i+1) (br (zs++[((ja (f.take i) (cZ (f.take i)) f[i]).2.2,sv)]))->(w2.alloc X).grownBy w3 (J w.heap.size)->w3.cell? ⟨k0,8,N⟩=J (M (J ⟨w.heap.size,0,N⟩) i n)->∃A' aj,IY Qok f (M (J ⟨b,aa,N⟩) n ac) n k0 w (w3.setCell ⟨k0,8,N⟩ (M (J ⟨w.heap.size,0,N⟩) (i+1) n)) (i+1) A' aj:=
    λW1 w2 w3 sv X hl hp ho hg hc=>by
     have⟨A',h⟩:=HR.o.next ap hl hp ho hg hc
     exact⟨A',_,h⟩
   obtain⟨o,ho⟩:∃o,o=f[i]:=⟨_,Q⟩;rw[<-ho]at ai c0 c1 c2 c3 c4 c5 c6 a8 a7 bi be;obtain⟨L,T,B,fe,D,nn,V⟩:=o;simp only at c0 c1 c2 c3 c4 c5 c6 a8 a7;obtain⟨W1,a6⟩:∃W1,W1=wr.alloc (E #[I K L,U T,U B,U fe,U D,I K nn,I K V] 37):=⟨_,Q⟩;have R:ax wr W1.drew:=by rw[a6];exact(ax.refl.alloc _).drew
   have hkl:k0<wr.heap.size:=HR.o.Pf.ls.lt;have b0:W1.drew.cell? ⟨k0,8,N⟩=J (M (J ⟨w.heap.size,0,N⟩) i n):=R.cell HR.o.c8;have da:JH W1.drew k0 w.heap.size i ((f.take i).map (·.kind)) (cZ (f.take i)).N1:=by
    refine⟨by simp;omega,by rw[Dk.N1,lM];exact ab.n,ab.small,⟨b,aa,n,ac,R.cell HR.o.c7,by omega,λj hj=>?_⟩,λj hj=>R.cell (Lm HR.o.al HR.o.own j hj)⟩;have:=(HR.o.left.t R).cell (a9.o.1 j (by simp at hj;omega)).1;simpa using this
   have a0:=bq.o (HR.o.Pf.left R) (by have:=R.size;omega) (λw' hd=>cv.o w' (HR.o.QQ R hd)) ⟨L,T,B,fe,D,nn,V⟩ be bi a8 a7 ab.i ab.t ab.l (by omega) w.heap.size n (cZ (f.take i)).Ny (by rw[Dk.Ny,lM];exact ab.n) b0 (λj hj=>R.cell (Ln HR.o.al HR.o.own j hj)) ((f.take i).map (·.kind)) (cZ (f.take i)).N1 da;change Calls _ _ _ _ (λe w'=>cf A (k0+1) k0 W1.drew (ja (f.take i) (cZ (f.take i)) ⟨L,T,B,fe,D,nn,V⟩).1 (ja (f.take i) (cZ (f.take i)) ⟨L,T,B,fe,D,nn,V⟩).2.1 (ja (f.take i) (cZ (f.take i)) ⟨L,T,B,fe,D,nn,V⟩).2.2 e w'\/Stop Qok e w')at a0;generalize ja (f.take i) (cZ (f.take i)) ⟨L,T,B,fe,D,nn,V⟩=sr at a0 ai;obtain⟨st',L',ad⟩:=sr;obtain⟨q,NP,p,NA,F⟩:=ad;simp only[aL]at a0 ai;have bn:Hid (∀ (w2 w3:Wj) (sv:Wx) (X:Obj),cf A (k0+1) k0 W1.drew st' L' ⟨q,NP,p,NA,F⟩ (Rc (kJ ⟨q,NP,p,NA,F⟩ sv)) w2->w3.ownsRow w.heap.size 53 5 (M (J ⟨w.heap.size,0,N⟩) (i+1) n) (i+1) (br zs++[I K q,I K NP,U p,sv,U F])->(w2.alloc X).grownBy w3 (J w.heap.size)->w3.cell? ⟨k0,8,N⟩=J (M (J ⟨w.heap.size,0,N⟩) i n)->∃A' aj,IY Qok f (M (J ⟨b,aa,N⟩) n ac) n k0 w (w3.setCell ⟨k0,8,N⟩ (M (J ⟨w.heap.size,0,N⟩) (i+1) n)) (i+1) A' aj):=
    λw2 w3 sv X hp ho hg hc=>ai _ w2 w3 sv X R hp (by rw[qM];exact ho) hg hc
   have dc:Hid (Calls Yq.prog 11 #[O (J ⟨k0,0,N⟩),Rd #[I K L,U T,U B,U fe,U D,I K nn,I K V]] W1.drew λe w'=>(∃v,e=Rc v/\∃so sn sc,v=Rd #[I K q,I K NP,U p,M so sn sc,U F]/\cf A (k0+1) k0 W1.drew st' L' ⟨q,NP,p,NA,F⟩ (Rc (kJ ⟨q,NP,p,NA,F⟩ (M so sn sc))) w')\/∃ch,e=.panicked ch/\Stop Qok (.panicked ch) w'):=
    a0.m λe w' h=>by
     rcases h with⟨sv,rfl,A',a1,a2,a3,a4,a5⟩|bk
     .obtain ⟨so,sc,rfl,-⟩:=ao a5.1;exact Rf ⟨_,Q,so,_,sc,Q,_,Q,A',a1,a2,a3,a4,a5⟩
     .obtain ⟨x,y,r,rfl,bk⟩:=bk;exact Rg ⟨_,Q,x,y,r,Q,bk⟩
   have b8:Hid (∀w2 sv,cf A (k0+1) k0 W1.drew st' L' ⟨q,NP,p,NA,F⟩ (Rc (kJ ⟨q,NP,p,NA,F⟩ sv)) w2->w2.cell? ⟨k0,8,N⟩=J (M (J ⟨w.heap.size,0,N⟩) i n)/\(∀X:Obj,(w2.alloc X).ownsRow w.heap.size 53 5 (M (J ⟨w.heap.size,0,N⟩) i n) i (br zs))/\∀ (w3:Wj) (X:Obj),(w2.alloc X).grownBy w3 (J w.heap.size)->w3.cell? ⟨k0,8,N⟩=J (M (J ⟨w.heap.size,0,N⟩) i n)/\w3.frozen? ⟨k0,8,N⟩=Z):=λw2 sv hp=>by
    obtain⟨_,-,A',-,-,hd,hw,-⟩:=hp;have hk0:=HR.o.k0;have e2:w2.cell? ⟨k0,8,N⟩=J (M (J ⟨w.heap.size,0,N⟩) i n):=(hw.cells 8 (by omega)).t b0;have b4:=hd.ls.lt;refine⟨e2,λX=>(CN hw (bO HR.o.own λg _ hg=>R.block g hg) (by omega) (by omega)).alloc X,λw3 X av=>?_⟩;have bt:w3.heap[k0]?=w2.heap[k0]?:=by
     rw[av.block k0 (by simp;omega) (λe=>by have:=oJ e;omega),Rb b4]
    exact⟨(cB (a:=⟨k0,8,N⟩) bt).t e2,(fB (a:=⟨k0,8,N⟩) bt).t (hd.ls.frozen 8)⟩
   have cc:=aq a6;have W1c:∀j,W1.drew.cell? ⟨wr.heap.size,j,N⟩=(#[I K L,U T,U B,U fe,U D,I K nn,I K V]:eW Wx)[j]?:=λj=>by rw[a6];exact kG wr _ _ j
   have q0:=W1c 0;have q1:=W1c 1;have q2:=W1c 2;have q3:=W1c 3;have q4:=W1c 4;have q5:=W1c 5;have q6:=W1c 6;have cu:Hid (∀ (ar:eW Wx) (wx:Wj),(vf 11 ar).run Yq.prog wx=.ok (.enter 11 ar) wx):=λar wx=>by go_simp
   have k8n:=HR.o.c8;clear W1c a6 hb ab ai a0 bi be a8 a7 ho R;simp only[gA,gZ,gS]at q0 q1 q2 q3 q4 q5 q6
   go_upto_region 5 with fail
   rw[<-cc.o]
   go_region_law (first
    |(refine cX Q 11 #[Rh 3,Rh 19] #[49,37] Q #[O (J ⟨k0,0,N⟩),Rd #[I K L,U T,U B,U fe,U D,I K nn,I K V]] (by simp[pt]) (cu.o _ _) _ _ dc.o (by intro ch w' hs;exact⟨Q,cj.o _ _ hs⟩) ?_;rintro v w2 ⟨so,sn,sc,rfl,hp⟩;obtain⟨cb,o8,f8⟩:=b8.o w2 _ hp;have k8d:(w2.alloc (E #[I K q,I K NP,U p,M so sn sc,U F] 53)).cell? ⟨k0,8,N⟩=J (M (J ⟨w.heap.size,0,N⟩) i n):=aw cb _;have ct:Hid (cf A (k0+1) k0 W1.drew st' L' ⟨q,NP,p,NA,F⟩ (Rc (kJ ⟨q,NP,p,NA,F⟩ (M so sn sc))) w2):=hp;have b9:Hid (∀X:Obj,(w2.alloc X).ownsRow w.heap.size 53 5 (M (J ⟨w.heap.size,0,N⟩) i n) i (br zs)):=o8;have cm:Hid (∀ (w3:Wj) (X:Obj),(w2.alloc X).grownBy w3 (J w.heap.size)->w3.cell? ⟨k0,8,N⟩=J (M (J ⟨w.heap.size,0,N⟩) i n)/\w3.frozen? ⟨k0,8,N⟩=Z):=f8;clear hp o8 f8)
    |(refine oP Q (Rh 18) (Rh 21) 30 Q w.heap.size 53 i0 5 (Yq.u RE) bv bx w.heap.size i n (br zs) (by simp[pt]) (b9.o _) ⟨w2.heap.size,0,N⟩ 1 1 [I K q,I K NP,U p,M so sn sc,U F] (by simp[pt]) Q (su _ _ _ _ _ _ _) (by intro u hu;simp at hu;rcases hu with rfl|rfl|rfl|rfl|rfl<;>rfl) (by omega) ?_;intro w3 bw av;obtain⟨cl,f8c⟩:=cm.o _ _ av;have bs:Hid (w3.ownsRow w.heap.size 53 5 (M (J ⟨w.heap.size,0,N⟩) (i+1) n) (i+1) (br zs++[I K q,I K NP,U p,M so sn sc,U F])/\(w2.alloc (E #[I K q,I K NP,U p,M so sn sc,U F] 53)).grownBy w3 (J w.heap.size)):=⟨bw,av⟩;clear bw av))
   all_goals
    go_wp2;obtain⟨A',aj,cd⟩:=bn.o w2 w3 _ _ ct.o bs.o.1 bs.o.2 cl;exact⟨⟨i+1,A',aj,by omega,by go_num,cd⟩,by simp[intOf];omega⟩
  .have ck:i=n:=by omega
   subst ck;have HT:=aq (tO (by rw[HN.o];exact Q0));have c8:=HR.o.c8;go_wp2;refine c9.o _ _ ⟨A,zs,by rw[HN.o];rfl,?_,?_,HR.o.rows,HR.o.above,HR.o.left⟩
   .have:=HR.o.al;rw[HT.o]at this;exact this
   .rw [HN.o];exact HR.o.own
end
section
open Go.RowKit
end
section
open Go.Conc Go.ConcX Go.ConcX.Gen Go.RowKit
theorem jD.left{w'}{ops}(h:jD w v ops)(c:ax w w'):jD w' v ops:=by
 obtain⟨a,f,rfl,r⟩:=h.form;refine⟨⟨a,f,Q,λd=>?_⟩,h.sized,h.len⟩;obtain⟨b,e,rfl,k⟩:=r d;refine⟨b,e,Q,λi q=>?_⟩;have⟨p,s,j,l,o,m,n⟩:=k i q;exact⟨c.cell p,c.cell s,c.cell j,c.cell l,c.cell o,c.cell m,c.cell n⟩
def AY(_:Qy):Prop:=True
end
