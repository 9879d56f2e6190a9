/- A part. -/
import Derived.Test.YthnlbojplkflaaaGreatDoorQP06
import Derived.Test.YthnlbojplkflaaaGreatDoorChecked
import Derived.ProofKit
import Derived.SizedLaws
import Derived.Deep.Slices
import Derived.ChangeMaps5
import Derived.LaidMore
import Derived.Stop.Joined
import Derived.OpenShut
import Derived.MapKept
import Derived.Carry
set_option maxHeartbeats 4000000
set_option maxRecDepth 100000
open _root_ renaming Option->dT,Int->ey,ByteArray->eV,Array->eW,if_neg->gI,if_pos->gL,absurd->kr,congrArg->lj,UInt8->lk,Bool->nF
open Go.World renaming frozen?_setCell->n8,cell?->pt,frozen?->sq,setCell_alloc_past->sT,size_alloc->tb,alloc->tn,drew->uc,putObj->vf
open List renaming findIdx?_eq_some_iff_getElem->vx,findIdx?_eq_none_iff->wz,drop_drop->xb,getElem_mem->xc,length_set->xt,set_append_right->xv,getElem?_eq_none->yz,filter_eq_self->Rj,set_cons_zero->Rk,getElem?_drop->Rl,flatMap_cons->Rm,getElem_take->Rn,filter_map->Ro,take_set->Rp,mem_map->Rq,map_set->Rr,map_map->Rt,range->Ru,drop->Rv
open Go renaming bodyPost_ret->Rw,maxLen->Rx,beq_toListBytes->Ry,MapEntry->Rz,cell_of_row->RB,MemPlace->RE,run_append_fits->RF,execOp->RG,info_parts->RJ,run_append_own->RN,run_underlying->RQ,TypeInfo->RU
open Go.Value renaming slice->RY,cells->RZ,okWide->R3,int->R4
open Go.Builtin renaming zeroCells->R5,clear_->R6,append->R7,append_->R8
open Go.Region renaming wanted->R9
open Go.Instr renaming findNow->Sa,findKey->Sb,mapUpdate->Sc,build->Sd,lookup->Se,checkKey->Sf,sameNow->Sg
open Go.Proofs.Tryz renaming prog->Sh,f22->Si
open Go.DataW renaming trod_string->Sj,trod_int->Sk,trod->Sl
open Option renaming getD_some->Sm,getD_none->Sn,isSome_some->Sp,map_none->Sq,map_some->Su
open And renaming intro->Sv
open Array renaming size_push->Sx
open Go.MapKept renaming bytes_beq->Sy
open Go.Oper renaming wp->Sz
open Go.Addr renaming add_lit->SB
open Nat renaming add_zero->SC,add_mul->SD
open Go renaming World->Wj,Value->Wx,Program->Wv,TypeId->Ww,Addr->Wu,undef->Wo
namespace Go.Proofs.Qw
open _root_ renaming rfl->Q
open Go.Proofs.Yq renaming prog->Vp
open _root_ renaming Nat->H,List->S
open Option renaming none->N,some->J
open Bool renaming true->Y,false->Z
open Value renaming int->I,string->U,slice->M,pointer->O,bool->C,agg->Rd,tuple->Re
open IntKind renaming i64->K
open Obj renaming cells->E
open Ending renaming returned->Rc
open Or renaming inl->Rf,inr->Rg
open Operand renaming tmp->Rh
variable {W W0 w:Wj}{c i:eW MapEntry}{P:Wv}{G e y:eW Oper}{o:Oper}{B a g j:H}{b:Act->Wj->Prop}{d f h:Exit->Act->Wj->Prop}{R X l r:dT Wu}{v x:Wx}{A:H->Prop}{xs:S Wx}{T:Ww}{NA:S ItD}
open Tryz
section
open Go.RowKit
theorem qx.more(h:qx w W0)o:qx w (W0.alloc o):=by
 have a:Below W0.heap.size W0 (W0.alloc o):=(Q9).alloc Q0 _;exact⟨h.below.t (a.m h.below.size),lL h.lt a.size,ag a h.c0,ag a h.c1,ag a h.c2,ag a h.c3,ag a h.c4,λj=>(a.frozen (p:=⟨w.heap.size+1,j,N⟩) h.lt).t (h.fz j)⟩
theorem Ct{c}(h:Below w.heap.size w c)b f j i d o:Below w.heap.size w ((((((c.setCell ⟨w.heap.size+1,0,N⟩ b).setCell ⟨w.heap.size+1,1,N⟩ f).setCell ⟨w.heap.size+1,2,N⟩ j).setCell ⟨w.heap.size+1,3,N⟩ i).setCell ⟨w.heap.size+1,4,N⟩ d).alloc o):=by
 have a:w.heap.size<=w.heap.size+1:=by omega
 have e:=((((h.setCell (p:=⟨w.heap.size+1,0,N⟩) a b).setCell (p:=⟨w.heap.size+1,1,N⟩) a f).setCell (p:=⟨w.heap.size+1,2,N⟩) a j).setCell (p:=⟨w.heap.size+1,3,N⟩) a i).setCell (p:=⟨w.heap.size+1,4,N⟩) a d;exact e.alloc e.size o
theorem Cu(h:Below w.heap.size w W)c l m d j f k i:Below w.heap.size w ((((((((W.setCell ⟨w.heap.size+1+1,0,N⟩ c).setCell ⟨w.heap.size+1+1,1,N⟩ l).setCell ⟨w.heap.size+1+1,2,N⟩ m).setCell ⟨w.heap.size+1,0,N⟩ d).setCell ⟨w.heap.size+1,1,N⟩ j).setCell ⟨w.heap.size+1,2,N⟩ f).setCell ⟨w.heap.size+1,3,N⟩ k).setCell ⟨w.heap.size+1,4,N⟩ i):=by
 have a:w.heap.size<=w.heap.size+1:=by omega
 have b:w.heap.size<=w.heap.size+1+1:=by omega
 exact(((((((h.setCell (p:=⟨w.heap.size+1+1,0,N⟩) b c).setCell (p:=⟨w.heap.size+1+1,1,N⟩) b l).setCell (p:=⟨w.heap.size+1+1,2,N⟩) b m).setCell (p:=⟨w.heap.size+1,0,N⟩) a d).setCell (p:=⟨w.heap.size+1,1,N⟩) a j).setCell (p:=⟨w.heap.size+1,2,N⟩) a f).setCell (p:=⟨w.heap.size+1,3,N⟩) a k).setCell (p:=⟨w.heap.size+1,4,N⟩) a i
theorem Cv{c}(h:Below w.heap.size w c)b d f e i:Below w.heap.size w (((((c.setCell ⟨w.heap.size+1,0,N⟩ b).setCell ⟨w.heap.size+1,1,N⟩ d).setCell ⟨w.heap.size+1,2,N⟩ f).setCell ⟨w.heap.size+1,3,N⟩ e).setCell ⟨w.heap.size+1,4,N⟩ i):=by
 have a:w.heap.size<=w.heap.size+1:=by omega
 exact((((h.setCell (p:=⟨w.heap.size+1,0,N⟩) a b).setCell (p:=⟨w.heap.size+1,1,N⟩) a d).setCell (p:=⟨w.heap.size+1,2,N⟩) a f).setCell (p:=⟨w.heap.size+1,3,N⟩) a e).setCell (p:=⟨w.heap.size+1,4,N⟩) a i
theorem qx.to{w1}(h:qx w W0)(a:Below W0.heap.size W0 w1):qx w w1:=
 ⟨h.below.t (a.m h.below.size),lL h.lt a.size,ag a h.c0,ag a h.c1,ag a h.c2,ag a h.c3,ag a h.c4,λj=>(a.frozen (p:=⟨w.heap.size+1,j,N⟩) h.lt).t (h.fz j)⟩
theorem qx.put{c}(h:qx w c)b o v(hb:w.heap.size+1<b):qx w (c.setCell ⟨b,o,N⟩ v):=by
 have a:=λj=>cO c ⟨b,o,N⟩ ⟨w.heap.size+1,j,N⟩ v (λe=>by have:=lj Addr.block e;simp only at this;omega)
 exact⟨h.below.setCell (p:=⟨b,o,N⟩) (by simp only;omega) v,by have:=h.lt;simpa[World.setCell]using this,(a 0).t h.c0,(a 1).t h.c1,(a 2).t h.c2,(a 3).t h.c3,(a 4).t h.c4,λj=>fs (h.fz j)⟩
theorem qx.put3(h:qx w W)x y z:qx w (((W.setCell ⟨w.heap.size+1+1,0,N⟩ x).setCell ⟨w.heap.size+1+1,1,N⟩ y).setCell ⟨w.heap.size+1+1,2,N⟩ z):=
 ((h.put _ 0 x (by omega)).put _ 1 y (by omega)).put _ 2 z (by omega)
theorem wN(w:Wj)(x y z:Wx)(T:Ww)(b:H)(a:w.heap.size=b):bB (w.alloc (E #[x,y,z] T)).drew b x y z:=by
 subst a;have h:=iR w x y z T;exact⟨h.c0,h.c1,h.c2,h.fz⟩
theorem Cw(A:H->Prop)k0 st s o w(P:o.key.size<=Rx)(a:aS A w k0 st)(T:Inv st s)(hs:s<2199023255340)(f:o.kind=2):
  Calls Vp 11 #[O (J ⟨k0,0,N⟩),aL o] w (dX A w k0 st (aG ⟨(mJ st o.key).2,(mJ st o.key).1.num,(mJ st o.key).1.body⟩)):=by
 obtain⟨kind,c,i,G,j,n,l⟩:=o;simp only at f P;subst f;have R0:=(Mg w #[I K 2,U c,U i,U G,U j,I K n,I K l]);have HC:Hid (∀W1,Below w.heap.size w W1->Calls Vp 15 #[O (J ⟨k0,0,N⟩),U c] W1 λe w'=>e=Rc (Re #[cM (mJ st c).1,I K (mJ st c).2])/\Below W1.heap.size W1 w'):=λW1 X=>H9 A k0 st s c W1 P (a.on X) T (by omega)
 have HS:=aq a;have k:=aq R0.drew;have d:Hid (qx w (((w.alloc (E #[I K 2,U c,U i,U G,U j,I K n,I K l] 37)).alloc (E #[I K 0,I K 0,U ⟨#[]⟩,M N 0 0,U ⟨#[]⟩] 53)).alloc (E #[I K 0,U ⟨#[]⟩,C Z] 72)).drew/\bB (((w.alloc (E #[I K 2,U c,U i,U G,U j,I K n,I K l] 37)).alloc (E #[I K 0,I K 0,U ⟨#[]⟩,M N 0 0,U ⟨#[]⟩] 53)).alloc (E #[I K 0,U ⟨#[]⟩,C Z] 72)).drew (w.heap.size+1+1) (I K 0) (U ⟨#[]⟩) (C Z)):=⟨(R0.more _).drew,(wN _ _ _ _ _ _ (by simp))⟩;have r:=a.lt;clear R0 a;simp only[aL];generalize mJ st c=pr at *;obtain⟨⟨x,u,mk⟩,h⟩:=pr;simp only[cM]at HC;go_enter (Yq.nq func11),ntmps11;go_wp2_with fail
 go_region_with (first
  |(go_at_call 15;refine(HC.o _ k.o.below).m ?_;rintro e p ⟨rfl,b⟩;have⟨⟨B,L,y,z,F⟩,g0,V,g2,g3,R⟩:=k.o.on r (aQ b (J k0));have HX:Hid (Below w.heap.size w p):=k.o.below.t (b.m k.o.below.size);have q:w.heap.size+1<p.heap.size:=lL k.o.lt b.size;clear b)
  |(go_at_call 15;refine(HC.o _ d.o.1.below).m ?_;rintro e p ⟨rfl,b⟩;have⟨⟨B,L,y,z,F⟩,g0,V,g2,g3,R⟩:=d.o.1.on r (aQ b (J k0));have⟨v0,v1,v2,D⟩:=d.o.2.on b;have f0:=D 0;have f1:=D 1;have f2:=D 2;have HX:Hid (Below w.heap.size w p):=d.o.1.below.t (b.m d.o.1.below.size);have q:w.heap.size+1<p.heap.size:=lL d.o.1.lt b.size;clear b))
 go_wp2;exact Rw (v:=aG ⟨h,x,u⟩) (by simp[results,results11,go_sem,aG,B,L,y,z,F,q]) Q (bN HS.o (Ct HX.o _ _ _ _ _ _));all_goals
  go_wp2;exact Rw (v:=aG ⟨h,x,u⟩) (by simp[results,results11,go_sem,aG,B,L,y,z,F]) Q (bN HS.o (Cu HX.o (I K x) (U u) (C mk) (I K h) (I K x) (U u) (M N 0 0) (U ⟨#[]⟩)))
theorem yY(A:H->Prop)k0 st s o w(G:o.key.size<=Rx)(a:aS A w k0 st)(hI:Inv st s)(hs:s<2199023255340)(d:o.kind=3):
  Calls Vp 11 #[O (J ⟨k0,0,N⟩),aL o] w (dX A w k0 st (aG ⟨(fu st o.key o.n).2,0,(fu st o.key o.n).1.body⟩)):=by
 obtain⟨kind,b,h,F,i,n,q⟩:=o;simp only at d G;subst d;have R0:=(Mg w #[I K 3,U b,U h,U F,U i,I K n,I K q]);have HC:Hid (∀W1,Below w.heap.size w W1->Calls Vp 16 #[O (J ⟨k0,0,N⟩),U b,I K n] W1 λe w'=>e=Rc (Re #[cM (fu st b n).1,I K (fu st b n).2])/\Below W1.heap.size W1 w'):=λW1 hb=>EI A k0 st s b n W1 G (a.on hb) hI (by omega)
 have HS:=aq a;have p:=aq R0.drew;have l:Hid (qx w (((w.alloc (E #[I K 3,U b,U h,U F,U i,I K n,I K q] 37)).alloc (E #[I K 0,I K 0,U ⟨#[]⟩,M N 0 0,U ⟨#[]⟩] 53)).alloc (E #[I K 0,U ⟨#[]⟩,C Z] 72)).drew/\bB (((w.alloc (E #[I K 3,U b,U h,U F,U i,I K n,I K q] 37)).alloc (E #[I K 0,I K 0,U ⟨#[]⟩,M N 0 0,U ⟨#[]⟩] 53)).alloc (E #[I K 0,U ⟨#[]⟩,C Z] 72)).drew (w.heap.size+1+1) (I K 0) (U ⟨#[]⟩) (C Z)):=⟨(R0.more _).drew,(wN _ _ _ _ _ _ (by simp))⟩;have hk0:=a.lt;clear R0 a;simp only[aL];generalize fu st b n=pr at *;obtain⟨⟨z,t,D⟩,f⟩:=pr;simp only[cM]at HC;go_enter (Yq.nq func11),ntmps11
 go_upto_region 9 with fail
 go_cut [9,10] (λs9 s10 P=>s10=I K f/\∃y,s9=O (J ⟨y,0,N⟩)/\bB P y (I K z) (U t) (C D)/\w.heap.size+1<y/\qx w P)
 case first=>
  go_region_with (first
   |(go_at_call 16;refine(HC.o _ p.o.below).m ?_;rintro e k ⟨rfl,c⟩;have HX:Hid (qx w k):=p.o.to c;have u:w.heap.size+1<k.heap.size:=lL p.o.lt c.size;clear c)
   |(go_at_call 16;refine(HC.o _ l.o.1.below).m ?_;rintro e k ⟨rfl,c⟩;have⟨T,L,R,B⟩:=l.o.2.on c;have f0:=B 0;have f1:=B 1;have f2:=B 2;have HV:Hid (bB k (w.heap.size+1+1) (I K 0) (U ⟨#[]⟩) (C Z)/\qx w k):=⟨⟨T,L,R,B⟩,l.o.1.to c⟩;clear c))
  all_goals
   go_wp2_with fail
   go_meet
   case rel=>
    first
     |exact⟨Q,w.heap.size+1+1,Q,((HV.o.1.OS (I K z)).OW (U t)).OL (C D),by omega,HV.o.2.put3 (I K z) (U t) (C D)⟩
     |exact⟨Q,k.heap.size,Q,iR k (I K z) (U t) (C D) 72,u,HX.o.more _⟩
 case rest=>
 obtain⟨rfl,y,rfl,⟨T,L,R,-⟩,hbv,j⟩:=hcut;have hne:¬y=w.heap.size+1:=by omega
 have u:=j.lt;obtain⟨x,-,d0,d1,V,X,d4,r⟩:=j;have g0:=r 0;have g1:=r 1;have g2:=r 2;have g3:=r 3;have g4:=r 4;have HX:=aq x;clear x r;go_wp2;exact Rw (v:=aG ⟨f,0,t⟩) (by simp[results,results11,go_sem,aG,d0,d1,V,X,d4]) Q (bN HS.o (Cv HX.o (I K f) (I K 0) (U t) (M N 0 0) (U ⟨#[]⟩)))
theorem kF st o(h:o.kind=1):aE st o=((lh st o.key o.body).1,⟨(lh st o.key o.body).2.2,(lh st o.key o.body).2.1,⟨#[]⟩⟩):=by
 unfold aE lh kZ
 grind
theorem ss st o(h:o.kind=2):aE st o=(st,⟨(mJ st o.key).2,(mJ st o.key).1.num,(mJ st o.key).1.body⟩):=by
 unfold aE mJ;rw[gI (by omega),gL h];by_cases a:aV o.key=Z
 simp[a,eO];cases h2:(st.f o.key.data.toList).getLast? with
 |none=>simp[a,eO]
 |some v=>cases b:v.mark<;>simp[a,b,eO]
theorem qz st o(h:o.kind=3):aE st o=(st,⟨(fu st o.key o.n).2,0,(fu st o.key o.n).1.body⟩):=by
 unfold aE fu;rw[gI (by omega),gI (by omega),gL h];by_cases a:aV o.key=Z
 simp[a,eO];cases h2:dk (st.f o.key.data.toList) o.n with
 |none=>simp[a,eO]
 |some r=>
  cases b:(st.f o.key.data.toList)[r]? with
  |none=>simp[a,b,eO]
  |some v=>cases c:v.mark<;>simp[a,c,b,eO]
theorem jq st o(h:o.kind=4):aE st o=((NJ st o.key).1,⟨(NJ st o.key).2.2,(NJ st o.key).2.1,⟨#[]⟩⟩):=by
 unfold aE NJ kZ
 grind
theorem ou st o(h:o.kind=5):aE st o=((fm st o.key o.n).1,⟨(fm st o.key o.n).2,0,⟨#[]⟩⟩):=by
 unfold aE fm
 grind
theorem Cx(A:H->Prop)k0 st s o w(b:o.key.size<=Rx)(l:o.body.size<=Rx)(a:aS A w k0 st)(c:Inv st s)(d:s<2199023255340)(h6:o.kind<6\/12<o.kind):
  Calls Vp 11 #[O (J ⟨k0,0,N⟩),aL o] w (dX A w k0 (aE st o).1 (aG (aE st o).2)):=by
 by_cases i:o.kind=1
 rw[kF st o i];exact Cs A k0 st s o w b l a c d i;by_cases f:o.kind=2
 rw[ss st o f];exact Cw A k0 st s o w b a c d f;by_cases k:o.kind=3
 rw[qz st o k];exact yY A k0 st s o w b a c d k;by_cases h:o.kind=4
 rw[jq st o h];exact yX A k0 st s o w b a c d h;by_cases j:o.kind=5
 rw[ou st o j];exact wL A k0 st s o w b a c d j;have e:aE st o=(st,⟨1,0,⟨#[]⟩⟩):=by unfold aE;simp[i,f,k,h,j]
 rw[e];exact wM A k0 st o w a (by omega)
theorem Inv.step{st}{s}(h:Inv st s)o:Inv (aE st o).1 (s+1):=by
 by_cases a:o.kind=1
 rw[kF st o a];unfold lh
 (repeat' split)<;>first|exact h.m (by omega)|exact h.add _ _ _ (λe=>by simp_all[kZ])
 by_cases d:o.kind=2
 rw[ss st o d];exact h.m (by omega);by_cases c:o.kind=3
 rw[qz st o c];exact h.m (by omega);by_cases f:o.kind=4
 rw[jq st o f];unfold NJ
 (repeat' split)<;>first|exact h.m (by omega)|exact h.add _ _ _ (λe=>by simp_all[kZ])
 by_cases b:o.kind=5
 rw[ou st o b];unfold fm;split
 exact h.m (by omega);split
 exact h.m (by omega);rename_i r i;exact h.drop _ _ (vx.1 i).1;have e:aE st o=(st,⟨1,0,⟨#[]⟩⟩):=by unfold aE;simp[a,d,c,f,b]
 rw[e];exact h.m (by omega)
def st0:St:=⟨λ_=>[],0,0⟩
def EJ(st:St):S OpD->S Do
 | []=>[]
 |o::r=>(aE st o).2::EJ (aE st o).1 r
def Np(ops:S OpD):S Do:=EJ st0 ops
theorem inv0:Inv st0 0:=by
 refine⟨by simp[st0],by simp[st0],by simp[st0],by simp[st0],λk=>by simp[st0],?_,?_⟩;intro k i j _ a;simp[st0]at a;intro k i b;simp[st0]at b
def aK(o:OpD):S Wx:=[I K o.kind,U o.key,U o.body,U o.fe,U o.past,I K o.n,I K o.src]
def Io(l:S Do):S Wx:=l.flatMap λa=>[I K a.code,I K a.NP,U a.body,M N 0 0,U ⟨#[]⟩]
def mP(w:Wj)(b off:H)(ops:S OpD):Prop:=
 ∀i (h:i<ops.length),w.cell? ⟨b,off+i*7,N⟩=J (I K ops[i].kind)/\w.cell? ⟨b,off+i*7+1,N⟩=J (U ops[i].key)/\w.cell? ⟨b,off+i*7+2,N⟩=J (U ops[i].body) /\
  w.cell? ⟨b,off+i*7+3,N⟩=J (U ops[i].fe)/\w.cell? ⟨b,off+i*7+4,N⟩=J (U ops[i].past)/\w.cell? ⟨b,off+i*7+5,N⟩=J (I K ops[i].n)/\w.cell? ⟨b,off+i*7+6,N⟩=J (I K ops[i].src)
def Sized(ops:S OpD):Prop:=∀o∈ops,o.key.size<=Rx/\o.body.size<=Rx
theorem Yq.On:(Yq.prog.info? 53).map (λi=>(i.zero,i.size,i.bytes))=J (J (Rd #[I K 0,I K 0,U ⟨#[]⟩,M N 0 0,U ⟨#[]⟩]),5,72):=by kernel_rfl
theorem oP{a:Act}{d:Prop}
  (R:o.guard=N) (s x:Operand) (t:Ww) (A:o.op=Op.call {callee:=Callee.builtin R7,args:=#[s,x],argTypes:=#[t,t]})
  (p:H) (e:Ww) (i:RU) (l:H) (h1:P.underlying t=J (.slice e)) (F:P.info? e=J i) (h4:i.size=l)
  (g k n:H) (z:S Wx) (L:a.eval s=.slice (J ⟨g,0,N⟩) k n) (q:w.ownsRow p e l (.slice (J ⟨g,0,N⟩) k n) k z) (B:Wu) (m c:H) (h:S Wx) (T:a.eval x=.slice (J B) m c) (V:h.length=m*l)
  (hc:∀j u,h[j]?=J u->w.cell? (B.add j)=J u) (v:∀u∈h,u.oneCell'=Y) (D:k+m<=n)
  (hK:∀w',w'.ownsRow p e l (.slice (J ⟨g,0,N⟩) (k+m) n) (k+m) (z++h)->w.grownBy w' (J g)->b (a.put o.dst (.slice (J ⟨g,0,N⟩) (k+m) n)) w'):
  if R9 o (yielded y a.tmps)=Y then Sz P o a w b f else d:=by
 rw[gL (by simp[R9,R])];have⟨w',r,G,X⟩:=RF (P:=P) w p t o.type e i l h1 F h4 g k n z q B m c h V hc v D;unfold Sz;simp[RG,A,resolve,invoke,builtin,L,T,r,Result.andThen];exact hK w' G X
theorem su(w:Wj)(a b d c e:Wx)(T:Ww):∀j u,[a,b,d,c,e][j]?=J u->(w.alloc (E #[a,b,d,c,e] T)).cell? ((⟨w.heap.size,0,N⟩:Wu).add j)=J u:=by
 intro j u hj;rw[SB,cA (w:=w) _ _ w.heap.size _ Q]
 grind
theorem kG(w:Wj)(a:eW Wx)(T:Ww)(j:H):(w.alloc (E a T)).cell? ⟨w.heap.size,j,N⟩=a[j]?:=by simp_all
theorem K6(a:dT Wu)h w:
  Calls Vp 6 #[M a 0 h] w λe w'=>∃g,e=Rc (M (J ⟨g,0,N⟩) 0 0) /\
   w'.ownsRow w.heap.size 53 5 (M (J ⟨g,0,N⟩) 0 0) 0 (Io (Np []))/\Below w.heap.size w w':=by
 have⟨p,m,f,i,hz2⟩:=RJ Yq.On;go_enter (Yq.nq func6),ntmps6;go_wp2_with (at_make;refine wpList_make_own _ Q _ _ 30 Q w.heap.size 53 p _ 5 (Yq.u underlying30) m f i _ _ _ 0 Q Q (by simp) ?qb1 ?qb2 ?qb3 ?_)
 omega;omega;case qb3=>simp
 intro d c b;have n:Below w.heap.size w d:=⟨b.os,b.tape,b.output,b.size,λk q=>b.block k q (by simp)⟩;have j:Hid (∀o,Below w.heap.size w (d.alloc o)):=λo=>n.alloc n.size _
 have l:Hid (∀o,(d.alloc o).ownsRow w.heap.size 53 5 (M (J ⟨w.heap.size,0,N⟩) 0 0) 0 []):=λo=>World.ownsRow.alloc (show d.ownsRow w.heap.size 53 5 (M (J ⟨w.heap.size,0,N⟩) 0 0) 0 []by simpa using c) o
 go_wp2_with fail
 refine wp_loop_rounds 1 ?_;rw[rounds_succ];go_wp2;go_ret;exact⟨w.heap.size,Q,l.o _,j.o _⟩
structure jD (w:Wj)(v:Wx)(ops:S OpD):Prop where
 form:∃a cap,v=M a ops.length cap/\(ops≠[]->∃b off,a=J ⟨b,off,N⟩/\mP w b off ops)
 sized:Sized ops
 len:ops.length<=2199023255552
end
section
open Go.ChangeShapes Go.WideShapes Go.ChangeAt Go.RowKit
theorem Nq:ownKnob Tryz.prog.godebug=none:=by kernel_rfl
theorem AG:laidOutB Sh=true:=by kernel_rfl
theorem un:Tryz.prog.cellsOf 37=7:=by kernel_rfl
theorem qA:Tryz.prog.cellsOf 3=1:=by kernel_rfl
theorem iu:Tryz.prog.cellsOf 9=1:=by kernel_rfl
theorem AH:Tryz.prog.bytesOf 37=88:=by kernel_rfl
theorem seven{n:Type}(l:S n)(h:l.length=7):∃p q i j o m k,l=[p,q,i,j,o,m,k]:=by
 match l,h with
 | [a,b,c,d,e,f,g],_=>exact⟨a,b,c,d,e,f,g,Q⟩
theorem K7{a:Type}{l:Ww×Wx->a}{e}{b:H->nF}{f:nF}{cs}{x:DataW a×S RE}(h:Sl l Sh W e b f j 37 cs=J x):
  ∃o:OpD,cs=aK o/\o.key.size<=Rx/\o.body.size<=Rx:=by
 obtain⟨F,n,rfl,_,B,k,c⟩:=DataW.trod_struct underlying37 h;rw[un]at B;have d:∀i,i<7->∃y,F[i]?=J y:=λi hi=>⟨F[i]'(by rw[k];exact hi),eL _⟩
 obtain⟨c0,c1,c2,c3,c4,c5,c6,rfl⟩:=seven cs B;have⟨y0,T⟩:=d 0 (by omega);have⟨y1,e1⟩:=d 1 (by omega);have⟨y2,e2⟩:=d 2 (by omega);have⟨y3,e3⟩:=d 3 (by omega);have⟨y4,e4⟩:=d 4 (by omega);have⟨y5,V⟩:=d 5 (by omega);have⟨y6,e6⟩:=d 6 (by omega);have z:=c 0 _ Q;have A:=c 1 _ Q;have m:=c 2 _ Q;have p:=c 3 _ Q;have r:=c 4 _ Q;have L:=c 5 _ Q;have s:=c 6 _ Q;rw[T]at z;rw[e1]at A;rw[e2]at m;rw[e3]at p;rw[e4]at r;rw[V]at L;rw[e6]at s;have⟨P,h0,_,_⟩:=Sk underlying3 z;have⟨v,h1,_,s1⟩:=Sj underlying9 A;have⟨t,X,_,s2⟩:=Sj underlying9 m;have⟨G,h3,_,s3⟩:=Sj underlying9 p;have⟨u,h4,_,s4⟩:=Sj underlying9 r;have⟨q,h5,_,_⟩:=Sk underlying3 L;have⟨D,h6,_,_⟩:=Sk underlying3 s;have k0:c0=I K P:=by simpa[qA]using h0
 have R:c1=U v:=by simpa[iu]using h1
 have k2:c2=U t:=by simpa[iu]using X
 have k3:c3=U G:=by simpa[iu]using h3
 have k4:c4=U u:=by simpa[iu]using h4
 have k5:c5=I K q:=by simpa[qA]using h5
 have k6:c6=I K D:=by simpa[qA]using h6
 subst k0 R k2 k3 k4 k5 k6;exact⟨⟨P,v,t,G,u,q,D⟩,Q,s1,s2⟩
theorem yZ{c:Type}{P:Ww×Wx->c}{u:H}{d l:H}{x:DataW c×S RE}(h:Sl P Sh W 0 (λ_=>Y) Y u 22 [.slice X d l]=J x)
  (hz:∀e p,x.1=.slice e p->(e.length+p.length)*88<=140737488355328):
  (∃A,jD W (.slice X d l) A)/\d<=l/\l<=Rx/\l*88<=140737488355328:=by
 rcases Go.Deep.open_slice underlying22 h with⟨k,_⟩|⟨a,len',cap',m,n,D,Pl,k,_,G,B,V,hx,v⟩;simp at k;obtain⟨rfl,rfl,rfl⟩:=k;exact⟨⟨[],⟨N,0,rfl,λh=>kr rfl h⟩,λo T=>kr T List.not_mem_nil,by simp⟩,Q0,by simp[Rx],by omega⟩;simp at k;obtain⟨rfl,rfl,rfl⟩:=k;simp at V;subst V;have hb:=hz _ _ (by rw[hx]);simp at hb;rw[un]at v;have F:∀i,i<d->∃o:OpD,(∀j,j<7->W.cell? (a.add (i*7+j))=(aK o)[j]?)/\o.key.size<=Rx/\o.body.size<=Rx:=λi z=>by
  have⟨cs',h1,h2⟩:=v i (by omega);obtain⟨o,rfl,s1,s2⟩:=K7 h2;have⟨_,_,h3⟩:=World.cells?_some h1;refine⟨o,λj L=>?_,s1,s2⟩;rw[<-Go.Deep.add_add];exact h3 j L
 have hin:Inhabited OpD:=⟨⟨0,⟨#[]⟩,⟨#[]⟩,⟨#[]⟩,⟨#[]⟩,0,0⟩⟩;have⟨f,R⟩:=Go.Deep.choose_lt (α:=OpD) F;refine⟨⟨(Ru d).map f,⟨J a,m,by simp,λhne=>?_⟩,?_,?_⟩,G,B,by omega⟩;have y:0<d:=by
  grind
 obtain⟨b,s,q⟩:=a;have r:q=none:=by
  have:W.cell? ((⟨b,s,q⟩:Wu).add 0)=J (.int .i64 (f 0).kind):=by simpa[aK]using((R 0 y).1 0 (by omega))
  simpa[Addr.add]using World.cell?_spot this
 subst r;refine⟨b,s,rfl,λi z=>?_⟩;simp at z;have t:∀j,j<7->W.cell? ⟨b,s+i*7+j,N⟩=(aK (f i))[j]?:=λj L=>by
  rw[<-(R i z).1 j L,SB];congr 2;omega
 have hg:((Ru d).map f)[i]'(by simpa using z)=f i:=by simp
 rw[hg];exact⟨t 0 (by omega),t 1 (by omega),t 2 (by omega),t 3 (by omega),t 4 (by omega),t 5 (by omega),t 6 (by omega)⟩;intro o T
 grind
 simp;omega
theorem AI{b:Type}{k:Ww×Wx->b}{e:H}{f i:H}{x:DataW b×S RE}(h:Sl k Sh W 0 (λ_=>Y) Y e 22 [.slice l f i]=J x)
  (hz:∀c d,x.1=.slice c d->(c.length+d.length)*88<=B):f*88<=B:=by
 rcases Go.Deep.open_slice underlying22 h with⟨j,_⟩|⟨a,len',cap',m,n,D,Pl,j,_,hlc,hcm,hm,hx,hel⟩
 grind
 grind
end
section
open Go.ChangeShapes Go.WideShapes Go.ChangeAt Go.RowKit
open Go.Conc Go.ConcX Go.ConcX.Gen
def slB(a:dT Wu)(b:H):Prop:=∃x,a=J x/\x.block=b
theorem Ip(h:laidMetH Sh YthnlbojplkflaaaGreatDoor.Rows.freshRow.laid w):um w:=by
 have a:=ot (ot h);have e:(YthnlbojplkflaaaGreatDoor.Rows.laid_internal_strconv_uint64pow10:DataW Unit)=Lib.tabData .u64 Lib.pow10Tab:=by kernel_rfl
 rw[e]at a;exact Lib.tabIs_of_head (P:=Sh) (g:=1) (t:=243) (e:=41) (n:=20) (by kernel_rfl) (by kernel_rfl) (by kernel_rfl) (by kernel_rfl) (by kernel_rfl) (by kernel_rfl) a
theorem wO{f:Type}{r:Ww×Wx->f}{q:H}{d:DataW f}{p:S RE}(s:R3 Sh W .any q 22 v)(h:DataW.Trod r Sh W 0 (λ_=>Y) Y 22 v d p)(t:∀i j,d=.slice i j->(i.length+j.length)*88<=140737488351232):
  ∃a k l m,v=.slice a k l/\jD W (.slice a k l) m/\(∀b,slB a b->∃c e z,W.heap[b]?=J (.cells c e z))/\k*88<=140737488351232:=by
 obtain⟨a,k,l,rfl⟩:=okWide_slice underlying22 s;obtain⟨n,u⟩:=h;have o:Sl r Sh W 0 (λ_=>Y) Y n 22 [.slice a k l]=J (d,p):=by simpa[RZ]using u
 obtain⟨⟨m,A⟩,-,-,-⟩:=yZ o (λi j y=>by have:=t i j y;omega);refine⟨a,k,l,m,rfl,A,?_,AI o t⟩;rintro b ⟨x,rfl,rfl⟩;unfold R3 at s;obtain⟨-,-,-,-,row,cells,B,-⟩:=s;unfold World.shape? at B
 grind
theorem Iq{Post Post':Wx->Wj->Prop}{d:eW Goroutine}{c:dT (H×H)}{t}(h:Fin P Post d W c t)(e:∀v w',Post v w'->Post' v w'):Fin P Post' d W c t:=by
 obtain⟨a,b,o,w',k,f,l,i,j⟩:=h;exact⟨a,b,o,w',k,f,l,i,j.mono λv h=>e v w' h⟩
end
section
open Go.Conc Go.ConcX Go.ConcX.Gen Go.RowKit Go.MapKept
abbrev Told:=S (eV×ey×ey)
def plV(x:ey×ey):Wx:=Rd #[I K x.1,I K x.2]
def ez(k:eV):Told->dT (ey×ey)
 | []=>N
 |(k',x)::r=>if k=k' then J x else ez k r
def ml(k:eV)(x:ey×ey):Told->Told
 | []=>[(k,x)]
 |(k',x')::r=>if k=k' then(k,x)::r else(k',x')::ml k x r
def GB:S Rz->Told->Prop
 | [],[]=>True
 |e::es,(k,x)::r=>e.key=U k/\e.val=plV x/\GB es r
 |_,_=>False
theorem AJ(k:eV):∀ (b:S Rz)(t:Told)(i:H),GB b t ->
  (∃x j,ez k t=J x/\j<b.length/\Sa .string (.string k) b i=J (J (i+j,plV x))/\((b[j]?).map (·.key))=J (.string k)/\∀ (c:ey×ey) (d:S Rz),d=b.modify j (λe=>{e with key:=.string k,val:=plV c})->GB d (ml k c t)) \/
  (ez k t=N/\Sa .string (.string k) b i=J N/\∀ (c:ey×ey) (n:H),GB (b++[⟨.string k,plV c,n⟩]) (ml k c t)):=by
 intro b;induction b with
 |nil=>
  intro t i h;cases t with
  |nil=>exact .inr ⟨rfl,rfl,λc n=>⟨rfl,rfl,trivial⟩⟩
  |cons a r=>exact h.elim
 |cons e b ih=>
  intro t i h;cases t with
  |nil=>exact h.elim
  |cons a r=>
   obtain⟨m,x⟩:=a;obtain⟨l,o,s⟩:=h;by_cases f:k=m
   subst f
   left
   refine⟨x,0,by simp[ez],by simp,?_,by simp[l],λc d p=>?_⟩;simp[Sa,Sg,l,o,(bytes_beq k k).2 rfl];subst p;simp[ml,GB,s];have B:Sa .string (.string k) (e::b) i=Sa .string (.string k) b (i+1):=by
    have A:(k==m)=false:=by
     cases h:k==m with
     |true=>exact kr ((bytes_beq k m).1 h) f
     |false=>rfl
    simp[Sa,Sg,l,A]
   rcases ih r (i+1) s with⟨y,j,q,u,v,z,D⟩|⟨q,u,v⟩
   left
   refine⟨y,j+1,by simp[ez,f,q],by simp;omega,?_,by simpa using z,λc d p=>?_⟩
   grind
   subst p;simp[ml,f];exact⟨l,o,D c _ rfl⟩
   right
   refine⟨by simp[ez,f,q],by rw[B,u],λc n=>?_⟩;simp[ml,f];exact⟨l,o,v c n⟩
def EK(w:Wj)(c:Wx)(t:Told)(A:H->Prop)(B:H):Prop:=
 (c=.map N/\t=[])\/∃m b a,c=.map (J m)/\w.heap[m]?=J (.map b a)/\GB b.toList t/\¬A m/\B<=m
theorem jZ(b:nF)(k:eV)w:(Sf b 10000 9 (U k)).run Vp w=.ok () w:=by
 rw[Sf];simp[go_sem]
theorem uo{m}{s}(h:w.heap[m]?=J s)(a:s.isCells=Z):Sem.run Vp (getObj m) w=.ok s w:=by
 cases s with
 |cells c e z=>cases a
 |_=>simp[getObj,Sem.run,h]
theorem EL{m}{s a}(h:w.heap[m]?=J s)(b:s.isCells=Z):Sem.run Vp (setObj m a) w=.ok () (w.putObj m a):=by
 cases s with
 |cells c e z=>cases b
 |_=>simp[setObj,Sem.run,h,vf]
theorem nI{t:Told}(h:EK w v t A B)(k:eV):
  (Se 45 v (U k) Y).run Vp w=.ok (Re #[plV ((ez k t).getD (0,0)),C (ez k t).isSome]) w:=by
 rcases h with⟨rfl,rfl⟩|⟨m,e,clock,rfl,b,i,-,-⟩;simp[Se,go_sem,jZ,Sb,Sa,ez,plV];rcases AJ k e.toList t 0 i with⟨x,j,a,d,f,-⟩|⟨a,d,-⟩;simp[Se,go_sem,jZ,Sb,uo b Q,a,f];simp[Se,go_sem,jZ,Sb,uo b Q,a,d,plV]
theorem sw{m}{t:Told}(f:w.heap[m]?=J (.map c a))(n:GB c.toList t)(k:eV)(x:ey×ey):
  ∃d b,(Sc 45 (.map (J m)) (U k) (plV x)).run Vp w=.ok () (w.putObj m (.map d b))/\GB d.toList (ml k x t):=by
 rcases AJ k c.toList t 0 n with⟨y,j,o,l,i,a4,p⟩|⟨o,l,i⟩;refine⟨c.modify j λe=>{e with key:=U k,val:=plV x},a,?_,p x _ (by simp)⟩;have h:(c[j]?).map (·.key)=J (U k):=by grind
 simp[Sc,go_sem,jZ,Sb,uo f Q,EL f Q,i,h,Instr.keyThatStays,Instr.sameBits,vf,(bytes_beq k k).2 Q];refine⟨c.push ⟨U k,plV x,a⟩,a+1,?_,by simpa using i x a⟩;simp[Sc,go_sem,jZ,Sb,uo f Q,EL f Q,l,vf]
end
section
open Go.Conc Go.ConcX Go.ConcX.Gen Go.RowKit
structure LsA where
 num:ey
 f:S lk->S Ver
 q:Qy
 size:ey
 left:ey
def LsA.N2(x:LsA)(r:dT Wu):Lst:=⟨x.num,r,x.q.vs,x.q.p,x.q.d,x.q.af,x.size,x.left⟩
structure Lg where
 opened:S LsA
 begun:ey
 told:Told
 tm:ey
def cy(zs:S (LsA×dT Wu)):S Wx:=zs.flatMap λz=>(aT (z.1.N2 z.2)).toList
theorem nJ a:(cy a).length=a.length*8:=cF 8 _ (λ_=>Q) a
theorem zd a(z:LsA×dT Wu):cy (a++[z])=cy a++(aT (z.1.N2 z.2)).toList:=by simp[cy]
def AK(A:H->Prop)(B:H)(w:Wj)(v:Wx)(xs:S LsA):Prop:=
 ∃a:S (LsA×dT Wu),xs=a.map (·.1)/\w.ownsRow B 116 8 v a.length (cy a)/\(∀g,v.ownBlock=J g->¬A g)/\∀z∈a,au A 41 w z.2 z.1.f
structure eP (A:H->Prop)(B:H)(w:Wj)(k0:H)(L:Lg):Prop where
 opened:∃v,w.cell? ⟨k0,4,N⟩=J v/\AK A B w v L.opened
 begun:w.cell? ⟨k0,5,N⟩=J (I K L.begun)
 told:∃mv,w.cell? ⟨k0,6,N⟩=J mv/\EK w mv L.told A B
 frozen:∀j,w.frozen? ⟨k0,j,N⟩=Z
 ND:¬A k0
 low:k0<B
 Of:∀b,A b->b<w.heap.size
structure bf (A:H->Prop)(B k0:H)(w w':Wj):Prop where
 os:w'.os=w.os
 size:w.heap.size<=w'.heap.size
 low:∀b,b<B->b<w.heap.size->b≠k0->w'.heap[b]?=w.heap[b]?
 tree:∀b,A b->b<w.heap.size->w'.heap[b]?=w.heap[b]?
 cells:∀j,j<4\/6<j->w'.cell? ⟨k0,j,N⟩=w.cell? ⟨k0,j,N⟩
 fz:∀j,w'.frozen? ⟨k0,j,N⟩=w.frozen? ⟨k0,j,N⟩
section
variable {A:Nat->Prop} {B k0:Nat} {w w' w'':Wj} {L:Lg}
theorem bf.refl:bf A B k0 w w:=⟨Q,Q0,λ_ _ _ _=>Q,λ_ _ _=>Q,λ_ _=>Q,λ_=>Q⟩
theorem bf.t(h:bf A B k0 w w')(k:bf A B k0 w' w''):bf A B k0 w w'':=
 ⟨k.os.t h.os,lT h.size k.size,λb a c e=>(k.low b a (lL c h.size) e).t (h.low b a c e),λb a c=>(k.tree b a (lL c h.size)).t (h.tree b a c),λj d=>(k.cells j d).t (h.cells j d),λj=>(k.fz j).t (h.fz j)⟩
theorem eP.lt(h:eP A B w k0 L):k0<w.heap.size:=bC w _ h.begun
theorem bf.left(d:k0<w.heap.size)(h:ax w w'):bf A B k0 w w':=
 ⟨h.os,h.size,λb _ c _=>h.block b c,λb _ c=>h.block b c,λj _=>cB (a:=⟨k0,j,N⟩) (h.block k0 d),λj=>fB (a:=⟨k0,j,N⟩) (h.block k0 d)⟩
theorem ax.refl:ax w w:=⟨Q,Q0,λ_ _=>Q⟩
theorem ax.t(h:ax w w')(k:ax w' w''):ax w w'':=⟨k.os.t h.os,lT h.size k.size,λb a=>(k.block b (lL a h.size)).t (h.block b a)⟩
theorem ax.below(h:Below w.heap.size w w'):ax w w':=⟨h.os,h.size,h.block⟩
theorem ax.alloc(h:ax w w')o:ax w (w'.alloc o):=⟨h.os,by have:=h.size;simp;omega,λb a=>(Rb (lL a h.size)).t (h.block b a)⟩
theorem ax.drew(h:ax w w'):ax w w'.drew:=⟨h.os,h.size,h.block⟩
theorem ax.cell(h:ax w w'){b j}{v}(c:w.cell? ⟨b,j,N⟩=J v):w'.cell? ⟨b,j,N⟩=J v:=
 (cB (a:=⟨b,j,N⟩) (h.block b (bC w _ c))).t c
theorem ax.set(h:ax w w'){b}(hb:w.heap.size<=b)j v:ax w (w'.setCell ⟨b,j,N⟩ v):=
 ⟨h.os,by have:=h.size;simp;omega,λk a=>(Ra (by show k≠b;omega)).t (h.block k a)⟩
theorem EK.left{t:Told}(h:EK w v t A B)(i:ax w w'):EK w' v t A B:=by
 rcases h with h|⟨m,e,a,d,c,f⟩;exact Rf h;exact Rg ⟨m,e,a,d,(i.block m (eS c).1).t c,f⟩
theorem AK.left{xs}(h:AK A B w v xs)(c:ax w w'):AK A B w' v xs:=by
 obtain⟨i,f,d,k,e⟩:=h;exact⟨i,f,bO d λg _ l=>c.block g l,k,λz m=>au.Nx (λb j a=>⟨j,c.block b a⟩) 41 _ _ (e z m)⟩
theorem eP.left(h:eP A B w k0 L)(c:ax w w'):eP A B w' k0 L:=by
 have⟨v,l,i⟩:=h.opened;have⟨e,f,d⟩:=h.told;exact⟨⟨v,c.cell l,i.left c⟩,c.cell h.begun,⟨e,c.cell f,d.left c⟩,λj=>(fB (a:=⟨k0,j,N⟩) (c.block k0 h.lt)).t (h.frozen j),h.ND,h.low,λb k=>lL (h.Of b k) c.size⟩
theorem Ot{m}{h es':eW Rz}{d clock'}(_hm:w.heap[m]?=J (.map h d))(k:¬A m)(hB:B<=m)(hk:k0<B):bf A B k0 w (w.putObj m (.map es' clock')):=by
 have c:∀b,b≠m->(w.putObj m (.map es' clock')).heap[b]?=w.heap[b]?:=λb i=>pO i
 exact⟨Q,by simp,λb f l _=>c b (by omega),λb f l=>c b (λe=>k (e▸f)),λj _=>cB (a:=⟨k0,j,N⟩) (c k0 (by omega)),λj=>fB (a:=⟨k0,j,N⟩) (c k0 (by omega))⟩
theorem eP.Ot(h:eP A B w k0 L){m}{q es':eW Rz}{f clock'}(R:w.cell? ⟨k0,6,N⟩=J (.map (J m)))(y:w.heap[m]?=J (.map q f))(o:¬A m)(T:B<=m){t:Told}(D:GB es'.toList t):eP A B (w.putObj m (.map es' clock')) k0 {L with told:=t}:=by
 have c:∀b,b≠m->(w.putObj m (.map es' clock')).heap[b]?=w.heap[b]?:=λb i=>pO i
 have hk:=h.low;have d:=λj=>cB (a:=⟨k0,j,N⟩) (c k0 (by omega))
 have⟨v,V,s,P,n,u,G⟩:=h.opened;refine⟨⟨v,(d 4).t V,s,P,⟨n.1,?_⟩,u,λz X=>au.Nx (λb i hlt=>⟨i,c b (λe=>o (e▸i))⟩) 41 _ _ (G z X)⟩,(d 5).t h.begun,⟨_,(d 6).t R,Rg ⟨m,es',clock',Q,World.putObj_heap_same (eS y).1,D,o,T⟩⟩,λj=>(fB (a:=⟨k0,j,N⟩) (c k0 (by omega))).t (h.frozen j),h.ND,h.low,λb i=>by simpa using h.Of b i⟩;rcases n.2 with h5|⟨g,l,k,F,x,p,r⟩
 grind
 refine Rg ⟨g,l,k,F,x,(c g λe=>?_).t p,r⟩
 grind
end
def ma(k0:H)(w:Wj)(b:H):Prop:=∃v,w.cell? ⟨k0,4,N⟩=J v/\v.ownBlock=J b
structure FrC (k0:H)(w w':Wj):Prop where
 size:w.heap.size<=w'.heap.size
 Nx:∀b,dA w b->b≠k0->¬ma k0 w b->w'.heap[b]?=w.heap[b]?
 own:∀b,ma k0 w' b->ma k0 w b\/w.heap.size<=b
section
variable {k0:Nat} {w w' w'':Wj}
theorem dA.same{b}(h:dA w b)(e:w'.heap[b]?=w.heap[b]?):dA w' b:=by
 obtain⟨o,a,c⟩:=h;exact⟨o,e.t a,c⟩
theorem FrC.refl:FrC k0 w w:=⟨Q0,λ_ _ _ _=>Q,λ_ h=>Rf h⟩
theorem FrC.t(h:FrC k0 w w')(k:FrC k0 w' w''):FrC k0 w w'':=by
 refine⟨lT h.size k.size,λb d f c=>?_,λb c=>?_⟩;have e:=h.Nx b d f c;refine(k.Nx b (d.same e) f λa=>?_).t e;rcases h.own b a with i|i;exact c i;have:=d.lt;omega;rcases k.own b c with a|a;exact h.own b a;exact Rg (lT h.size a)
theorem FrC.O7(d:w.heap.size<=w'.heap.size)(f:w'.cell? ⟨k0,4,N⟩=w.cell? ⟨k0,4,N⟩)(h:∀b,dA w b->b≠k0->¬ma k0 w b->w'.heap[b]?=w.heap[b]?):FrC k0 w w':=
 ⟨d,h,λb c=>Rf (by obtain⟨v,a,e⟩:=c;exact⟨v,f.s.t a,e⟩)⟩
theorem FrC.left(c:k0<w.heap.size)(h:ax w w'):FrC k0 w w':=FrC.O7 h.size (cB (a:=⟨k0,4,N⟩) (h.block k0 c)) λb d _ _=>h.block b d.lt
theorem FrC.set j v(a:j≠4):FrC k0 w (w.setCell ⟨k0,j,N⟩ v):=
 FrC.O7 (by simp) (cO _ _ _ _ (bI a)) λb _ c _=>Ra c
theorem FrC.open(d:ma k0 w g)(c:g≠k0):FrC k0 w (w.setCell ⟨g,j,N⟩ v):=
 FrC.O7 (by simp) (cB (a:=⟨k0,4,N⟩) (Ra (λe=>c e.s))) λb _ _ h=>Ra (λe=>h (by rw[show b=g from e];exact d))
theorem FrC.fresh{m}(h:FrC k0 W w)(hr:W.heap.size<=m)(k:m≠k0):FrC k0 W (w.setCell ⟨m,j,N⟩ v):=by
 refine⟨by have:=h.size;simpa using this,λb f c d=>(Ra (show b≠m by have:=f.lt;omega)).t (h.Nx b f c d),λb d=>(h.own b ?_)⟩;obtain⟨x,i,l⟩:=d;exact⟨x,(cB (a:=⟨k0,4,N⟩) (Ra (λe=>k e.s))).s.t i,l⟩
theorem FrC.Qa(h:eN k0 w w')(f:w'.cell? ⟨k0,4,N⟩=w.cell? ⟨k0,4,N⟩):FrC k0 w w':=
 FrC.O7 h.1 f λb d c _=>by
  obtain⟨o,a,e⟩:=d;exact(h.2.2 b o a e c).t a.s
end
theorem lx{q}{w'}{p:Prop}(j:o.guard=N)t(x y z:Operand)(f:o.op=.mapUpdate t x y z)
  (h:(Sc t (q.eval x) (q.eval y) (q.eval z)).run P w=.ok () w') (i:b (q.put o.dst Wo) w'):
  if R9 o (yielded e q.tmps)=Y then Sz P o q w b d else p:=by
 rw[gL (by simp[R9,j])];unfold Sz;simp[RG,f,h,Result.andThen];exact i
theorem Cy m w:(binOp BinOp.eql 45 (.map (J m)) (.map N)).run Vp w=.ok (C Z) w:=by kernel_rfl
theorem ze w:(binOp BinOp.eql 45 (.map N) (.map N)).run Vp w=.ok (C Y) w:=by kernel_rfl
section
variable {A:Nat->Prop} {B k0:Nat} {L:Lg}
theorem bf.set(a:¬A k0)(hj:4<=j/\j<=6)v:bf A B k0 w (w.setCell ⟨k0,j,N⟩ v):=
 ⟨Q,by simp,λb _ _ h=>Ra h,λb c _=>Ra (λe=>a (by rw[<-show b=k0 from e];exact c)),λi hi=>cO _ _ _ _ (bI (by omega)),λi=>n8 ..⟩
theorem zf{B i}(h:w.ownsRow B j a v i xs)(c:v.ownBlock=J g):B<=g/\g<w.heap.size:=h.lt g c
theorem bG{w':Wj}{b:H}{m:H}(h:w.ownsRow a T b v m xs)(j:∀g,v.ownBlock=J g->w'.heap[g]?=w.heap[g]?):w'.ownsRow a T b v m xs:=by
 refine⟨h.1,?_⟩;rcases h.2 with h2|⟨g,d,c,f,k,i,r⟩
 grind
 exact Or.inr ⟨g,d,c,f,k,(j g (by rw[f];rfl)).t i,r⟩
theorem eP.Qz(h:eP A B w k0 L){m}{t:Told}(p:w.heap[m]?=J (.map i a))(D:¬A m)(x:B<=m)(q:GB i.toList t):eP A B (w.setCell ⟨k0,6,N⟩ (.map (J m))) k0 {L with told:=t}:=by
 have hk:=h.low;have c:∀b,b≠k0->(w.setCell ⟨k0,6,N⟩ (.map (J m))).heap[b]?=w.heap[b]?:=λb d=>Ra d
 have f:∀j,j≠6->(w.setCell ⟨k0,6,N⟩ (.map (J m))).cell? ⟨k0,j,N⟩=w.cell? ⟨k0,j,N⟩:=λj hj=>cO _ _ _ _ (bI (by omega))
 have⟨v,y,l,s,k,n,r⟩:=h.opened;obtain⟨mv,u,-⟩:=h.told;refine⟨⟨v,(f 4 (by omega)).t y,l,s,bG k (λg o=>c g (by have:=(zf k o).1;omega)),n,λz F=>au.Nx (λb d hlt=>⟨d,c b (λe=>h.ND (e▸d))⟩) 41 _ _ (r z F)⟩,(f 5 (by omega)).t h.begun,⟨_,cS _ _ _ (by rw[u];rfl),Rg ⟨m,i,a,Q,(c m (by omega)).t p,q,D,x⟩⟩,λj=>by rw[n8];exact h.frozen j,h.ND,h.low,λb d=>by simpa using h.Of b d⟩
theorem AL{w'}(h:∀b,b<w.heap.size->b≠k0->w'.heap[b]?=w.heap[b]?)(c:w.heap.size<=w'.heap.size)(e:w'.os=w.os):eN k0 w w':=⟨c,e,λb _o a _ d=>(h b (eS a).1 d).t a⟩
theorem EM w(h:eP A B w k0 L)(hB:B<=w.heap.size)(k:eV)(x:ey×ey):
  Calls Vp 49 #[O (J ⟨k0,4,N⟩),U k,plV x] w λe w'=>e=Rc (Re #[])/\eP A B w' k0 {L with told:=ml k x L.told}/\bf A B k0 w w'/\eN k0 w w'/\∀j,j≠6->w'.cell? ⟨k0,j,N⟩=w.cell? ⟨k0,j,N⟩:=by
 have⟨mv,T,p⟩:=h.told;have f6:=h.frozen 6;have l:=h.lt;rcases p with⟨rfl,ht⟩|⟨m,es,clock,rfl,p,R,V,F⟩
 .have f:ax w ((w.alloc (E #[I K x.1,I K x.2] 120)).alloc (.map #[] 0)):=(ax.refl.alloc _).alloc _;have n:((w.alloc (E #[I K x.1,I K x.2] 120)).alloc (.map #[] 0)).heap[w.heap.size+1]?=J (.map #[] 0):=by
   have:=aN (w.alloc (E #[I K x.1,I K x.2] 120)) (.map #[] 0)
   simp_all
  have y:¬A (w.heap.size+1):=λe=>by have:=h.Of _ e;omega
  have i:=(h.left f).Qz n y (by omega) (t:=[]) trivial;have v:((w.alloc (E #[I K x.1,I K x.2] 120)).alloc (.map #[] 0)).setCell ⟨k0,6,N⟩ (.map (J (w.heap.size+1)))=((w.setCell ⟨k0,6,N⟩ (.map (J (w.heap.size+1)))).alloc (E #[I K x.1,I K x.2] 120)).alloc (.map #[] 0):=by
   rw[sT _ _ _ _ (by simp;omega),sT _ _ _ _ l]
  rw[v]at i;have G:bf A B k0 w (((w.setCell ⟨k0,6,N⟩ (.map (J (w.heap.size+1)))).alloc (E #[I K x.1,I K x.2] 120)).alloc (.map #[] 0)):=by
   rw[<-v];exact(bf.left l f).t (bf.set h.ND ⟨by omega,by omega⟩ _)
  obtain⟨W,z⟩:∃W,W=((w.setCell ⟨k0,6,N⟩ (.map (J (w.heap.size+1)))).alloc (E #[I K x.1,I K x.2] 120)).alloc (.map #[] 0):=⟨_,Q⟩;have r:W.drew.heap[w.heap.size+1]?=J (.map #[] 0):=by
   rw[z,<-v];exact(Ra (by show w.heap.size+1≠k0;omega)).t n
  rw[<-z]at i G;have⟨d,c,q,s⟩:=sw r (t:=[]) trivial k x;obtain⟨mv,k6,-⟩:=i.told;have D:W.cell? ⟨k0,6,N⟩=J (.map (J (w.heap.size+1))):=by
   rw[z,<-v];exact cS _ _ _ (by rw[f.cell T];rfl)
  have u:ax W W.drew:=ax.refl.drew;have HX:Hid (eP A B (W.drew.putObj (w.heap.size+1) (.map d c)) k0 {L with told:=ml k x L.told}/\bf A B k0 w (W.drew.putObj (w.heap.size+1) (.map d c))/\eN k0 w (W.drew.putObj (w.heap.size+1) (.map d c))/\∀j,j≠6->(W.drew.putObj (w.heap.size+1) (.map d c)).cell? ⟨k0,j,N⟩=w.cell? ⟨k0,j,N⟩):=by
   have P:eN k0 w W:=by
    rw[z,<-v];exact AL (λb i X=>(Ra X).t (f.block b i)) (by simp;omega) Q
   refine⟨?_,(G.t (bf.left i.lt u)).t (Ot r y (by omega) h.low),P.t (eN.t ⟨Q0,Q,λ_ _ h _ _=>h⟩ (ip r Q _)),λj hj=>?_⟩
   rotate_left
   have e2:W.drew.cell? ⟨k0,j,N⟩=W.cell? ⟨k0,j,N⟩:=rfl;rw[(cB (a:=⟨k0,j,N⟩) (pO (show k0≠w.heap.size+1 by omega))),e2,z,<-v,cO _ _ _ _ (bI (by omega))];exact cB (a:=⟨k0,j,N⟩) (f.block k0 l);have:=(i.left u).Ot (es':=d) (clock':=c) (u.cell D) r y (by omega) (t:=ml k x []) s;rw[ht];exact this
  have hn:=ze;have hmm:=@run_makeMap Vp;clear h i G r s f v n k6 u D;subst z;unfold plV at q ⊢;go_enter (Yq.nq func49),ntmps49;go_wp2_with fail
  go_region_law (refine lx Q 61 (Rh 18) (Rh 19) (Rh 20) Q q ?_)
  all_goals go_end0
  all_goals exact⟨Q,HX.o⟩
 have f:ax w (w.alloc (E #[I K x.1,I K x.2] 120)).drew:=(ax.refl.alloc _).drew;have i:=h.left f;have⟨d,c,q,s⟩:=sw (w:=(w.alloc (E #[I K x.1,I K x.2] 120)).drew) ((f.block m (eS p).1).t p) R k x;have HX:Hid (eP A B ((w.alloc (E #[I K x.1,I K x.2] 120)).drew.putObj m (.map d c)) k0 {L with told:=ml k x L.told}/\bf A B k0 w ((w.alloc (E #[I K x.1,I K x.2] 120)).drew.putObj m (.map d c))/\eN k0 w ((w.alloc (E #[I K x.1,I K x.2] 120)).drew.putObj m (.map d c))/\∀j,j≠6->((w.alloc (E #[I K x.1,I K x.2] 120)).drew.putObj m (.map d c)).cell? ⟨k0,j,N⟩=w.cell? ⟨k0,j,N⟩):=
  ⟨i.Ot (f.cell T) ((f.block m (eS p).1).t p) V F s,(bf.left l f).t (Ot ((f.block m (eS p).1).t p) V F h.low),(AL (λb i _=>f.block b i) f.size f.os).t (ip ((f.block m (eS p).1).t p) Q _),λj _=>(cB (a:=⟨k0,j,N⟩) (pO (by have:=h.low;show k0≠m;omega))).t (cB (a:=⟨k0,j,N⟩) (f.block k0 l))⟩
 clear h i p R s f;unfold plV at q ⊢;have hn:=Cy m;go_enter (Yq.nq func49),ntmps49;go_wp2_with fail
 go_region_law (refine lx Q 61 (Rh 18) (Rh 19) (Rh 20) Q q ?_)
 all_goals go_end0
 all_goals exact⟨Q,HX.o⟩
end
theorem zg{l' a}(h:l'.size=a.size)(b k:ey):jX l' b k=jX a b k:=by simp[jX,h]
theorem jr{l l'}(h:l.size=l'.size)(a:ey):∀ (NA:S ItD)(k:H),ed l a k NA=ed l' a k NA
 | [],_=>rfl
 |i::r,k=>by rw[ed,ed,zg h,jr h a r]
def LsA.NI(x:LsA)(a:ey):S ItD:=ed (x.N2 N) a 0 (cq x.q (bV x.f x.q.p.data.toList))
def LsA.tok(x:LsA)(a:ey):eV:=JC (x.N2 N) a (cq x.q (bV x.f x.q.p.data.toList)).length
def js(L:Lg)(f:S lk->S Ver)(q:Qy)(a:ey):LsA:=⟨L.begun+1,f,q,a,10⟩
def fN(L:Lg)(f:S lk->S Ver)(q:Qy)(a:ey):Lg×S ItD×eV×ey:=
 if a<1\/20<a then(L,[],⟨#[]⟩,7)
 else if(js L f q a).tok 1=⟨#[]⟩then(L,(js L f q a).NI 1,⟨#[]⟩,0)
 else if 3<=L.opened.length then(L,[],⟨#[]⟩,8)
 else(⟨L.opened++[js L f q a],L.begun+1,ml ((js L f q a).tok 1) (L.begun+1,2) L.told,L.tm⟩,(js L f q a).NI 1,(js L f q a).tok 1,0)
def GC(base:H)(A:H->Prop)(w:Wj)(sv:Wx)(NA:S ItD):Prop:=w.ownsRow base 67 3 sv NA.length (az NA)/\∀g,sv.ownBlock=J g->A g
theorem GC.nil:GC a A w (M N 0 0) []:=⟨World.ownsRow_nil _ _ _ _,λg h=>by cases h⟩
theorem GC.Nx{A':H->Prop}{w'}{sv}(h:GC j A w sv NA)(f:a<=j)(e:∀b,A b->b<w.heap.size->A' b/\w'.heap[b]?=w.heap[b]?):GC a A' w' sv NA:=
 ⟨ba (bG h.1 λg d=>(e g (h.2 g d) (h.1.lt g d).2).2) f,λg d=>(e g (h.2 g d) (h.1.lt g d).2).1⟩
def bZ(A:H->Prop)(B k0:H)(w:Wj)(L':Lg)(NA:S ItD)(sv:Wx)(w':Wj):Prop:=
 ∃A':H->Prop,(∀b,A b->A' b)/\(∀b,A' b->A b\/w.heap.size<=b)/\eP A' B w' k0 L'/\bf A B k0 w w'/\GC w.heap.size A' w' sv NA/\FrC k0 w w'
theorem wP(n:ey)(r:dT Wu)(a:nF)(p d b:eV)(s:ey)w:(Sd 116 #[(0,I K n),(1,Rd #[O r]),(2,Rd #[C a,U p,U d,U b]),(3,I K s),(4,I K 10)]).run Vp w=.ok (Rd #[I K n,O r,C a,U p,U d,U b,I K s,I K 10]) w:=by kernel_rfl
theorem qB(a b:ey)w:(Sd 120 #[(0,I K a),(1,I K b)]).run Vp w=.ok (Rd #[I K a,I K b]) w:=by kernel_rfl
theorem gx w:(Sd 79 #[]).run Vp w=.ok (Rd #[M N 0 0,U ⟨#[]⟩]) w:=by kernel_rfl
section
variable {A:Nat->Prop} {B k0:Nat} {L:Lg}
theorem bZ.same{w'}(h:eP A B w k0 L)(a:ax w w'):bZ A B k0 w L [] (M N 0 0) w':=
 ⟨A,λ_ h=>h,λ_ h=>Rf h,h.left a,bf.left h.lt a,.nil,FrC.left h.lt a⟩
theorem eP.more(h:eP A B w k0 L)(e:ax w W){A':H->Prop}(T:∀b,A b->A' b)(h2:∀b,A' b->A b\/w.heap.size<=b)(y:∀b,A' b->b<W.heap.size):eP A' B W k0 L:=by
 have c:=h.lt;have d:∀g,g<w.heap.size->¬A g->¬A' g:=λg i ha hx=>by
  grind
 have⟨v,c4,u,R,p,F,P⟩:=h.opened;have⟨G,V,l⟩:=h.told;refine⟨⟨v,e.cell c4,u,R,bO p λg _ i=>e.block g i,λg i=>d g (p.lt g i).2 (F g i),λz hz=>au.Nx (λb x c=>⟨T b x,e.block b c⟩) 41 _ _ (P z hz)⟩,e.cell h.begun,⟨G,e.cell V,?_⟩,λj=>(fB (a:=⟨k0,j,N⟩) (e.block k0 c)).t (h.frozen j),d k0 c h.ND,h.low,y⟩;rcases l with l|⟨m,r,f,D,o,q,X,s⟩;exact Rf l;have k:=(eS o).1;exact Rg ⟨m,r,f,D,(e.block m k).t o,q,d m k X,s⟩
theorem bZ.NI{w2}(h:eP A B w k0 L)(f:ax w w2){m}{sv}{pg}(e:W.ownsRow m 67 3 sv pg.length (az pg))(k:w.heap.size<=m)(j:∀g,m<=g->g<W.heap.size->w2.heap[g]?=W.heap[g]?):bZ A B k0 w L pg sv w2:=by
 have d:=bO e j;refine⟨λb=>A b\/sv.ownBlock=J b,λ_ h=>Rf h,λb a=>?_,h.more f (λ_ h=>Rf h) (λb a=>?_) (λb a=>?_),bf.left h.lt f,⟨ba d k,λg l=>Rg l⟩,FrC.left h.lt f⟩;rcases a with a|a
 grind
 exact Rg (by have:=(d.lt b a).1;omega);rcases a with a|a
 grind
 exact Rg (by have:=(d.lt b a).1;omega);rcases a with a|a;exact lL (h.Of b a) f.size;exact(d.lt b a).2
end
section
variable {P:Wv}
theorem mb(w:Wj)(q:H)(t R e:Ww)(i:RU)(z:Wx)(b f:H)(T:P.underlying t=J (.slice e))(hi:P.info? e=J i)(hz:i.zero=J z)(k:i.size=b)(B:i.bytes=f)(D:z.cells.size=b)(A:0<b)
  (v:Wx) (n:H) (G:S Wx) (h:w.ownsRow q e b v n G) (a:Wu) (m c:H) (d:S Wx) (V:d.length=m*b) (l:∀j u,d[j]?=J u->w.cell? (a.add j)=J u) (h1:∀u∈d,u.oneCell'=Y)
  (y:n+m<=Rx) (o:(n+m)*f<=140737488355328) (r:q<=w.heap.size):
  ∃L w',(R8 #[t,t] R #[v,.slice (J a) m c]).run P w=.ok L w'/\w'.ownsRow q e b L (n+m) (G++d)/\w.grownBy w' v.ownBlock/\∀g,L.ownBlock=J g->v.ownBlock=J g\/w.heap.size<=g:=by
 obtain⟨L,w',X,ho,hg,-⟩:=RN (P:=P) w q t R e i z b f T hi hz k B D A v n G h a m c d V l h1 y o r;refine⟨L,w',X,ho,hg,λg x=>?_⟩;rcases h.2 with⟨rfl,rfl⟩|⟨g0,s,cur,rfl,hb0,hrow,hcap⟩;obtain⟨v2,w2,p,F,-⟩:=RN (P:=P) w w.heap.size t R e i z b f T hi hz k B D A (.slice N 0 0) 0 G ⟨h.1,.inl ⟨rfl,rfl⟩⟩ a m c d V l h1 y o Q0;rw[X]at p;cases p;exact .inr (F.lt g x).1;by_cases hf:n+m<=s
 obtain⟨w2,p,-⟩:=RF (P:=P) w q t R e i b T hi k g0 n s G h a m c d V l h1 hf;rw[X]at p;cases p;exact .inl x;obtain⟨v2,w2,p,F,-⟩:=run_append_arg_grows (P:=P) w t R e i z b f T hi hz k B D A ⟨g0,0,N⟩ n s G h.1 (λj u hj=>h.cells (g:=g0) rfl j u hj) a m c d V l (by omega) y o;rw[X]at p;cases p;exact .inr (F.lt g x).1
theorem dB{a:Act}{d:Prop}
  (hg:o.guard=N) (s x:Operand) (t:Ww) (V:o.op=Op.call {callee:=Callee.builtin R7,args:=#[s,x],argTypes:=#[t,t]})
  (q:H) (e:Ww) (i:RU) (z:Wx) (k p:H) (ht:P.underlying t=J (.slice e)) (hi:P.info? e=J i) (hz:i.zero=J z) (A:i.size=k) (L:i.bytes=p) (X:z.cells.size=k) (ab:0<k)
  (v:Wx) (n:H) (R:S Wx) (hs:a.eval s=v) (D:w.ownsRow q e k v n R)
  (T:Wu) (m c:H) (l:S Wx) (hx:a.eval x=.slice (J T) m c) (hl:l.length=m*k) (y:∀j u,l[j]?=J u->w.cell? (T.add j)=J u) (h1:∀u∈l,u.oneCell'=Y)
  (aa:n+m<=Rx) (r:(n+m)*p<=140737488355328) (B:q<=w.heap.size)
  (h:∀F w',w'.ownsRow q e k F (n+m) (R++l)->w.grownBy w' v.ownBlock->(∀g,F.ownBlock=J g->v.ownBlock=J g\/w.heap.size<=g)->b (a.put o.dst F) w'):
  if R9 o (yielded G a.tmps)=Y then Sz P o a w b f else d:=by
 have⟨F,w',hr,h2,h3,h4⟩:=mb (P:=P) w q t o.type e i z k p ht hi hz A L X ab v n R D T m c l hl y h1 aa r B;exact fc hg s x t t V v _ hs hx hr (h F w' h2 h3 h4)
end
theorem Yq.PV:(Yq.prog.info? 116).map (λi=>(i.zero,i.size,i.bytes))=J (J (Rd #[I K 0,O N,C Z,U ⟨#[]⟩,U ⟨#[]⟩,U ⟨#[]⟩,I K 0,I K 0]),8,88):=by kernel_rfl
theorem one8 l:∀u∈(aT l).toList,u.oneCell'=true:=by
 intro u a;simp[aT]at a;rcases a with rfl|rfl|rfl|rfl|rfl|rfl|rfl|rfl<;>rfl
section
variable {A:Nat->Prop} {B k0:Nat} {L:Lg}
theorem eP.push(h:eP A B W k0 L){i:Wx}{o:S (LsA×dT Wu)}{x:LsA}{root:dT Wu}{n:ey}(c4:W.cell? ⟨k0,4,N⟩=J v)(z1:L.opened=o.map (·.1))(z2:W.ownsRow B 116 8 v o.length (cy o))(z3:∀g,v.ownBlock=J g->¬A g)(z4:∀z∈o,au A 41 W z.2 z.1.f)
  (ho:W0.ownsRow B 116 8 i (o.length+1) (cy o++(aT (x.N2 root)).toList)) (l:W.grownBy W0 v.ownBlock) (V:∀g,i.ownBlock=J g->v.ownBlock=J g\/W.heap.size<=g) (hN:au A 41 W root x.f):
  eP A B ((W0.setCell ⟨k0,4,N⟩ i).setCell ⟨k0,5,N⟩ (I K n)) k0 ⟨L.opened++[x],n,L.told,L.tm⟩/\bf A B k0 W ((W0.setCell ⟨k0,4,N⟩ i).setCell ⟨k0,5,N⟩ (I K n)):=by
 have hk:=h.low;have⟨mv,c6,X⟩:=h.told;have D:=λg l=>(z2.lt g l).1
 have T:J k0≠v.ownBlock:=λe=>by have:=D k0 e.s;omega
 have R:=(l.block k0 h.lt T).s;have d:∀b,b≠k0->((W0.setCell ⟨k0,4,N⟩ i).setCell ⟨k0,5,N⟩ (I K n)).heap[b]?=W0.heap[b]?:=λb c=>by
  rw[Ra c,Ra c]
 have q:=λb c=>
  (d b (λe=>h.ND (e▸c))).t (l.block b (h.Of b c) (λe=>z3 b e.s c))
 have u:=λj=>cB (a:=⟨k0,j,N⟩) R.s
 have F:∀j,j≠4->j≠5->((W0.setCell ⟨k0,4,N⟩ i).setCell ⟨k0,5,N⟩ (I K n)).cell? ⟨k0,j,N⟩=W.cell? ⟨k0,j,N⟩:=λj h4 h5=>by
  rw[cO _ _ _ _ (bI λe=>h5 e.s),cO _ _ _ _ (bI λe=>h4 e.s),u]
 have G:∀j,((W0.setCell ⟨k0,4,N⟩ i).setCell ⟨k0,5,N⟩ (I K n)).frozen? ⟨k0,j,N⟩=W.frozen? ⟨k0,j,N⟩:=λj=>by
  rw[n8,n8];exact fB (a:=⟨k0,j,N⟩) R.s
 have P:W.heap.size<=((W0.setCell ⟨k0,4,N⟩ i).setCell ⟨k0,5,N⟩ (I K n)).heap.size:=by have:=l.size;simpa using this
 refine⟨⟨⟨i,?_,o++[(x,root)],by simp[z1],?_,λg p=>?_,λz y=>?_⟩,?_,⟨mv,(F 6 (by omega) (by omega)).t c6,?_⟩,λj=>(G j).t (h.frozen j),h.ND,h.low,λb c=>lL (h.Of b c) P⟩,⟨l.os,P,λb h1 h2 h3=>(d b h3).t (l.block b h2 (λe=>by have:=D b e.s;omega)),λb c _=>q b c,λj hj=>F j (by omega) (by omega),G⟩⟩;rw[cO _ _ _ _ (bI (by omega))];exact cS _ _ _ (by rw[u,c4];rfl);rw[zd,lP,lS];exact bG ho λg p=>d g (by have:=(ho.lt g p).1;omega)
 rcases V g p with h1|h1
 grind
 exactλha=>by have:=h.Of g ha;omega
 rcases List.mem_append.1 y with y|y;exact au.Nx (λb c _=>⟨c,q b c⟩) 41 _ _ (z4 z y);simp at y;subst y;exact au.Nx (λb c _=>⟨c,q b c⟩) 41 _ _ hN;refine cS _ _ _ ?_;rw[cO _ _ _ _ (bI (by omega)),u,h.begun];rfl;rcases X with X|⟨m,es,r,m1,m2,m3,m4,m5⟩;exact Rf X;refine Rg ⟨m,es,r,m1,?_,m3,m4,m5⟩;rw[d m (by omega),l.block m (eS m2).1 (λe=>?_)];exact m2;rcases z2.2 with⟨rfl,-⟩|⟨g,cap,cur,rfl,c,hr,-⟩;cases e;cases e
 grind
theorem eP.other(h:eP A B w k0 L){b}(P:b≠k0)(hA:¬A b)(n:dA w b)(hv:∀v g,w.cell? ⟨k0,4,N⟩=J v->v.ownBlock=J g->g≠b):eP A B (w.setCell ⟨b,j,N⟩ x) k0 L:=by
 have c:∀g,g≠b->(w.setCell ⟨b,j,N⟩ x).heap[g]?=w.heap[g]?:=λg d=>Ra d
 have q:=c k0 (λe=>P e.s);have f:=λi=>cB (a:=⟨k0,i,N⟩) q
 have⟨v,u,G,z1,X,T,z4⟩:=h.opened;have⟨V,c6,l⟩:=h.told;refine⟨⟨v,(f 4).t u,G,z1,bG X λg d=>c g (hv v g u d),T,λz hz=>au.Nx (λg d _=>⟨d,c g (λe=>hA (e▸d))⟩) 41 _ _ (z4 z hz)⟩,(f 5).t h.begun,⟨V,(f 6).t c6,?_⟩,λi=>(fB (a:=⟨k0,i,N⟩) q).t (h.frozen i),h.ND,h.low,λg d=>by simpa using h.Of g d⟩;rcases l with l|⟨m,F,k,R,p,D⟩;exact Rf l;refine Rg ⟨m,F,k,R,(c m λe=>?_).t p,D⟩;subst e;obtain⟨o,r,y⟩:=n;rw[p]at r;cases r;cases y
theorem bf.other{b}(k:b≠k0)(l:¬A b)(hB:B<=b):bf A B k0 w (w.setCell ⟨b,j,N⟩ x):=by
 have c:∀g,g≠b->(w.setCell ⟨b,j,N⟩ x).heap[g]?=w.heap[g]?:=λg h=>Ra h
 have f:=c k0 (λe=>k e.s);exact⟨Q,by simp,λg d _ _=>c g (by omega),λg d _=>c g (λe=>l (e▸d)),λi _=>cB (a:=⟨k0,i,N⟩) f,λi=>fB (a:=⟨k0,i,N⟩) f⟩
theorem bf.m{A':H->Prop}{w'}(h:bf A' B k0 w w')(a:∀b,A b->A' b):bf A B k0 w w':=⟨h.os,h.size,h.low,λb c=>h.tree b (a b c),h.cells,h.fz⟩
theorem MR(W:Wj)(a:S Wx)(T:Ww):∀j u,a[j]?=J u->(W.alloc (E a.toArray T)).drew.cell? ((⟨W.heap.size,0,N⟩:Wu).add j)=J u:=by
 intro j u hj;rw[SB,zA]
 simp_all
theorem eN.cell{t}{W W'}(h:eN t W W'){b j}{v}(d:W.cell? ⟨b,j,N⟩=J v)(f:b≠t):W'.cell? ⟨b,j,N⟩=J v:=by
 have⟨o,c,e⟩:=dA.of_cell d;exact(cB (a:=⟨b,j,N⟩) ((h.2.2 b o c e f).t c.s)).t d
theorem eN.frozen{t}{W W'}(h:eN t W W'){b j}{v}(d:W.cell? ⟨b,j,N⟩=J v)(f:b≠t):W'.frozen? ⟨b,j,N⟩=W.frozen? ⟨b,j,N⟩:=by
 have⟨o,c,e⟩:=dA.of_cell d;exact fB (a:=⟨b,j,N⟩) ((h.2.2 b o c e f).t c.s)
theorem gW{c}{b}(f:W.cell? ⟨b,j,N⟩=J v)(d:b≠k0):((W.setCell ⟨k0,4,N⟩ x).setCell ⟨k0,5,N⟩ c).cell? ⟨b,j,N⟩=J v:=(cB (a:=⟨b,j,N⟩) (by rw[Ra d,Ra d])).t f
theorem K8{X:Wj}(h:eP A B w k0 L)(hB:B<=w.heap.size)(a3:ax w W)(hVs:W.heap.size=w.heap.size+4)(al:ax W W0){sv v4 v':Wx}{pg:S ItD}(u:W0.ownsRow W.heap.size 67 3 sv pg.length (az pg)){zs:S (LsA×dT Wu)}(c4:w.cell? ⟨k0,4,N⟩=J v4)
  (z1:L.opened=zs.map (·.1)) (z2:w.ownsRow B 116 8 v4 zs.length (cy zs)) (z3:∀g,v4.ownBlock=J g->¬A g) (z4:∀z∈zs,au A 41 w z.2 z.1.f)  {x:LsA} (hN:au A 41 w r x.f) (o o':Obj) (a6:X.ownsRow B 116 8 v' (zs.length+1) (cy zs++(aT (x.N2 r)).toList)) (i:((W0.alloc o).alloc o').drew.grownBy X v4.ownBlock) (P:∀g,v'.ownBlock=J g->v4.ownBlock=J g\/((W0.alloc o).alloc o').drew.heap.size<=g) (n:ey) (tk:eV) (pl:ey×ey) {y:Wx} (aa:W0.cell? ⟨w.heap.size+1+1,0,N⟩=J y):
  Calls Vp 49 #[O (J ⟨k0,4,N⟩),U tk,plV pl] ((X.setCell ⟨k0,4,N⟩ v').setCell ⟨k0,5,N⟩ (I K n)) λe F=>e=Rc (Re #[])/\eN k0 ((X.setCell ⟨k0,4,N⟩ v').setCell ⟨k0,5,N⟩ (I K n)) F /\
   ∀y0 y1,bZ A B k0 w ⟨L.opened++[x],n,ml tk pl L.told,L.tm⟩ pg sv ((F.setCell ⟨w.heap.size+1+1,0,N⟩ y0).setCell ⟨w.heap.size+1+1,1,N⟩ y1):=by
 obtain⟨W2,ab⟩:∃W2,W2=((W0.alloc o).alloc o').drew:=⟨_,Q⟩;rw[<-ab]at i P;have p:ax W0 W2:=by rw[ab];exact((ax.refl.alloc o).alloc o').drew
 have d:=(a3.t al).t p;have hsz2:W2.heap.size=W0.heap.size+2:=by rw[ab];simp
 have hlow:=h.low;have ap:=h.lt;have hs1:=al.size;obtain⟨A',T⟩:∃A':H->Prop,A'=λb=>A b\/sv.ownBlock=J b:=⟨_,Q⟩
 have a1:∀b,A b->A' b:=λb c=>by rw[T];exact Rf c
 have a2:∀b,A' b->A b\/w.heap.size+4<=b/\b<W0.heap.size:=λb c=>by
  rw[T]at c;rcases c with c|c
  grind
  have:=u.lt b c;exact Rg (by omega)
 have h2:=h.more d a1 (λb c=>(a2 b c).imp id (by omega)) (λb c=>by
  rcases a2 b c with k|k;have:=h.Of b k;have:=d.size;omega;omega)
 have G:=d.cell c4;have a8:∀g,v4.ownBlock=J g->¬A' g:=λg l ha=>by
  rcases a2 g ha with k|k
  grind
  have:=(z2.lt g l).2;omega
 obtain⟨h5,aj⟩:=h2.push (x:=x) (root:=r) (n:=n) G z1 (bO z2 λg _ l=>d.block g l) a8 (λz hz=>au.Nx (λb c ad=>⟨a1 b c,d.block b ad⟩) 41 _ _ (z4 z hz)) a6 i P (au.Nx (λb c ad=>⟨a1 b c,d.block b ad⟩) 41 _ _ hN);have hs3:=i.size;obtain⟨W5,q⟩:∃W5,W5=(X.setCell ⟨k0,4,N⟩ v').setCell ⟨k0,5,N⟩ (I K n):=⟨_,Q⟩;have hs5:W5.heap.size=X.heap.size:=by rw[q];simp
 have k4:W5.cell? ⟨k0,4,N⟩=J v':=by
  rw[q,cO _ _ _ _ (bI (by omega))];exact cS _ _ _ (by rw[cB (a:=⟨k0,4,N⟩) (i.block k0 (by have:=d.size;omega) (λe=>by have:=(z2.lt k0 e.s).1;omega)),G];rfl)
 rw[<-q]at h5 aj ⊢;refine(EM W5 h5 (by omega) tk pl).m ?_;rintro e F ⟨rfl,h6,a4,ac,af⟩;refine⟨Q,ac,λy0 y1=>?_⟩;have R:¬A' (w.heap.size+1+1):=λha=>by
  rcases a2 _ ha with k|k;have:=h.Of _ k;omega;omega
 have ai:∀v g,F.cell? ⟨k0,4,N⟩=J v->v.ownBlock=J g->g≠w.heap.size+1+1:=λv g hv l e=>by
  rw[af 4 (by omega),k4]at hv;cases hv;rcases P g l with k|k;have:=(z2.lt g k).2;omega;omega
 have av:dA F (w.heap.size+1+1):=by
  refine dA.of_cell (ac.cell (j:=0) (v:=y) ?_ (by omega));rw[q];refine gW ?_ (by omega);have e:X.heap[w.heap.size+1+1]?=W0.heap[w.heap.size+1+1]?:=(i.block _ (by omega) (λe=>by have:=(z2.lt _ e.s).2;omega)).t (p.block _ (bC W0 _ aa));exact(cB (a:=⟨w.heap.size+1+1,0,N⟩) e).t aa
 have a0:(F.setCell ⟨w.heap.size+1+1,0,N⟩ y0).cell? ⟨k0,4,N⟩=F.cell? ⟨k0,4,N⟩:=cB (a:=⟨k0,4,N⟩) (Ra (show k0≠w.heap.size+1+1 by omega));have a5:dA (F.setCell ⟨w.heap.size+1+1,0,N⟩ y0) (w.heap.size+1+1):=by
  obtain⟨ob,e1,e2⟩:=av;cases ob with
  |cells xs e z=>
   have⟨g1,g2⟩:=eS e1;refine⟨E (xs.setIfInBounds 0 y0) e z,?_,Q⟩;show(F.heap.modify (w.heap.size+1+1) _)[w.heap.size+1+1]?=_
   grind
  |_=>cases e2
 have ar:bf A' B k0 W2 ((F.setCell ⟨w.heap.size+1+1,0,N⟩ y0).setCell ⟨w.heap.size+1+1,1,N⟩ y1):=((aj.t a4).t (bf.other (by omega) R (by omega))).t (bf.other (by omega) R (by omega));refine⟨A',a1,λb c=>(a2 b c).imp id (by omega),(h6.other (j:=0) (x:=y0) (show w.heap.size+1+1≠k0 by omega) R av ai).other (j:=1) (x:=y1) (show w.heap.size+1+1≠k0 by omega) R a5 (λv g hv l=>ai v g (by rw[<-a0];exact hv) l),(bf.left ap d).t (ar.m a1),?_,?_⟩
 rotate_left
 have a9:FrC k0 W2 W5:=⟨by omega,λb c hk ho=>by
   have e1:W5.heap[b]?=X.heap[b]?:=by rw[q,Ra hk,Ra hk]
   exact e1.t (i.block b c.lt (λe=>ho ⟨v4,G,e.s⟩)),λb ho=>by
   obtain⟨x,k,h2⟩:=ho;rw[k4]at k;cases k;rcases P b h2 with h3|h3;exact Rf ⟨v4,G,h3⟩;exact Rg h3⟩
 exact((((FrC.left ap d).t a9).t (FrC.Qa ac (af 4 (by omega)))).fresh (by omega) (by omega)).fresh (by omega) (by omega);refine⟨ba (bG u λg l=>?_) (by omega),λg l=>by rw[T];exact Rg l⟩;have a7:=(u.lt g l).2;exact(ar.tree g (by rw[T];exact Rg l) (by omega)).t (p.block g a7)
end
theorem uq{b:H}{a:S (LsA×dT Wu)}(h:w.ownsRow B 116 8 (M (J ⟨g,0,N⟩) a.length b) a.length (cy a))(i:H)(e:i<a.length)(j:H)(d:j<8):w.cell? ⟨g,i*8+j,N⟩=(aT (a[i].1.N2 a[i].2))[j]?:=by
 have c:(aT (a[i].1.N2 a[i].2))[j]?=J ((aT (a[i].1.N2 a[i].2))[j]'(by simp[aT];omega)):=eG _;have:=h.cells (g:=g) Q (i*8+j) _ ((bL 8 (λz:LsA×dT Wu=>(aT (z.1.N2 z.2)).toList) (λ_=>Q) a i j e d).t (by rw[gT];exact c));rw[SB,zA]at this;rw[this,c]
theorem nK{a:S (LsA×dT Wu)}(h:w.ownsRow B 116 8 (M (J ⟨g,0,N⟩) a.length j) a.length (cy a))(i:H)(b:i<a.length):
  w.cell? ⟨g,i*8,N⟩=J (I K a[i].1.num)/\w.cell? ⟨g,i*8+1,N⟩=J (O a[i].2)/\w.cell? ⟨g,i*8+2,N⟩=J (C a[i].1.q.vs)/\w.cell? ⟨g,i*8+3,N⟩=J (U a[i].1.q.p)/\w.cell? ⟨g,i*8+4,N⟩=J (U a[i].1.q.d)/\w.cell? ⟨g,i*8+5,N⟩=J (U a[i].1.q.af)/\w.cell? ⟨g,i*8+6,N⟩=J (I K a[i].1.size)/\w.cell? ⟨g,i*8+7,N⟩=J (I K a[i].1.left):=
 ⟨uq h i b 0 (by omega),uq h i b 1 (by omega),uq h i b 2 (by omega),uq h i b 3 (by omega),uq h i b 4 (by omega),uq h i b 5 (by omega),uq h i b 6 (by omega),uq h i b 7 (by omega)⟩
theorem Ir l a(n:ey)w(b:w.cell? ⟨a,0,N⟩=J (I K n)):Calls Vp 51 #[lV l,O (J ⟨a,0,N⟩)] w λe w'=>e=Rc (C (l.num==n))/\Below w.heap.size w w':=by
 have hlt:=bC w _ b;unfold lV aT;go_enter (Yq.nq func51),ntmps51;go_wp2_with fail
 go_ret;exact⟨Q,(Q9).alloc Q0 _⟩
def mR(n:ey)(xs:S LsA):dT Nat:=xs.findIdx? (λx=>x.num==n)
theorem AM(B:H)(u:dT Wu)(v:H)(a:S (LsA×dT Wu))(s:H)(n:ey)(w:Wj)(r:w.ownsRow B 116 8 (M u a.length v) a.length (cy a))(hl:a.length<=3)(X:w.cell? ⟨s,0,N⟩=J (I K n)):
  Calls Vp 50 #[M u a.length v,.func (.func 51) #[] #[O (J ⟨s,0,N⟩)]] w λe w'=>e=Rc (I K (((mR n (a.map (·.1))).map λ(i:H)=>(i:ey)).getD (-1)))/\Below w.heap.size w w':=by
 have HZ:=aq r;have HC:=aq X;obtain⟨R,y⟩:∃R:ey,R=((mR n (a.map (·.1))).map λ(i:H)=>(i:ey)).getD (-1):=⟨_,Q⟩;have HR:=aq y;rw[<-y];clear r y X;go_enter (Yq.nq func50),ntmps50;go_wp2_with fail
 go_loopw [5,8] (λ_ s8 wr=>∃i:H,i<=a.length/\s8=I K i/\(∀j (l:j<a.length),j<i->(a[j].1.num==n)=Z)/\Below w.heap.size w wr) (λ_ s8 _=>a.length-(intOf s8).toNat)
 case atStart=>exact⟨0,Q8,Q,λ_ _ h=>kr h (by omega),Q9⟩
 case round=>
  obtain⟨i,hi,rfl,k,c⟩:=hrel;by_cases q:i<a.length
  obtain⟨g,f,he⟩:∃g f,RY u a.length v=M (J ⟨g,0,N⟩) a.length f:=by
   rcases HZ.o.2 with⟨T,h2⟩|⟨g,f,cur,T,-⟩;omega;exact⟨g,f,T⟩
  cases he;have⟨D,P,q2,V,F,q5,L,G⟩:=nK HZ.o i q;replace D:=ag c D;replace P:=ag c P;replace q2:=ag c q2;replace V:=ag c V;replace F:=ag c F;replace q5:=ag c q5;replace L:=ag c L;replace G:=ag c G;have HF:=Ir (a[i].1.N2 a[i].2) s n wr (ag c HC.o);have b:=bJ k c;clear k c;simp only[lV,aT,LsA.N2]at HF;cases d:(a[i].1.num==n)with
  |true=>
   rw[d]at HF;have HE:Hid (R=(i:ey)):=by
    show R=(i:ey);have:mR n (a.map (·.1))=J i:=by
     unfold mR;rw[vx];refine⟨by simpa using q,by simpa using d,λj l=>?_⟩;have:=b.o.1 j (by omega) l;simpa using this
    rw[HR.o,this];rfl
   go_wp2_with (go_at_call 51;refine HF.m ?_;clear HF;rintro e w1 ⟨rfl,p⟩)
   go_ret;exact⟨by rw[HE.o];rfl,b.o.2.t (p.m b.o.2.size)⟩
  |false=>
   rw[d]at HF;go_wp2_with (go_at_call 51;refine HF.m ?_;clear HF;rintro e w1 ⟨rfl,p⟩)
   refine⟨⟨i+1,by omega,by go_num,λj l hji=>?_,b.o.2.t (p.m b.o.2.size)⟩,by simp[intOf];omega⟩;by_cases A:j=i
   subst A;exact d;exact b.o.1 j l (by omega)
  have:i=a.length:=by omega
  subst this;go_wp2_with fail
  go_ret;refine⟨?_,c⟩;have:mR n (a.map (·.1))=none:=by
   unfold mR;rw[wz];intro x hx;obtain⟨z,r,rfl⟩:=Rq.1 hx;obtain⟨j,l,rfl⟩:=gM r;exact k j l l
  rw[HR.o,this];rfl
def LsA.again(x:LsA)(v:ey):LsA:={x with left:=v}
def dY(L:Lg)(a:eV):Lg×S ItD×eV×ey:=
 match ez a L.told with
 |none=>(L,[],⟨#[]⟩,9)
 |some (n,pg)=>
  match mR n L.opened with
  |none=>(L,[],⟨#[]⟩,10)
  |some i=>
   match L.opened[i]? with
   |none=>(L,[],⟨#[]⟩,10)
   |some x=>(⟨L.opened.set i (x.again 10),L.begun,if x.tok pg=⟨#[]⟩then L.told else ml (x.tok pg) (n,pg+1) L.told,L.tm⟩,x.NI pg,x.tok pg,0)
theorem ur{n:Type}(m:H)(f:n->S Wx)(d:∀a,(f a).length=m):∀ (l:S n)(i j:H)(a:n)(v:Wx)(_:j<m)(c:i<l.length),f a=(f l[i]).set j v->(l.set i a).flatMap f=(l.flatMap f).set (i*m+j) v
 | [],i,j,a,v,hj,c,h=>by simp at c
 |b::l,0,j,a,v,hj,c,h=>by
  simp only[List.getElem_cons_zero]at h;simp only[Rk,Rm,Nat.zero_mul,zA];rw[h,List.set_append_left _ _ (by rw[d];exact hj)]
 |b::l,i+1,j,a,v,hj,c,h=>by
  simp only[List.getElem_cons_succ]at h;simp only[List.set_cons_succ,Rm];rw[ur m f d l i j a v hj (by simpa using c) h,xv _ _ (by rw[d,SD];omega),d];congr 2;rw[SD];omega
theorem fg{n b}(h:w.ownsRow B T a (M (J ⟨g,0,N⟩) n b) n xs)j(_hj:j<xs.length)v:(w.setCell ⟨g,j,N⟩ v).ownsRow B T a (M (J ⟨g,0,N⟩) n b) n (xs.set j v):=by
 refine⟨by rw[xt];exact h.1,?_⟩;rcases h.2 with⟨d,-⟩|⟨g',cap',c,d,o,hr,i,m,k,l⟩;cases d;cases d;refine Rg ⟨g,b,c.setIfInBounds j v,Q,o,?_,i,m,by simpa using k,?_⟩;show(w.heap.modify g _)[g]?=_
 grind
 rw[Array.toList_setIfInBounds,Rp,l]
section
variable {A:Nat->Prop} {B k0:Nat} {L:Lg}
theorem eP.O8(h:eP A B w k0 L){k:H}{c:S (LsA×dT Wu)}(c4:w.cell? ⟨k0,4,N⟩=J (M (J ⟨g,0,N⟩) c.length k))(z1:L.opened=c.map (·.1))(x:w.ownsRow B 116 8 (M (J ⟨g,0,N⟩) c.length k) c.length (cy c))(r:¬A g)(z4:∀z∈c,au A 41 w z.2 z.1.f)(i:H)(D:i<c.length)(v:ey):
  eP A B (w.setCell ⟨g,i*8+7,N⟩ (I K v)) k0 {L with opened:=L.opened.set i (c[i].1.again v)}/\bf A B k0 w (w.setCell ⟨g,i*8+7,N⟩ (I K v)) /\
   (w.setCell ⟨g,i*8+7,N⟩ (I K v)).ownsRow B 116 8 (M (J ⟨g,0,N⟩) c.length k) (c.set i (c[i].1.again v,c[i].2)).length (cy (c.set i (c[i].1.again v,c[i].2)))/\(∀z∈c.set i (c[i].1.again v,c[i].2),au A 41 (w.setCell ⟨g,i*8+7,N⟩ (I K v)) z.2 z.1.f):=by
 have hlow:=h.low;have y:=(x.lt g Q).1;have o:∀b,b≠g->(w.setCell ⟨g,i*8+7,N⟩ (I K v)).heap[b]?=w.heap[b]?:=λb q=>Ra q
 have F:=o k0 (by omega);have n:=λj=>cB (a:=⟨k0,j,N⟩) F
 have l:(w.setCell ⟨g,i*8+7,N⟩ (I K v)).ownsRow B 116 8 (M (J ⟨g,0,N⟩) c.length k) (c.set i (c[i].1.again v,c[i].2)).length (cy (c.set i (c[i].1.again v,c[i].2))):=by
  have e:cy (c.set i (c[i].1.again v,c[i].2))=(cy c).set (i*8+7) (I K v):=ur 8 _ (λ_=>Q) c i 7 _ _ (by omega) D Q;rw[e,xt];exact fg x _ (by rw[nJ];omega) _
 have d:∀z∈c.set i (c[i].1.again v,c[i].2),au A 41 (w.setCell ⟨g,i*8+7,N⟩ (I K v)) z.2 z.1.f:=λz P=>by
  refine au.Nx (λb q _=>⟨q,o b (λe=>r (e▸q))⟩) 41 _ _ ?_;rcases List.mem_or_eq_of_mem_set P with P|rfl
  grind
  exact z4 c[i] (xc D)
 have⟨mv,c6,u⟩:=h.told;refine⟨⟨⟨_,(n 4).t c4,c.set i (c[i].1.again v,c[i].2),by rw[z1,Rr],by simpa using l,λg' s=>by cases s;exact r,d⟩,(n 5).t h.begun,⟨mv,(n 6).t c6,?_⟩,λj=>(fB (a:=⟨k0,j,N⟩) F).t (h.frozen j),h.ND,h.low,λb q=>by simpa using h.Of b q⟩,bf.other (by omega) r y,l,d⟩;rcases u with u|⟨m,V,p,X,R,T⟩;exact Rf u;refine Rg ⟨m,V,p,X,(o m λe=>?_).t R,T⟩;rcases x.2 with⟨G,-⟩|⟨g',cap',cur,G,-,hr,-⟩;cases G
 grind
end
structure qC (B:H)(w:Wj)(g cap:H)(zs:S (LsA×dT Wu)):Prop where
 base:B<=g
 obj:∃cur:eW Wx,w.heap[g]?=J (E cur 116 (0,0))/\cur.size=cap*8
 le:zs.length<=cap
 max:cap<=maxLen
 cells:∀i (hi:i<zs.length) j,j<8->w.cell? ⟨g,i*8+j,N⟩=(aT (zs[i].1.N2 zs[i].2))[j]?
theorem qC.O5{zs}(h:w.ownsRow B 116 8 (M (J ⟨g,0,N⟩) zs.length a) zs.length (cy zs)):qC B w g a zs:=by
 have c:=h.2;rcases c with⟨d,-⟩|⟨g',cap',b,d,m,k,c,l,f,-⟩;cases d;cases d;exact⟨m,⟨b,k,f⟩,c,l,λi n j e=>uq h i n j e⟩
theorem qC.owns{b}{a}(h:qC B w g b a):w.ownsRow B 116 8 (M (J ⟨g,0,N⟩) a.length b) a.length (cy a):=by
 have⟨c,i,l⟩:=h.obj;refine⟨nJ a,Rg ⟨g,b,c,Q,h.base,i,h.le,h.max,l,?_⟩⟩;apply List.ext_getElem?;intro t;by_cases k:t<a.length*8
 have d:t/8<a.length:=by omega
 have e:t=t/8*8+t%8:=by omega
 have j:=h.cells (t/8) d (t%8) (by omega);rw[<-e]at j;have f:=bL 8 (λz:LsA×dT Wu=>(aT (z.1.N2 z.2)).toList) (λ_=>Q) a (t/8) (t%8) d (by omega);rw[<-e]at f;show _=(a.flatMap λz=>(aT (z.1.N2 z.2)).toList)[t]?;rw[f,List.getElem?_take,gL k,gT,gT,<-j,RB w g t c 116 (0,0) i];rw[yz (by simp;omega),yz (by rw[nJ];omega)]
theorem qC.same{w'}{b}{zs}(h:qC B w g b zs)(e:w'.heap[g]?=w.heap[g]?):qC B w' g b zs:=
 ⟨h.base,by rw[e];exact h.obj,h.le,h.max,λi d j c=>(cB (a:=⟨g,i*8+j,N⟩) e).t (h.cells i d j c)⟩
theorem qC.lt{b}(h:qC B w g a b):g<w.heap.size:=by
 obtain⟨cur,h,-⟩:=h.obj
 grind
theorem j1{i}(h:∃a:eW Wx,w.heap[g]?=J (E a T (0,0))/\a.size=i):∃a:eW Wx,(w.setCell ⟨g,j,N⟩ v).heap[g]?=J (E a T (0,0))/\a.size=i:=by
 obtain⟨a,h1,b⟩:=h;refine⟨a.setIfInBounds j v,?_,by simpa using b⟩;show(w.heap.modify g _)[g]?=_
 grind
theorem qC.frozen{B}{w}{g a}{b}(h:qC B w g a b)j:w.frozen? ⟨g,j,N⟩=false:=by
 obtain⟨cur,h,-⟩:=h.obj;simp[sq,h]
def NU(w:Wj)(g i:H)(l:Lst):Wj:=
 (((((((w.setCell ⟨g,i*8,N⟩ (I K l.num)).setCell ⟨g,i*8+1,N⟩ (O l.root)).setCell ⟨g,i*8+2,N⟩ (C l.vs)).setCell ⟨g,i*8+3,N⟩ (U l.p)).setCell ⟨g,i*8+4,N⟩ (U l.d)).setCell ⟨g,i*8+5,N⟩ (U l.af)).setCell ⟨g,i*8+6,N⟩ (I K l.size)).setCell ⟨g,i*8+7,N⟩ (I K l.left)
theorem Is{i b}{l'}(h:∃a:eW Wx,w.heap[g]?=J (E a T (0,0))/\a.size=b):∃a:eW Wx,(NU w g i l').heap[g]?=J (E a T (0,0))/\a.size=b:=
 j1 (j1 (j1 (j1 (j1 (j1 (j1 (j1 h)))))))
theorem It{i b}{l'}(h:b<i*8\/i*8+8<=b):(NU w g i l').cell? ⟨g,b,N⟩=w.cell? ⟨g,b,N⟩:=by
 unfold NU
 iterate 8 rw[cO _ _ _ _ (bI (by omega))]
theorem bj{b}(h:(w.cell? ⟨g,b,N⟩).isSome=Y):((w.setCell ⟨g,a,N⟩ v).cell? ⟨g,b,N⟩).isSome=true:=by
 by_cases e:a=b
 subst e;rw[cS _ _ _ h];rfl
 rwa [cO _ _ _ _ (bI e)]
theorem EN{i}{l'}(h:∀j,j<8->(w.cell? ⟨g,i*8+j,N⟩).isSome=Y)j(hj:j<8):(NU w g i l').cell? ⟨g,i*8+j,N⟩=(aT l')[j]?:=by
 have a:(NU w g i l').cell? ⟨g,i*8,N⟩=(aT l')[0]?:=by
  unfold NU
  iterate 7 rw[cO _ _ _ _ (bI (by omega))]
  exact cS _ _ _ (h 0 (by omega))
 have c:(NU w g i l').cell? ⟨g,i*8+1,N⟩=(aT l')[1]?:=by
  unfold NU
  iterate 6 rw[cO _ _ _ _ (bI (by omega))]
  exact cS _ _ _ (bj (h 1 (by omega)))
 have m:(NU w g i l').cell? ⟨g,i*8+2,N⟩=(aT l')[2]?:=by
  unfold NU
  iterate 5 rw[cO _ _ _ _ (bI (by omega))]
  exact cS _ _ _ (bj (bj (h 2 (by omega))))
 have d:(NU w g i l').cell? ⟨g,i*8+3,N⟩=(aT l')[3]?:=by
  unfold NU
  iterate 4 rw[cO _ _ _ _ (bI (by omega))]
  exact cS _ _ _ (bj (bj (bj (h 3 (by omega)))))
 have f:(NU w g i l').cell? ⟨g,i*8+4,N⟩=(aT l')[4]?:=by
  unfold NU
  iterate 3 rw[cO _ _ _ _ (bI (by omega))]
  exact cS _ _ _ (bj (bj (bj (bj (h 4 (by omega))))))
 have b:(NU w g i l').cell? ⟨g,i*8+5,N⟩=(aT l')[5]?:=by
  unfold NU
  iterate 2 rw[cO _ _ _ _ (bI (by omega))]
  exact cS _ _ _ (bj (bj (bj (bj (bj (h 5 (by omega)))))))
 have e:(NU w g i l').cell? ⟨g,i*8+6,N⟩=(aT l')[6]?:=by
  unfold NU
  iterate 1 rw[cO _ _ _ _ (bI (by omega))]
  exact cS _ _ _ (bj (bj (bj (bj (bj (bj (h 6 (by omega))))))))
 have k:(NU w g i l').cell? ⟨g,i*8+7,N⟩=(aT l')[7]?:=by
  exact cS _ _ _ (bj (bj (bj (bj (bj (bj (bj (h 7 (by omega)))))))))
 rcases j with - | - | - | - | - | - | - | - |j;exact a;exact c;exact m;exact d;exact f;exact b;exact e;exact k;omega
theorem qC.NU{c}(h:qC B w g a c)i(hi:i<c.length)(z:LsA×dT Wu):qC B (NU w g i (z.1.N2 z.2)) g a (c.set i z):=by
 refine⟨h.base,Is h.obj,by rw[xt];exact h.le,h.max,λk hk j d=>?_⟩;have b:k<c.length:=by grind
 by_cases e:k=i
 subst e;rw[EN (λj d=>by rw[h.cells k b j d];simp[aT];omega) j d];simp;rw[It (by omega),h.cells k b j d,List.getElem_set_ne (by omega)]
section
variable {P:Wv}
theorem zh(w:Wj)(t e p:Ww)(z:Wx)(l:P.underlying t=J (.slice e))(i:∀w,(zeroValue e).run P w=.ok z w)(h1:∀v∈z.cells.toList,v.oneCell'=Y)
  (g o n c:H) (a:eW Wx) (T:Ww) (q:w.heap[g]?=J (.cells a T (0,0))) (hn:0<n) (hfit:o+n*z.cells.size<=a.size):
  ∃b,(R6 #[t] p #[.slice (J ⟨g,o,N⟩) n c]).run P w=.ok (.tuple #[]) (w.setRow g b)/\b.size=a.size/\b.toList.take o=a.toList.take o:=by
 have h:(R5 z.cells n).size=n*z.cells.size:=by simp[R5]
 have d:∀v∈(R5 z.cells n).toList,v.oneCell'=true:=λv i=>by
  obtain⟨k,hk,rfl⟩:=Array.getElem_of_mem (Array.mem_toList_iff.1 i);have j:0<z.cells.size:=by
   grind
  simp[R5];have:k%z.cells.size<z.cells.size:=Nat.mod_lt _ j
  grind
 have f:=run_storeCells_at P g o T (R5 z.cells n).toList 0 a w q (by rw[lY,h];omega) d;refine⟨(a.toList.take o++(R5 z.cells n).toList++a.toList.drop (o+(R5 z.cells n).size)).toArray,?_,?_,?_⟩;obtain⟨m,rfl⟩:∃m,n=m+1:=⟨n-1,by omega⟩;simp[R6,RQ l,i,f]
 grind
 grind
end
def qD(z:LsA×dT Wu):nF:=decide (z.1.left<=0)
def j3(z:LsA×dT Wu):nF:=!qD z
structure ee (g:dT H)(w w':Wj):Prop where
 os:w'.os=w.os
 size:w.heap.size<=w'.heap.size
 block:∀b,b<w.heap.size->g≠J b->w'.heap[b]?=w.heap[b]?
theorem ee.refl{g:dT H}{w}:ee g w w:=⟨Q,Q0,λ_ _ _=>Q⟩
theorem ee.t{g:dT H}{w' w''}(h:ee g w w')(k:ee g w' w''):ee g w w'':=⟨k.os.t h.os,lT h.size k.size,λb c a=>(k.block b (lL c h.size) a).t (h.block b c a)⟩
theorem ee.below{g:dT H}{w'}(h:Below w.heap.size w w'):ee g w w':=⟨h.os,h.size,λb a _=>h.block b a⟩
theorem ee.set{w'}(h:ee (J g) w w'):ee (J g) w (w'.setCell ⟨g,j,N⟩ v):=
 ⟨h.os,by have:=h.size;simpa using this,λb c a=>(Ra (λe=>a (by rw[show b=g from e]))).t (h.block b c a)⟩
theorem ee.NU{i}{l}:ee (J g) w (NU w g i l):=
 ee.set (ee.set (ee.set (ee.set (ee.set (ee.set (ee.set (ee.set ee.refl)))))))
theorem Iu(w:Wj)(g:H)(a cs:eW Wx)(T:Ww)(b:w.heap[g]?=J (E a T (0,0))):(w.setRow g cs).heap[g]?=J (E cs T (0,0)):=setRow_heap w g a cs T _ b
theorem ee.setRow{k cs:eW Wx}(_hg:w.heap[g]?=J (E k T (0,0))):ee (J g) w (w.setRow g cs):=by
 refine⟨Q,?_,λb hb c=>?_⟩
 simp_all
 have:b≠g:=λe=>c (by rw[e])
 simp[World.setRow,Array.getElem?_modify,this.s]
theorem qC.cut{c i}{d}{b a:eW Wx}(h:qC B w g c d)(e:w.heap[g]?=J (E b 116 (0,0)))(hs:a.size=b.size)(p:a.toList.take (i*8)=b.toList.take (i*8))(hi:i<=d.length):qC B (w.setRow g a) g c (d.take i):=by
 have f:=Iu w g b a 116 e;have⟨c2,m,h2⟩:=h.obj;rw[e]at m;cases m;refine⟨h.base,⟨a,f,by omega⟩,by rw[tL];have:=h.le;omega,h.max,λk hk j o=>?_⟩;have hk':k<i:=by grind
 have n:=h.cells k (by omega) j o;rw[RB w g _ b 116 (0,0) e]at n;rw[RB _ g _ a 116 (0,0) f,Rn,<-n];have h4:=lj (λl:S Wx=>l[k*8+j]?) p
 grind
theorem K9 w:(zeroValue 116).run Vp w=.ok (Rd #[I K 0,O N,C Z,U ⟨#[]⟩,U ⟨#[]⟩,U ⟨#[]⟩,I K 0,I K 0]) w:=by simp_all
theorem Iv w g o n(b:eW Wx)(k:w.heap[g]?=J (E b 116 (0,0)))(l:0<n)(e:o+n*8<=b.size):
  ∃a:eW Wx,(∀h c,(R6 #[44] h #[M (J ⟨g,o,N⟩) n c]).run Vp w=.ok (Re #[]) (w.setRow g a))/\a.size=b.size/\a.toList.take o=b.toList.take o:=by
 have f:∀v∈(Value.agg #[I K 0,O N,C Z,U ⟨#[]⟩,U ⟨#[]⟩,U ⟨#[]⟩,I K 0,I K 0]).cells.toList,v.oneCell'=true:=by
  intro v i;simp[RZ]at i;rcases i with rfl|rfl|rfl|rfl|rfl|rfl<;>rfl
 obtain⟨a,h1,h2,h3⟩:=zh (P:=Vp) w 44 116 0 _ (Yq.u underlying44) K9 f g o n 0 b 116 k l (by simpa[RZ]using e);have h0:∀h d c j,(R6 #[44] h #[M (J ⟨g,o,N⟩) n c]).run Vp w=(R6 #[44] d #[M (J ⟨g,o,N⟩) n j]).run Vp w:=λh d c j=>by
  obtain⟨m,rfl⟩:∃m,n=m+1:=⟨n-1,by omega⟩;simp[R6,RQ (Yq.u underlying44)]
 grind
theorem wQ l w:Calls Vp 79 #[lV l] w λe w'=>e=Rc (C (decide (l.left<=0)))/\Below w.heap.size w w':=by
 unfold lV aT;go_enter (Yq.nq func79),ntmps79;go_wp2_with fail
 go_ret;exact⟨Q,(Q9).alloc Q0 _⟩
theorem Iw B(v:dT Wu)x a w(u:w.ownsRow B 116 8 (M v a.length x) a.length (cy a))(hl:a.length<=3):
  Calls Vp 50 #[M v a.length x,.func (.func 79) #[] #[]] w λe w'=>e=Rc (I K (((a.findIdx? qD).map λ(i:H)=>(i:ey)).getD (-1)))/\Below w.heap.size w w':=by
 have HZ:=aq u;obtain⟨R,y⟩:∃R:ey,R=((a.findIdx? qD).map λ(i:H)=>(i:ey)).getD (-1):=⟨_,Q⟩;have HR:=aq y;rw[<-y];clear u y;go_enter (Yq.nq func50),ntmps50;go_wp2_with fail
 go_loopw [5,8] (λ_ s8 wr=>∃i:H,i<=a.length/\s8=I K i/\(∀j (n:j<a.length),j<i->qD a[j]=Z)/\Below w.heap.size w wr) (λ_ s8 _=>a.length-(intOf s8).toNat)
 case atStart=>exact⟨0,Q8,Q,λ_ _ h=>kr h (by omega),Q9⟩
 case round=>
  obtain⟨i,hi,rfl,l,c⟩:=hrel;by_cases s:i<a.length
  obtain⟨g,k,he⟩:∃g k,RY v a.length x=M (J ⟨g,0,N⟩) a.length k:=by
   rcases HZ.o.2 with⟨T,h2⟩|⟨g,k,cur,T,-⟩;omega;exact⟨g,k,T⟩
  cases he;have⟨D,P,q2,V,F,X,L,G⟩:=nK HZ.o i s;replace D:=ag c D;replace P:=ag c P;replace q2:=ag c q2;replace V:=ag c V;replace F:=ag c F;replace X:=ag c X;replace L:=ag c L;replace G:=ag c G;have HF:Calls Vp 79 #[Rd #[I K a[i].1.num,O a[i].2,C a[i].1.q.vs,U a[i].1.q.p,U a[i].1.q.d,U a[i].1.q.af,I K a[i].1.size,I K a[i].1.left]] wr λe w'=>e=Rc (C (qD a[i]))/\Below wr.heap.size wr w':=wQ (a[i].1.N2 a[i].2) wr
  have b:=bJ l c;clear l c;cases f:qD a[i]with
  |true=>
   rw[f]at HF;have HE:Hid (R=(i:ey)):=by
    show R=(i:ey);have:a.findIdx? qD=J i:=by
     rw[vx];refine⟨s,f,λj n=>?_⟩;have:=b.o.1 j (by omega) n;simp[this]
    rw[HR.o,this];rfl
   go_wp2_with (go_at_call 79;refine HF.m ?_;clear HF;rintro e w1 ⟨rfl,r⟩)
   go_ret;exact⟨by rw[HE.o];rfl,b.o.2.t (r.m b.o.2.size)⟩
  |false=>
   rw[f]at HF;go_wp2_with (go_at_call 79;refine HF.m ?_;clear HF;rintro e w1 ⟨rfl,r⟩)
   refine⟨⟨i+1,by omega,by go_num,λj n hji=>?_,b.o.2.t (r.m b.o.2.size)⟩,by simp[intOf];omega⟩;by_cases A:j=i
   subst A;exact f;exact b.o.1 j n (by omega)
  have:i=a.length:=by omega
  subst this;go_wp2_with fail
  go_ret;refine⟨?_,c⟩;have:a.findIdx? qD=none:=by
   rw[wz];intro z u;obtain⟨j,n,rfl⟩:=gM u;exact l j n n
  rw[HR.o,this];rfl
theorem mc{a:S (LsA×dT Wu)}(b:j<a.length):(a.take (j+1)).filter j3=(a.take j).filter j3++(if j3 a[j]then[a[j]]else[]):=by
 rw[tS b,List.filter_append]
 grind
theorem EO B(va:dT Wu)A a w(F:w.ownsRow B 116 8 (M va a.length A) a.length (cy a))(hl:a.length<=3):
  Calls Vp 78 #[M va a.length A,.func (.func 79) #[] #[]] w λe w'=>∃v',e=Rc v'/\w'.ownsRow B 116 8 v' (a.filter j3).length (cy (a.filter j3))/\(∀g,v'.ownBlock=J g->(RY va a.length A).ownBlock=J g)/\ee (RY va a.length A).ownBlock w w':=by
 have n:=Iw B va A a w F hl;cases hp:a.findIdx? qD with
 |none=>
  rw[hp]at n;simp only[Sq,Sn]at n;have T:a.filter j3=a:=by
   rw[Rj];intro z F;have:=wz.1 hp z F;simp[j3,this]
  rw[T];have HZ:=aq F;clear F T hp;go_enter (Yq.nq func78),ntmps78;go_wp2_with (go_at_call 50;refine n.m ?_;clear n;rintro e w1 ⟨rfl,D⟩)
  go_ret;exact⟨_,Q,bO HZ.o λg _ hg=>D.block g hg,λ_ h=>h,.below D⟩
 |some p=>
  rw[hp]at n;simp only[Su,Sm]at n;have⟨av,al,aj⟩:=vx.1 hp;obtain⟨g,L,he⟩:∃g L,RY va a.length A=M (J ⟨g,0,N⟩) a.length L:=by
   rcases F.2 with⟨h1,h2⟩|⟨g,L,ap,h1,-⟩;omega;exact⟨g,L,h1⟩
  cases he;have ac:=qC.O5 F;have HS:Hid (qC B w g A a/\(a.take (p+1)).filter j3=a.take p):=by
   refine⟨ac,?_⟩;rw[mc av];have e1:(a.take p).filter j3=a.take p:=by
    rw[Rj];intro z F;obtain⟨j,hj,rfl⟩:=gM F;have:=aj j (by simp at hj;omega);rw[Rn];simpa[j3]using this
   rw[e1];simp[j3,al]
  have hpI:((p:ey) == -1)=false:=by simp
  have hpI2:¬((p:ey)=-1):=by omega
  have hvc:a.length<=A:=ac.le;clear F hp al aj ac;go_enter (Yq.nq func78),ntmps78;go_wp2_with (go_at_call 50;refine n.m ?_;clear n;rintro e w1 ⟨rfl,D⟩)
  go_loopw [5,6,7] (λs5 s6 _ wr=>∃ (i j:H) (x:S (LsA×dT Wu)),s5=I K i/\s6=I K j/\j<=a.length/\i<j/\x.length=a.length/\x.take i=(a.take j).filter j3/\x.drop j=a.drop j/\qC B wr g A x/\ee (J g) w wr) (λ_ s6 _ _=>a.length-(intOf s6).toNat)
  case atStart=>exact⟨p,p+1,a,Q,by go_num,av,by omega,Q,HS.o.2.s,Q,HS.o.1.same (D.block g HS.o.1.lt),.below D⟩
  case round=>
   obtain⟨i,j,x,rfl,rfl,hj,hij,X,y,P,b,f⟩:=hrel;by_cases aa:j<a.length
   have a1:j<x.length:=by omega
   have ab:i<x.length:=by omega
   have a0:x[j]=a[j]:=by
    have h1:(x.drop j)[0]?=(a.drop j)[0]?:=by rw[P]
    rw[Rl,Rl,SC,eL a1,eL aa]at h1;exact oJ h1
   have k:=b.cells j a1;rw[a0]at k;have q0:=k 0 (by omega);have q1:=k 1 (by omega);have q2:=k 2 (by omega);have q3:=k 3 (by omega);have q4:=k 4 (by omega);have q5:=k 5 (by omega);have q6:=k 6 (by omega);have q7:=k 7 (by omega);simp only[aT,LsA.N2,gA,gZ,gS,SC]at q0 q1 q2 q3 q4 q5 q6 q7;obtain⟨W,hW⟩:∃W,W=wr.alloc (E #[I K a[j].1.num,O a[j].2,C a[j].1.q.vs,U a[j].1.q.p,U a[j].1.q.d,U a[j].1.q.af,I K a[j].1.size,I K a[j].1.left] 116):=⟨_,Q⟩;have HF:Calls Vp 79 #[Rd #[I K a[j].1.num,O a[j].2,C a[j].1.q.vs,U a[j].1.q.p,U a[j].1.q.d,U a[j].1.q.af,I K a[j].1.size,I K a[j].1.left]] W λe w'=>e=Rc (C (qD a[j]))/\Below W.heap.size W w':=wQ (a[j].1.N2 a[j].2) W
   have a2:=b.lt;have HI:=gB X y P b f;have HB:Hid (∀r,Below W.heap.size W r->ee (J g) w r/\qC B r g A x /\
     (r.cell? ⟨wr.heap.size,0,N⟩=J (I K a[j].1.num)/\r.cell? ⟨wr.heap.size,1,N⟩=J (O a[j].2)/\r.cell? ⟨wr.heap.size,2,N⟩=J (C a[j].1.q.vs)/\r.cell? ⟨wr.heap.size,3,N⟩=J (U a[j].1.q.p)/\r.cell? ⟨wr.heap.size,4,N⟩=J (U a[j].1.q.d)/\r.cell? ⟨wr.heap.size,5,N⟩=J (U a[j].1.q.af)/\r.cell? ⟨wr.heap.size,6,N⟩=J (I K a[j].1.size)/\r.cell? ⟨wr.heap.size,7,N⟩=J (I K a[j].1.left))):=λr u=>by
    have V:Below wr.heap.size wr W:=by rw[hW];exact(Q9).alloc Q0 _
    have e:r.heap[wr.heap.size]?=J (E #[I K a[j].1.num,O a[j].2,C a[j].1.q.vs,U a[j].1.q.p,U a[j].1.q.d,U a[j].1.q.af,I K a[j].1.size,I K a[j].1.left] 116):=by
     rw[u.block _ (by rw[hW];simp),hW];exact aN _ _
    refine⟨f.t ((ee.below V).t (.below u)),b.same ((u.block g (by have:=V.size;omega)).t (V.block g a2)),?_⟩;refine⟨?_,?_,?_,?_,?_,?_,?_,?_⟩<;>simp[pt,e]
   clear X y P b f k a0;cases G:qD a[j]with
   |true=>
    rw[G]at HF;rw[hW]at HF;go_wp2_with (go_at_call 79;refine HF.m ?_;clear HF;rintro e r ⟨rfl,u⟩)
    obtain⟨h1,h2,-⟩:=HB.o r (by rw[hW];exact u);obtain⟨k1,k2,k3,-,-⟩:=HI.o;refine⟨⟨i,j+1,x,Q,by go_num,by omega,by omega,k1,?_,?_,h2,h1⟩,by simp[intOf];omega⟩;rw[mc aa,k2];simp[j3,G];have:=lj (Rv 1) k3
    rwa [xb,xb]at this
   |false=>
    rw[G]at HF;rw[hW]at HF;go_wp2_with (go_at_call 79;refine HF.m ?_;clear HF;rintro e r ⟨rfl,u⟩;have⟨ai,c,b0,b1,b2,b3,b4,b5,b6,b7⟩:=HB.o r (by rw[hW];exact u);have k:=c.cells i ab;have p0:=k 0 (by omega);have p1:=k 1 (by omega);have p2:=k 2 (by omega);have p3:=k 3 (by omega);have p4:=k 4 (by omega);have p5:=k 5 (by omega);have p6:=k 6 (by omega);have p7:=k 7 (by omega);simp only[aT,LsA.N2,gA,gZ,gS,SC]at p0 p1 p2 p3 p4 p5 p6 p7;have f0:=c.frozen (i*8);have f1:=c.frozen (i*8+1);have f2:=c.frozen (i*8+2);have f3:=c.frozen (i*8+3);have f4:=c.frozen (i*8+4);have f5:=c.frozen (i*8+5);have f6:=c.frozen (i*8+6);have f7:=c.frozen (i*8+7);have HE:Hid (_/\_):=Sv ai c;clear ai c k)
    obtain⟨k1,k2,k3,-,-⟩:=HI.o;refine⟨⟨i+1,j+1,x.set i a[j],by go_num,by go_num,by omega,by omega,by simp[k1],?_,?_,HE.o.2.NU i ab a[j],?_⟩,by simp[intOf];omega⟩;rw[mc aa,<-k2,tS (by simpa using ab),List.getElem_set_self];have:(x.set i a[j]).take i=x.take i:=by rw[Rp];exact List.set_eq_of_length_le (by simp;omega)
    rw[this];simp[j3,G];rw[List.drop_set_of_lt (by omega)];have:=lj (Rv 1) k3
    rwa [xb,xb]at this
    exact HE.o.1.t (ee.NU (l:=a[j].1.N2 a[j].2))
   have:j=a.length:=by omega
   subst this;have⟨ap,v,hcs⟩:=b.obj;have⟨R,hcl0,ad,ar⟩:=Iv wr g (i*8) (a.length-i) ap v (by omega) (by omega);have a3:Hid (qC B (wr.setRow g R) g A (a.filter j3)/\(a.filter j3).length=i/\ee (J g) w (wr.setRow g R)):=by
    have hr:=b.cut v ad ar (by omega);rw[y,tO Q0]at hr;refine⟨hr,?_,f.t (ee.setRow v)⟩;have:=lj List.length y;rw[tO (lR a.length),tL]at this;omega
   clear b f y P X v ad ar;go_wp2_with fail
   go_ret;have⟨e1,e2,e3⟩:=a3.o;have e4:=e1.owns;rw[e2]at e4 ⊢;exact⟨_,Q,e4,λ_ h=>h,e3⟩
def nL(L:Lg)(u:ey):Lg:={L with opened:=(L.opened.map λx=>x.again (x.left-u)).filter λx=>!decide (x.left<=0)}
section
variable {A:Nat->Prop} {B k0:Nat} {L:Lg}
theorem eP.Qo{w':Wj}(h:eP A B w k0 L){i:Wx}{zs P:S (LsA×dT Wu)}(R:w.cell? ⟨k0,4,N⟩=J v)(z2:w.ownsRow B 116 8 v zs.length (cy zs))(z3:∀g,v.ownBlock=J g->¬A g)(r:w'.ownsRow B 116 8 i P.length (cy P))(y:∀g,i.ownBlock=J g->v.ownBlock=J g)(o:ee v.ownBlock w w')(hy:∀z∈P,au A 41 w z.2 z.1.f):
  eP A B (w'.setCell ⟨k0,4,N⟩ i) k0 {L with opened:=P.map (·.1)}/\bf A B k0 w (w'.setCell ⟨k0,4,N⟩ i)/\FrC k0 w (w'.setCell ⟨k0,4,N⟩ i):=by
 have hk:=h.low;have⟨mv,c6,X⟩:=h.told;have u:=λg D=>(z2.lt g D).1
 have k:=o.block k0 h.lt (λe=>by have:=u k0 e;omega);have c:∀b,b≠k0->(w'.setCell ⟨k0,4,N⟩ i).heap[b]?=w'.heap[b]?:=λb d=>Ra d
 have G:=λb d=>(c b (λe=>h.ND (e▸d))).t (o.block b (h.Of b d) (λe=>z3 b e d))
 have q:=λj=>cB (a:=⟨k0,j,N⟩) k
 have l:∀j,j≠4->(w'.setCell ⟨k0,4,N⟩ i).cell? ⟨k0,j,N⟩=w.cell? ⟨k0,j,N⟩:=λj h4=>by
  rw[cO _ _ _ _ (bI λe=>h4 e.s),q]
 have F:∀j,(w'.setCell ⟨k0,4,N⟩ i).frozen? ⟨k0,j,N⟩=w.frozen? ⟨k0,j,N⟩:=λj=>by
  rw[n8];exact fB (a:=⟨k0,j,N⟩) k
 have n:w.heap.size<=(w'.setCell ⟨k0,4,N⟩ i).heap.size:=by have:=o.size;simpa using this
 refine⟨⟨⟨i,?_,P,Q,bG r λg D=>c g (by have:=(r.lt g D).1;omega),λg D=>z3 g (y g D),λz hz=>au.Nx (λb d _=>⟨d,G b d⟩) 41 _ _ (hy z hz)⟩,(l 5 (by omega)).t h.begun,⟨mv,(l 6 (by omega)).t c6,?_⟩,λj=>(F j).t (h.frozen j),h.ND,h.low,λb d=>lL (h.Of b d) n⟩,⟨o.os,n,λb V T h3=>(c b h3).t (o.block b T (λe=>by have:=u b e;omega)),λb d _=>G b d,λj hj=>l j (by omega),F⟩,?_⟩
 rotate_right
 refine⟨n,λb d k r=>(c b k).t (o.block b d.lt (λe=>r ⟨v,R,e⟩)),λb r=>?_⟩;obtain⟨x,V,T⟩:=r;rw[cS _ _ _ (by rw[q,R];rfl)]at V;cases V;exact Rf ⟨v,R,y b T⟩;exact cS _ _ _ (by rw[q,R];rfl);rcases X with X|⟨m,es,p,m1,m2,m3,m4,m5⟩;exact Rf X;refine Rg ⟨m,es,p,m1,?_,m3,m4,m5⟩;rw[c m (by omega),o.block m (eS m2).1 (λe=>?_)];exact m2;rcases z2.2 with⟨rfl,-⟩|⟨g,cap,cur,rfl,d,hr,-⟩;cases e;cases e
 grind
def ME(u:ey)(z:LsA×dT Wu):LsA×dT Wu:=(z.1.again (z.1.left-u),z.2)
theorem La w(h:eP A B w k0 L)(hop:L.opened.length<=3)(u:ey)(hu:0<=u/\u<=1000)(ac:∀x∈L.opened,0<=x.left/\x.left<=10):
  Calls Vp 54 #[O (J ⟨k0,4,N⟩),I K u] w λe w'=>e=Rc (Re #[])/\eP A B w' k0 (nL L u)/\bf A B k0 w w'/\FrC k0 w w':=by
 have⟨v4,c4,b,z1,z2,z3,z4⟩:=h.opened;obtain⟨r,l,rfl,-⟩:=ao z2;have hlz:L.opened.length=b.length:=by rw[z1];simp
 have hlt:=h.lt;have aa:=λi hi=>ac _ (by rw[z1];exact Rq.2 ⟨b[i],xc hi,Q⟩)
 have hzl:b.length<=3:=by omega
 obtain⟨k,X⟩:∃k:H->S (LsA×dT Wu),k=λi=>(b.take i).map (ME u)++b.drop i:=⟨_,Q⟩
 have c:∀i,(k i).length=b.length:=λi=>by rw[X];simp;omega
 have HY:=aq X;have HL:=gB h z1 z2 z3 z4;clear X z1 z2 z3 z4 ac h;go_enter (Yq.nq func54),ntmps54;go_wp2_with fail
 go_loopw [4,10] (λ_ s10 wr=>∃i:H,i<=b.length/\s10=I K i/\eP A B wr k0 {L with opened:=(k i).map (·.1)}/\bf A B k0 w wr/\FrC k0 w wr/\wr.cell? ⟨k0,4,N⟩=J (M r b.length l)/\wr.ownsRow B 116 8 (M r b.length l) (k i).length (cy (k i))/\∀z∈k i,au A 41 wr z.2 z.1.f) (λ_ s10 _=>b.length-(intOf s10).toNat)
 case atStart=>
  have e0:k 0=b:=by rw[HY.o];simp
  have⟨h1,h2,h3,h4,h5⟩:=HL.o;refine⟨0,Q8,Q,?_,bf.refl,FrC.refl,c4,?_,?_⟩;rw[e0,<-h2];exact h1
  grind
  grind
 case round=>
  obtain⟨i,hi,rfl,n,P,D,k4,j,G⟩:=hrel;by_cases p:i<b.length
  obtain⟨g,V,he⟩:∃g V,RY r b.length l=M (J ⟨g,0,N⟩) b.length V:=by
   rcases HL.o.2.2.1.2 with⟨h1,h2⟩|⟨g,V,cur,h1,-⟩;omega
   grind
  cases he;have T:i<(k i).length:=by rw[c];exact p
  have ab:(k i)[i]=b[i]:=by
   have:(k i)[i]?=J b[i]:=by
    rw[HY.o];simp only;rw[aR (by simp;omega)];simp;rw[Nat.min_eq_left (by omega)];simp[p]
   rw[eL T]at this;exact oJ this
  have d:wr.ownsRow B 116 8 (M (J ⟨g,0,N⟩) (k i).length l) (k i).length (cy (k i)):=by rw[c]at j ⊢;exact j
  have q7:=(nK d i T).2.2.2.2.2.2.2;rw[ab]at q7;have f7:=(qC.O5 d).frozen (i*8+7);have af:wr.cell? ⟨k0,4,N⟩=J (M (J ⟨g,0,N⟩) (k i).length l):=by rw[c];exact k4
  have⟨hlo,hhi⟩:=aa i p;have hwr:wrap64 (b[i].1.left-u)=b[i].1.left-u:=by unfold wrap64;omega
  have q:=n.O8 af Q d (HL.o.2.2.2.1 g Q) G i T (b[i].1.left-u);rw[ab]at q;have R:(k i).set i (b[i].1.again (b[i].1.left-u),b[i].2)=k (i+1):=by
   rw[HY.o];simp only;rw[xv _ _ (by simp;omega),tS p,List.map_append,pA];congr 1;have e0:i-(List.map (ME u) (List.take i b)).length=0:=by simp;omega
   rw[e0,List.drop_eq_getElem_cons p,Rk];simp[ME]
  have HN:Hid (eP A B (wr.setCell ⟨g,i*8+7,N⟩ (I K (b[i].1.left-u))) k0 {L with opened:=(k (i+1)).map (·.1)}/\bf A B k0 w (wr.setCell ⟨g,i*8+7,N⟩ (I K (b[i].1.left-u)))/\FrC k0 w (wr.setCell ⟨g,i*8+7,N⟩ (I K (b[i].1.left-u)))/\(wr.setCell ⟨g,i*8+7,N⟩ (I K (b[i].1.left-u))).cell? ⟨k0,4,N⟩=J (M (J ⟨g,0,N⟩) b.length l)/\(wr.setCell ⟨g,i*8+7,N⟩ (I K (b[i].1.left-u))).ownsRow B 116 8 (M (J ⟨g,0,N⟩) b.length l) (k (i+1)).length (cy (k (i+1)))/\∀z∈k (i+1),au A 41 (wr.setCell ⟨g,i*8+7,N⟩ (I K (b[i].1.left-u))) z.2 z.1.f):=by
   rw[<-R];obtain⟨n1,n2,n3,n4⟩:=q;refine⟨?_,P.t n2,D.t (FrC.open ⟨_,k4,Q⟩ (by have:=(d.lt g Q).1;have:=n.low;omega)),?_,?_,n4⟩;rw[Rr];exact n1;rw[cB (w:=wr) (a:=⟨k0,4,N⟩) (Ra (show k0≠g by have:=(d.lt g Q).1;have:=n.low;omega))];exact k4;rw[c]at n3;exact n3
  clear n P D j G d q R af;go_wp2_with fail
  exact⟨⟨i+1,by omega,by go_num,HN.o⟩,by simp[intOf];omega⟩;have:i=b.length:=by omega
  subst this;have ad:k b.length=b.map (ME u):=by rw[HY.o];simp
  have s:=EO B r l (k b.length) wr (by rw[c]at j ⊢;exact j) (by rw[c];omega);rw[c]at s;have ai:=aq D;have HE:=gB n P j G ad;have HC:Hid (∀w2,ee (RY r b.length l).ownBlock wr w2->w2.cell? ⟨k0,4,N⟩=J (M r b.length l)/\w2.frozen? ⟨k0,4,N⟩=Z):=λw2 aj=>by
   have e:=aj.block k0 n.lt (λe=>by have:=(j.lt k0 e).1;have:=n.low;omega);exact⟨(cB (a:=⟨k0,4,N⟩) e).t k4,(fB (a:=⟨k0,4,N⟩) e).t (n.frozen 4)⟩
  clear n P D j G ad;go_wp2_with (go_at_call 78;refine s.m ?_;clear s;rintro e w2 ⟨v',rfl,y,F,v⟩;obtain⟨va',vc',rfl,-⟩:=ao y;have⟨d4,g4⟩:=HC.o w2 v;have HD:Hid (_/\_/\_):=Sv y (Sv F v);clear y F v)
  go_end0;have⟨h1,h2,h3,h4,h5⟩:=HE.o;have⟨y,F,v⟩:=HD.o;have⟨r1,r2,r3⟩:=h1.Qo k4 h3 HL.o.2.2.2.1 y F v (λz hz=>h4 z (List.mem_filter.1 hz).1);refine⟨Q,?_,h2.t r2,ai.o.t r3⟩;have e:nL L u={L with opened:=((k b.length).filter j3).map (·.1)}:=by
   unfold nL;congr 1;rw[h5,HL.o.2.1,Rt,Ro,Ro,Rt];rfl
  rw[e];exact r1
end
theorem AN k0(p:dT Wu)w(a:w.cell? ⟨k0,0,N⟩=J (O p)):Calls Vp 20 #[O (J ⟨k0,0,N⟩)] w λe w'=>e=Rc (Rd #[O p])/\w'=w.alloc (E #[O p] 40):=by
 have hlt:k0<w.heap.size:=bC w _ a;go_enter (Yq.nq func20),ntmps20;go_wp2_with fail
 exact Rw (v:=Rd #[O p]) (by simp[results,results20,go_sem]) Q ⟨Q,Q⟩
theorem Ix k0(n:ey)w(c1:w.cell? ⟨k0,1,N⟩=J (I K n)):Calls Vp 25 #[O (J ⟨k0,0,N⟩)] w λe w'=>e=Rc (I K n)/\w'=w:=by
 go_enter (Yq.nq func25),ntmps25;go_wp2_with fail
 go_ret;exact⟨Q,Q⟩
theorem Iy(a:nF)(p d b:eV)w:(Sd 84 #[(0,C a),(1,U p),(2,U d),(3,U b)]).run Vp w=.ok (Rd #[C a,U p,U d,U b]) w:=by kernel_rfl
theorem AO o w:Calls Vp 21 #[aL o] w λe w'=>e=Rc (qV (o.kind==7) o.key o.fe o.past)/\Below w.heap.size w w':=by
 obtain⟨b,c,body,d,a,n,src⟩:=o;have hb:=Iy;unfold aL qV;go_enter (Yq.nq func21),ntmps21;go_wp2_with fail
 exact Rw (v:=Rd #[C (b==7),U c,U d,U a]) (by simp[results,results21,go_sem]) Q ⟨Q,((Q9).alloc Q0 _).alloc (by simp) _⟩
theorem Iz k0(n u:ey)w(c3:w.cell? ⟨k0,3,N⟩=J (I .u64 n))(f3:w.frozen? ⟨k0,3,N⟩=Z):Calls Vp 53 #[O (J ⟨k0,0,N⟩),I K u] w λe w'=>e=Rc (Re #[])/\w'=w.setCell ⟨k0,3,N⟩ (I .u64 (IntKind.u64.wrap (n+u))):=by
 go_enter (Yq.nq func53),ntmps53;go_wp2_with fail
 go_end0;exact⟨Q,by congr 2;simp[IntKind.wrap,IntKind.bits,IntKind.signed]⟩
theorem AP k0(a:dT Wu)n c(s:ey)w(_hn:n<=2199023255552)(c8:w.cell? ⟨k0,8,N⟩=J (M a n c)):Calls Vp 52 #[O (J ⟨k0,0,N⟩),I K s] w λe w'=>e=Rc (C (decide (0<=s/\s<n)))/\w'=w:=by
 by_cases b:0<=s
 .by_cases d:s<n
  .have e:decide (0<=s/\s<n)=true:=by simp[b,d]
   rw[e];go_enter (Yq.nq func52),ntmps52;go_wp2_with fail
   go_ret;exact⟨Q,Q⟩
  have e:decide (0<=s/\s<n)=false:=by simp[d]
  rw[e];go_enter (Yq.nq func52),ntmps52;go_wp2_with fail
  go_ret;exact⟨by simp,Q⟩
 have e:decide (0<=s/\s<n)=false:=by simp[b]
 rw[e];go_enter (Yq.nq func52),ntmps52;go_wp2_with fail
 go_ret;exact⟨Q,Q⟩
structure bh (A:H->Prop)(B:H)(w:Wj)(k0:H)(st:St)(L:Lg):Prop where
 store:aS A w k0 st
 ls:eP A B w k0 L
 time:w.cell? ⟨k0,3,N⟩=J (I .u64 L.tm)
structure fS (A:H->Prop)(B k0:H)(w w':Wj):Prop where
 os:w'.os=w.os
 size:w.heap.size<=w'.heap.size
 low:∀b,b<B->b<w.heap.size->b≠k0->w'.heap[b]?=w.heap[b]?
 tree:∀b,A b->b<w.heap.size->w'.heap[b]?=w.heap[b]?
 cells:∀j,6<j->w'.cell? ⟨k0,j,N⟩=w.cell? ⟨k0,j,N⟩
 fz:∀j,w'.frozen? ⟨k0,j,N⟩=w.frozen? ⟨k0,j,N⟩
section
variable {A A':Nat->Prop} {B k0:Nat} {w w' w'':Wj} {st:St} {L L':Lg}
theorem bf.OA(h:bf A B k0 w w'):fS A B k0 w w':=⟨h.os,h.size,h.low,h.tree,λj a=>h.cells j (Rg a),h.fz⟩
theorem fS.t(h:fS A B k0 w w')(k:fS A B k0 w' w''):fS A B k0 w w'':=
 ⟨k.os.t h.os,lT h.size k.size,λb a c e=>(k.low b a (lL c h.size) e).t (h.low b a c e),λb a c=>(k.tree b a (lL c h.size)).t (h.tree b a c),λj d=>(k.cells j d).t (h.cells j d),λj=>(k.fz j).t (h.fz j)⟩
theorem aS.Pf(a:aS A w k0 st)(c:bf A B k0 w w')(k:∀b,A b->A' b)(h:¬A' k0):aS A' w' k0 st:=by
 have⟨p,i,l⟩:=a.tree;exact⟨λb d e=>h (e▸d),⟨p,(c.cells 0 (Rf (by omega))).t i,au.Nx (λb d f=>⟨k b d,c.tree b d f⟩) 41 _ _ l⟩,(c.cells 1 (Rf (by omega))).t a.count,(c.cells 2 (Rf (by omega))).t a.last,λj=>(c.fz j).t (a.frozen j)⟩
theorem bh.step(h:bh A B w k0 st L)(a:bf A B k0 w w')(e:∀b,A b->A' b)(c:eP A' B w' k0 L')(d:L'.tm=L.tm):bh A' B w' k0 st L':=
 ⟨h.store.Pf a e c.ND,c,by rw[d];exact(a.cells 3 (Rf (by omega))).t h.time⟩
theorem bh.OP(h:bh A B w k0 st L)(m:ey):bh A B (w.setCell ⟨k0,3,N⟩ (I .u64 m)) k0 st {L with tm:=m}/\fS A B k0 w (w.setCell ⟨k0,3,N⟩ (I .u64 m)):=by
 have c:∀b,b≠k0->(w.setCell ⟨k0,3,N⟩ (I .u64 m)).heap[b]?=w.heap[b]?:=λb a=>Ra a
 have f:∀j,j≠3->(w.setCell ⟨k0,3,N⟩ (I .u64 m)).cell? ⟨k0,j,N⟩=w.cell? ⟨k0,j,N⟩:=λj R=>cO _ _ _ _ (bI (by omega))
 have i:∀j,(w.setCell ⟨k0,3,N⟩ (I .u64 m)).frozen? ⟨k0,j,N⟩=w.frozen? ⟨k0,j,N⟩:=λj=>n8 ..
 have l:=λb a=>c b (λe=>h.ls.ND (e▸a))
 have⟨p,P,hN⟩:=h.store.tree;have⟨v,X,u,T,q,D,G⟩:=h.ls.opened;have⟨F,V,k⟩:=h.ls.told;have hlow:=h.ls.low;refine⟨⟨⟨h.store.ND,⟨p,(f 0 (by omega)).t P,au.Nx (λb a _=>⟨a,l b a⟩) 41 _ _ hN⟩,(f 1 (by omega)).t h.store.count,(f 2 (by omega)).t h.store.last,λj=>(i j).t (h.store.frozen j)⟩,⟨⟨v,(f 4 (by omega)).t X,u,T,bG q λg y=>c g (by have:=(q.lt g y).1;omega),D,λz hz=>au.Nx (λb a _=>⟨a,l b a⟩) 41 _ _ (G z hz)⟩,(f 5 (by omega)).t h.ls.begun,⟨F,(f 6 (by omega)).t V,?_⟩,λj=>(i j).t (h.ls.frozen j),h.ls.ND,h.ls.low,λb a=>by simpa using h.ls.Of b a⟩,cS _ _ _ (by rw[h.time];rfl)⟩,⟨Q,by simp,λb _ _ a=>c b a,λb a _=>l b a,λj R=>f j (by omega),i⟩⟩;rcases k with k|⟨o,s,d,x,r,n⟩;exact Rf k;exact Rg ⟨o,s,d,x,(c o (by have:=n.2.2;omega)).t r,n⟩
def fI(L:Lg)(u:ey):Lg×ey:=if u<0\/1000<u then(L,11)else(nL {L with tm:=IntKind.u64.wrap (L.tm+u)} u,0)
theorem Lb w(h:bh A B w k0 st L)(j:L.opened.length<=3)(u:ey)(i:∀x∈L.opened,0<=x.left/\x.left<=10):
  Calls Vp 24 #[O (J ⟨k0,0,N⟩),I K u] w λe w'=>e=Rc (I K (fI L u).2)/\bh A B w' k0 st (fI L u).1/\fS A B k0 w w'/\FrC k0 w w':=by
 have HD:=aq h;have a:=(bf.refl (A:=A) (B:=B) (k0:=k0) (w:=w)).OA;by_cases f:u<0\/1000<u
 have e:fI L u=(L,11):=by rw[fI,gL f]
 rw[e];clear h;rcases f with l|q;go_enter (Yq.nq func24),ntmps24;go_wp2_with fail
 go_ret;exact⟨Q,HD.o,a,FrC.refl⟩;have l:¬u<0:=by omega
 go_enter (Yq.nq func24),ntmps24;go_wp2_with fail
 go_ret;exact⟨Q,HD.o,a,FrC.refl⟩;have e:fI L u=(nL {L with tm:=IntKind.u64.wrap (L.tm+u)} u,0):=by rw[fI,gI f]
 rw[e];have l:¬u<0:=by omega
 have q:¬1000<u:=by omega
 have n:=h.time;have HS:=Iz k0 L.tm u w n (h.ls.frozen 3);have HP:Hid (∀m,Calls Vp 54 #[O (J ⟨k0,4,N⟩),I K u] (w.setCell ⟨k0,3,N⟩ (I .u64 m)) λe w'=>e=Rc (Re #[])/\bh A B w' k0 st (nL {L with tm:=m} u)/\fS A B k0 w w'/\FrC k0 w w'):=λm=>by
  have⟨k,p⟩:=HD.o.OP m;refine(La _ k.ls j u (by omega) i).m ?_;rintro e w' ⟨rfl,d,b,c⟩;exact⟨Q,k.step b (λ_ h=>h) d Q,p.t b.OA,(FrC.set 3 _ (by omega)).t c⟩
 clear h n;go_enter (Yq.nq func24),ntmps24;go_wp2_with (first
  |(go_at_call 53;refine HS.m ?_;clear HS;rintro e w1 ⟨rfl,rfl⟩)
  |(go_at_call 54;refine(HP.o _).m ?_;clear HP;rintro e w2 ⟨rfl,d,b,c⟩))
 go_ret;exact⟨Q,d,b,c⟩
end
def iT(x:LsA):ItD:=⟨0,⟨#[]⟩,x.left⟩
theorem zi(v:ey)w:(Sd 67 #[(2,I K v)]).run Vp w=.ok (Rd #[I K 0,U ⟨#[]⟩,I K v]) w:=by kernel_rfl
section
variable {A:Nat->Prop} {B k0:Nat} {L:Lg}
theorem EP w(h:eP A B w k0 L)(hop:L.opened.length<=3):
  Calls Vp 26 #[O (J ⟨k0,4,N⟩)] w λe w'=>∃sv,e=Rc sv/\w'.ownsRow w.heap.size 67 3 sv (L.opened.map iT).length (az (L.opened.map iT))/\Below w.heap.size w w':=by
 have⟨v4,c4,a,D,z,z3,z4⟩:=h.opened;obtain⟨x,R,rfl,-⟩:=ao z;have hlz:L.opened.length=a.length:=by rw[D];simp
 have hlt:=h.lt;obtain⟨NA,c⟩:∃NA:H->S ItD,NA=λi=>((a.map (·.1)).map iT).take i:=⟨_,Q⟩
 have HI:=aq c;have T:∀i,i<=a.length->(NA i).length=i:=λi hi=>by rw[c];simp;omega
 have r:Hid ((L.opened.map iT)=NA a.length):=by
  show L.opened.map iT=NA a.length;rw[c,D];exact(tO (by simp)).s
 have hzl:a.length<=3:=by omega
 rw[r.o];have HZ:=aq z;have⟨i0,X,y,F,G⟩:=RJ Yq.Od;have hbi:=zi;clear h D z z3 z4 c;go_enter (Yq.nq func26),ntmps26;go_wp2_with fail
 go_loopw [3,5,11] (λs3 _ s11 wr=>∃i:H,i<=a.length/\s11=I K i/\wr.ownsRow w.heap.size 67 3 s3 i (az (NA i))/\Below w.heap.size w wr) (λ_ _ s11 _=>a.length-(intOf s11).toNat)
 case atStart=>exact⟨0,Q8,Q,by rw[HI.o];exact⟨Q,Rf ⟨Q,Q⟩⟩,Q9⟩
 case round=>
  obtain⟨i,hi,rfl,b,l⟩:=hrel;obtain⟨so,sc,rfl,-⟩:=ao b;by_cases n:i<a.length
  obtain⟨g,m,he⟩:∃g m,RY x a.length R=M (J ⟨g,0,N⟩) a.length m:=by
   rcases HZ.o.2 with⟨h1,h2⟩|⟨g,m,cur,h1,-⟩;omega;exact⟨g,m,h1⟩
  cases he;have⟨q0,q1,q2,q3,q4,q5,q6,q7⟩:=nK HZ.o i n;replace q0:=ag l q0;replace q1:=ag l q1;replace q2:=ag l q2;replace q3:=ag l q3;replace q4:=ag l q4;replace q5:=ag l q5;replace q6:=ag l q6;replace q7:=ag l q7;have HS:Hid (NA (i+1)=NA i++[⟨0,⟨#[]⟩,a[i].1.left⟩]):=by
   show NA (i+1)=NA i++[⟨0,⟨#[]⟩,a[i].1.left⟩];rw[HI.o];simp only;rw[tS (by simpa using n)];simp[iT]
  obtain⟨O1,v⟩:∃O1,O1=Obj.cells #[I K a[i].1.num,O a[i].2,C a[i].1.q.vs,U a[i].1.q.p,U a[i].1.q.d,U a[i].1.q.af,I K a[i].1.size,I K a[i].1.left] 116:=⟨_,Q⟩;obtain⟨O2,t⟩:∃O2,O2=Obj.cells #[I K 0,U ⟨#[]⟩,I K a[i].1.left] 67:=⟨_,Q⟩;have f:Hid (((wr.alloc O1).alloc O2).ownsRow w.heap.size 67 3 (M so i sc) i (az (NA i))/\Below w.heap.size w wr/\∀k,(RY so i sc).ownBlock=J k->w.heap.size<=k):=⟨(b.alloc _).alloc _,l,λk e=>(b.lt k e).1⟩;have HN:Hid (∀j u,[R4 K 0,U ⟨#[]⟩,I K a[i].1.left][j]?=J u->((wr.alloc O1).alloc O2).cell? ((⟨wr.heap.size+1,0,N⟩:Wu).add j)=J u):=by
   rw[t];have:=nE (wr.alloc O1) (I K 0) (U ⟨#[]⟩) (I K a[i].1.left) 67
   rwa [tb]at this
  have hbs:=l.size;rw[v,t]at f HN;clear b l;go_wp2_with (at_builtin;refine wpList_append_own _ Q _ _ 51 Q w.heap.size 67 i0 _ 3 32 (Yq.u underlying51) X y F G Q (by decide) _ _ _ Q f.o.1 ⟨wr.heap.size+1,0,N⟩ 1 1 [I K 0,U ⟨#[]⟩,I K a[i].1.left] ?qa Q ?qb ?qc ?qd ?qe ?qf ?_)
  case qa=>rfl
  case qb=>exact HN.o
  case qc=>simp[Value.oneCell']
  case qd=>simp only[Rx];omega
  case qe=>omega
  case qf=>simp;omega
  intro v' w3 P hg _;obtain⟨aa,V,rfl,-⟩:=ao P;have HE:Hid (w3.ownsRow w.heap.size 67 3 (M aa (i+1) V) (i+1) (az (NA i)++[I K 0,U ⟨#[]⟩,I K a[i].1.left])/\Below w.heap.size w w3):=
   ⟨P,((f.o.2.1.alloc f.o.2.1.size _).alloc (by have:=f.o.2.1.size;simp;omega) _).grown hg (by simp;omega) f.o.2.2⟩
  clear P hg;go_wp2_with fail
  refine⟨⟨i+1,by omega,by go_num,?_,HE.o.2⟩,by simp[intOf];omega⟩;rw[HS.o,om];exact HE.o.1;have:i=a.length:=by omega
  subst this;go_wp2_with fail
  go_ret;refine⟨_,Q,?_,l⟩;rw[T _ Q0];exact b
theorem EQ w(h:eP A B w k0 L)(a:eV)(d:ez a L.told=N):
  Calls Vp 22 #[O (J ⟨k0,4,N⟩),U a] w λe w'=>e=Rc (Re #[Rd #[M N 0 0,U ⟨#[]⟩],I K 9])/\bZ A B k0 w L [] (M N 0 0) w':=by
 have⟨mv,c6,c⟩:=h.told;have hlt:=h.lt;have b:=nI (c.left (ax.refl.alloc (E #[M N 0 0,U ⟨#[]⟩] 79))) a;rw[d]at b;simp only[Sn,Option.isSome_none,plV]at b;have HL:=aq h;have hbp:=gx;clear h c;go_enter (Yq.nq func22),ntmps22;go_wp2_with fail
 exact Rw (v:=Re #[Rd #[M N 0 0,U ⟨#[]⟩],I K 9]) (by simp[results,results22,go_sem]) Q ⟨Q,bZ.same HL.o ((ax.refl.alloc _).alloc _)⟩
theorem ER w(h:eP A B w k0 L)(d:eV)(n pg:ey)(hop:L.opened.length<=3)(u:ez d L.told=J (n,pg))(F:mR n L.opened=N):
  Calls Vp 22 #[O (J ⟨k0,4,N⟩),U d] w λe w'=>e=Rc (Re #[Rd #[M N 0 0,U ⟨#[]⟩],I K 10])/\bZ A B k0 w L [] (M N 0 0) w':=by
 have⟨mv,c6,s⟩:=h.told;have⟨v4,c4,r,q,p,D,G⟩:=h.opened;obtain⟨k,l,rfl,-⟩:=ao p;have hlz:L.opened.length=r.length:=by rw[q];simp
 have hlt:=h.lt;have hk1:k0<w.heap.size+1:=by omega
 have i:=nI (s.left (ax.refl.alloc (E #[M N 0 0,U ⟨#[]⟩] 79))) d;rw[u]at i;simp only[Sm,Sp,plV]at i;obtain⟨W,c⟩:∃W,W=(w.alloc (E #[M N 0 0,U ⟨#[]⟩] 79)).alloc (E #[I K n,I K pg] 120):=⟨_,Q⟩;have f:ax w W:=by rw[c];exact(ax.refl.alloc _).alloc _
 have b:=AM B k l r (w.heap.size+1) n W (bO p λg _ z=>f.block g z) (by omega) (by
  rw[c];have:=cA (w:=w.alloc (E #[M N 0 0,U ⟨#[]⟩] 79)) #[I K n,I K pg] 120 (w.heap.size+1) 0 (by simp);rw[this];rfl)
 rw[<-q,F]at b;simp only[Sq,Sn]at b;have HL:=bJ h f;have HF:Hid (∀a,Below W.heap.size W a->a.cell? ⟨w.heap.size,0,N⟩=J (M N 0 0)/\a.cell? ⟨w.heap.size,1,N⟩=J (U ⟨#[]⟩)/\a.frozen? ⟨w.heap.size,0,N⟩=Z/\a.frozen? ⟨w.heap.size,1,N⟩=Z):=λa y=>by
  have e:a.heap[w.heap.size]?=J (E #[M N 0 0,U ⟨#[]⟩] 79):=by
   rw[y.block _ (by rw[c];simp;omega),c,Rb (by simp)];exact aN _ _
  exact⟨by simp[pt,e],by simp[pt,e],by simp[sq,e],by simp[sq,e]⟩
 have x:=aq c;have hbp:=gx;have hWs:W.heap.size=w.heap.size+2:=by rw[c];simp
 clear h s q p D G f;subst c;go_enter (Yq.nq func22),ntmps22;go_wp2_with (go_at_call 50;refine b.m ?_;clear b;rintro e a ⟨rfl,j⟩;have⟨s0,s1,u0,u1⟩:=HF.o a j)
 exact Rw (v:=Re #[Rd #[M N 0 0,U ⟨#[]⟩],I K 10]) (by simp[results,results22,go_sem,s0,s1]) Q ⟨Q,bZ.same HL.o.1 (((HL.o.2.t (.below j)).set Q0 _ _).set Q0 _ _)⟩
end
theorem dA.set{b}(h:dA w b):dA (w.setCell ⟨b,j,N⟩ x) b:=by
 obtain⟨a,e1,c⟩:=h;cases a with
 |cells d e z=>
  refine⟨E (d.setIfInBounds j x) e z,?_,Q⟩;show(w.heap.modify b _)[b]?=_
  grind
 |_=>cases c
theorem dA.of_block{w'}{b}(h:dA w b)(e:w'.heap[b]?=w.heap[b]?):dA w' b:=by
 obtain⟨o,a,c⟩:=h;exact⟨o,e.t a,c⟩
section
variable {A:Nat->Prop} {B k0:Nat} {L L2:Lg} {w X W7 w8:Wj} {sv:Wx} {pg:List ItD} {r0:Nat}
def kH(A:H->Prop)(sv:Wx):H->Prop:=λb=>A b\/sv.ownBlock=J b
theorem qE(h:eP A B X k0 L)(d:ax X W7)(a:W7.ownsRow X.heap.size 67 3 sv pg.length (az pg)):eP (kH A sv) B W7 k0 L:=
 h.more d (λ_ h=>Rf h) (λb c=>c.imp id λe=>(a.lt b e).1) (λb c=>by
  rcases c with c|c
  .exact lL (h.Of b c) d.size
  .exact (a.lt b c).2)
theorem ES(u:FrC k0 w X)(F:eN k0 W7 w8)(hw:∀b,A b->b<w.heap.size)(p:bf A B k0 w X)(q:ax X W7)(c:W7.ownsRow X.heap.size 67 3 sv pg.length (az pg))(G:eP (kH A sv) B w8 k0 L2)(y:bf (kH A sv) B k0 W7 w8)(D:w8.cell? ⟨k0,4,N⟩=X.cell? ⟨k0,4,N⟩)(hr1:w.heap.size<=r0)(hr2:r0<X.heap.size)(hB:B<=w.heap.size)(L:∀v g,X.cell? ⟨k0,4,N⟩=J v->v.ownBlock=J g->g≠r0)(P:dA w8 r0)z r:
  bZ A B k0 w L2 pg sv ((w8.setCell ⟨r0,0,N⟩ z).setCell ⟨r0,1,N⟩ r):=by
 have hlow:=G.low;have d:¬kH A sv r0:=λo=>by
  rcases o with o|o
  grind
  have:=(c.lt _ o).1;omega
 have i:r0≠k0:=by omega
 have f:k0<X.heap.size:=by grind
 have k:bf (kH A sv) B k0 W7 ((w8.setCell ⟨r0,0,N⟩ z).setCell ⟨r0,1,N⟩ r):=(y.t (bf.other i d (by omega))).t (bf.other i d (by omega));refine⟨kH A sv,λ_ h=>Rf h,λb l=>?_,(G.other (j:=0) (x:=z) i d P (λv g e=>L v g (D.s.t e))).other (j:=1) (x:=r) i d P.set (λv g e=>L v g (D.s.t ((cB (a:=⟨k0,4,N⟩) (Ra (show k0≠r0 by omega))).s.t e))),(p.t (bf.left f q)).t (k.m λ_ h=>Rf h),?_,?_⟩;rcases l with l|l
 grind
 have:=(c.lt b l).1;have:=p.size;exact Rg (by omega);exact⟨ba (bG c λg n=>k.tree g (Rg n) (c.lt g n).2) p.size,λg n=>Rg n⟩;exact(((u.t (FrC.left f q)).t (FrC.Qa F (D.t (cB (a:=⟨k0,4,N⟩) (q.block k0 f)).s))).fresh (by omega) i).fresh (by omega) i
theorem IA(f:FrC k0 w X)(h:eP A B X k0 L)(m:∀b,A b->b<w.heap.size)(l:bf A B k0 w X)(e:ax X W7)(c:W7.ownsRow X.heap.size 67 3 sv pg.length (az pg))(i:w.heap.size<=r0)(d:r0<X.heap.size)(o:B<=w.heap.size)(n:∀v g,X.cell? ⟨k0,4,N⟩=J v->v.ownBlock=J g->g≠r0)(p:dA X r0)j k:
  bZ A B k0 w L pg sv ((W7.setCell ⟨r0,0,N⟩ j).setCell ⟨r0,1,N⟩ k):=ES f (eN.refl _ _) m l e c (qE h e c) bf.refl (cB (a:=⟨k0,4,N⟩) (e.block k0 h.lt)) i d o n (p.of_block (e.block r0 d)) j k
theorem IB(q:FrC k0 w X)(h:eP A B X k0 L)(z:∀b,A b->b<w.heap.size)(y:bf A B k0 w X)(f:ax X W7)(c:W7.ownsRow X.heap.size 67 3 sv pg.length (az pg))(r:w.heap.size<=r0)(i:r0<X.heap.size)(P:B<=w.heap.size)(G:∀v g,X.cell? ⟨k0,4,N⟩=J v->v.ownBlock=J g->g≠r0)(R:dA X r0)(u:eV)(k:ey×ey):
  Calls Vp 49 #[O (J ⟨k0,4,N⟩),U u,plV k] W7 λe w8=>e=Rc (Re #[])/\eN k0 W7 w8/\∀s l,bZ A B k0 w {L with told:=ml u k L.told} pg sv ((w8.setCell ⟨r0,0,N⟩ s).setCell ⟨r0,1,N⟩ l):=by
 have hlow:=h.low;have:=f.size;refine(EM W7 (qE h f c) (by omega) u k).m ?_;rintro e w8 ⟨rfl,D,p,d,j⟩;refine⟨Q,d,λs l=>?_⟩;have n:dA w8 r0:=by
  have⟨o,F,x⟩:=R.of_block (f.block r0 i);exact⟨o,d.2.2 r0 o F x (by omega),x⟩
 exact ES q d z y f c D p ((j 4 (by omega)).t (cB (a:=⟨k0,4,N⟩) (f.block k0 h.lt))) r i P G n s l
end
theorem cX{a}{i:Prop}
  (u:o.guard=N) (f:FuncId) (n:eW Operand) (r:eW Ww) (q:o.op=Op.call {callee:=Callee.value (.func f),args:=n,argTypes:=r})
  (j:eW Wx) (x:n.map a.eval=j) (k:(callFunc f j).run P w=.ok (.enter f j) w)
  (R:Wx->Wj->Prop) (c:S PanicEntry->Wj->Prop) (s:Calls P f j w λe w'=>(∃v,e=Rc v/\R v w')\/∃l,e=.panicked l/\c l w') (hS:∀l w',c l w'->h (.panic l) a w') (hK:∀v w',R v w'->b (a.put o.dst v) w'):
  if R9 o (yielded y a.tmps)=Y then Sz P o a w b h else i:=by
 rw[gL (by simp[R9,u])];subst x;unfold Sz;have e:(RG a.eval o).run P w=.ok (.enter f (n.map a.eval)) w:=by
  have t:RG a.eval o=(do let d <-resolve a.eval {callee:=Callee.value (.func f),args:=n,argTypes:=r} o.type;invoke d.target d.args):=by simp[RG,q]
  rw[t];simpa[resolve,Deferred.ofValue,Act.eval,invoke]using k
 rw[e,Oper.upon_enter];refine s.m ?_
 grind
noncomputable def JD:Code:=dr (dr (dr (dr (dr (dr (dr (cD Si)))))))
def wR(k0 r0 a bx:H)(u:H->Wx):eW Wx:=
 #[O (J ⟨k0,4,N⟩),u 1,u 2,u 3,O (J ⟨r0,0,N⟩),u 5,O (J ⟨a,0,N⟩),u 7,u 8,O (J ⟨bx,0,N⟩),u 10,u 11,u 12,u 13,u 14,u 15,u 16,u 17,u 18,u 19,u 20,u 21,u 22,u 23,u 24,u 25,u 26,u 27,u 28,u 29,u 30,u 31,u 32,u 33,u 34,u 35,u 36,u 37,u 38,u 39,u 40,u 41,u 42,u 43,u 44,u 45,u 46,u 47,u 48,u 49,u 50,u 51,u 52,u 53,u 54,u 55,u 56,u 57,u 58,u 59,u 60,u 61]
section
variable {A:Nat->Prop} {B k0:Nat} {L:Lg}
theorem ET(Qok:Qy->Prop){X W7}{r0 r y}{u:H->Wx}{V sc}{f:eV}{n pg:ey}(p:FrC k0 w X)(h:eP A B X k0 L)(hw:∀b,A b->b<w.heap.size)(P:bf A B k0 w X)(q:ax X W7)(d:W7.ownsRow X.heap.size 67 3 (M R V sc) NA.length (az NA))(F:w.heap.size<=r0)(k:r0<X.heap.size)(hB:B<=w.heap.size)(hv:∀v g,X.cell? ⟨k0,4,N⟩=J v->v.ownBlock=J g->g≠r0)
  (b0:X.heap[r0]?=J (E #[M N 0 0,U ⟨#[]⟩] 79)) (b1:X.heap[r]?=J (E #[I K n,I K pg] 120)) (c0:W7.cell? ⟨y,0,N⟩=J (M R V sc)) (c1:W7.cell? ⟨y,1,N⟩=J (U f)) (hbx:X.heap.size<=y) (_hbt:w.heap.size<=r) (hpg:0<=pg/\pg<2199023255552):
  JD.wp Vp (bodyPost Vp Si λe w'=>(∃sv,e=Rc (Re #[Rd #[sv,U f],I K 0])/\bZ A B k0 w ⟨L.opened,L.begun,if f=⟨#[]⟩then L.told else ml f (n,pg+1) L.told,L.tm⟩ NA sv w')\/Stop Qok e w') ⟨wR k0 r0 r y u,[]⟩ W7:=by
 have hlow:=h.low;have hlt:=h.lt;have hsX:=P.size;have hs7:=q.size;have T:k0≠r0:=by omega
 have i:dA X r0:=⟨_,b0,Q⟩;have x:=(q.block r0 k).t b0;have e1:=(q.block r ((eS b1).1)).t b1;have s0:W7.cell? ⟨r0,0,N⟩=J (M N 0 0):=by simp[pt,x]
 have s1:W7.cell? ⟨r0,1,N⟩=J (U ⟨#[]⟩):=by simp[pt,x]
 have y0:W7.frozen? ⟨r0,0,N⟩=false:=by simp[sq,x]
 have y1:W7.frozen? ⟨r0,1,N⟩=false:=by simp[sq,x]
 have p0:W7.cell? ⟨r,0,N⟩=J (I K n):=by simp[pt,e1]
 have p1:W7.cell? ⟨r,1,N⟩=J (I K pg):=by simp[pt,e1]
 have HL:=IA p h hw P q d F k hB hv i;have HK:=IB p h hw P q d F k hB hv i f (n,pg+1);have hwr:wrap64 (pg+1)=pg+1:=by unfold wrap64;omega
 have hbq:=qB;have ac:=aq HL;unfold plV at HK;generalize hQ:bodyPost Vp Si _=a;have HQ:=aq hQ;clear hQ HL h hw P q d p hv b0 b1 x e1 i;unfold wR;dsimp only[JD,cD,Si,i8,dr,Option.getD];by_cases l:f=⟨#[]⟩
 .subst l;go_wp2_with fail
  rw[<-HQ.o];refine Rw (v:=Re #[Rd #[M R V sc,U ⟨#[]⟩],I K 0]) (by simp[results,results22,go_sem,s0,s1]) Q (Rf ⟨_,Q,?_⟩);simp;exact ac.o _ _
 have G:=λhx=>by
  have:(f==(⟨#[]⟩:eV))=true:=by rw[Ry];simpa using hx
  exact l ((Sy _ _).1 this)
 have hne:(f.toList == [])=false:=by simpa using G
 have D:y≠k0:=by omega
 go_wp2_with (go_at_call 49;refine HK.m ?_;clear HK;rintro e w8 ⟨rfl,c,z⟩;have c0':=c.cell c0 D;have c1':=c.cell c1 D;have ab:=c.cell s0 T.s;have aa:=c.cell s1 T.s;have y0':=(c.frozen s0 T.s).t y0;have y1':=(c.frozen s1 T.s).t y1)
 rw[<-HQ.o];refine Rw (v:=Re #[Rd #[M R V sc,U f],I K 0]) (by simp[results,results22,go_sem,ab,aa]) Q (Rf ⟨_,Q,?_⟩);rw[gI l];exact z _ _
theorem EU(Qok:Qy->Prop)(hQ:∀q,Qok q->jB q/\jC q)w(h:eP A B w k0 L)(hB:B<=w.heap.size)(a3:eV)(n pg:ey)i x(hop:L.opened.length<=3)(hf:ez a3 L.told=J (n,pg))(hn:mR n L.opened=J i)(hx:L.opened[i]?=J x)(hq:Qok x.q)(ap:fU (bV x.f x.q.p.data.toList)<=1000)(hp:x.q.p.size<=Rx)(b2:0<=pg/\pg<2199023255552)(G:Wj->Prop)(a9:∀w',G w'->dH w')(hG:∀w',bf A B k0 w w'->G w')(hT:mO G n (pg+1)):
  Calls Vp 22 #[O (J ⟨k0,4,N⟩),U a3] w λe w'=>
   (∃sv,e=Rc (Re #[Rd #[sv,U (x.tok pg)],I K 0])/\bZ A B k0 w ⟨L.opened.set i (x.again 10),L.begun,if x.tok pg=⟨#[]⟩then L.told else ml (x.tok pg) (n,pg+1) L.told,L.tm⟩ (x.NI pg) sv w')\/Stop Qok e w':=by
 have⟨mv,c6,hm⟩:=h.told;have⟨v4,c4,j,z1,z2,z3,z4⟩:=h.opened;have bp:L.opened.length=j.length:=by rw[z1];simp
 have a1:x.num=n:=by
  obtain⟨h1,h2,-⟩:=vx.1 hn;rw[eL h1]at hx;cases hx;simpa using h2
 have hi:i<j.length:=by rw[<-bp];exact(sL hx).1
 have a6:j[i].1=x:=by
  rw[z1,List.getElem?_map,eL hi]at hx;simpa using hx
 obtain⟨g,aa,bv⟩:∃g aa,v4=M (J ⟨g,0,N⟩) j.length aa:=by
  rcases z2.2 with⟨h1,h2⟩|⟨g,aa,bq,h1,-⟩
  .omega
  .exact ⟨g,aa,h1⟩
 subst bv;have hgw:=(z2.lt g Q);have ai:=h.lt;have hlow:=h.low;have hk1:k0<w.heap.size+1:=by omega
 have a7:=nI (hm.left (ax.refl.alloc (E #[M N 0 0,U ⟨#[]⟩] 79))) a3;rw[hf]at a7;simp only[Sm,Sp,plV]at a7;obtain⟨W,hW⟩:∃W,W=(w.alloc (E #[M N 0 0,U ⟨#[]⟩] 79)).alloc (E #[I K n,I K pg] 120):=⟨_,Q⟩;have a4:ax w W:=by rw[hW];exact(ax.refl.alloc _).alloc _
 have hWs:W.heap.size=w.heap.size+2:=by rw[hW];simp
 have be:W.heap[w.heap.size]?=J (E #[M N 0 0,U ⟨#[]⟩] 79):=by
  rw[hW,Rb (by simp)];exact aN _ _
 have a2:W.heap[w.heap.size+1]?=J (E #[I K n,I K pg] 120):=by
  rw[hW];have:=aN (w.alloc (E #[M N 0 0,U ⟨#[]⟩] 79)) (E #[I K n,I K pg] 120)
  rwa [tb]at this
 have al:=AM B (J ⟨g,0,N⟩) aa j (w.heap.size+1) n W (bO z2 λg _ hg=>a4.block g hg) (by omega) (by simp[pt,a2]);rw[<-z1,hn]at al;simp only[Su,Sm]at al;obtain⟨tk,ar⟩:∃tk,tk=x.tok pg:=⟨_,Q⟩;obtain⟨R,ab⟩:∃R,R=x.NI pg:=⟨_,Q⟩;have HA:Hid (∀F,Below W.heap.size W F->(F.cell? ⟨k0,4,N⟩=J (M (J ⟨g,0,N⟩) j.length aa)/\F.frozen? ⟨g,i*8+7,N⟩=Z/\F.cell? ⟨g,i*8+7,N⟩=J (I K x.left)) /\
   (∀X,X=F.setCell ⟨g,i*8+7,N⟩ (I K 10)->eP A B X k0 {L with opened:=L.opened.set i (x.again 10)}/\bf A B k0 w X/\au A 41 X j[i].2 x.f/\(X.cell? ⟨k0,4,N⟩=J (M (J ⟨g,0,N⟩) j.length aa)/\k0<X.heap.size/\g<X.heap.size/\w.heap.size+2<=X.heap.size) /\
    (X.cell? ⟨g,i*8,N⟩=J (I K n)/\X.cell? ⟨g,i*8+1,N⟩=J (O j[i].2)/\X.cell? ⟨g,i*8+2,N⟩=J (C x.q.vs)/\X.cell? ⟨g,i*8+3,N⟩=J (U x.q.p)/\X.cell? ⟨g,i*8+4,N⟩=J (U x.q.d)/\X.cell? ⟨g,i*8+5,N⟩=J (U x.q.af)/\X.cell? ⟨g,i*8+6,N⟩=J (I K x.size)/\X.cell? ⟨g,i*8+7,N⟩=J (I K 10)) /\
    X.heap[w.heap.size]?=J (E #[M N 0 0,U ⟨#[]⟩] 79)/\X.heap[w.heap.size+1]?=J (E #[I K n,I K pg] 120)/\FrC k0 w X)):=λF y=>by
  have T:ax w F:=a4.t (.below y);have av:F.ownsRow B 116 8 (M (J ⟨g,0,N⟩) j.length aa) j.length (cy j):=bO z2 λg _ hg=>T.block g hg
  have q7:=(nK av i hi).2.2.2.2.2.2.2;rw[a6]at q7;have b8:F.frozen? ⟨g,i*8+7,N⟩=false:=by
   rcases av.2 with⟨h1,-⟩|⟨g',cap',bq,h1,-,hr,-⟩
   .cases h1
   .cases h1;simp[sq,hr]
  refine⟨⟨T.cell c4,b8,q7⟩,λX hX=>?_⟩;obtain⟨s1,s2,s3,s4⟩:=(h.left T).O8 (T.cell c4) z1 av (z3 g Q) (λz hz=>au.Nx (λb hb b6=>⟨hb,T.block b b6⟩) 41 _ _ (z4 z hz)) i hi 10;rw[a6]at s1 s3 s4;rw[<-hX]at s1 s2 s3 s4;have bo:i<(j.set i (x.again 10,j[i].2)).length:=by simpa using hi
  have bl:X.ownsRow B 116 8 (M (J ⟨g,0,N⟩) (j.set i (x.again 10,j[i].2)).length aa) (j.set i (x.again 10,j[i].2)).length (cy (j.set i (x.again 10,j[i].2))):=by simpa using s3
  have hc:=nK bl i bo;have e1:(j.set i (x.again 10,j[i].2))[i]=(x.again 10,j[i].2):=by simp
  rw[e1]at hc;have hsz:=T.size;have hXs:X.heap.size=F.heap.size:=by rw[hX];simp
  have a0:∀b,b≠g->X.heap[b]?=F.heap[b]?:=λb hb=>by rw[hX];exact Ra hb
  have hW1:=y.size;refine⟨s1,(bf.left ai T).t s2,s4 (x.again 10,j[i].2) (List.mem_iff_getElem?.2 ⟨i,by simp[hi]⟩),⟨(cB (a:=⟨k0,4,N⟩) (a0 k0 (by omega))).t (T.cell c4),by omega,by omega,by omega⟩,⟨by rw[<-a1];exact hc.1,hc.2.1,hc.2.2.1,hc.2.2.2.1,hc.2.2.2.2.1,hc.2.2.2.2.2.1,hc.2.2.2.2.2.2.1,hc.2.2.2.2.2.2.2⟩,?_,?_,?_⟩
  .rw [a0 _ (by omega),y.block _ (by omega)];exact be
  .rw [a0 _ (by omega),y.block _ (by omega)];exact a2
  .rw [hX];exact(FrC.left ai T).t (FrC.open ⟨_,T.cell c4,Q⟩ (by omega))
 have HP:Hid (∀F X,Below W.heap.size W F->X=F.setCell ⟨g,i*8+7,N⟩ (I K 10)->∀V,ax X V->Calls Vp 48 #[Rd #[I K n,O j[i].2,C x.q.vs,U x.q.p,U x.q.d,U x.q.af,I K x.size,I K 10],I K pg] V λe w'=>(∃v,e=Rc v/\(∃D P sc,v=Rd #[M D P sc,U tk]/\w'.ownsRow V.heap.size 67 3 (M D P sc) R.length (az R)/\ax V w'))\/∃ch,e=.panicked ch/\Stop Qok (.panicked ch) w'):=λF X y hX V hV=>by
  obtain⟨-,ad⟩:=HA.o F y;obtain⟨s1,s2,s3,s4,-⟩:=ad X hX;have bi:Me Qok ((x.again 10).N2 j[i].2) x.f V:=⟨.of (au.Nx (A':=λ_=>True) (λb _ ai=>⟨trivial,hV.block b ai⟩) 41 _ _ s3),hq,ap,hp,a9 _ (hG _ (s2.t (bf.left s4.2.1 hV)))⟩;have b7:IntKind.i64.wrap (pg+1)=pg+1:=by rw[nG];unfold wrap64;omega
  have a8:=yW Qok hQ ((x.again 10).N2 j[i].2) pg x.f V bi G (λw' hl=>hG w' ((s2.t (bf.left s4.2.1 hV)).t (bf.left (lL s4.2.1 hV.size) hl))) (λ_=>by
   rw[b7];show mO G x.num (pg+1);rw[a1];exact hT)
  rw[show lV ((x.again 10).N2 j[i].2)=Rd #[I K n,O j[i].2,C x.q.vs,U x.q.p,U x.q.d,U x.q.af,I K x.size,I K 10]by rw[<-a1];rfl]at a8;refine a8.m ?_;rintro e w' (⟨sv,rfl,h3,h4⟩|hs)
  .left
   rw[jr (l:=(x.again 10).N2 j[i].2) (l':=x.N2 N) Q]at h3;obtain⟨D,P,rfl,-⟩:=ao h3;rw[ar,ab];exact⟨_,Q,D,_,P,Q,h3,h4⟩
  .obtain ⟨a,b,r,rfl,b4⟩:=hs;exact Rg ⟨_,Q,a,b,r,Q,b4⟩
 have bd:Hid (∀ (ac:eW Wx) (wx:Wj),(callFunc 48 ac).run Vp wx=.ok (.enter 48 ac) wx):=λac wx=>by go_simp
 have HW:=aq h.Of;have hiI:¬((i:ey)<0):=by omega
 have hbp:=gx;rw[<-ar,<-ab];clear ar ab;clear h hm z1 z2 z3 z4 a4 be a2 hq ap hp hG a9 hT hQ hx hn hf;subst hW;go_enter (Yq.nq func22),ntmps22
 go_upto_region 8 with(go_at_call 50;refine al.m ?_;clear al;rintro e F ⟨rfl,y⟩;obtain⟨⟨m4,f7,q7⟩,-⟩:=HA.o F y)
 obtain⟨X,hX⟩:∃X,X=F.setCell ⟨g,i*8+7,N⟩ (I K 10):=⟨_,Q⟩;rw[<-hX];obtain⟨-,ad⟩:=HA.o F y;have⟨s1,s2,s3,⟨x4,xk,xg,xs⟩,⟨q0,q1,q2,q3,q4,q5,q6,q8⟩,b0,b1,bk⟩:=ad X hX;have p0:X.cell? ⟨w.heap.size+1,0,N⟩=J (I K n):=by simp[pt,b1]
 have p1:X.cell? ⟨w.heap.size+1,1,N⟩=J (I K pg):=by simp[pt,b1]
 have xw:w.heap.size+1<X.heap.size:=by omega
 have HS:=gB s1 s2 b0 b1 hX;have bt:=aq bk;have HV:Hid (∀k,ax (X.alloc (E #[M N 0 0,U ⟨#[]⟩] 79)).drew k->k.cell? ⟨X.heap.size,0,N⟩=J (M N 0 0)/\k.cell? ⟨X.heap.size,1,N⟩=J (U ⟨#[]⟩)/\k.frozen? ⟨X.heap.size,0,N⟩=Z/\k.frozen? ⟨X.heap.size,1,N⟩=Z):=λk hl=>by
  have e:k.heap[X.heap.size]?=J (E #[M N 0 0,U ⟨#[]⟩] 79):=(hl.block _ (by simp)).t (aN X _);exact⟨by simp[pt,e],by simp[pt,e],by simp[sq,e],by simp[sq,e]⟩
 clear ad s1 s2 s3 b0 b1 hX bk;have bn:Hid (∀v g',X.cell? ⟨k0,4,N⟩=J v->v.ownBlock=J g'->g'≠w.heap.size):=λv g' hv b3=>by
  rw[x4]at hv;cases hv;cases b3;show g≠w.heap.size;omega
 rename_i K1 bb;have a5:Hid (∀ (a:Act) (W7:Wj) (bx:H) (D:dT Wu) (P sc:H),a=⟨wR k0 w.heap.size (w.heap.size+1) bx (λi=>a.tmps.getD i Wo),[]⟩->ax X W7->W7.ownsRow X.heap.size 67 3 (M D P sc) R.length (az R)->W7.cell? ⟨bx,0,N⟩=J (M D P sc)->W7.cell? ⟨bx,1,N⟩=J (U tk)->X.heap.size<=bx->K1 a W7):=λa W7 bx D P sc ha hl c c0 c1 b5=>by
  refine bb a W7 ?_;rw[ha];have:=ET (L:={L with opened:=L.opened.set i (x.again 10)}) Qok (u:=λi=>a.tmps.getD i Wo) bt.o HS.o.1 HW.o HS.o.2.1 hl c Q0 (by omega) hB bn.o HS.o.2.2.1 HS.o.2.2.2.1 c0 c1 b5 (by omega) b2;exact this
 have bw:Hid (∀k D P sc,ax X.drew k->k.ownsRow X.drew.heap.size 67 3 (M D P sc) R.length (az R)->∀a,a=⟨wR k0 w.heap.size (w.heap.size+1) k.heap.size (λi=>a.tmps.getD i Wo),[]⟩->K1 a (k.alloc (E #[M D P sc,U tk] 79))):=λk D P sc s c a ha=>by
  have aj:ax X k:=(ax.refl.drew).t s;refine a5.o a _ k.heap.size D P sc ha (aj.alloc _) (bO c λg _ hg=>Rb hg) ?_ ?_ aj.size
  .rw [cA (w:=k) _ _ k.heap.size 0 Q];rfl
  .rw [cA (w:=k) _ _ k.heap.size 1 Q];rfl
 have bs:Hid (∀k D P sc,ax (X.alloc (E #[M N 0 0,U ⟨#[]⟩] 79)).drew k->k.ownsRow (X.alloc (E #[M N 0 0,U ⟨#[]⟩] 79)).drew.heap.size 67 3 (M D P sc) R.length (az R)->∀a,a=⟨wR k0 w.heap.size (w.heap.size+1) X.heap.size (λi=>a.tmps.getD i Wo),[]⟩->K1 a ((k.setCell ⟨X.heap.size,0,N⟩ (M D P sc)).setCell ⟨X.heap.size,1,N⟩ (U tk))):=λk D P sc s c a ha=>by
  have aj:ax X k:=((ax.refl.alloc _).drew).t s;have⟨v0,v1,o0,o1⟩:=HV.o k s;have hbs:(X.alloc (E #[M N 0 0,U ⟨#[]⟩] 79)).drew.heap.size=X.heap.size+1:=by simp
  refine a5.o a _ X.heap.size D P sc ha ((aj.set Q0 _ _).set Q0 _ _) (ba (bO c λg h1 hg=>?_) (by omega)) ?_ ?_ Q0
  .rw [Ra (show g≠X.heap.size by omega),Ra (show g≠X.heap.size by omega)]
  .rw [cO _ _ _ _ (bI (by omega))];exact cS _ _ _ (by rw[v0];rfl)
  .exact cS _ _ _ (by rw[cO _ _ _ _ (bI (by omega)),v1];rfl)
 clear bb
 go_region_law (first
  |(refine cX rfl 48 #[Rh 44,Rh 46] #[116,3] rfl #[Rd #[I K n,O j[i].2,C x.q.vs,U x.q.p,U x.q.d,U x.q.af,I K x.size,I K 10],I K pg] (by simp[Act.eval]) (bd.o _ _) _ (λch w'=>Stop Qok (.panicked ch) w') (HP.o F X y HS.o.2.2.2.2 X.drew ax.refl.drew) (λch w' hs=>⟨Q,Or.inr hs⟩) ?_;rintro v k ⟨D,P,sc,rfl,c,s⟩;have HE:Hid (_/\_):=Sv c s;clear c s)
  |(refine cX rfl 48 #[Rh 44,Rh 46] #[116,3] rfl #[Rd #[I K n,O j[i].2,C x.q.vs,U x.q.p,U x.q.d,U x.q.af,I K x.size,I K 10],I K pg] (by simp[Act.eval]) (bd.o _ _) _ (λch w'=>Stop Qok (.panicked ch) w') (HP.o F X y HS.o.2.2.2.2 (X.alloc (E #[M N 0 0,U ⟨#[]⟩] 79)).drew (ax.refl.alloc _).drew) (λch w' hs=>⟨Q,Or.inr hs⟩) ?_;rintro v k ⟨D,P,sc,rfl,c,s⟩;have⟨v0,v1,o0,o1⟩:=HV.o k s;have HE:Hid (_/\_):=Sv c s;clear c s))
 all_goals first
  |exact bw.o k D P sc HE.o.2 HE.o.1 _ Q
  |exact bs.o k D P sc HE.o.2 HE.o.1 _ Q
end
theorem Lc{k0}{L}(Qok:Qy->Prop)(u:∀q,Qok q->jB q/\jC q)w(h:eP A B w k0 L)(D:B<=w.heap.size)(a:eV)(j:L.opened.length<=3)(d:∀x∈L.opened,Qok x.q/\fU (bV x.f x.q.p.data.toList)<=1000/\x.q.p.size<=Rx)(k:∀n pg,ez a L.told=J (n,pg)->0<=pg/\pg<2199023255552)(G:Wj->Prop)(l:∀w',G w'->dH w')(v:∀w',bf A B k0 w w'->G w')(y:∀n pg,ez a L.told=J (n,pg)->(mR n L.opened).isSome=Y->mO G n (pg+1)):
  Calls Vp 22 #[O (J ⟨k0,4,N⟩),U a] w λe w'=>
   (∃sv,e=Rc (Re #[Rd #[sv,U (dY L a).2.2.1],I K (dY L a).2.2.2])/\bZ A B k0 w (dY L a).1 (dY L a).2.1 sv w')\/Stop Qok e w':=by
 cases b:ez a L.told with
 |none=>
  have e:dY L a=(L,[],⟨#[]⟩,9):=by simp[dY,b]
  rw[e];exact(EQ w h a b).m λe w' h=>Rf ⟨_,h.1,h.2⟩
 |some x=>
  obtain⟨n,pg⟩:=x;cases c:mR n L.opened with
  |none=>
   have e:dY L a=(L,[],⟨#[]⟩,10):=by simp[dY,b,c]
   rw[e];exact(ER w h a n pg j b c).m λe w' h=>Rf ⟨_,h.1,h.2⟩
  |some i=>
   have o:i<L.opened.length:=(vx.1 c).1;have r:L.opened[i]?=J L.opened[i]:=eL o;have e:dY L a=(⟨L.opened.set i (L.opened[i].again 10),L.begun,if L.opened[i].tok pg=⟨#[]⟩then L.told else ml (L.opened[i].tok pg) (n,pg+1) L.told,L.tm⟩,L.opened[i].NI pg,L.opened[i].tok pg,0):=by simp[dY,b,c,r]
   rw[e];have⟨z,s,t⟩:=d L.opened[i] (xc o);exact EU Qok u w h D a n pg i L.opened[i] j b c r z s t (k n pg b) G l v (y n pg b (by simp[c]))
section
variable {A:Nat->Prop} {B k0:Nat} {L:Lg}
theorem qF(Qok:Qy->Prop)(hQ:∀q,Qok q->jB q/\jC q)w(h:eP A B w k0 L)(_hB:B<=w.heap.size)(i:dT Wu)(f:S lk->S Ver)q(c:ey)(hN:au A 41 w i f)(hq:Qok q)(T:fU (bV f q.p.data.toList)<=1000)(hp:q.p.size<=Rx)(bi:0<=L.begun/\L.begun<2199023255552)(bn:L.opened.length<=3)(G:Wj->Prop)(al:∀w',G w'->dH w')(hG:∀w',ax w w'->G w')(hT:mO G (L.begun+1) 2)(bb:(c<1\/20<c)\/(js L f q c).tok 1=⟨#[]⟩\/3<=L.opened.length):
  Calls Vp 19 #[O (J ⟨k0,4,N⟩),sV i,qV q.vs q.p q.d q.af,I K c] w λe w'=>
   (∃sv,e=Rc (Re #[Rd #[sv,U (fN L f q c).2.2.1],I K (fN L f q c).2.2.2])/\bZ A B k0 w (fN L f q c).1 (fN L f q c).2.1 sv w')\/Stop Qok e w':=by
 have c5:=h.begun;have⟨v4,c4,zs,z1,z2,z3,z4⟩:=h.opened;obtain⟨bl,bp,rfl,-⟩:=ao z2;have hlz:L.opened.length=zs.length:=by rw[z1];simp
 have ap:=h.lt;have HL:=aq h;obtain⟨u,p,d,z⟩:=q;unfold sV qV;by_cases ac:c<1\/20<c
 .have hR:fN L f ⟨u,p,d,z⟩ c=(L,[],⟨#[]⟩,7):=by rw[fN,gL ac]
  rw[hR];have bk:=gx;clear hN hq T hp bi bn hT hG al h hQ z1 z2 z3 z4 c4 c5;rcases ac with h1|h2
  .go_enter (Yq.nq func19),ntmps19;go_wp2_with fail
   refine Rw (v:=Re #[Rd #[M N 0 0,U ⟨#[]⟩],I K 7]) (by simp[results,results19,go_sem]) Q (Rf ⟨_,Q,bZ.same HL.o (((ax.refl.alloc _).alloc _).alloc _)⟩)
  .have h1:¬c<1:=by omega
   go_enter (Yq.nq func19),ntmps19;go_wp2_with fail
   refine Rw (v:=Re #[Rd #[M N 0 0,U ⟨#[]⟩],I K 7]) (by simp[results,results19,go_sem]) Q (Rf ⟨_,Q,bZ.same HL.o (((ax.refl.alloc _).alloc _).alloc _)⟩)
 .have h1:¬c<1:=by omega
  have h2:¬20<c:=by omega
  have hbl:=wP;have bk:=gx;have hwb:wrap64 (L.begun+1)=L.begun+1:=by unfold wrap64;omega
  have hk1:k0<w.heap.size+1:=by omega
  have hk2:k0<w.heap.size+1+1:=by omega
  have hk3:k0<w.heap.size+1+1+1:=by omega
  obtain⟨V,hV⟩:∃V,V=((((w.alloc (E #[O i] 40)).alloc (E #[C u,U p,U d,U z] 84)).alloc (E #[M N 0 0,U ⟨#[]⟩] 79)).alloc (E #[I K (L.begun+1),O i,C u,U p,U d,U z,I K c,I K 10] 116)).drew:=⟨_,Q⟩;have n:ax w V:=by rw[hV];exact((((ax.refl.alloc _).alloc _).alloc _).alloc _).drew
  have ab:V.heap.size=w.heap.size+4:=by rw[hV];simp
  have ai:Me Qok ((js L f ⟨u,p,d,z⟩ c).N2 i) f V:=⟨.of (au.Nx (A':=λ_=>True) (λb _ ap=>⟨trivial,n.block b ap⟩) 41 i f hN),hq,T,hp,al _ (hG _ n)⟩;have a8:=yW Qok hQ ((js L f ⟨u,p,d,z⟩ c).N2 i) 1 f V ai G (λw' hl=>hG w' (n.t hl)) (λ_=>hT);obtain⟨X,s⟩:∃X,X=(js L f ⟨u,p,d,z⟩ c).tok 1:=⟨_,Q⟩;obtain⟨pg,ar⟩:∃pg,pg=(js L f ⟨u,p,d,z⟩ c).NI 1:=⟨_,Q⟩;have HP:Calls Vp 48 #[Rd #[I K (L.begun+1),O i,C u,U p,U d,U z,I K c,I K 10],I K 1] V λe w'=>(∃D F P,e=Rc (Rd #[M D F P,U X])/\w'.ownsRow V.heap.size 67 3 (M D F P) pg.length (az pg)/\ax V w')\/Stop Qok e w':=by
   refine a8.m ?_;rintro e w' (⟨sv,rfl,h3,h4⟩|h)
   .left
    rw[s,ar];rw[jr (l:=(js L f ⟨u,p,d,z⟩ c).N2 i) (l':=(js L f ⟨u,p,d,z⟩ c).N2 N) Q]at h3;obtain⟨D,F,P,rfl⟩:∃D F P,sv=M D F P:=by
     rcases h3.2 with⟨rfl,-⟩|⟨g,cap,cur,rfl,-⟩
     .exact ⟨_,_,_,Q⟩
     .exact ⟨_,_,_,Q⟩
    exact⟨D,F,P,Q,h3,h4⟩
   .exact Rg h
  clear a8;have HF:Hid (∀k,ax V k->((k.cell? ⟨w.heap.size+1+1+1,0,N⟩=J (I K (L.begun+1))/\k.cell? ⟨w.heap.size+1+1+1,1,N⟩=J (O i)/\k.cell? ⟨w.heap.size+1+1+1,2,N⟩=J (C u)/\k.cell? ⟨w.heap.size+1+1+1,3,N⟩=J (U p)/\k.cell? ⟨w.heap.size+1+1+1,4,N⟩=J (U d)/\k.cell? ⟨w.heap.size+1+1+1,5,N⟩=J (U z)/\k.cell? ⟨w.heap.size+1+1+1,6,N⟩=J (I K c)/\k.cell? ⟨w.heap.size+1+1+1,7,N⟩=J (I K 10)) /\
    (k.cell? ⟨w.heap.size+1+1,0,N⟩=J (M N 0 0)/\k.cell? ⟨w.heap.size+1+1,1,N⟩=J (U ⟨#[]⟩)/\k.frozen? ⟨w.heap.size+1+1,0,N⟩=Z/\k.frozen? ⟨w.heap.size+1+1,1,N⟩=Z) /\
    (k.cell? ⟨k0,4,N⟩=J (M bl zs.length bp)/\k.cell? ⟨k0,5,N⟩=J (I K L.begun)/\k.frozen? ⟨k0,4,N⟩=Z/\k.frozen? ⟨k0,5,N⟩=Z)/\(w.heap.size+1+1<k.heap.size/\w.heap.size+1+1+1<k.heap.size/\k0<k.heap.size))):=λk hl=>by
   have r3:V.heap[w.heap.size+3]?=J (E #[I K (L.begun+1),O i,C u,U p,U d,U z,I K c,I K 10] 116):=by
    rw[hV];simp only[uc,tn,gP,Sx]
    repeat rw[gI (by omega)]
    simp
   have r2:V.heap[w.heap.size+2]?=J (E #[M N 0 0,U ⟨#[]⟩] 79):=by
    rw[hV];simp only[uc,tn,gP,Sx]
    repeat rw[gI (by omega)]
    simp
   have bd:∀j,k.frozen? ⟨k0,j,N⟩=false:=λj=>(fB (a:=⟨k0,j,N⟩) ((n.t hl).block k0 ap)).t (HL.o.frozen j)
   have:=hl.size;refine⟨⟨?_,?_,?_,?_,?_,?_,?_,?_⟩,⟨?_,?_,?_,?_⟩,⟨(n.t hl).cell c4,(n.t hl).cell c5,bd 4,bd 5⟩,by omega,by omega,by omega⟩;all_goals simp[pt,sq,(hl.block _ (by omega)).t r3,((hl.block _ (by omega)).t r2)]
  have HX:=eM n hN ab;have HZ:=ig z1 z2 z3 z4;have HB:Hid (fN L f ⟨u,p,d,z⟩ c=(if X=⟨#[]⟩then(L,pg,⟨#[]⟩,0)else if 3<=L.opened.length then(L,[],⟨#[]⟩,8)else(⟨L.opened++[js L f ⟨u,p,d,z⟩ c],L.begun+1,ml X (L.begun+1,2) L.told,L.tm⟩,pg,X,0))):=by
   show fN L f ⟨u,p,d,z⟩ c=_;rw[fN,gI ac,s,ar]
  generalize fN L f ⟨u,p,d,z⟩ c=R at *;have HV:=aq hV;have be:=aq s;clear hV n ab ai s ar hN z1 z2 z3 z4 hG al hT hq T hp h hQ;by_cases s:X=⟨#[]⟩
  .subst s;have hR:R=(L,pg,⟨#[]⟩,0):=by rw[HB.o,gL Q]
   subst hR;go_enter (Yq.nq func19),ntmps19;go_wp2_with fail
   go_region
   rw[<-HV.o];obtain⟨⟨a0,a1,a2,a3,a4,a5,a6,a7⟩,-⟩:=HF.o V ax.refl;go_wp2_with (go_at_call 48;refine HP.m ?_;clear HP;rintro e k (⟨D,F,P,rfl,ad,aa⟩|⟨x,y,r,rfl,av⟩);rotate_left;exact⟨Q,Or.inr ⟨x,y,r,Q,av⟩⟩;have⟨⟨q0,q1,q2,q3,q4,q5,q6,q7⟩,⟨s0,s1,z0,z1⟩,⟨m4,m5,n4,n5⟩,y2,y3,yk⟩:=HF.o k aa)
   obtain⟨n,-,ab⟩:=HX.o;have bo:∀b,b≠w.heap.size+1+1->b<k.heap.size->(((k.setCell ⟨w.heap.size+1+1,0,N⟩ (M D F P)).setCell ⟨w.heap.size+1+1,1,N⟩ (U ⟨#[]⟩)).alloc (E #[M D F P,U ⟨#[]⟩] 79)).heap[b]?=k.heap[b]?:=λb h1 h2=>by
    rw[Rb (by simpa using h2),Ra h1,Ra h1]
   have aj:ax w (((k.setCell ⟨w.heap.size+1+1,0,N⟩ (M D F P)).setCell ⟨w.heap.size+1+1,1,N⟩ (U ⟨#[]⟩)).alloc (E #[M D F P,U ⟨#[]⟩] 79)):=(((n.t aa).set (by omega) _ _).set (by omega) _ _).alloc _;refine Rw (v:=Re #[Rd #[M D F P,U ⟨#[]⟩],I K 0]) (by simp[results,results19,go_sem,s0,s1,y2]) Q (Rf ⟨_,Q,bZ.NI HL.o aj ad (by omega) λg h1 h2=>bo g (by omega) h2⟩)
  .have a9:¬X.toList=[]:=λhx=>by
    have:(X==(⟨#[]⟩:eV))=true:=by rw[Ry];simpa using hx
    exact s ((Sy _ _).1 this)
   have hne:(X.toList == [])=false:=by simpa using a9
   by_cases h3:3<=L.opened.length
   .have hR:R=(L,[],⟨#[]⟩,8):=by rw[HB.o,gI s,gL h3]
    subst hR;have h3i:(3:ey)<=(zs.length:ey):=by omega
    go_enter (Yq.nq func19),ntmps19;go_wp2_with fail
    go_region
    rw[<-HV.o];obtain⟨⟨a0,a1,a2,a3,a4,a5,a6,a7⟩,-⟩:=HF.o V ax.refl;go_wp2_with (go_at_call 48;refine HP.m ?_;clear HP;rintro e k (⟨D,F,P,rfl,ad,aa⟩|⟨x,y,r,rfl,av⟩);rotate_left;exact⟨Q,Or.inr ⟨x,y,r,Q,av⟩⟩;have⟨⟨q0,q1,q2,q3,q4,q5,q6,q7⟩,⟨s0,s1,z0,z1⟩,⟨m4,m5,n4,n5⟩,y2,y3,yk⟩:=HF.o k aa)
    obtain⟨n,-,ab⟩:=HX.o;have aj:ax w (((k.setCell ⟨w.heap.size+1+1,0,N⟩ (M N 0 0)).setCell ⟨w.heap.size+1+1,1,N⟩ (U ⟨#[]⟩)).alloc (E #[M D F P,U X] 79)):=(((n.t aa).set (by omega) _ _).set (by omega) _ _).alloc _;refine Rw (v:=Re #[Rd #[M N 0 0,U ⟨#[]⟩],I K 8]) (by simp[results,results19,go_sem,s0,s1,y2]) Q (Rf ⟨_,Q,bZ.same HL.o aj⟩)
   .rcases bb with h|h|h
    .exact kr h ac
    .rw [<-be.o]at h;exact kr h s
    .exact kr h h3
theorem EV(Qok:Qy->Prop)(hQ:∀q,Qok q->jB q/\jC q)w(h:eP A B w k0 L)(hB:B<=w.heap.size)(k:dT Wu)(f:List lk->List Ver)q(c:ey)(hN:au A 41 w k f)(hq:Qok q)(bb:fU (bV f q.p.data.toList)<=1000)(hp:q.p.size<=Rx)(hbg:0<=L.begun/\L.begun<2199023255552)(hop:L.opened.length<=3)(G:Wj->Prop)(bw:∀w',G w'->dH w')(hG:∀w',ax w w'->G w')(hT:mO G (L.begun+1) 2)(bq:¬(c<1\/20<c))(bd:(js L f q c).tok 1≠⟨#[]⟩)(h3:¬3<=L.opened.length):
    Calls Vp 19 #[O (J ⟨k0,4,N⟩),sV k,qV q.vs q.p q.d q.af,I K c] w λe w'=>
      (∃sv,e=Rc (Re #[Rd #[sv,U (fN L f q c).2.2.1],I K (fN L f q c).2.2.2])/\bZ A B k0 w (fN L f q c).1 (fN L f q c).2.1 sv w')\/Stop Qok e w':=by
  have c5:=h.begun;have⟨v4,c4,zs,z1,z2,z3,z4⟩:=h.opened;obtain⟨ac,ad,rfl,-⟩:=ao z2;have hlz:L.opened.length=zs.length:=by rw[z1];simp
  have bn:=h.lt;have HL:=aq h;obtain⟨z,p,d,D⟩:=q;unfold sV qV;have h1:¬c<1:=by omega
  have h2:¬20<c:=by omega
  have hbl:=wP;have hbp:=gx;have hwb:wrap64 (L.begun+1)=L.begun+1:=by unfold wrap64;omega
  have hk1:k0<w.heap.size+1:=by omega
  have hk2:k0<w.heap.size+1+1:=by omega
  have hk3:k0<w.heap.size+1+1+1:=by omega
  obtain⟨V,hV⟩:∃V,V=((((w.alloc (E #[O k] 40)).alloc (E #[C z,U p,U d,U D] 84)).alloc (E #[M N 0 0,U ⟨#[]⟩] 79)).alloc (E #[I K (L.begun+1),O k,C z,U p,U d,U D,I K c,I K 10] 116)).drew:=⟨_,Q⟩;have ai:ax w V:=by rw[hV];exact((((ax.refl.alloc _).alloc _).alloc _).alloc _).drew
  have bp:V.heap.size=w.heap.size+4:=by rw[hV];simp
  have be:Me Qok ((js L f ⟨z,p,d,D⟩ c).N2 k) f V:=⟨.of (au.Nx (A':=λ_=>True) (λb _ bn=>⟨trivial,ai.block b bn⟩) 41 k f hN),hq,bb,hp,bw _ (hG _ ai)⟩;have bv:=yW Qok hQ ((js L f ⟨z,p,d,D⟩ c).N2 k) 1 f V be G (λw' hl=>hG w' (ai.t hl)) (λ_=>hT);obtain⟨X,al⟩:∃X,X=(js L f ⟨z,p,d,D⟩ c).tok 1:=⟨_,Q⟩;obtain⟨pg,bo⟩:∃pg,pg=(js L f ⟨z,p,d,D⟩ c).NI 1:=⟨_,Q⟩;have HP:Calls Vp 48 #[Rd #[I K (L.begun+1),O k,C z,U p,U d,U D,I K c,I K 10],I K 1] V λe w'=>(∃F P T,e=Rc (Rd #[M F P T,U X])/\w'.ownsRow V.heap.size 67 3 (M F P T) pg.length (az pg)/\ax V w')\/Stop Qok e w':=by
    refine bv.m ?_;rintro e w' (⟨sv,rfl,h3,h4⟩|h)
    left
    rw[al,bo];rw[jr (l:=(js L f ⟨z,p,d,D⟩ c).N2 k) (l':=(js L f ⟨z,p,d,D⟩ c).N2 N) Q]at h3;obtain⟨F,P,T,rfl⟩:∃F P T,sv=M F P T:=by
      rcases h3.2 with⟨rfl,-⟩|⟨g,cap,cur,rfl,-⟩;exact⟨_,_,_,Q⟩;exact⟨_,_,_,Q⟩
    exact⟨F,P,T,Q,h3,h4⟩;exact Rg h
  clear bv;have HF:Hid (∀i,ax V i->((i.cell? ⟨w.heap.size+1+1+1,0,none⟩=some (.int .i64 (L.begun+1))/\i.cell? ⟨w.heap.size+1+1+1,1,none⟩=some (.pointer k)/\i.cell? ⟨w.heap.size+1+1+1,2,none⟩=some (.bool z)/\i.cell? ⟨w.heap.size+1+1+1,3,none⟩=some (.string p)/\i.cell? ⟨w.heap.size+1+1+1,4,none⟩=some (.string d)/\i.cell? ⟨w.heap.size+1+1+1,5,none⟩=some (.string D)/\i.cell? ⟨w.heap.size+1+1+1,6,none⟩=some (.int .i64 c)/\i.cell? ⟨w.heap.size+1+1+1,7,none⟩=some (.int .i64 10)) /\
      (i.cell? ⟨w.heap.size+1+1,0,N⟩=J (M N 0 0)/\i.cell? ⟨w.heap.size+1+1,1,N⟩=J (U ⟨#[]⟩)/\i.frozen? ⟨w.heap.size+1+1,0,N⟩=Z/\i.frozen? ⟨w.heap.size+1+1,1,N⟩=Z) /\
      (i.cell? ⟨k0,4,N⟩=J (M ac zs.length ad)/\i.cell? ⟨k0,5,N⟩=J (I K L.begun)/\i.frozen? ⟨k0,4,N⟩=Z/\i.frozen? ⟨k0,5,N⟩=Z)/\(w.heap.size+1+1<i.heap.size/\w.heap.size+1+1+1<i.heap.size/\k0<i.heap.size))):=λi hl=>by
    have r3:V.heap[w.heap.size+3]?=J (E #[I K (L.begun+1),O k,C z,U p,U d,U D,I K c,I K 10] 116):=by
      rw[hV];simp only[uc,tn,gP,Sx]
      repeat rw[gI (by omega)]
      simp
    have r2:V.heap[w.heap.size+2]?=J (E #[M N 0 0,U ⟨#[]⟩] 79):=by
      rw[hV];simp only[uc,tn,gP,Sx]
      repeat rw[gI (by omega)]
      simp
    have b7:∀j,i.frozen? ⟨k0,j,N⟩=false:=λj=>(fB (a:=⟨k0,j,N⟩) ((ai.t hl).block k0 bn)).t (HL.o.frozen j)
    have:=hl.size;refine⟨⟨?_,?_,?_,?_,?_,?_,?_,?_⟩,⟨?_,?_,?_,?_⟩,⟨(ai.t hl).cell c4,(ai.t hl).cell c5,b7 4,b7 5⟩,by omega,by omega,by omega⟩;all_goals simp[pt,sq,(hl.block _ (by omega)).t r3,((hl.block _ (by omega)).t r2)]
  have HX:=eM ai hN bp;have HZ:=ig z1 z2 z3 z4;have HB:Hid (fN L f ⟨z,p,d,D⟩ c=(if X=⟨#[]⟩then(L,pg,⟨#[]⟩,0)else if 3<=L.opened.length then(L,[],⟨#[]⟩,8)else(⟨L.opened++[js L f ⟨z,p,d,D⟩ c],L.begun+1,ml X (L.begun+1,2) L.told,L.tm⟩,pg,X,0))):=by
    show fN L f ⟨z,p,d,D⟩ c=_;rw[fN,gI bq,<-al,<-bo]
  generalize fN L f ⟨z,p,d,D⟩ c=R at *;have HV:=aq hV;rw[<-al]at bd;replace al:=bd;clear hV ai bp be bo hN z1 z2 z3 z4 hG bw hT hq bb hp h hQ;have bx:¬X.toList=[]:=λhx=>by
    have:(X==(⟨#[]⟩:eV))=true:=by rw[Ry];simpa using hx
    exact al ((Sy _ _).1 this)
  have hne:(X.toList == [])=false:=by simpa using bx
  have hR:R=(⟨L.opened++[js L f ⟨z,p,d,D⟩ c],L.begun+1,ml X (L.begun+1,2) L.told,L.tm⟩,pg,X,0):=by rw[HB.o,gI al,gI h3]
  subst hR;have h3i:¬(3:ey)<=(zs.length:ey):=by omega
  have⟨i0,cb,cc,ch,ca⟩:=RJ Yq.PV;have hbq:=qB;obtain⟨cL,hcL⟩:∃cL:eW Wx,cL=#[I K (L.begun+1),O k,C z,U p,U d,U D,I K c,I K 10]:=⟨_,Q⟩;have bt:Hid (∀i,ax V i->∀o o':Obj,((i.alloc o).alloc o').drew.ownsRow B 116 8 (M ac zs.length ad) zs.length (cy zs)/\B<=((i.alloc o).alloc o').drew.heap.size):=λi hl o o'=>by
    have h5:ax w ((i.alloc o).alloc o').drew:=(((HX.o.1.t hl).alloc o).alloc o').drew;exact⟨bO HZ.o.2.1 λg _ hg=>h5.block g hg,lT hB h5.size⟩
  have b9:Hid (∀ (i:Wj) (o:Obj),∀j u,[R4 K (L.begun+1),O k,C z,U p,U d,U D,I K c,I K 10][j]?=J u->((i.alloc o).alloc (E #[I K (L.begun+1),O k,C z,U p,U d,U D,I K c,I K 10] 116)).drew.cell? ((⟨i.heap.size+1,0,N⟩:Wu).add j)=J u):=λi o j u hj=>by
    have:=MR (i.alloc o) _ 116 j u hj
    rwa [tb]at this
  have cj:Hid (∀i,ax V i->∀F P T n,((i.alloc (.cells #[.slice F P T,.string X] 79)).alloc (.cells #[.int .i64 (L.begun+1),.pointer k,.bool z,.string p,.string d,.string D,.int .i64 c,.int .i64 10] 116)).drew.grownBy n (RY ac zs.length ad).ownBlock ->
      ((n.cell? ⟨k0,4,N⟩=J (M ac zs.length ad)/\n.cell? ⟨k0,5,N⟩=J (I K L.begun)/\n.frozen? ⟨k0,4,N⟩=Z/\n.frozen? ⟨k0,5,N⟩=Z) /\
       (n.cell? ⟨i.heap.size,0,N⟩=J (M F P T)/\n.cell? ⟨i.heap.size,1,N⟩=J (U X)/\n.cell? ⟨w.heap.size+1+1+1,0,N⟩=J (I K (L.begun+1))) /\
       (n.cell? ⟨w.heap.size+1+1,0,N⟩=J (M N 0 0)/\n.cell? ⟨w.heap.size+1+1,1,N⟩=J (U ⟨#[]⟩)/\n.frozen? ⟨w.heap.size+1+1,0,N⟩=Z/\n.frozen? ⟨w.heap.size+1+1,1,N⟩=Z) /\
       w.heap.size+1+1<n.heap.size/\w.heap.size+1+1+1<n.heap.size/\i.heap.size<n.heap.size/\k0<n.heap.size)):=λi ab F P T n aa=>by
    have⟨⟨q0,q1,q2,q3,q4,q5,q6,q7⟩,⟨s0,s1,z0,z1⟩,⟨m4,m5,n4,n5⟩,y2,y3,yk⟩:=HF.o i ab;have bl:ax i ((i.alloc (E #[M F P T,U X] 79)).alloc (E #[I K (L.begun+1),O k,C z,U p,U d,U D,I K c,I K 10] 116)).drew:=((ax.refl.alloc _).alloc _).drew;have bq:((i.alloc (E #[M F P T,U X] 79)).alloc (E #[I K (L.begun+1),O k,C z,U p,U d,U D,I K c,I K 10] 116)).drew.heap.size=i.heap.size+2:=by simp
    have aj:∀b,w.heap.size<=b->J b≠(RY ac zs.length ad).ownBlock:=λb hb e=>by have:=(HZ.o.2.1.lt b e.s).2;omega
    have b8:J k0≠(RY ac zs.length ad).ownBlock:=λe=>by have:=(HZ.o.2.1.lt k0 e.s).1;have:=HL.o.low;omega
    have bk:n.heap[k0]?=i.heap[k0]?:=(aa.block k0 (by omega) b8).t (bl.block k0 yk);have b2:n.heap[w.heap.size+1+1]?=i.heap[w.heap.size+1+1]?:=(aa.block _ (by omega) (aj _ (by omega))).t (bl.block _ y2);have b1:n.heap[i.heap.size]?=J (E #[M F P T,U X] 79):=by
      rw[aa.block _ (by omega) (aj _ (by omega))];show((i.alloc (E #[M F P T,U X] 79)).alloc _).heap[i.heap.size]?=_;rw[Rb (by simp)];exact aN _ _
    have:=aa.size;have a8:∀ {b:H},n.heap[b]?=i.heap[b]?->∀j,n.cell? ⟨b,j,N⟩=i.cell? ⟨b,j,N⟩:=λh j=>cB (a:=⟨_,j,N⟩) h
    have a9:∀ {b:H},n.heap[b]?=i.heap[b]?->∀j,n.frozen? ⟨b,j,N⟩=i.frozen? ⟨b,j,N⟩:=λh j=>fB (a:=⟨_,j,N⟩) h
    refine⟨⟨(a8 bk 4).t m4,(a8 bk 5).t m5,(a9 bk 4).t n4,(a9 bk 5).t n5⟩,⟨by simp[pt,b1],by simp[pt,b1],(a8 ((aa.block _ (by omega) (aj _ (by omega))).t (bl.block _ y3)) 0).t q0⟩,⟨(a8 b2 0).t s0,(a8 b2 1).t s1,(a9 b2 0).t z0,(a9 b2 1).t z1⟩,by omega,by omega,by omega,by omega⟩
  have b6:Hid (∀i,ax V i->∀F P T,i.ownsRow V.heap.size 67 3 (.slice F P T) pg.length (az pg)->∀n v',n.ownsRow B 116 8 v' (zs.length+1) (cy zs++[.int .i64 (L.begun+1),.pointer k,.bool z,.string p,.string d,.string D,.int .i64 c,.int .i64 10])->((i.alloc (.cells #[.slice F P T,.string X] 79)).alloc (.cells #[.int .i64 (L.begun+1),.pointer k,.bool z,.string p,.string d,.string D,.int .i64 c,.int .i64 10] 116)).drew.grownBy n (RY ac zs.length ad).ownBlock ->
      (∀g,v'.ownBlock=J g->(RY ac zs.length ad).ownBlock=J g\/((i.alloc (E #[M F P T,U X] 79)).alloc (E #[I K (L.begun+1),O k,C z,U p,U d,U D,I K c,I K 10] 116)).drew.heap.size<=g)->i.cell? ⟨w.heap.size+1+1,0,N⟩=J (M N 0 0) ->
      Calls Vp 49 #[O (J ⟨k0,4,N⟩),U X,Rd #[I K (L.begun+1),I K 2]] ((n.setCell ⟨k0,4,N⟩ v').setCell ⟨k0,5,N⟩ (I K (L.begun+1))) λe w6=>e=Rc (Re #[])/\eN k0 ((n.setCell ⟨k0,4,N⟩ v').setCell ⟨k0,5,N⟩ (I K (L.begun+1))) w6 /\
        ∀y0 y1,bZ A B k0 w ⟨L.opened++[js L f ⟨z,p,d,D⟩ c],L.begun+1,ml X (L.begun+1,2) L.told,L.tm⟩ pg (M F P T) ((w6.setCell ⟨w.heap.size+1+1,0,N⟩ y0).setCell ⟨w.heap.size+1+1,1,N⟩ y1)):=
    λi ab F P T ar n v' av aa aj b3=>K8 HL.o hB HX.o.1 HX.o.2.2 ab ar c4 HZ.o.1 HZ.o.2.1 HZ.o.2.2.1 HZ.o.2.2.2 (x:=js L f ⟨z,p,d,D⟩ c) HX.o.2.1 _ _ av aa aj (L.begun+1) X (L.begun+1,2) b3
  go_enter (Yq.nq func19),ntmps19;go_wp2_with fail
  go_region
  rw[<-HV.o];obtain⟨⟨a0,a1,a2,a3,a4,a5,a6,a7⟩,-⟩:=HF.o V ax.refl;go_wp2_with (go_at_call 48;refine HP.m ?_;clear HP;rintro e i (⟨F,P,T,rfl,ar,ab⟩|⟨x,y,r,rfl,cd⟩);rotate_left;exact⟨Q,Or.inr ⟨x,y,r,Q,cd⟩⟩;have⟨⟨q0,q1,q2,q3,q4,q5,q6,q7⟩,⟨s0,s1,z0,z1⟩,⟨m4,m5,n4,n5⟩,y2,y3,yk⟩:=HF.o i ab)
  have yk1:k0<i.heap.size+1:=by omega
  have y31:w.heap.size+1+1+1<i.heap.size+1:=by omega
  go_region_law (refine dB Q (Rh 47) (Rh 49) 44 Q B 116 i0 _ 8 88 (Yq.u underlying44) cb cc ch ca Q (by decide) (M ac zs.length ad) zs.length (cy zs) (by simp[Act.eval]) (bt.o i ab _ _).1 ⟨i.heap.size+1,0,N⟩ 1 1 [I K (L.begun+1),O k,C z,U p,U d,U D,I K c,I K 10] (by simp[Act.eval]) Q (b9.o _ _) (one8 ((js L f ⟨z,p,d,D⟩ c).N2 k)) (by simp only[Rx];omega) (by omega) (bt.o i ab _ _).2 ?_;intro v' n av aa aj;obtain⟨va',vc',rfl,-⟩:=ao av;have⟨⟨b4,b5,g4,g5⟩,⟨b0,b1,b2⟩,⟨t0,t1,u0,u1⟩,x2,x3,x4,xk⟩:=cj.o i ab F P T n aa;have bi:Hid (_/\_/\_):=Sv av (Sv aa aj);clear av aa aj)
  all_goals
    have HK:=(b6.o i ab F P T ar n _ bi.o.1 bi.o.2.1 bi.o.2.2 s0);clear b6;go_wp2_with (go_at_call 49;refine HK.m ?_;clear HK;rintro e w6 ⟨rfl,ap,bs⟩;have p0:=ap.cell (gW b0 (by omega)) (by omega);have p1:=ap.cell (gW b1 (by omega)) (by omega);have r0:=ap.cell (gW t0 (by omega)) (by omega);have r1:=ap.cell (gW t1 (by omega)) (by omega);have e0:w6.frozen? ⟨w.heap.size+1+1,0,N⟩=false:=(by rw[ap.frozen (gW t0 (by omega)) (by omega),n8,n8];exact u0);have e1:w6.frozen? ⟨w.heap.size+1+1,1,N⟩=false:=(by rw[ap.frozen (gW t1 (by omega)) (by omega),n8,n8];exact u1))
    exact Rw (v:=Re #[Rd #[M F P T,U X],I K 0]) (by simp[results,results19,go_sem,r0,r1]) Q (Rf ⟨_,Q,bs _ _⟩)
end
theorem AQ{k0}{L}(Qok:Qy->Prop)(m:∀q,Qok q->jB q/\jC q)w(h:eP A B w k0 L)(s:B<=w.heap.size)(b:dT Wu)(f:S lk->S Ver)q(a:ey)(t:au A 41 w b f)(o:Qok q)(c:fU (bV f q.p.data.toList)<=1000)(l:q.p.size<=Rx)(i:0<=L.begun/\L.begun<2199023255552)(j:L.opened.length<=3)(G:Wj->Prop)(k:∀w',G w'->dH w')(n:∀w',ax w w'->G w')(r:mO G (L.begun+1) 2):
  Calls Vp 19 #[O (J ⟨k0,4,N⟩),sV b,qV q.vs q.p q.d q.af,I K a] w λe w'=>
   (∃sv,e=Rc (Re #[Rd #[sv,U (fN L f q a).2.2.1],I K (fN L f q a).2.2.2])/\bZ A B k0 w (fN L f q a).1 (fN L f q a).2.1 sv w')\/Stop Qok e w':=by
 by_cases x:a<1\/20<a
 exact qF Qok m w h s b f q a t o c l i j G k n r (Rf x);by_cases u:(js L f q a).tok 1=⟨#[]⟩
 exact qF Qok m w h s b f q a t o c l i j G k n r (Rg (Rf u));by_cases v:3<=L.opened.length
 exact qF Qok m w h s b f q a t o c l i j G k n r (Rg (Rg v));exact EV Qok m w h s b f q a t o c l i j G k n r x u v
structure iU where
 code:ey
 NP:ey
 body:eV
 items:S ItD
 tok:eV
def kJ(a:iU)(sv:Wx):Wx:=Rd #[I K a.code,I K a.NP,U a.body,sv,U a.tok]
def cf(A:H->Prop)(B k0:H)(w:Wj)(c:St)(L':Lg)(a:iU)(e:Ending)(w':Wj):Prop:=
 ∃sv,e=Rc (kJ a sv)/\∃A':H->Prop,(∀b,A b->A' b)/\(∀b,A' b->A b\/w.heap.size<=b)/\bh A' B w' k0 c L'/\fS A B k0 w w'/\GC w.heap.size A' w' sv a.items
section
variable {A A':Nat->Prop} {B k0:Nat} {w w' w'':Wj} {st:St} {L L':Lg}
theorem fS.left(a:k0<w.heap.size)(h:ax w w'):fS A B k0 w w':=(bf.left a h).OA
theorem bh.left(h:bh A B w k0 st L)(a:ax w w'):bh A B w' k0 st L:=h.step (bf.left h.ls.lt a) (λ_ h=>h) (h.ls.left a) Q
theorem bh.other{b}(h:bh A B w k0 st L)(c:b≠k0)(d:¬A b)(a:dA w b)(i:¬ma k0 w b)(k:B<=b):bh A B (w.setCell ⟨b,j,N⟩ x) k0 st L:=
 h.step (bf.other c d k) (λ_ h=>h) (h.ls.other c d a (λv _g e l f=>i ⟨v,e,f▸l⟩)) Q
theorem nM{m}{r}{sv}(X:ax w W0)(hk:k0<w.heap.size)(hBw:B<=w.heap.size)(hr:w.heap.size<=r)(hrl:r<W0.heap.size)(u:dA W0 r)(_hA1:∀b,A b->A' b)(p:∀b,A' b->A b\/W0.heap.size<=b)(q:∀b,A b->b<w.heap.size)(T:bh A' B m k0 st L')(R:fS A B k0 W0 m)(V:FrC k0 W0 m)(ho:∀g,ma k0 W0 g->g<w.heap.size)(z:GC w.heap.size A' m sv NA)D P L G F:
  (∀b,A' b->A b\/w.heap.size<=b)/\bh A' B (put5 m r D P L G F) k0 st L'/\fS A B k0 w (put5 m r D P L G F)/\GC w.heap.size A' (put5 m r D P L G F) sv NA:=by
 have hlow:=T.ls.low;have d:r≠k0:=by omega
 have k:¬A' r:=λh=>by
  rcases p r h with h|h;have:=q r h;omega;omega
 have o:¬ma k0 W0 r:=λh=>by have:=ho r h;omega
 have n:dA m r:=u.same (V.Nx r u d o);have f:¬ma k0 m r:=λh=>by
  rcases V.own r h with h|h;exact o h;omega
 have c:∀ (W:Wj) (j:H) (x:Wx),¬ma k0 W r->¬ma k0 (W.setCell ⟨r,j,N⟩ x) r:=λW j x h=>by
  exactλ⟨v,h1,h2⟩=>h ⟨v,(cB (a:=⟨k0,4,N⟩) (Ra (λe=>d e.s))).s.t h1,h2⟩
 have i:∀b,b≠r->(put5 m r D P L G F).heap[b]?=m.heap[b]?:=λb l=>by
  unfold put5;rw[Ra l,Ra l,Ra l,Ra l,Ra l]
 refine⟨λb l=>(p b l).imp id λh=>by have:=X.size;omega,?_,(fS.left hk X).t (R.t ?_),z.Nx Q0 λb l _=>⟨l,i b (λe=>k (e▸l))⟩⟩;unfold put5;exact((((T.other d k n f (by omega)).other d k n.set (c _ _ _ f) (by omega)).other d k n.set.set (c _ _ _ (c _ _ _ f)) (by omega)).other d k n.set.set.set (c _ _ _ (c _ _ _ (c _ _ _ f))) (by omega)).other d k n.set.set.set.set (c _ _ _ (c _ _ _ (c _ _ _ (c _ _ _ f)))) (by omega);have y:=i k0 (λe=>d e.s);exact⟨Q,by simp[put5],λb h1 _ _=>i b (by omega),λb l _=>i b (λe=>by have:=q b l;omega),λj _=>cB (a:=⟨k0,j,N⟩) y,λj=>fB (a:=⟨k0,j,N⟩) y⟩
end
end
