/- A part. -/
import Derived.Test.YtenhoolepfelcaaGreatDoorQP06
import Derived.Test.YtenhoolepfelcaaGreatDoorChecked
import Derived.ProofKit
import Derived.SizedLaws
import Derived.Deep.Slices
import Derived.ChangeMaps5
import Derived.LaidMore
import Derived.Stop.Joined
import Derived.OpenShut
import Derived.MapKept
import Derived.Carry
set_option maxHeartbeats 4000000
set_option maxRecDepth 100000
open _root_ renaming Option->dT,Int->ey,ByteArray->eV,Array->eW,if_neg->gI,if_pos->gL,absurd->g6,congrArg->jp,UInt8->kr,Bool->lj
open Go.Proofs.Tryz renaming prog->lk,f18->nF,checked->n8
open Go.World renaming frozen?_setCell->pt,cell?->sq,frozen?->sT,setCell_alloc_past->ta,size_alloc->tb,alloc->tn,drew->uc,putObj->vf
open List renaming findIdx?_eq_some_iff_getElem->vx,findIdx?_eq_none_iff->wd,drop_drop->xb,getElem_mem->xc,length_set->xt,set_append_right->xv,getElem?_eq_none->yz,filter_eq_self->NE,set_cons_zero->Pi,getElem?_drop->PA,flatMap_cons->PB,getElem_take->PI,filter_map->PJ,take_set->PK,mem_map->PL,map_set->PM,map_map->PN,range->PO,drop->PP
open Go renaming bodyPost_ret->PQ,maxLen->PR,beq_toListBytes->PS,MemPlace->PT,MapEntry->PU,cell_of_row->PV,laidMetH->PW,run_append_fits->PX,execOp->PY,info_parts->PZ,run_append_own->P0,run_underlying->P9,TypeInfo->Qg,bodyPost->Qh
open Go.Value renaming slice->Qi,okWide->Qj,cells->Qk,int->Ql
open Go.Builtin renaming zeroCells->Qm,clear_->Qn,append->Qo,append_->Qp
open Go.Region renaming wanted->Qq
open Go.Instr renaming findNow->Qr,findKey->Qs,mapUpdate->Qt,build->Qu,lookup->Qv,checkKey->Qx,sameNow->Qz
open Go.DataW renaming trod_string->QB,trod_int->QC,trod->QD
open Option renaming getD_some->QG,getD_none->QH,isSome_some->QI,map_none->QJ,map_some->QK
open And renaming intro->QM
open Go.Addr renaming add_lit->QQ
open Array renaming size_push->QR
open Go.MapKept renaming bytes_beq->QS
open Go.Oper renaming wp->QT
open Nat renaming zero_le->QW,add_zero->QX,add_mul->QY
open Go renaming World->Wj,Value->Wx,Program->Wv,TypeId->Ww,Addr->Wu,undef->Wo
namespace Go.Proofs.Qw
open _root_ renaming rfl->Q
open Go.Proofs.Yq renaming prog->Vp
open _root_ renaming Nat->H,List->S
open Option renaming none->N,some->J
open Bool renaming true->Y,false->Z
open Value renaming int->I,string->U,slice->M,pointer->O,bool->C,agg->Qa,tuple->Qb
open IntKind renaming i64->K
open Obj renaming cells->E
open Ending renaming returned->Nm
open Or renaming inl->Qc,inr->Qd
open Operand renaming tmp->Qe
variable {W W0 w:Wj}{c i:eW MapEntry}{P:Wv}{e y:eW Oper}{o:Oper}{B a g j:H}{b:Act->Wj->Prop}{d f h:Exit->Act->Wj->Prop}{X l r z:dT Wu}{v x:Wx}{A:H->Prop}{xs:S Wx}{T:Ww}
open Tryz
section
open Go.RowKit
theorem pU.more(h:pU w W0)o:pU w (W0.alloc o):=by
 have a:Below W0.heap.size W0 (W0.alloc o):=(bR _ _).alloc (lR _) _;exact⟨h.below.t (a.m h.below.size),lL h.lt a.size,ag a h.c0,ag a h.c1,ag a h.c2,ag a h.c3,ag a h.c4,λj=>(a.frozen (p:=⟨w.heap.size+1,j,N⟩) h.lt).t (h.fz j)⟩
theorem BE{c}(h:Below w.heap.size w c)b f j i d o:Below w.heap.size w ((((((c.setCell ⟨w.heap.size+1,0,N⟩ b).setCell ⟨w.heap.size+1,1,N⟩ f).setCell ⟨w.heap.size+1,2,N⟩ j).setCell ⟨w.heap.size+1,3,N⟩ i).setCell ⟨w.heap.size+1,4,N⟩ d).alloc o):=by
 have a:w.heap.size<=w.heap.size+1:=by omega
 have e:=((((h.setCell (p:=⟨w.heap.size+1,0,N⟩) a b).setCell (p:=⟨w.heap.size+1,1,N⟩) a f).setCell (p:=⟨w.heap.size+1,2,N⟩) a j).setCell (p:=⟨w.heap.size+1,3,N⟩) a i).setCell (p:=⟨w.heap.size+1,4,N⟩) a d;exact e.alloc e.size o
theorem BF(h:Below w.heap.size w W)c l m d j f k i:Below w.heap.size w ((((((((W.setCell ⟨w.heap.size+1+1,0,N⟩ c).setCell ⟨w.heap.size+1+1,1,N⟩ l).setCell ⟨w.heap.size+1+1,2,N⟩ m).setCell ⟨w.heap.size+1,0,N⟩ d).setCell ⟨w.heap.size+1,1,N⟩ j).setCell ⟨w.heap.size+1,2,N⟩ f).setCell ⟨w.heap.size+1,3,N⟩ k).setCell ⟨w.heap.size+1,4,N⟩ i):=by
 have a:w.heap.size<=w.heap.size+1:=by omega
 have b:w.heap.size<=w.heap.size+1+1:=by omega
 exact(((((((h.setCell (p:=⟨w.heap.size+1+1,0,N⟩) b c).setCell (p:=⟨w.heap.size+1+1,1,N⟩) b l).setCell (p:=⟨w.heap.size+1+1,2,N⟩) b m).setCell (p:=⟨w.heap.size+1,0,N⟩) a d).setCell (p:=⟨w.heap.size+1,1,N⟩) a j).setCell (p:=⟨w.heap.size+1,2,N⟩) a f).setCell (p:=⟨w.heap.size+1,3,N⟩) a k).setCell (p:=⟨w.heap.size+1,4,N⟩) a i
theorem BG{c}(h:Below w.heap.size w c)b d f e i:Below w.heap.size w (((((c.setCell ⟨w.heap.size+1,0,N⟩ b).setCell ⟨w.heap.size+1,1,N⟩ d).setCell ⟨w.heap.size+1,2,N⟩ f).setCell ⟨w.heap.size+1,3,N⟩ e).setCell ⟨w.heap.size+1,4,N⟩ i):=by
 have a:w.heap.size<=w.heap.size+1:=by omega
 exact((((h.setCell (p:=⟨w.heap.size+1,0,N⟩) a b).setCell (p:=⟨w.heap.size+1,1,N⟩) a d).setCell (p:=⟨w.heap.size+1,2,N⟩) a f).setCell (p:=⟨w.heap.size+1,3,N⟩) a e).setCell (p:=⟨w.heap.size+1,4,N⟩) a i
theorem pU.to{w1}(h:pU w W0)(a:Below W0.heap.size W0 w1):pU w w1:=
 ⟨h.below.t (a.m h.below.size),lL h.lt a.size,ag a h.c0,ag a h.c1,ag a h.c2,ag a h.c3,ag a h.c4,λj=>(a.frozen (p:=⟨w.heap.size+1,j,N⟩) h.lt).t (h.fz j)⟩
theorem pU.put{c}(h:pU w c)b o v(hb:w.heap.size+1<b):pU w (c.setCell ⟨b,o,N⟩ v):=by
 have a:=λj=>cO c ⟨b,o,N⟩ ⟨w.heap.size+1,j,N⟩ v (λe=>by have:=jp Addr.block e;simp only at this;omega)
 exact⟨h.below.setCell (p:=⟨b,o,N⟩) (by simp only;omega) v,by have:=h.lt;simpa[World.setCell]using this,(a 0).t h.c0,(a 1).t h.c1,(a 2).t h.c2,(a 3).t h.c3,(a 4).t h.c4,λj=>fs (h.fz j)⟩
theorem pU.put3(h:pU w W)x y z:pU w (((W.setCell ⟨w.heap.size+1+1,0,N⟩ x).setCell ⟨w.heap.size+1+1,1,N⟩ y).setCell ⟨w.heap.size+1+1,2,N⟩ z):=
 ((h.put _ 0 x (by omega)).put _ 1 y (by omega)).put _ 2 z (by omega)
theorem vV(w:Wj)(x y z:Wx)(T:Ww)(b:H)(a:w.heap.size=b):aY (w.alloc (E #[x,y,z] T)).drew b x y z:=by
 subst a;have h:=ix w x y z T;exact⟨h.c0,h.c1,h.c2,h.fz⟩
theorem BH(A:H->Prop)k0 st s o w(P:o.key.size<=PR)(a:aP A w k0 st)(T:Inv st s)(hs:s<2199023255340)(f:o.kind=2):
  Calls Vp 8 #[O (J ⟨k0,0,N⟩),aJ o] w (dQ A w k0 st (aG ⟨(mj st o.key).2,(mj st o.key).1.num,(mj st o.key).1.body⟩)):=by
 obtain⟨kind,c,i,D,j,n,l⟩:=o;simp only at f P;subst f;have R0:=(Li w #[I K 2,U c,U i,U D,U j,I K n,I K l]);have HC:Hid (∀W1,Below w.heap.size w W1->Calls Vp 11 #[O (J ⟨k0,0,N⟩),U c] W1 λe w'=>e=Nm (Qb #[cH (mj st c).1,I K (mj st c).2])/\Below W1.heap.size W1 w'):=λW1 X=>GI A k0 st s c W1 P (a.on X) T (by omega)
 have HS:=aI a;have k:=aI R0.drew;have d:Hid (pU w (((w.alloc (E #[I K 2,U c,U i,U D,U j,I K n,I K l] 30)).alloc (E #[I K 0,I K 0,U ⟨#[]⟩,M N 0 0,U ⟨#[]⟩] 46)).alloc (E #[I K 0,U ⟨#[]⟩,C Z] 62)).drew/\aY (((w.alloc (E #[I K 2,U c,U i,U D,U j,I K n,I K l] 30)).alloc (E #[I K 0,I K 0,U ⟨#[]⟩,M N 0 0,U ⟨#[]⟩] 46)).alloc (E #[I K 0,U ⟨#[]⟩,C Z] 62)).drew (w.heap.size+1+1) (I K 0) (U ⟨#[]⟩) (C Z)):=⟨(R0.more _).drew,(vV _ _ _ _ _ _ (by simp))⟩;have r:=a.lt;clear R0 a;simp only[aJ];generalize mj st c=pr at *;obtain⟨⟨x,u,mk⟩,h⟩:=pr;simp only[cH]at HC;go_enter (Yq.nq func8),ntmps8;go_wp2_with fail
 go_region_with (first
  |(go_at_call 11;refine(HC.o _ k.o.below).m ?_;rintro e p ⟨rfl,b⟩;have⟨⟨B,L,y,z,G⟩,g0,V,g2,g3,R⟩:=k.o.on r (aO b (J k0));have HX:Hid (Below w.heap.size w p):=k.o.below.t (b.m k.o.below.size);have q:w.heap.size+1<p.heap.size:=lL k.o.lt b.size;clear b)
  |(go_at_call 11;refine(HC.o _ d.o.1.below).m ?_;rintro e p ⟨rfl,b⟩;have⟨⟨B,L,y,z,G⟩,g0,V,g2,g3,R⟩:=d.o.1.on r (aO b (J k0));have⟨v0,v1,v2,F⟩:=d.o.2.on b;have f0:=F 0;have f1:=F 1;have f2:=F 2;have HX:Hid (Below w.heap.size w p):=d.o.1.below.t (b.m d.o.1.below.size);have q:w.heap.size+1<p.heap.size:=lL d.o.1.lt b.size;clear b))
 go_wp2;exact PQ (v:=aG ⟨h,x,u⟩) (by simp[results,results8,go_sem,aG,B,L,y,z,G,q]) Q (bG HS.o (BE HX.o _ _ _ _ _ _));all_goals
  go_wp2;exact PQ (v:=aG ⟨h,x,u⟩) (by simp[results,results8,go_sem,aG,B,L,y,z,G]) Q (bG HS.o (BF HX.o (I K x) (U u) (C mk) (I K h) (I K x) (U u) (M N 0 0) (U ⟨#[]⟩)))
theorem yo(A:H->Prop)k0 st s o w(G:o.key.size<=PR)(a:aP A w k0 st)(hI:Inv st s)(hs:s<2199023255340)(d:o.kind=3):
  Calls Vp 8 #[O (J ⟨k0,0,N⟩),aJ o] w (dQ A w k0 st (aG ⟨(fh st o.key o.n).2,0,(fh st o.key o.n).1.body⟩)):=by
 obtain⟨kind,b,h,F,i,n,q⟩:=o;simp only at d G;subst d;have R0:=(Li w #[I K 3,U b,U h,U F,U i,I K n,I K q]);have HC:Hid (∀W1,Below w.heap.size w W1->Calls Vp 12 #[O (J ⟨k0,0,N⟩),U b,I K n] W1 λe w'=>e=Nm (Qb #[cH (fh st b n).1,I K (fh st b n).2])/\Below W1.heap.size W1 w'):=λW1 hb=>DP A k0 st s b n W1 G (a.on hb) hI (by omega)
 have HS:=aI a;have p:=aI R0.drew;have l:Hid (pU w (((w.alloc (E #[I K 3,U b,U h,U F,U i,I K n,I K q] 30)).alloc (E #[I K 0,I K 0,U ⟨#[]⟩,M N 0 0,U ⟨#[]⟩] 46)).alloc (E #[I K 0,U ⟨#[]⟩,C Z] 62)).drew/\aY (((w.alloc (E #[I K 3,U b,U h,U F,U i,I K n,I K q] 30)).alloc (E #[I K 0,I K 0,U ⟨#[]⟩,M N 0 0,U ⟨#[]⟩] 46)).alloc (E #[I K 0,U ⟨#[]⟩,C Z] 62)).drew (w.heap.size+1+1) (I K 0) (U ⟨#[]⟩) (C Z)):=⟨(R0.more _).drew,(vV _ _ _ _ _ _ (by simp))⟩;have hk0:=a.lt;clear R0 a;simp only[aJ];generalize fh st b n=pr at *;obtain⟨⟨z,t,D⟩,f⟩:=pr;simp only[cH]at HC;go_enter (Yq.nq func8),ntmps8
 go_upto_region 9 with fail
 go_cut [9,10] (λs9 s10 P=>s10=I K f/\∃y,s9=O (J ⟨y,0,N⟩)/\aY P y (I K z) (U t) (C D)/\w.heap.size+1<y/\pU w P)
 case first=>
  go_region_with (first
   |(go_at_call 12;refine(HC.o _ p.o.below).m ?_;rintro e k ⟨rfl,c⟩;have HX:Hid (pU w k):=p.o.to c;have u:w.heap.size+1<k.heap.size:=lL p.o.lt c.size;clear c)
   |(go_at_call 12;refine(HC.o _ l.o.1.below).m ?_;rintro e k ⟨rfl,c⟩;have⟨T,L,R,B⟩:=l.o.2.on c;have f0:=B 0;have f1:=B 1;have f2:=B 2;have HV:Hid (aY k (w.heap.size+1+1) (I K 0) (U ⟨#[]⟩) (C Z)/\pU w k):=⟨⟨T,L,R,B⟩,l.o.1.to c⟩;clear c))
  all_goals
   go_wp2_with fail
   go_meet
   case rel=>
    first
     |exact⟨Q,w.heap.size+1+1,Q,((HV.o.1.NY (I K z)).N2 (U t)).NP (C D),by omega,HV.o.2.put3 (I K z) (U t) (C D)⟩
     |exact⟨Q,k.heap.size,Q,ix k (I K z) (U t) (C D) 62,u,HX.o.more _⟩
 case rest=>
 obtain⟨rfl,y,rfl,⟨T,L,R,-⟩,hbv,j⟩:=hcut;have hne:¬y=w.heap.size+1:=by omega
 have u:=j.lt;obtain⟨x,-,d0,d1,V,X,d4,r⟩:=j;have g0:=r 0;have g1:=r 1;have g2:=r 2;have g3:=r 3;have g4:=r 4;have HX:=aI x;clear x r;go_wp2;exact PQ (v:=aG ⟨f,0,t⟩) (by simp[results,results8,go_sem,aG,d0,d1,V,X,d4]) Q (bG HS.o (BG HX.o (I K f) (I K 0) (U t) (M N 0 0) (U ⟨#[]⟩)))
theorem j1 st o(h:o.kind=1):aE st o=((ky st o.key o.body).1,⟨(ky st o.key o.body).2.2,(ky st o.key o.body).2.1,⟨#[]⟩⟩):=by
 unfold aE ky kx
 grind
theorem rE st o(h:o.kind=2):aE st o=(st,⟨(mj st o.key).2,(mj st o.key).1.num,(mj st o.key).1.body⟩):=by
 unfold aE mj;rw[gI (by omega),gL h];by_cases a:aS o.key=Z
 simp[a,eF];cases h2:(st.f o.key.data.toList).getLast? with
 |none=>simp[a,eF]
 |some v=>cases b:v.mark<;>simp[a,b,eF]
theorem pW st o(h:o.kind=3):aE st o=(st,⟨(fh st o.key o.n).2,0,(fh st o.key o.n).1.body⟩):=by
 unfold aE fh;rw[gI (by omega),gI (by omega),gL h];by_cases a:aS o.key=Z
 simp[a,eF];cases h2:db (st.f o.key.data.toList) o.n with
 |none=>simp[a,eF]
 |some r=>
  cases b:(st.f o.key.data.toList)[r]? with
  |none=>simp[a,b,eF]
  |some v=>cases c:v.mark<;>simp[a,c,b,eF]
theorem iU st o(h:o.kind=4):aE st o=((MA st o.key).1,⟨(MA st o.key).2.2,(MA st o.key).2.1,⟨#[]⟩⟩):=by
 unfold aE MA kx
 grind
theorem nR st o(h:o.kind=5):aE st o=((fc st o.key o.n).1,⟨(fc st o.key o.n).2,0,⟨#[]⟩⟩):=by
 unfold aE fc
 grind
theorem BI(A:H->Prop)k0 st s o w(b:o.key.size<=PR)(l:o.body.size<=PR)(a:aP A w k0 st)(c:Inv st s)(d:s<2199023255340)(h6:o.kind<6\/12<o.kind):
  Calls Vp 8 #[O (J ⟨k0,0,N⟩),aJ o] w (dQ A w k0 (aE st o).1 (aG (aE st o).2)):=by
 by_cases i:o.kind=1
 rw[j1 st o i];exact BD A k0 st s o w b l a c d i;by_cases f:o.kind=2
 rw[rE st o f];exact BH A k0 st s o w b a c d f;by_cases k:o.kind=3
 rw[pW st o k];exact yo A k0 st s o w b a c d k;by_cases h:o.kind=4
 rw[iU st o h];exact yn A k0 st s o w b a c d h;by_cases j:o.kind=5
 rw[nR st o j];exact vR A k0 st s o w b a c d j;have e:aE st o=(st,⟨1,0,⟨#[]⟩⟩):=by unfold aE;simp[i,f,k,h,j]
 rw[e];exact vU A k0 st o w a (by omega)
theorem Inv.step{st}{s}(h:Inv st s)o:Inv (aE st o).1 (s+1):=by
 by_cases a:o.kind=1
 rw[j1 st o a];unfold ky
 (repeat' split)<;>first|exact h.m (by omega)|exact h.add _ _ _ (λe=>by simp_all[kx])
 by_cases d:o.kind=2
 rw[rE st o d];exact h.m (by omega);by_cases c:o.kind=3
 rw[pW st o c];exact h.m (by omega);by_cases f:o.kind=4
 rw[iU st o f];unfold MA
 (repeat' split)<;>first|exact h.m (by omega)|exact h.add _ _ _ (λe=>by simp_all[kx])
 by_cases b:o.kind=5
 rw[nR st o b];unfold fc;split
 exact h.m (by omega);split
 exact h.m (by omega);rename_i r i;exact h.drop _ _ (vx.1 i).1;have e:aE st o=(st,⟨1,0,⟨#[]⟩⟩):=by unfold aE;simp[a,d,c,f,b]
 rw[e];exact h.m (by omega)
def st0:St:=⟨λ_=>[],0,0⟩
def DQ(st:St):S OpD->S Cu
 | []=>[]
 |o::r=>(aE st o).2::DQ (aE st o).1 r
def Mj(ops:S OpD):S Cu:=DQ st0 ops
theorem inv0:Inv st0 0:=by
 refine⟨by simp[st0],by simp[st0],by simp[st0],by simp[st0],λk=>by simp[st0],?_,?_⟩;intro k i j _ a;simp[st0]at a;intro k i b;simp[st0]at b
def cf(o:OpD):S Wx:=[I K o.kind,U o.key,U o.body,U o.eQ,U o.past,I K o.n,I K o.src]
def GX(l:S Cu):S Wx:=l.flatMap λa=>[I K a.code,I K a.MG,U a.body,M N 0 0,U ⟨#[]⟩]
def j3(w:Wj)(b off:H)(ops:S OpD):Prop:=
 ∀i (h:i<ops.length),w.cell? ⟨b,off+i*7,N⟩=J (I K ops[i].kind)/\w.cell? ⟨b,off+i*7+1,N⟩=J (U ops[i].key)/\w.cell? ⟨b,off+i*7+2,N⟩=J (U ops[i].body) /\
  w.cell? ⟨b,off+i*7+3,N⟩=J (U ops[i].eQ)/\w.cell? ⟨b,off+i*7+4,N⟩=J (U ops[i].past)/\w.cell? ⟨b,off+i*7+5,N⟩=J (I K ops[i].n)/\w.cell? ⟨b,off+i*7+6,N⟩=J (I K ops[i].src)
def Sized(ops:S OpD):Prop:=∀o∈ops,o.key.size<=PR/\o.body.size<=PR
theorem Yq.NU:(Yq.prog.info? 46).map (λi=>(i.zero,i.size,i.bytes))=J (J (Qa #[I K 0,I K 0,U ⟨#[]⟩,M N 0 0,U ⟨#[]⟩]),5,72):=by kernel_rfl
theorem oq{a:Act}{d:Prop}
  (R:o.guard=N) (s x:Operand) (t:Ww) (A:o.op=Op.call {callee:=Callee.builtin Qo,args:=#[s,x],argTypes:=#[t,t]})
  (p:H) (e:Ww) (i:Qg) (l:H) (h1:P.underlying t=J (.slice e)) (F:P.info? e=J i) (h4:i.size=l)
  (g k n:H) (z:S Wx) (L:a.eval s=.slice (J ⟨g,0,N⟩) k n) (q:w.ownsRow p e l (.slice (J ⟨g,0,N⟩) k n) k z) (B:Wu) (m c:H) (h:S Wx) (T:a.eval x=.slice (J B) m c) (V:h.length=m*l)
  (hc:∀j u,h[j]?=J u->w.cell? (B.add j)=J u) (v:∀u∈h,u.oneCell'=Y) (D:k+m<=n)
  (hK:∀w',w'.ownsRow p e l (.slice (J ⟨g,0,N⟩) (k+m) n) (k+m) (z++h)->w.grownBy w' (J g)->b (a.put o.dst (.slice (J ⟨g,0,N⟩) (k+m) n)) w'):
  if Qq o (yielded y a.tmps)=Y then QT P o a w b f else d:=by
 rw[gL (by simp[Qq,R])];have⟨w',r,G,X⟩:=PX (P:=P) w p t o.type e i l h1 F h4 g k n z q B m c h V hc v D;unfold QT;simp[PY,A,resolve,invoke,builtin,L,T,r,Result.andThen];exact hK w' G X
theorem rF(w:Wj)(a b d c e:Wx)(T:Ww):∀j u,[a,b,d,c,e][j]?=J u->(w.alloc (E #[a,b,d,c,e] T)).cell? ((⟨w.heap.size,0,N⟩:Wu).add j)=J u:=by
 intro j u hj;rw[QQ,cA (w:=w) _ _ w.heap.size _ Q]
 grind
theorem j4(w:Wj)(a:eW Wx)(T:Ww)(j:H):(w.alloc (E a T)).cell? ⟨w.heap.size,j,N⟩=a[j]?:=by simp_all
theorem J7(a:dT Wu)h w:
  Calls Vp 6 #[M a 0 h] w λe w'=>∃g,e=Nm (M (J ⟨g,0,N⟩) 0 0) /\
   w'.ownsRow w.heap.size 46 5 (M (J ⟨g,0,N⟩) 0 0) 0 (GX (Mj []))/\Below w.heap.size w w':=by
 have⟨p,m,f,i,hz2⟩:=PZ Yq.NU;go_enter (Yq.nq func6),ntmps6;go_wp2_with (at_make;refine wpList_make_own _ Q _ _ 26 Q w.heap.size 46 p _ 5 (Yq.u underlying26) m f i _ _ _ 0 Q Q (by simp) ?qb1 ?qb2 ?qb3 ?_)
 omega;omega;case qb3=>simp
 intro d c b;have n:Below w.heap.size w d:=⟨b.os,b.tape,b.output,b.size,λk q=>b.block k q (by simp)⟩;have j:Hid (∀o,Below w.heap.size w (d.alloc o)):=λo=>n.alloc n.size _
 have l:Hid (∀o,(d.alloc o).ownsRow w.heap.size 46 5 (M (J ⟨w.heap.size,0,N⟩) 0 0) 0 []):=λo=>World.ownsRow.alloc (show d.ownsRow w.heap.size 46 5 (M (J ⟨w.heap.size,0,N⟩) 0 0) 0 []by simpa using c) o
 go_wp2_with fail
 refine wp_loop_rounds 1 ?_;rw[rounds_succ];go_wp2;go_ret;exact⟨w.heap.size,Q,l.o _,j.o _⟩
structure jC (w:Wj)(v:Wx)(ops:S OpD):Prop where
 form:∃a cap,v=M a ops.length cap/\(ops≠[]->∃b off,a=J ⟨b,off,N⟩/\j3 w b off ops)
 sized:Sized ops
 len:ops.length<=2199023255552
end
section
open Go.ChangeShapes Go.WideShapes Go.ChangeAt Go.RowKit
theorem Ml:ownKnob Tryz.prog.godebug=none:=by kernel_rfl
theorem GY:laidOutB lk=true:=by kernel_rfl
theorem tF:Tryz.prog.cellsOf 30=7:=by kernel_rfl
theorem pX:Tryz.prog.cellsOf 3=1:=by kernel_rfl
theorem gR:Tryz.prog.cellsOf 9=1:=by kernel_rfl
theorem GZ:Tryz.prog.bytesOf 30=88:=by kernel_rfl
theorem seven{n:Type}(l:S n)(h:l.length=7):∃p q i j o m k,l=[p,q,i,j,o,m,k]:=by
 match l,h with
 | [a,b,c,d,e,f,g],_=>exact⟨a,b,c,d,e,f,g,Q⟩
theorem J8{a:Type}{l:Ww×Wx->a}{e}{b:H->lj}{f:lj}{cs}{x:DataW a×S PT}(h:QD l lk W e b f j 30 cs=J x):
  ∃o:OpD,cs=cf o/\o.key.size<=PR/\o.body.size<=PR:=by
 obtain⟨F,n,rfl,_,B,k,c⟩:=DataW.trod_struct underlying30 h;rw[tF]at B;have d:∀i,i<7->∃y,F[i]?=J y:=λi hi=>⟨F[i]'(by rw[k];exact hi),eL _⟩
 obtain⟨c0,c1,c2,c3,c4,c5,c6,rfl⟩:=seven cs B;have⟨y0,T⟩:=d 0 (by omega);have⟨y1,e1⟩:=d 1 (by omega);have⟨y2,e2⟩:=d 2 (by omega);have⟨y3,e3⟩:=d 3 (by omega);have⟨y4,e4⟩:=d 4 (by omega);have⟨y5,V⟩:=d 5 (by omega);have⟨y6,e6⟩:=d 6 (by omega);have z:=c 0 _ Q;have A:=c 1 _ Q;have m:=c 2 _ Q;have p:=c 3 _ Q;have r:=c 4 _ Q;have L:=c 5 _ Q;have s:=c 6 _ Q;rw[T]at z;rw[e1]at A;rw[e2]at m;rw[e3]at p;rw[e4]at r;rw[V]at L;rw[e6]at s;have⟨P,h0,_,_⟩:=QC underlying3 z;have⟨v,h1,_,s1⟩:=QB underlying9 A;have⟨t,X,_,s2⟩:=QB underlying9 m;have⟨G,h3,_,s3⟩:=QB underlying9 p;have⟨u,h4,_,s4⟩:=QB underlying9 r;have⟨q,h5,_,_⟩:=QC underlying3 L;have⟨D,h6,_,_⟩:=QC underlying3 s;have k0:c0=I K P:=by simpa[pX]using h0
 have R:c1=U v:=by simpa[gR]using h1
 have k2:c2=U t:=by simpa[gR]using X
 have k3:c3=U G:=by simpa[gR]using h3
 have k4:c4=U u:=by simpa[gR]using h4
 have k5:c5=I K q:=by simpa[pX]using h5
 have k6:c6=I K D:=by simpa[pX]using h6
 subst k0 R k2 k3 k4 k5 k6;exact⟨⟨P,v,t,G,u,q,D⟩,Q,s1,s2⟩
theorem yp{c:Type}{P:Ww×Wx->c}{u:H}{d l:H}{x:DataW c×S PT}(h:QD P lk W 0 (λ_=>Y) Y u 22 [.slice X d l]=J x)
  (hz:∀e p,x.1=.slice e p->(e.length+p.length)*88<=140737488355328):
  (∃A,jC W (.slice X d l) A)/\d<=l/\l<=PR/\l*88<=140737488355328:=by
 rcases Go.Deep.open_slice underlying22 h with⟨k,_⟩|⟨a,len',cap',m,n,D,Pl,k,_,G,B,V,hx,v⟩;simp at k;obtain⟨rfl,rfl,rfl⟩:=k;exact⟨⟨[],⟨N,0,rfl,λh=>g6 rfl h⟩,λo T=>g6 T List.not_mem_nil,by simp⟩,lR _,by simp[PR],by omega⟩;simp at k;obtain⟨rfl,rfl,rfl⟩:=k;simp at V;subst V;have hb:=hz _ _ (by rw[hx]);simp at hb;rw[tF]at v;have F:∀i,i<d->∃o:OpD,(∀j,j<7->W.cell? (a.add (i*7+j))=(cf o)[j]?)/\o.key.size<=PR/\o.body.size<=PR:=λi z=>by
  have⟨cs',h1,h2⟩:=v i (by omega);obtain⟨o,rfl,s1,s2⟩:=J8 h2;have⟨_,_,h3⟩:=World.cells?_some h1;refine⟨o,λj L=>?_,s1,s2⟩;rw[<-Go.Deep.add_add];exact h3 j L
 have hin:Inhabited OpD:=⟨⟨0,⟨#[]⟩,⟨#[]⟩,⟨#[]⟩,⟨#[]⟩,0,0⟩⟩;have⟨f,R⟩:=Go.Deep.choose_lt (α:=OpD) F;refine⟨⟨(PO d).map f,⟨J a,m,by simp,λhne=>?_⟩,?_,?_⟩,G,B,by omega⟩;have y:0<d:=by
  grind
 obtain⟨b,s,q⟩:=a;have r:q=none:=by
  have:W.cell? ((⟨b,s,q⟩:Wu).add 0)=J (.int .i64 (f 0).kind):=by simpa[cf]using((R 0 y).1 0 (by omega))
  simpa[Addr.add]using World.cell?_spot this
 subst r;refine⟨b,s,rfl,λi z=>?_⟩;simp at z;have t:∀j,j<7->W.cell? ⟨b,s+i*7+j,N⟩=(cf (f i))[j]?:=λj L=>by
  rw[<-(R i z).1 j L,QQ];congr 2;omega
 have hg:((PO d).map f)[i]'(by simpa using z)=f i:=by simp
 rw[hg];exact⟨t 0 (by omega),t 1 (by omega),t 2 (by omega),t 3 (by omega),t 4 (by omega),t 5 (by omega),t 6 (by omega)⟩;intro o T
 grind
 simp;omega
theorem G0{b:Type}{k:Ww×Wx->b}{e:H}{f i:H}{x:DataW b×S PT}(h:QD k lk W 0 (λ_=>Y) Y e 22 [.slice l f i]=J x)
  (hz:∀c d,x.1=.slice c d->(c.length+d.length)*88<=B):f*88<=B:=by
 rcases Go.Deep.open_slice underlying22 h with⟨j,_⟩|⟨a,len',cap',m,n,D,Pl,j,_,hlc,hcm,hm,hx,hel⟩
 grind
 grind
end
section
open Go.ChangeShapes Go.WideShapes Go.ChangeAt Go.RowKit
open Go.Conc Go.ConcX Go.ConcX.Gen
def slB(a:dT Wu)(b:H):Prop:=∃x,a=J x/\x.block=b
theorem G1(h:PW lk YtenhoolepfelcaaGreatDoor.Rows.runsRow.laid w):tE w:=by
 have a:=nQ (nQ h);have e:(YtenhoolepfelcaaGreatDoor.Rows.laid_internal_strconv_uint64pow10:DataW Unit)=Lib.tabData .u64 Lib.pow10Tab:=by kernel_rfl
 rw[e]at a;exact Lib.tabIs_of_head (P:=lk) (g:=1) (t:=236) (e:=34) (n:=20) (by kernel_rfl) (by kernel_rfl) (by kernel_rfl) (by kernel_rfl) (by kernel_rfl) (by kernel_rfl) a
theorem DR{f:Type}{r:Ww×Wx->f}{q:H}{d:DataW f}{p:S PT}(s:Qj lk W .any q 22 v)(h:DataW.Trod r lk W 0 (λ_=>Y) Y 22 v d p)(t:∀i j,d=.slice i j->(i.length+j.length)*88<=140737488351232):
  ∃a k l m,v=.slice a k l/\jC W (.slice a k l) m/\(∀b,slB a b->∃c e z,W.heap[b]?=J (.cells c e z))/\k*88<=140737488351232:=by
 obtain⟨a,k,l,rfl⟩:=okWide_slice underlying22 s;obtain⟨n,u⟩:=h;have o:QD r lk W 0 (λ_=>Y) Y n 22 [.slice a k l]=J (d,p):=by simpa[Qk]using u
 obtain⟨⟨m,A⟩,-,-,-⟩:=yp o (λi j y=>by have:=t i j y;omega);refine⟨a,k,l,m,rfl,A,?_,G0 o t⟩;rintro b ⟨x,rfl,rfl⟩;unfold Qj at s;obtain⟨-,-,-,-,row,cells,B,-⟩:=s;unfold World.shape? at B
 grind
theorem G2{Post Post':Wx->Wj->Prop}{d:eW Goroutine}{c:dT (H×H)}{t}(h:Fin P Post d W c t)(e:∀v w',Post v w'->Post' v w'):Fin P Post' d W c t:=by
 obtain⟨a,b,o,w',k,f,l,i,j⟩:=h;exact⟨a,b,o,w',k,f,l,i,j.mono λv h=>e v w' h⟩
theorem J9{a:Type}{h:Ww×Wx->a}{F:Os}(l:F.Started){p:FuncId}{fn:Func}{s:ChangeSpec}{n:S (String×DataW Unit)}(L:Tryz.prog.funcs[p]?=J fn)
  (P:∃ (w:Wj) (c:Tape) (i:Input),w.os=F/\(w.forCall c i).Shaped lk/\i.vars=[]/\Input.okWide lk (w.forCall c i) .any w.heap.size p i/\((s.pre h lk fn [] Z (w.forCall c i).memory i.args/\PW lk n (w.forCall c i).memory)/\sizedMet h lk fn (OpenSpec.ofChange s) Z (w.forCall c i).memory i.args)/\({}:Assume).holds lk (lone (Frame.enter lk p i.args .normal) [] (w.forCall c i)))
  (k:∀ (W:Wj) (u:H) (d:eW Wx) (A z:S (DataW a)) (f:S PT),W.ShapedOpen lk->(∀ (j:H) t v,fn.params[j]?=J t->d[j]?=J v->Qj lk W .any u t v)->DataW.Whole h lk fn.params.toList s.vars Z W d.toList A z f->(DataW.weightsEach lk (fn.params.toList++s.plain.varTypes lk) (A++z)).all (·<=reachBytes)=Y->PW lk n W->Fin lk (λv W'=>s.post h lk fn Z Y Z Z W d v W') #[G (Frame.enter lk p d .normal) []] W N #[]):
  ReturnsInLeavingWide {} n8 F p .any (λw d=>(s.pre h lk fn [] Z w d/\PW lk n w)/\sizedMet h lk fn (OpenSpec.ofChange s) Z w d) (s.post h lk fn Z Y Z Z):=by
 refine returnsInLeavingWide_of_good (C:=n8) Ml l P ?_;intro w c i _ D _ B x _;obtain⟨_,_,_,fn',r,_,_,_,_,y⟩:=B;have e:=oJ (r.s.t L);subst e;obtain⟨⟨⟨A,z,f,R,-⟩,X⟩,hz⟩:=x;have⟨b,q,o,w',V,e1,e2,e3,e4⟩:=k (w.forCall c i) w.heap.size i.args A z f D y (DataW.Whole.of_heap (w':=w.forCall c i) (by rfl) R) (hz.weights R) (X.of_heap (by rfl));exact⟨b,q,o,w',V,e1,e2,e3,e4.mono λv T=>ChangeSpec.post_blind T⟩
end
section
open Go.Conc Go.ConcX Go.ConcX.Gen Go.RowKit Go.MapKept
abbrev Told:=S (eV×ey×ey)
def plV(x:ey×ey):Wx:=Qa #[I K x.1,I K x.2]
def ee(k:eV):Told->dT (ey×ey)
 | []=>N
 |(k',x)::r=>if k=k' then J x else ee k r
def lE(k:eV)(x:ey×ey):Told->Told
 | []=>[(k,x)]
 |(k',x')::r=>if k=k' then(k,x)::r else(k',x')::lE k x r
def FD:S PU->Told->Prop
 | [],[]=>True
 |e::es,(k,x)::r=>e.key=U k/\e.val=plV x/\FD es r
 |_,_=>False
theorem zR(k:eV):∀ (b:S PU)(t:Told)(i:H),FD b t ->
  (∃x j,ee k t=J x/\j<b.length/\Qr .string (.string k) b i=J (J (i+j,plV x))/\((b[j]?).map (·.key))=J (.string k)/\∀ (c:ey×ey) (d:S PU),d=b.modify j (λe=>{e with key:=.string k,val:=plV c})->FD d (lE k c t)) \/
  (ee k t=N/\Qr .string (.string k) b i=J N/\∀ (c:ey×ey) (n:H),FD (b++[⟨.string k,plV c,n⟩]) (lE k c t)):=by
 intro b;induction b with
 |nil=>
  intro t i h;cases t with
  |nil=>exact .inr ⟨rfl,rfl,λc n=>⟨rfl,rfl,trivial⟩⟩
  |cons a r=>exact h.elim
 |cons e b ih=>
  intro t i h;cases t with
  |nil=>exact h.elim
  |cons a r=>
   obtain⟨m,x⟩:=a;obtain⟨l,o,s⟩:=h;by_cases f:k=m
   subst f
   left
   refine⟨x,0,by simp[ee],by simp,?_,by simp[l],λc d p=>?_⟩;simp[Qr,Qz,l,o,(bytes_beq k k).2 rfl];subst p;simp[lE,FD,s];have B:Qr .string (.string k) (e::b) i=Qr .string (.string k) b (i+1):=by
    have A:(k==m)=false:=by
     cases h:k==m with
     |true=>exact g6 ((bytes_beq k m).1 h) f
     |false=>rfl
    simp[Qr,Qz,l,A]
   rcases ih r (i+1) s with⟨y,j,q,u,v,z,D⟩|⟨q,u,v⟩
   left
   refine⟨y,j+1,by simp[ee,f,q],by simp;omega,?_,by simpa using z,λc d p=>?_⟩
   grind
   subst p;simp[lE,f];exact⟨l,o,D c _ rfl⟩
   right
   refine⟨by simp[ee,f,q],by rw[B,u],λc n=>?_⟩;simp[lE,f];exact⟨l,o,v c n⟩
def DS(w:Wj)(c:Wx)(t:Told)(A:H->Prop)(B:H):Prop:=
 (c=.map N/\t=[])\/∃m b a,c=.map (J m)/\w.heap[m]?=J (.map b a)/\FD b.toList t/\¬A m/\B<=m
theorem jD(b:lj)(k:eV)w:(Qx b 10000 9 (U k)).run Vp w=.ok () w:=by
 rw[Qx];simp[go_sem]
theorem tG{m}{s}(h:w.heap[m]?=J s)(a:s.isCells=Z):Sem.run Vp (getObj m) w=.ok s w:=by
 cases s with
 |cells c e z=>cases a
 |_=>simp[getObj,Sem.run,h]
theorem DT{m}{s a}(h:w.heap[m]?=J s)(b:s.isCells=Z):Sem.run Vp (setObj m a) w=.ok () (w.putObj m a):=by
 cases s with
 |cells c e z=>cases b
 |_=>simp[setObj,Sem.run,h,vf]
theorem nd{t:Told}(h:DS w v t A B)(k:eV):
  (Qv 38 v (U k) Y).run Vp w=.ok (Qb #[plV ((ee k t).getD (0,0)),C (ee k t).isSome]) w:=by
 rcases h with⟨rfl,rfl⟩|⟨m,e,clock,rfl,b,i,-,-⟩;simp[Qv,go_sem,jD,Qs,Qr,ee,plV];rcases zR k e.toList t 0 i with⟨x,j,a,d,f,-⟩|⟨a,d,-⟩;simp[Qv,go_sem,jD,Qs,tG b Q,a,f];simp[Qv,go_sem,jD,Qs,tG b Q,a,d,plV]
theorem rH{m}{t:Told}(f:w.heap[m]?=J (.map c a))(n:FD c.toList t)(k:eV)(x:ey×ey):
  ∃d b,(Qt 38 (.map (J m)) (U k) (plV x)).run Vp w=.ok () (w.putObj m (.map d b))/\FD d.toList (lE k x t):=by
 rcases zR k c.toList t 0 n with⟨y,j,o,l,i,a4,p⟩|⟨o,l,i⟩;refine⟨c.modify j λe=>{e with key:=U k,val:=plV x},a,?_,p x _ (by simp)⟩;have h:(c[j]?).map (·.key)=J (U k):=by grind
 simp[Qt,go_sem,jD,Qs,tG f Q,DT f Q,i,h,Instr.keyThatStays,Instr.sameBits,vf,(bytes_beq k k).2 Q];refine⟨c.push ⟨U k,plV x,a⟩,a+1,?_,by simpa using i x a⟩;simp[Qt,go_sem,jD,Qs,tG f Q,DT f Q,l,vf]
end
section
open Go.Conc Go.ConcX Go.ConcX.Gen Go.RowKit
structure LsA where
 num:ey
 f:S kr->S Ver
 q:Qy
 size:ey
 left:ey
def LsA.MU(x:LsA)(r:dT Wu):Lst:=⟨x.num,r,x.q.vs,x.q.p,x.q.d,x.q.af,x.size,x.left⟩
structure Lg where
 opened:S LsA
 begun:ey
 told:Told
 tm:ey
def bW(zs:S (LsA×dT Wu)):S Wx:=zs.flatMap λz=>(aQ (z.1.MU z.2)).toList
theorem nf a:(bW a).length=a.length*8:=eN 8 _ (λ_=>Q) a
theorem yq a(z:LsA×dT Wu):bW (a++[z])=bW a++(aQ (z.1.MU z.2)).toList:=by simp[bW]
def zS(A:H->Prop)(B:H)(w:Wj)(v:Wx)(xs:S LsA):Prop:=
 ∃a:S (LsA×dT Wu),xs=a.map (·.1)/\w.ownsRow B 107 8 v a.length (bW a)/\(∀g,v.ownBlock=J g->¬A g)/\∀z∈a,ao A 41 w z.2 z.1.f
structure eE (A:H->Prop)(B:H)(w:Wj)(k0:H)(L:Lg):Prop where
 opened:∃v,w.cell? ⟨k0,4,N⟩=J v/\zS A B w v L.opened
 begun:w.cell? ⟨k0,5,N⟩=J (I K L.begun)
 told:∃mv,w.cell? ⟨k0,6,N⟩=J mv/\DS w mv L.told A B
 frozen:∀j,w.frozen? ⟨k0,j,N⟩=Z
 Mv:¬A k0
 low:k0<B
 Ng:∀b,A b->b<w.heap.size
structure aX (A:H->Prop)(B k0:H)(w w':Wj):Prop where
 os:w'.os=w.os
 size:w.heap.size<=w'.heap.size
 low:∀b,b<B->b<w.heap.size->b≠k0->w'.heap[b]?=w.heap[b]?
 tree:∀b,A b->b<w.heap.size->w'.heap[b]?=w.heap[b]?
 cells:∀j,j<4\/6<j->w'.cell? ⟨k0,j,N⟩=w.cell? ⟨k0,j,N⟩
 fz:∀j,w'.frozen? ⟨k0,j,N⟩=w.frozen? ⟨k0,j,N⟩
section
variable {A:Nat->Prop} {B k0:Nat} {w w' w'':Wj} {L:Lg}
theorem aX.refl:aX A B k0 w w:=⟨Q,lR _,λ_ _ _ _=>Q,λ_ _ _=>Q,λ_ _=>Q,λ_=>Q⟩
theorem aX.t(h:aX A B k0 w w')(k:aX A B k0 w' w''):aX A B k0 w w'':=
 ⟨k.os.t h.os,lT h.size k.size,λb a c e=>(k.low b a (lL c h.size) e).t (h.low b a c e),λb a c=>(k.tree b a (lL c h.size)).t (h.tree b a c),λj d=>(k.cells j d).t (h.cells j d),λj=>(k.fz j).t (h.fz j)⟩
theorem eE.lt(h:eE A B w k0 L):k0<w.heap.size:=bC w _ h.begun
theorem aX.left(d:k0<w.heap.size)(h:ay w w'):aX A B k0 w w':=
 ⟨h.os,h.size,λb _ c _=>h.block b c,λb _ c=>h.block b c,λj _=>cB (a:=⟨k0,j,N⟩) (h.block k0 d),λj=>fB (a:=⟨k0,j,N⟩) (h.block k0 d)⟩
theorem ay.refl:ay w w:=⟨Q,lR _,λ_ _=>Q⟩
theorem ay.t(h:ay w w')(k:ay w' w''):ay w w'':=⟨k.os.t h.os,lT h.size k.size,λb a=>(k.block b (lL a h.size)).t (h.block b a)⟩
theorem ay.below(h:Below w.heap.size w w'):ay w w':=⟨h.os,h.size,h.block⟩
theorem ay.alloc(h:ay w w')o:ay w (w'.alloc o):=⟨h.os,by have:=h.size;simp;omega,λb a=>(bA _ _ _ (lL a h.size)).t (h.block b a)⟩
theorem ay.drew(h:ay w w'):ay w w'.drew:=⟨h.os,h.size,h.block⟩
theorem ay.cell(h:ay w w'){b j}{v}(c:w.cell? ⟨b,j,N⟩=J v):w'.cell? ⟨b,j,N⟩=J v:=
 (cB (a:=⟨b,j,N⟩) (h.block b (bC w _ c))).t c
theorem ay.set(h:ay w w'){b}(hb:w.heap.size<=b)j v:ay w (w'.setCell ⟨b,j,N⟩ v):=
 ⟨h.os,by have:=h.size;simp;omega,λk a=>(bS _ _ _ _ (by show k≠b;omega)).t (h.block k a)⟩
theorem DS.left{t:Told}(h:DS w v t A B)(i:ay w w'):DS w' v t A B:=by
 rcases h with h|⟨m,e,a,d,c,f⟩
 .exact Qc h
 .exact Qd ⟨m,e,a,d,(i.block m (eS c).1).t c,f⟩
theorem zS.left{xs}(h:zS A B w v xs)(c:ay w w'):zS A B w' v xs:=by
 obtain⟨i,f,d,k,e⟩:=h;exact⟨i,f,bH d λg _ l=>c.block g l,k,λz m=>ao.Mr (λb j a=>⟨j,c.block b a⟩) 41 _ _ (e z m)⟩
theorem eE.left(h:eE A B w k0 L)(c:ay w w'):eE A B w' k0 L:=by
 have⟨v,l,i⟩:=h.opened;have⟨e,f,d⟩:=h.told;exact⟨⟨v,c.cell l,i.left c⟩,c.cell h.begun,⟨e,c.cell f,d.left c⟩,λj=>(fB (a:=⟨k0,j,N⟩) (c.block k0 h.lt)).t (h.frozen j),h.Mv,h.low,λb k=>lL (h.Ng b k) c.size⟩
theorem Nt{m}{h es':eW PU}{d clock'}(_hm:w.heap[m]?=J (.map h d))(k:¬A m)(hB:B<=m)(hk:k0<B):aX A B k0 w (w.putObj m (.map es' clock')):=by
 have c:∀b,b≠m->(w.putObj m (.map es' clock')).heap[b]?=w.heap[b]?:=λb i=>pO i
 exact⟨Q,by simp,λb f l _=>c b (by omega),λb f l=>c b (λe=>k (e▸f)),λj _=>cB (a:=⟨k0,j,N⟩) (c k0 (by omega)),λj=>fB (a:=⟨k0,j,N⟩) (c k0 (by omega))⟩
theorem eE.Nt(h:eE A B w k0 L){m}{s es':eW PU}{f clock'}(T:w.cell? ⟨k0,6,N⟩=J (.map (J m)))(l:w.heap[m]?=J (.map s f))(q:¬A m)(V:B<=m){t:Told}(D:FD es'.toList t):eE A B (w.putObj m (.map es' clock')) k0 {L with told:=t}:=by
 have c:∀b,b≠m->(w.putObj m (.map es' clock')).heap[b]?=w.heap[b]?:=λb i=>pO i
 have hk:=h.low;have d:∀j,(w.putObj m (.map es' clock')).cell? ⟨k0,j,N⟩=w.cell? ⟨k0,j,N⟩:=λj=>cB (a:=⟨k0,j,N⟩) (c k0 (by omega))
 have⟨v,X,u,P,o,x,G⟩:=h.opened;refine⟨⟨v,(d 4).t X,u,P,?_,x,λz hz=>ao.Mr (λb i hlt=>⟨i,c b (λe=>q (e▸i))⟩) 41 _ _ (G z hz)⟩,(d 5).t h.begun,⟨_,(d 6).t T,Qd ⟨m,es',clock',Q,World.putObj_heap_same (eS l).1,D,q,V⟩⟩,λj=>(fB (a:=⟨k0,j,N⟩) (c k0 (by omega))).t (h.frozen j),h.Mv,h.low,λb i=>by simpa using h.Ng b i⟩;refine⟨o.1,?_⟩;rcases o.2 with R|⟨g,n,k,F,y,p,r⟩
 .exact Qc R
 .refine Qd ⟨g,n,k,F,y,(c g λe=>?_).t p,r⟩;subst e;rw[p]at l;cases l
end
def lp(k0:H)(w:Wj)(b:H):Prop:=∃v,w.cell? ⟨k0,4,N⟩=J v/\v.ownBlock=J b
structure FrC (k0:H)(w w':Wj):Prop where
 size:w.heap.size<=w'.heap.size
 Mr:∀b,dl w b->b≠k0->¬lp k0 w b->w'.heap[b]?=w.heap[b]?
 own:∀b,lp k0 w' b->lp k0 w b\/w.heap.size<=b
section
variable {k0:Nat} {w w' w'':Wj}
theorem dl.same{b}(h:dl w b)(e:w'.heap[b]?=w.heap[b]?):dl w' b:=by
 obtain⟨o,a,c⟩:=h;exact⟨o,e.t a,c⟩
theorem FrC.refl:FrC k0 w w:=⟨lR _,λ_ _ _ _=>Q,λ_ h=>Qc h⟩
theorem FrC.t(h:FrC k0 w w')(k:FrC k0 w' w''):FrC k0 w w'':=by
 refine⟨lT h.size k.size,λb d f c=>?_,λb c=>?_⟩;have e:=h.Mr b d f c;refine(k.Mr b (d.same e) f λa=>?_).t e;rcases h.own b a with i|i;exact c i;have:=d.lt;omega;rcases k.own b c with a|a;exact h.own b a;exact Qd (lT h.size a)
theorem FrC.Oa(d:w.heap.size<=w'.heap.size)(f:w'.cell? ⟨k0,4,N⟩=w.cell? ⟨k0,4,N⟩)(h:∀b,dl w b->b≠k0->¬lp k0 w b->w'.heap[b]?=w.heap[b]?):FrC k0 w w':=
 ⟨d,h,λb c=>Qc (by obtain⟨v,a,e⟩:=c;exact⟨v,f.s.t a,e⟩)⟩
theorem FrC.left(c:k0<w.heap.size)(h:ay w w'):FrC k0 w w':=FrC.Oa h.size (cB (a:=⟨k0,4,N⟩) (h.block k0 c)) λb d _ _=>h.block b d.lt
theorem FrC.set j v(a:j≠4):FrC k0 w (w.setCell ⟨k0,j,N⟩ v):=
 FrC.Oa (by simp) (cO _ _ _ _ (bB a)) λb _ c _=>bS _ _ _ _ c
theorem FrC.open(d:lp k0 w g)(c:g≠k0):FrC k0 w (w.setCell ⟨g,j,N⟩ v):=
 FrC.Oa (by simp) (cB (a:=⟨k0,4,N⟩) (bS _ _ _ _ (λe=>c e.s))) λb _ _ h=>bS _ _ _ _ (λe=>h (by rw[show b=g from e];exact d))
theorem FrC.fresh{m}(h:FrC k0 W w)(hr:W.heap.size<=m)(k:m≠k0):FrC k0 W (w.setCell ⟨m,j,N⟩ v):=by
 refine⟨by have:=h.size;simpa using this,λb f c d=>(bS _ _ _ _ (show b≠m by have:=f.lt;omega)).t (h.Mr b f c d),λb d=>(h.own b ?_)⟩;obtain⟨x,i,l⟩:=d;exact⟨x,(cB (a:=⟨k0,4,N⟩) (bS _ _ _ _ (λe=>k e.s))).s.t i,l⟩
theorem FrC.OW(h:ed k0 w w')(f:w'.cell? ⟨k0,4,N⟩=w.cell? ⟨k0,4,N⟩):FrC k0 w w':=
 FrC.Oa h.1 f λb d c _=>by
  obtain⟨o,a,e⟩:=d;exact(h.2.2 b o a e c).t a.s
end
theorem kJ{q}{w'}{p:Prop}(j:o.guard=N)t(x y z:Operand)(f:o.op=.mapUpdate t x y z)
  (h:(Qt t (q.eval x) (q.eval y) (q.eval z)).run P w=.ok () w') (i:b (q.put o.dst Wo) w'):
  if Qq o (yielded e q.tmps)=Y then QT P o q w b d else p:=by
 rw[gL (by simp[Qq,j])];unfold QT;simp[PY,f,h,Result.andThen];exact i
theorem BJ m w:(binOp BinOp.eql 38 (.map (J m)) (.map N)).run Vp w=.ok (C Z) w:=by kernel_rfl
theorem yr w:(binOp BinOp.eql 38 (.map N) (.map N)).run Vp w=.ok (C Y) w:=by kernel_rfl
section
variable {A:Nat->Prop} {B k0:Nat} {L:Lg}
theorem aX.set(a:¬A k0)(hj:4<=j/\j<=6)v:aX A B k0 w (w.setCell ⟨k0,j,N⟩ v):=
 ⟨Q,by simp,λb _ _ h=>bS _ _ _ _ h,λb c _=>bS _ _ _ _ (λe=>a (by rw[<-show b=k0 from e];exact c)),λi hi=>cO _ _ _ _ (bB (by omega)),λi=>pt ..⟩
theorem yt{B i}(h:w.ownsRow B j a v i xs)(c:v.ownBlock=J g):B<=g/\g<w.heap.size:=h.lt g c
theorem fH{w':Wj}{b:H}{m:H}(h:w.ownsRow a T b v m xs)(k:∀g,v.ownBlock=J g->w'.heap[g]?=w.heap[g]?):w'.ownsRow a T b v m xs:=by
 refine⟨h.1,?_⟩;rcases h.2 with i|⟨g,d,c,f,l,j,r⟩
 .exact Or.inl i
 .exact Or.inr ⟨g,d,c,f,l,(k g (by rw[f];rfl)).t j,r⟩
theorem eE.Pq(h:eE A B w k0 L){m}{t:Told}(p:w.heap[m]?=J (.map i a))(D:¬A m)(x:B<=m)(q:FD i.toList t):eE A B (w.setCell ⟨k0,6,N⟩ (.map (J m))) k0 {L with told:=t}:=by
 have hk:=h.low;have c:∀b,b≠k0->(w.setCell ⟨k0,6,N⟩ (.map (J m))).heap[b]?=w.heap[b]?:=λb d=>bS _ _ _ _ d
 have f:∀j,j≠6->(w.setCell ⟨k0,6,N⟩ (.map (J m))).cell? ⟨k0,j,N⟩=w.cell? ⟨k0,j,N⟩:=λj hj=>cO _ _ _ _ (bB (by omega))
 have⟨v,y,l,s,k,n,r⟩:=h.opened;obtain⟨mv,u,-⟩:=h.told;refine⟨⟨v,(f 4 (by omega)).t y,l,s,fH k (λg o=>c g (by have:=(yt k o).1;omega)),n,λz F=>ao.Mr (λb d hlt=>⟨d,c b (λe=>h.Mv (e▸d))⟩) 41 _ _ (r z F)⟩,(f 5 (by omega)).t h.begun,⟨_,cS _ _ _ (by rw[u];rfl),Qd ⟨m,i,a,Q,(c m (by omega)).t p,q,D,x⟩⟩,λj=>by rw[pt];exact h.frozen j,h.Mv,h.low,λb d=>by simpa using h.Ng b d⟩
theorem zT{w'}(h:∀b,b<w.heap.size->b≠k0->w'.heap[b]?=w.heap[b]?)(c:w.heap.size<=w'.heap.size)(e:w'.os=w.os):ed k0 w w':=⟨c,e,λb _o a _ d=>(h b (eS a).1 d).t a⟩
theorem DU w(h:eE A B w k0 L)(hB:B<=w.heap.size)(k:eV)(x:ey×ey):
  Calls Vp 45 #[O (J ⟨k0,4,N⟩),U k,plV x] w λe w'=>e=Nm (Qb #[])/\eE A B w' k0 {L with told:=lE k x L.told}/\aX A B k0 w w'/\ed k0 w w'/\∀j,j≠6->w'.cell? ⟨k0,j,N⟩=w.cell? ⟨k0,j,N⟩:=by
 have⟨mv,T,p⟩:=h.told;have f6:=h.frozen 6;have l:=h.lt;rcases p with⟨rfl,ht⟩|⟨m,es,clock,rfl,p,R,V,F⟩
 .have f:ay w ((w.alloc (E #[I K x.1,I K x.2] 111)).alloc (.map #[] 0)):=(ay.refl.alloc _).alloc _;have n:((w.alloc (E #[I K x.1,I K x.2] 111)).alloc (.map #[] 0)).heap[w.heap.size+1]?=J (.map #[] 0):=by
   have:=aN (w.alloc (E #[I K x.1,I K x.2] 111)) (.map #[] 0)
   simp_all
  have y:¬A (w.heap.size+1):=λe=>by have:=h.Ng _ e;omega
  have i:=(h.left f).Pq n y (by omega) (t:=[]) trivial;have v:((w.alloc (E #[I K x.1,I K x.2] 111)).alloc (.map #[] 0)).setCell ⟨k0,6,N⟩ (.map (J (w.heap.size+1)))=((w.setCell ⟨k0,6,N⟩ (.map (J (w.heap.size+1)))).alloc (E #[I K x.1,I K x.2] 111)).alloc (.map #[] 0):=by
   rw[ta _ _ _ _ (by simp;omega),ta _ _ _ _ l]
  rw[v]at i;have G:aX A B k0 w (((w.setCell ⟨k0,6,N⟩ (.map (J (w.heap.size+1)))).alloc (E #[I K x.1,I K x.2] 111)).alloc (.map #[] 0)):=by
   rw[<-v];exact(aX.left l f).t (aX.set h.Mv ⟨by omega,by omega⟩ _)
  obtain⟨W,z⟩:∃W,W=((w.setCell ⟨k0,6,N⟩ (.map (J (w.heap.size+1)))).alloc (E #[I K x.1,I K x.2] 111)).alloc (.map #[] 0):=⟨_,Q⟩;have r:W.drew.heap[w.heap.size+1]?=J (.map #[] 0):=by
   rw[z,<-v];exact(bS _ _ _ _ (by show w.heap.size+1≠k0;omega)).t n
  rw[<-z]at i G;have⟨d,c,q,s⟩:=rH r (t:=[]) trivial k x;obtain⟨mv,k6,-⟩:=i.told;have D:W.cell? ⟨k0,6,N⟩=J (.map (J (w.heap.size+1))):=by
   rw[z,<-v];exact cS _ _ _ (by rw[f.cell T];rfl)
  have u:ay W W.drew:=ay.refl.drew;have HX:Hid (eE A B (W.drew.putObj (w.heap.size+1) (.map d c)) k0 {L with told:=lE k x L.told}/\aX A B k0 w (W.drew.putObj (w.heap.size+1) (.map d c))/\ed k0 w (W.drew.putObj (w.heap.size+1) (.map d c))/\∀j,j≠6->(W.drew.putObj (w.heap.size+1) (.map d c)).cell? ⟨k0,j,N⟩=w.cell? ⟨k0,j,N⟩):=by
   have P:ed k0 w W:=by
    rw[z,<-v];exact zT (λb i X=>(bS _ _ _ _ X).t (f.block b i)) (by simp;omega) Q
   refine⟨?_,(G.t (aX.left i.lt u)).t (Nt r y (by omega) h.low),P.t (ed.t ⟨lR _,Q,λ_ _ h _ _=>h⟩ (gN r Q _)),λj hj=>?_⟩
   rotate_left
   have e2:W.drew.cell? ⟨k0,j,N⟩=W.cell? ⟨k0,j,N⟩:=rfl;rw[(cB (a:=⟨k0,j,N⟩) (pO (show k0≠w.heap.size+1 by omega))),e2,z,<-v,cO _ _ _ _ (bB (by omega))];exact cB (a:=⟨k0,j,N⟩) (f.block k0 l);have:=(i.left u).Nt (es':=d) (clock':=c) (u.cell D) r y (by omega) (t:=lE k x []) s;rw[ht];exact this
  have hn:=yr;have hmm:=@run_makeMap Vp;clear h i G r s f v n k6 u D;subst z;unfold plV at q ⊢;go_enter (Yq.nq func45),ntmps45;go_wp2_with fail
  go_region_law (refine kJ Q 61 (Qe 18) (Qe 19) (Qe 20) Q q ?_)
  all_goals go_end0
  all_goals exact⟨Q,HX.o⟩
 have f:ay w (w.alloc (E #[I K x.1,I K x.2] 111)).drew:=(ay.refl.alloc _).drew;have i:=h.left f;have⟨d,c,q,s⟩:=rH (w:=(w.alloc (E #[I K x.1,I K x.2] 111)).drew) ((f.block m (eS p).1).t p) R k x;have HX:Hid (eE A B ((w.alloc (E #[I K x.1,I K x.2] 111)).drew.putObj m (.map d c)) k0 {L with told:=lE k x L.told}/\aX A B k0 w ((w.alloc (E #[I K x.1,I K x.2] 111)).drew.putObj m (.map d c))/\ed k0 w ((w.alloc (E #[I K x.1,I K x.2] 111)).drew.putObj m (.map d c))/\∀j,j≠6->((w.alloc (E #[I K x.1,I K x.2] 111)).drew.putObj m (.map d c)).cell? ⟨k0,j,N⟩=w.cell? ⟨k0,j,N⟩):=
  ⟨i.Nt (f.cell T) ((f.block m (eS p).1).t p) V F s,(aX.left l f).t (Nt ((f.block m (eS p).1).t p) V F h.low),(zT (λb i _=>f.block b i) f.size f.os).t (gN ((f.block m (eS p).1).t p) Q _),λj _=>(cB (a:=⟨k0,j,N⟩) (pO (by have:=h.low;show k0≠m;omega))).t (cB (a:=⟨k0,j,N⟩) (f.block k0 l))⟩
 clear h i p R s f;unfold plV at q ⊢;have hn:=BJ m;go_enter (Yq.nq func45),ntmps45;go_wp2_with fail
 go_region_law (refine kJ Q 61 (Qe 18) (Qe 19) (Qe 20) Q q ?_)
 all_goals go_end0
 all_goals exact⟨Q,HX.o⟩
end
theorem yu{l' a}(h:l'.size=a.size)(b k:ey):jA l' b k=jA a b k:=by simp[jA,h]
theorem iV{l l'}(h:l.size=l'.size)(a:ey):∀ (Mt:S ItD)(k:H),dV l a k Mt=dV l' a k Mt
 | [],_=>rfl
 |i::r,k=>by rw[dV,dV,yu h,iV h a r]
def LsA.Mz(x:LsA)(a:ey):S ItD:=dV (x.MU N) a 0 (bV x.q (bL x.f x.q.p.data.toList))
def LsA.tok(x:LsA)(a:ey):eV:=IG (x.MU N) a (bV x.q (bL x.f x.q.p.data.toList)).length
def iW(L:Lg)(f:S kr->S Ver)(q:Qy)(a:ey):LsA:=⟨L.begun+1,f,q,a,10⟩
def fw(L:Lg)(f:S kr->S Ver)(q:Qy)(a:ey):Lg×S ItD×eV×ey:=
 if a<1\/20<a then(L,[],⟨#[]⟩,7)
 else if(iW L f q a).tok 1=⟨#[]⟩then(L,(iW L f q a).Mz 1,⟨#[]⟩,0)
 else if 3<=L.opened.length then(L,[],⟨#[]⟩,8)
 else(⟨L.opened++[iW L f q a],L.begun+1,lE ((iW L f q a).tok 1) (L.begun+1,2) L.told,L.tm⟩,(iW L f q a).Mz 1,(iW L f q a).tok 1,0)
def bK(A:H->Prop)(B k0:H)(w:Wj)(L':Lg)(Mt:S ItD)(sv:Wx)(w':Wj):Prop:=
 ∃A':H->Prop,(∀b,A b->A' b)/\(∀b,A' b->A b\/w.heap.size<=b)/\eE A' B w' k0 L'/\aX A B k0 w w'/\cw A' w' sv Mt.length (aq Mt)/\FrC k0 w w'
theorem vW(n:ey)(r:dT Wu)(a:lj)(p d b:eV)(s:ey)w:(Qu 107 #[(0,I K n),(1,Qa #[O r]),(2,Qa #[C a,U p,U d,U b]),(3,I K s),(4,I K 10)]).run Vp w=.ok (Qa #[I K n,O r,C a,U p,U d,U b,I K s,I K 10]) w:=by kernel_rfl
theorem pY(a b:ey)w:(Qu 111 #[(0,I K a),(1,I K b)]).run Vp w=.ok (Qa #[I K a,I K b]) w:=by kernel_rfl
theorem fX w:(Qu 69 #[]).run Vp w=.ok (Qa #[M N 0 0,U ⟨#[]⟩]) w:=by kernel_rfl
section
variable {A:Nat->Prop} {B k0:Nat} {L:Lg}
theorem bK.same{w'}(h:eE A B w k0 L)(a:ay w w'):bK A B k0 w L [] (M N 0 0) w':=
 ⟨A,λ_ h=>h,λ_ h=>Qc h,h.left a,aX.left h.lt a,⟨N,0,Q,λ_=>Q,λh=>g6 Q h⟩,FrC.left h.lt a⟩
theorem eE.more(h:eE A B w k0 L)(e:ay w W){A':H->Prop}(T:∀b,A b->A' b)(h2:∀b,A' b->A b\/w.heap.size<=b)(y:∀b,A' b->b<W.heap.size):eE A' B W k0 L:=by
 have c:=h.lt;have d:∀g,g<w.heap.size->¬A g->¬A' g:=λg i ha hx=>by
  grind
 have⟨v,c4,u,R,p,F,P⟩:=h.opened;have⟨G,V,l⟩:=h.told;refine⟨⟨v,e.cell c4,u,R,bH p λg _ i=>e.block g i,λg i=>d g (p.lt g i).2 (F g i),λz hz=>ao.Mr (λb x c=>⟨T b x,e.block b c⟩) 41 _ _ (P z hz)⟩,e.cell h.begun,⟨G,e.cell V,?_⟩,λj=>(fB (a:=⟨k0,j,N⟩) (e.block k0 c)).t (h.frozen j),d k0 c h.Mv,h.low,y⟩;rcases l with l|⟨m,r,f,D,o,q,X,s⟩;exact Qc l;have k:=(eS o).1;exact Qd ⟨m,r,f,D,(e.block m k).t o,q,d m k X,s⟩
theorem ng{m:H}{sv:Wx}{n:H}(h:w.ownsRow a m 3 sv n xs){A':H->Prop}(d:∀g,sv.ownBlock=J g->A' g):cw A' w sv n xs:=by
 rcases h.2 with⟨rfl,rfl⟩|⟨g,b,cur,rfl,hb,i,r⟩;have:xs=[]:=by have:=h.1;simpa using this
 exact⟨N,0,Q,λ_=>Q,λf=>g6 this f⟩;refine⟨J ⟨g,0,N⟩,b,Q,λh=>(by cases h),λ_=>⟨g,Q,d g Q,(eS i).1,λj c=>?_⟩⟩;have:=h.cells (g:=g) Q j xs[j] (eL c);rw[QQ,zA]at this
 grind
theorem bK.Mz{w2}(h:eE A B w k0 L)(f:ay w w2){m}{sv}{pg}(e:W.ownsRow m 117 3 sv pg.length (aq pg))(hb:w.heap.size<=m)(j:∀g,m<=g->g<W.heap.size->w2.heap[g]?=W.heap[g]?):bK A B k0 w L pg sv w2:=by
 have d:=bH e j;refine⟨λb=>A b\/sv.ownBlock=J b,λ_ h=>Qc h,λb a=>?_,h.more f (λ_ h=>Qc h) (λb a=>?_) (λb a=>?_),aX.left h.lt f,ng d λg k=>Qd k,FrC.left h.lt f⟩;rcases a with a|a
 grind
 exact Qd (by have:=(d.lt b a).1;omega);rcases a with a|a
 grind
 exact Qd (by have:=(d.lt b a).1;omega);rcases a with a|a;exact lL (h.Ng b a) f.size;exact(d.lt b a).2
end
section
variable {P:Wv}
theorem lq(w:Wj)(q:H)(t R e:Ww)(i:Qg)(z:Wx)(b f:H)(T:P.underlying t=J (.slice e))(hi:P.info? e=J i)(hz:i.zero=J z)(k:i.size=b)(B:i.bytes=f)(D:z.cells.size=b)(A:0<b)
  (v:Wx) (n:H) (G:S Wx) (h:w.ownsRow q e b v n G) (a:Wu) (m c:H) (d:S Wx) (V:d.length=m*b) (l:∀j u,d[j]?=J u->w.cell? (a.add j)=J u) (h1:∀u∈d,u.oneCell'=Y)
  (y:n+m<=PR) (o:(n+m)*f<=140737488355328) (r:q<=w.heap.size):
  ∃L w',(Qp #[t,t] R #[v,.slice (J a) m c]).run P w=.ok L w'/\w'.ownsRow q e b L (n+m) (G++d)/\w.grownBy w' v.ownBlock/\∀g,L.ownBlock=J g->v.ownBlock=J g\/w.heap.size<=g:=by
 obtain⟨L,w',X,ho,hg,-⟩:=P0 (P:=P) w q t R e i z b f T hi hz k B D A v n G h a m c d V l h1 y o r;refine⟨L,w',X,ho,hg,λg x=>?_⟩;rcases h.2 with⟨rfl,rfl⟩|⟨g0,s,cur,rfl,hb0,hrow,hcap⟩;obtain⟨v2,w2,p,F,-⟩:=P0 (P:=P) w w.heap.size t R e i z b f T hi hz k B D A (.slice N 0 0) 0 G ⟨h.1,.inl ⟨rfl,rfl⟩⟩ a m c d V l h1 y o (lR _);rw[X]at p;cases p;exact .inr (F.lt g x).1;by_cases hf:n+m<=s
 obtain⟨w2,p,-⟩:=PX (P:=P) w q t R e i b T hi k g0 n s G h a m c d V l h1 hf;rw[X]at p;cases p;exact .inl x;obtain⟨v2,w2,p,F,-⟩:=run_append_arg_grows (P:=P) w t R e i z b f T hi hz k B D A ⟨g0,0,N⟩ n s G h.1 (λj u hj=>h.cells (g:=g0) rfl j u hj) a m c d V l (by omega) y o;rw[X]at p;cases p;exact .inr (F.lt g x).1
theorem dw{G:eW Oper}{a:Act}{d:Prop}
  (hg:o.guard=N) (s x:Operand) (t:Ww) (V:o.op=Op.call {callee:=Callee.builtin Qo,args:=#[s,x],argTypes:=#[t,t]})
  (q:H) (e:Ww) (i:Qg) (z:Wx) (k p:H) (ht:P.underlying t=J (.slice e)) (hi:P.info? e=J i) (hz:i.zero=J z) (A:i.size=k) (L:i.bytes=p) (X:z.cells.size=k) (ab:0<k)
  (v:Wx) (n:H) (R:S Wx) (hs:a.eval s=v) (D:w.ownsRow q e k v n R)
  (T:Wu) (m c:H) (l:S Wx) (hx:a.eval x=.slice (J T) m c) (hl:l.length=m*k) (y:∀j u,l[j]?=J u->w.cell? (T.add j)=J u) (h1:∀u∈l,u.oneCell'=Y)
  (aa:n+m<=PR) (r:(n+m)*p<=140737488355328) (B:q<=w.heap.size)
  (h:∀F w',w'.ownsRow q e k F (n+m) (R++l)->w.grownBy w' v.ownBlock->(∀g,F.ownBlock=J g->v.ownBlock=J g\/w.heap.size<=g)->b (a.put o.dst F) w'):
  if Qq o (yielded G a.tmps)=Y then QT P o a w b f else d:=by
 have⟨F,w',hr,h2,h3,h4⟩:=lq (P:=P) w q t o.type e i z k p ht hi hz A L X ab v n R D T m c l hl y h1 aa r B;exact eO hg s x t t V v _ hs hx hr (h F w' h2 h3 h4)
end
theorem Yq.OP:(Yq.prog.info? 107).map (λi=>(i.zero,i.size,i.bytes))=J (J (Qa #[I K 0,O N,C Z,U ⟨#[]⟩,U ⟨#[]⟩,U ⟨#[]⟩,I K 0,I K 0]),8,88):=by kernel_rfl
theorem one8 l:∀u∈(aQ l).toList,u.oneCell'=true:=by
 intro u a;simp[aQ]at a;rcases a with rfl|rfl|rfl|rfl|rfl|rfl|rfl|rfl<;>rfl
section
variable {A:Nat->Prop} {B k0:Nat} {L:Lg}
theorem eE.push(h:eE A B W k0 L){i:Wx}{o:S (LsA×dT Wu)}{x:LsA}{root:dT Wu}{n:ey}(c4:W.cell? ⟨k0,4,N⟩=J v)(z1:L.opened=o.map (·.1))(z2:W.ownsRow B 107 8 v o.length (bW o))(z3:∀g,v.ownBlock=J g->¬A g)(z4:∀z∈o,ao A 41 W z.2 z.1.f)
  (ho:W0.ownsRow B 107 8 i (o.length+1) (bW o++(aQ (x.MU root)).toList)) (l:W.grownBy W0 v.ownBlock) (V:∀g,i.ownBlock=J g->v.ownBlock=J g\/W.heap.size<=g) (hN:ao A 41 W root x.f):
  eE A B ((W0.setCell ⟨k0,4,N⟩ i).setCell ⟨k0,5,N⟩ (I K n)) k0 ⟨L.opened++[x],n,L.told,L.tm⟩/\aX A B k0 W ((W0.setCell ⟨k0,4,N⟩ i).setCell ⟨k0,5,N⟩ (I K n)):=by
 have hk:=h.low;have⟨mv,c6,X⟩:=h.told;have D:=λg l=>(z2.lt g l).1
 have T:J k0≠v.ownBlock:=λe=>by have:=D k0 e.s;omega
 have R:=(l.block k0 h.lt T).s;have d:∀b,b≠k0->((W0.setCell ⟨k0,4,N⟩ i).setCell ⟨k0,5,N⟩ (I K n)).heap[b]?=W0.heap[b]?:=λb c=>by
  rw[bS _ _ _ _ c,bS _ _ _ _ c]
 have q:=λb c=>
  (d b (λe=>h.Mv (e▸c))).t (l.block b (h.Ng b c) (λe=>z3 b e.s c))
 have u:=λj=>cB (a:=⟨k0,j,N⟩) R.s
 have F:∀j,j≠4->j≠5->((W0.setCell ⟨k0,4,N⟩ i).setCell ⟨k0,5,N⟩ (I K n)).cell? ⟨k0,j,N⟩=W.cell? ⟨k0,j,N⟩:=λj h4 h5=>by
  rw[cO _ _ _ _ (bB λe=>h5 e.s),cO _ _ _ _ (bB λe=>h4 e.s),u]
 have G:∀j,((W0.setCell ⟨k0,4,N⟩ i).setCell ⟨k0,5,N⟩ (I K n)).frozen? ⟨k0,j,N⟩=W.frozen? ⟨k0,j,N⟩:=λj=>by
  rw[pt,pt];exact fB (a:=⟨k0,j,N⟩) R.s
 have P:W.heap.size<=((W0.setCell ⟨k0,4,N⟩ i).setCell ⟨k0,5,N⟩ (I K n)).heap.size:=by have:=l.size;simpa using this
 refine⟨⟨⟨i,?_,o++[(x,root)],by simp[z1],?_,λg p=>?_,λz y=>?_⟩,?_,⟨mv,(F 6 (by omega) (by omega)).t c6,?_⟩,λj=>(G j).t (h.frozen j),h.Mv,h.low,λb c=>lL (h.Ng b c) P⟩,⟨l.os,P,λb h1 h2 h3=>(d b h3).t (l.block b h2 (λe=>by have:=D b e.s;omega)),λb c _=>q b c,λj hj=>F j (by omega) (by omega),G⟩⟩;rw[cO _ _ _ _ (bB (by omega))];exact cS _ _ _ (by rw[u,c4];rfl);rw[yq,lP,lS];exact fH ho λg p=>d g (by have:=(ho.lt g p).1;omega)
 rcases V g p with h1|h1
 grind
 exactλha=>by have:=h.Ng g ha;omega
 rcases List.mem_append.1 y with y|y;exact ao.Mr (λb c _=>⟨c,q b c⟩) 41 _ _ (z4 z y);simp at y;subst y;exact ao.Mr (λb c _=>⟨c,q b c⟩) 41 _ _ hN;refine cS _ _ _ ?_;rw[cO _ _ _ _ (bB (by omega)),u,h.begun];rfl;rcases X with X|⟨m,es,r,m1,m2,m3,m4,m5⟩;exact Qc X;refine Qd ⟨m,es,r,m1,?_,m3,m4,m5⟩;rw[d m (by omega),l.block m (eS m2).1 (λe=>?_)];exact m2;rcases z2.2 with⟨rfl,-⟩|⟨g,cap,cur,rfl,c,hr,-⟩;cases e;cases e
 grind
theorem eE.other(h:eE A B w k0 L){b}(P:b≠k0)(hA:¬A b)(n:dl w b)(hv:∀v g,w.cell? ⟨k0,4,N⟩=J v->v.ownBlock=J g->g≠b):eE A B (w.setCell ⟨b,j,N⟩ x) k0 L:=by
 have c:∀g,g≠b->(w.setCell ⟨b,j,N⟩ x).heap[g]?=w.heap[g]?:=λg d=>bS _ _ _ _ d
 have q:=c k0 (λe=>P e.s);have f:=λi=>cB (a:=⟨k0,i,N⟩) q
 have⟨v,u,G,z1,X,T,z4⟩:=h.opened;have⟨V,c6,l⟩:=h.told;refine⟨⟨v,(f 4).t u,G,z1,fH X λg d=>c g (hv v g u d),T,λz hz=>ao.Mr (λg d _=>⟨d,c g (λe=>hA (e▸d))⟩) 41 _ _ (z4 z hz)⟩,(f 5).t h.begun,⟨V,(f 6).t c6,?_⟩,λi=>(fB (a:=⟨k0,i,N⟩) q).t (h.frozen i),h.Mv,h.low,λg d=>by simpa using h.Ng g d⟩;rcases l with l|⟨m,F,k,R,p,D⟩;exact Qc l;refine Qd ⟨m,F,k,R,(c m λe=>?_).t p,D⟩;subst e;obtain⟨o,r,y⟩:=n;rw[p]at r;cases r;cases y
theorem aX.other{b}(k:b≠k0)(l:¬A b)(hB:B<=b):aX A B k0 w (w.setCell ⟨b,j,N⟩ x):=by
 have c:∀g,g≠b->(w.setCell ⟨b,j,N⟩ x).heap[g]?=w.heap[g]?:=λg h=>bS _ _ _ _ h
 have f:=c k0 (λe=>k e.s);exact⟨Q,by simp,λg d _ _=>c g (by omega),λg d _=>c g (λe=>l (e▸d)),λi _=>cB (a:=⟨k0,i,N⟩) f,λi=>fB (a:=⟨k0,i,N⟩) f⟩
theorem aX.m{A':H->Prop}{w'}(h:aX A' B k0 w w')(a:∀b,A b->A' b):aX A B k0 w w':=⟨h.os,h.size,h.low,λb c=>h.tree b (a b c),h.cells,h.fz⟩
theorem LU(W:Wj)(a:S Wx)(T:Ww):∀j u,a[j]?=J u->(W.alloc (E a.toArray T)).drew.cell? ((⟨W.heap.size,0,N⟩:Wu).add j)=J u:=by
 intro j u hj;rw[QQ,zA]
 simp_all
theorem ed.cell{t}{W W'}(h:ed t W W'){b j}{v}(d:W.cell? ⟨b,j,N⟩=J v)(f:b≠t):W'.cell? ⟨b,j,N⟩=J v:=by
 have⟨o,c,e⟩:=dl.of_cell d;exact(cB (a:=⟨b,j,N⟩) ((h.2.2 b o c e f).t c.s)).t d
theorem ed.frozen{t}{W W'}(h:ed t W W'){b j}{v}(d:W.cell? ⟨b,j,N⟩=J v)(f:b≠t):W'.frozen? ⟨b,j,N⟩=W.frozen? ⟨b,j,N⟩:=by
 have⟨o,c,e⟩:=dl.of_cell d;exact fB (a:=⟨b,j,N⟩) ((h.2.2 b o c e f).t c.s)
theorem gu{c}{b}(i:W.cell? ⟨b,j,N⟩=J v)(f:b≠k0):((W.setCell ⟨k0,4,N⟩ x).setCell ⟨k0,5,N⟩ c).cell? ⟨b,j,N⟩=J v:=by
 have e:((W.setCell ⟨k0,4,N⟩ x).setCell ⟨k0,5,N⟩ c).heap[b]?=W.heap[b]?:=by rw[bS _ _ _ _ f,bS _ _ _ _ f]
 exact(cB (a:=⟨b,j,N⟩) e).t i
theorem Ka{X:Wj}(h:eE A B w k0 L)(hB:B<=w.heap.size)(a3:ay w W)(hVs:W.heap.size=w.heap.size+4)(al:ay W W0){sv v4 v':Wx}{pg:S ItD}(u:W0.ownsRow W.heap.size 117 3 sv pg.length (aq pg)){zs:S (LsA×dT Wu)}(c4:w.cell? ⟨k0,4,N⟩=J v4)
  (z1:L.opened=zs.map (·.1)) (z2:w.ownsRow B 107 8 v4 zs.length (bW zs)) (z3:∀g,v4.ownBlock=J g->¬A g) (z4:∀z∈zs,ao A 41 w z.2 z.1.f)  {x:LsA} (hN:ao A 41 w r x.f) (o o':Obj) (a6:X.ownsRow B 107 8 v' (zs.length+1) (bW zs++(aQ (x.MU r)).toList)) (i:((W0.alloc o).alloc o').drew.grownBy X v4.ownBlock) (P:∀g,v'.ownBlock=J g->v4.ownBlock=J g\/((W0.alloc o).alloc o').drew.heap.size<=g) (n:ey) (tk:eV) (pl:ey×ey) {y:Wx} (aa:W0.cell? ⟨w.heap.size+1+1,0,N⟩=J y):
  Calls Vp 45 #[O (J ⟨k0,4,N⟩),U tk,plV pl] ((X.setCell ⟨k0,4,N⟩ v').setCell ⟨k0,5,N⟩ (I K n)) λe F=>e=Nm (Qb #[])/\ed k0 ((X.setCell ⟨k0,4,N⟩ v').setCell ⟨k0,5,N⟩ (I K n)) F /\
   ∀y0 y1,bK A B k0 w ⟨L.opened++[x],n,lE tk pl L.told,L.tm⟩ pg sv ((F.setCell ⟨w.heap.size+1+1,0,N⟩ y0).setCell ⟨w.heap.size+1+1,1,N⟩ y1):=by
 obtain⟨W2,ab⟩:∃W2,W2=((W0.alloc o).alloc o').drew:=⟨_,Q⟩;rw[<-ab]at i P;have p:ay W0 W2:=by rw[ab];exact((ay.refl.alloc o).alloc o').drew
 have d:=(a3.t al).t p;have hsz2:W2.heap.size=W0.heap.size+2:=by rw[ab];simp
 have hlow:=h.low;have ap:=h.lt;have hs1:=al.size;obtain⟨A',T⟩:∃A':H->Prop,A'=λb=>A b\/sv.ownBlock=J b:=⟨_,Q⟩
 have a1:∀b,A b->A' b:=λb c=>by rw[T];exact Qc c
 have a2:∀b,A' b->A b\/w.heap.size+4<=b/\b<W0.heap.size:=λb c=>by
  rw[T]at c;rcases c with c|c
  grind
  have:=u.lt b c;exact Qd (by omega)
 have h2:=h.more d a1 (λb c=>(a2 b c).imp id (by omega)) (λb c=>by
  rcases a2 b c with k|k;have:=h.Ng b k;have:=d.size;omega;omega)
 have G:=d.cell c4;have a8:∀g,v4.ownBlock=J g->¬A' g:=λg l ha=>by
  rcases a2 g ha with k|k
  grind
  have:=(z2.lt g l).2;omega
 obtain⟨h5,aj⟩:=h2.push (x:=x) (root:=r) (n:=n) G z1 (bH z2 λg _ l=>d.block g l) a8 (λz hz=>ao.Mr (λb c ad=>⟨a1 b c,d.block b ad⟩) 41 _ _ (z4 z hz)) a6 i P (ao.Mr (λb c ad=>⟨a1 b c,d.block b ad⟩) 41 _ _ hN);have hs3:=i.size;obtain⟨W5,q⟩:∃W5,W5=(X.setCell ⟨k0,4,N⟩ v').setCell ⟨k0,5,N⟩ (I K n):=⟨_,Q⟩;have hs5:W5.heap.size=X.heap.size:=by rw[q];simp
 have k4:W5.cell? ⟨k0,4,N⟩=J v':=by
  rw[q,cO _ _ _ _ (bB (by omega))];exact cS _ _ _ (by rw[cB (a:=⟨k0,4,N⟩) (i.block k0 (by have:=d.size;omega) (λe=>by have:=(z2.lt k0 e.s).1;omega)),G];rfl)
 rw[<-q]at h5 aj ⊢;refine(DU W5 h5 (by omega) tk pl).m ?_;rintro e F ⟨rfl,h6,a4,ac,af⟩;refine⟨Q,ac,λy0 y1=>?_⟩;have R:¬A' (w.heap.size+1+1):=λha=>by
  rcases a2 _ ha with k|k;have:=h.Ng _ k;omega;omega
 have ai:∀v g,F.cell? ⟨k0,4,N⟩=J v->v.ownBlock=J g->g≠w.heap.size+1+1:=λv g hv l e=>by
  rw[af 4 (by omega),k4]at hv;cases hv;rcases P g l with k|k;have:=(z2.lt g k).2;omega;omega
 have av:dl F (w.heap.size+1+1):=by
  refine dl.of_cell (ac.cell (j:=0) (v:=y) ?_ (by omega));rw[q];refine gu ?_ (by omega);have e:X.heap[w.heap.size+1+1]?=W0.heap[w.heap.size+1+1]?:=(i.block _ (by omega) (λe=>by have:=(z2.lt _ e.s).2;omega)).t (p.block _ (bC W0 _ aa));exact(cB (a:=⟨w.heap.size+1+1,0,N⟩) e).t aa
 have a0:(F.setCell ⟨w.heap.size+1+1,0,N⟩ y0).cell? ⟨k0,4,N⟩=F.cell? ⟨k0,4,N⟩:=cB (a:=⟨k0,4,N⟩) (bS _ _ _ _ (show k0≠w.heap.size+1+1 by omega));have a5:dl (F.setCell ⟨w.heap.size+1+1,0,N⟩ y0) (w.heap.size+1+1):=by
  obtain⟨ob,e1,e2⟩:=av;cases ob with
  |cells xs e z=>
   have⟨g1,g2⟩:=eS e1;refine⟨E (xs.setIfInBounds 0 y0) e z,?_,Q⟩;show(F.heap.modify (w.heap.size+1+1) _)[w.heap.size+1+1]?=_
   grind
  |_=>cases e2
 have ar:aX A' B k0 W2 ((F.setCell ⟨w.heap.size+1+1,0,N⟩ y0).setCell ⟨w.heap.size+1+1,1,N⟩ y1):=((aj.t a4).t (aX.other (by omega) R (by omega))).t (aX.other (by omega) R (by omega));refine⟨A',a1,λb c=>(a2 b c).imp id (by omega),(h6.other (j:=0) (x:=y0) (show w.heap.size+1+1≠k0 by omega) R av ai).other (j:=1) (x:=y1) (show w.heap.size+1+1≠k0 by omega) R a5 (λv g hv l=>ai v g (by rw[<-a0];exact hv) l),(aX.left ap d).t (ar.m a1),?_,?_⟩
 rotate_left
 have a9:FrC k0 W2 W5:=⟨by omega,λb c hk ho=>by
   have e1:W5.heap[b]?=X.heap[b]?:=by rw[q,bS _ _ _ _ hk,bS _ _ _ _ hk]
   exact e1.t (i.block b c.lt (λe=>ho ⟨v4,G,e.s⟩)),λb ho=>by
   obtain⟨x,k,h2⟩:=ho;rw[k4]at k;cases k;rcases P b h2 with h3|h3;exact Qc ⟨v4,G,h3⟩;exact Qd h3⟩
 exact((((FrC.left ap d).t a9).t (FrC.OW ac (af 4 (by omega)))).fresh (by omega) (by omega)).fresh (by omega) (by omega);refine ng (fH u λg l=>?_) (λg l=>by rw[T];exact Qd l);have a7:=(u.lt g l).2;exact(ar.tree g (by rw[T];exact Qd l) (by omega)).t (p.block g a7)
end
theorem tH{b:H}{a:S (LsA×dT Wu)}(h:w.ownsRow B 107 8 (M (J ⟨g,0,N⟩) a.length b) a.length (bW a))(i:H)(e:i<a.length)(j:H)(d:j<8):w.cell? ⟨g,i*8+j,N⟩=(aQ (a[i].1.MU a[i].2))[j]?:=by
 have c:(aQ (a[i].1.MU a[i].2))[j]?=J ((aQ (a[i].1.MU a[i].2))[j]'(by simp[aQ];omega)):=eG _;have:=h.cells (g:=g) Q (i*8+j) _ ((bE 8 (λz:LsA×dT Wu=>(aQ (z.1.MU z.2)).toList) (λ_=>Q) a i j e d).t (by rw[gT];exact c));rw[QQ,zA]at this;rw[this,c]
theorem nh{a:S (LsA×dT Wu)}(h:w.ownsRow B 107 8 (M (J ⟨g,0,N⟩) a.length j) a.length (bW a))(i:H)(b:i<a.length):
  w.cell? ⟨g,i*8,N⟩=J (I K a[i].1.num)/\w.cell? ⟨g,i*8+1,N⟩=J (O a[i].2)/\w.cell? ⟨g,i*8+2,N⟩=J (C a[i].1.q.vs)/\w.cell? ⟨g,i*8+3,N⟩=J (U a[i].1.q.p)/\w.cell? ⟨g,i*8+4,N⟩=J (U a[i].1.q.d)/\w.cell? ⟨g,i*8+5,N⟩=J (U a[i].1.q.af)/\w.cell? ⟨g,i*8+6,N⟩=J (I K a[i].1.size)/\w.cell? ⟨g,i*8+7,N⟩=J (I K a[i].1.left):=
 ⟨tH h i b 0 (by omega),tH h i b 1 (by omega),tH h i b 2 (by omega),tH h i b 3 (by omega),tH h i b 4 (by omega),tH h i b 5 (by omega),tH h i b 6 (by omega),tH h i b 7 (by omega)⟩
theorem G3 l a(n:ey)w(b:w.cell? ⟨a,0,N⟩=J (I K n)):Calls Vp 47 #[lV l,O (J ⟨a,0,N⟩)] w λe w'=>e=Nm (C (l.num==n))/\Below w.heap.size w w':=by
 have hlt:=bC w _ b;unfold lV aQ;go_enter (Yq.nq func47),ntmps47;go_wp2_with fail
 go_ret;exact⟨Q,(bR _ _).alloc (lR _) _⟩
def mr(n:ey)(xs:S LsA):dT Nat:=xs.findIdx? (λx=>x.num==n)
theorem zU(B:H)(u:dT Wu)(v:H)(a:S (LsA×dT Wu))(s:H)(n:ey)(w:Wj)(r:w.ownsRow B 107 8 (M u a.length v) a.length (bW a))(hl:a.length<=3)(X:w.cell? ⟨s,0,N⟩=J (I K n)):
  Calls Vp 46 #[M u a.length v,.func (.func 47) #[] #[O (J ⟨s,0,N⟩)]] w λe w'=>e=Nm (I K (((mr n (a.map (·.1))).map λ(i:H)=>(i:ey)).getD (-1)))/\Below w.heap.size w w':=by
 have HZ:=aI r;have HC:=aI X;obtain⟨R,y⟩:∃R:ey,R=((mr n (a.map (·.1))).map λ(i:H)=>(i:ey)).getD (-1):=⟨_,Q⟩;have HR:=aI y;rw[<-y];clear r y X;go_enter (Yq.nq func46),ntmps46;go_wp2_with fail
 go_loopw [5,8] (λ_ s8 wr=>∃i:H,i<=a.length/\s8=I K i/\(∀j (l:j<a.length),j<i->(a[j].1.num==n)=Z)/\Below w.heap.size w wr) (λ_ s8 _=>a.length-(intOf s8).toNat)
 case atStart=>exact⟨0,QW _,Q,λ_ _ h=>g6 h (by omega),bR _ _⟩
 case round=>
  obtain⟨i,hi,rfl,k,c⟩:=hrel;by_cases q:i<a.length
  obtain⟨g,f,he⟩:∃g f,Qi u a.length v=M (J ⟨g,0,N⟩) a.length f:=by
   rcases HZ.o.2 with⟨T,h2⟩|⟨g,f,cur,T,-⟩;omega;exact⟨g,f,T⟩
  cases he;have⟨D,P,q2,V,F,q5,L,G⟩:=nh HZ.o i q;replace D:=ag c D;replace P:=ag c P;replace q2:=ag c q2;replace V:=ag c V;replace F:=ag c F;replace q5:=ag c q5;replace L:=ag c L;replace G:=ag c G;have HF:=G3 (a[i].1.MU a[i].2) s n wr (ag c HC.o);have b:=jf k c;clear k c;simp only[lV,aQ,LsA.MU]at HF;cases d:(a[i].1.num==n)with
  |true=>
   rw[d]at HF;have HE:Hid (R=(i:ey)):=by
    show R=(i:ey);have:mr n (a.map (·.1))=J i:=by
     unfold mr;rw[vx];refine⟨by simpa using q,by simpa using d,λj l=>?_⟩;have:=b.o.1 j (by omega) l;simpa using this
    rw[HR.o,this];rfl
   go_wp2_with (go_at_call 47;refine HF.m ?_;clear HF;rintro e w1 ⟨rfl,p⟩)
   go_ret;exact⟨by rw[HE.o];rfl,b.o.2.t (p.m b.o.2.size)⟩
  |false=>
   rw[d]at HF;go_wp2_with (go_at_call 47;refine HF.m ?_;clear HF;rintro e w1 ⟨rfl,p⟩)
   refine⟨⟨i+1,by omega,by go_num,λj l hji=>?_,b.o.2.t (p.m b.o.2.size)⟩,by simp[intOf];omega⟩;by_cases A:j=i
   subst A;exact d;exact b.o.1 j l (by omega)
  have:i=a.length:=by omega
  subst this;go_wp2_with fail
  go_ret;refine⟨?_,c⟩;have:mr n (a.map (·.1))=none:=by
   unfold mr;rw[wd];intro x hx;obtain⟨z,r,rfl⟩:=PL.1 hx;obtain⟨j,l,rfl⟩:=gM r;exact k j l l
  rw[HR.o,this];rfl
def LsA.again(x:LsA)(v:ey):LsA:={x with left:=v}
def dR(L:Lg)(a:eV):Lg×S ItD×eV×ey:=
 match ee a L.told with
 |none=>(L,[],⟨#[]⟩,9)
 |some (n,pg)=>
  match mr n L.opened with
  |none=>(L,[],⟨#[]⟩,10)
  |some i=>
   match L.opened[i]? with
   |none=>(L,[],⟨#[]⟩,10)
   |some x=>(⟨L.opened.set i (x.again 10),L.begun,if x.tok pg=⟨#[]⟩then L.told else lE (x.tok pg) (n,pg+1) L.told,L.tm⟩,x.Mz pg,x.tok pg,0)
theorem tI{n:Type}(m:H)(f:n->S Wx)(d:∀a,(f a).length=m):∀ (l:S n)(i j:H)(a:n)(v:Wx)(_:j<m)(c:i<l.length),f a=(f l[i]).set j v->(l.set i a).flatMap f=(l.flatMap f).set (i*m+j) v
 | [],i,j,a,v,hj,c,h=>by simp at c
 |b::l,0,j,a,v,hj,c,h=>by
  simp only[List.getElem_cons_zero]at h;simp only[Pi,PB,Nat.zero_mul,zA];rw[h,List.set_append_left _ _ (by rw[d];exact hj)]
 |b::l,i+1,j,a,v,hj,c,h=>by
  simp only[List.getElem_cons_succ]at h;simp only[List.set_cons_succ,PB];rw[tI m f d l i j a v hj (by simpa using c) h,xv _ _ (by rw[d,QY];omega),d];congr 2;rw[QY];omega
theorem G4{n b}(h:w.ownsRow B T a (M (J ⟨g,0,N⟩) n b) n xs)j(_hj:j<xs.length)v:(w.setCell ⟨g,j,N⟩ v).ownsRow B T a (M (J ⟨g,0,N⟩) n b) n (xs.set j v):=by
 refine⟨by rw[xt];exact h.1,?_⟩;rcases h.2 with⟨d,-⟩|⟨g',cap',c,d,o,hr,i,m,k,l⟩;cases d;cases d;refine Qd ⟨g,b,c.setIfInBounds j v,Q,o,?_,i,m,by simpa using k,?_⟩;show(w.heap.modify g _)[g]?=_
 grind
 rw[Array.toList_setIfInBounds,PK,l]
section
variable {A:Nat->Prop} {B k0:Nat} {L:Lg}
theorem eE.Ob(h:eE A B w k0 L){k:H}{c:S (LsA×dT Wu)}(c4:w.cell? ⟨k0,4,N⟩=J (M (J ⟨g,0,N⟩) c.length k))(z1:L.opened=c.map (·.1))(x:w.ownsRow B 107 8 (M (J ⟨g,0,N⟩) c.length k) c.length (bW c))(r:¬A g)(z4:∀z∈c,ao A 41 w z.2 z.1.f)(i:H)(D:i<c.length)(v:ey):
  eE A B (w.setCell ⟨g,i*8+7,N⟩ (I K v)) k0 {L with opened:=L.opened.set i (c[i].1.again v)}/\aX A B k0 w (w.setCell ⟨g,i*8+7,N⟩ (I K v)) /\
   (w.setCell ⟨g,i*8+7,N⟩ (I K v)).ownsRow B 107 8 (M (J ⟨g,0,N⟩) c.length k) (c.set i (c[i].1.again v,c[i].2)).length (bW (c.set i (c[i].1.again v,c[i].2)))/\(∀z∈c.set i (c[i].1.again v,c[i].2),ao A 41 (w.setCell ⟨g,i*8+7,N⟩ (I K v)) z.2 z.1.f):=by
 have hlow:=h.low;have y:=(x.lt g Q).1;have o:∀b,b≠g->(w.setCell ⟨g,i*8+7,N⟩ (I K v)).heap[b]?=w.heap[b]?:=λb q=>bS _ _ _ _ q
 have F:=o k0 (by omega);have n:=λj=>cB (a:=⟨k0,j,N⟩) F
 have l:(w.setCell ⟨g,i*8+7,N⟩ (I K v)).ownsRow B 107 8 (M (J ⟨g,0,N⟩) c.length k) (c.set i (c[i].1.again v,c[i].2)).length (bW (c.set i (c[i].1.again v,c[i].2))):=by
  have e:bW (c.set i (c[i].1.again v,c[i].2))=(bW c).set (i*8+7) (I K v):=tI 8 _ (λ_=>Q) c i 7 _ _ (by omega) D Q;rw[e,xt];exact G4 x _ (by rw[nf];omega) _
 have d:∀z∈c.set i (c[i].1.again v,c[i].2),ao A 41 (w.setCell ⟨g,i*8+7,N⟩ (I K v)) z.2 z.1.f:=λz P=>by
  refine ao.Mr (λb q _=>⟨q,o b (λe=>r (e▸q))⟩) 41 _ _ ?_;rcases List.mem_or_eq_of_mem_set P with P|rfl
  grind
  exact z4 c[i] (xc D)
 have⟨mv,c6,u⟩:=h.told;refine⟨⟨⟨_,(n 4).t c4,c.set i (c[i].1.again v,c[i].2),by rw[z1,PM],by simpa using l,λg' s=>by cases s;exact r,d⟩,(n 5).t h.begun,⟨mv,(n 6).t c6,?_⟩,λj=>(fB (a:=⟨k0,j,N⟩) F).t (h.frozen j),h.Mv,h.low,λb q=>by simpa using h.Ng b q⟩,aX.other (by omega) r y,l,d⟩;rcases u with u|⟨m,V,p,X,R,T⟩;exact Qc u;refine Qd ⟨m,V,p,X,(o m λe=>?_).t R,T⟩;rcases x.2 with⟨G,-⟩|⟨g',cap',cur,G,-,hr,-⟩;cases G
 grind
end
structure pZ (B:H)(w:Wj)(g cap:H)(zs:S (LsA×dT Wu)):Prop where
 base:B<=g
 obj:∃cur:eW Wx,w.heap[g]?=J (E cur 107 (0,0))/\cur.size=cap*8
 le:zs.length<=cap
 max:cap<=maxLen
 cells:∀i (hi:i<zs.length) j,j<8->w.cell? ⟨g,i*8+j,N⟩=(aQ (zs[i].1.MU zs[i].2))[j]?
theorem pZ.N8{zs}(h:w.ownsRow B 107 8 (M (J ⟨g,0,N⟩) zs.length a) zs.length (bW zs)):pZ B w g a zs:=by
 have c:=h.2;rcases c with⟨d,-⟩|⟨g',cap',b,d,m,k,c,l,f,-⟩;cases d;cases d;exact⟨m,⟨b,k,f⟩,c,l,λi n j e=>tH h i n j e⟩
theorem pZ.owns{b}{a}(h:pZ B w g b a):w.ownsRow B 107 8 (M (J ⟨g,0,N⟩) a.length b) a.length (bW a):=by
 have⟨c,i,l⟩:=h.obj;refine⟨nf a,Qd ⟨g,b,c,Q,h.base,i,h.le,h.max,l,?_⟩⟩;apply List.ext_getElem?;intro t;by_cases k:t<a.length*8
 have d:t/8<a.length:=by omega
 have e:t=t/8*8+t%8:=by omega
 have j:=h.cells (t/8) d (t%8) (by omega);rw[<-e]at j;have f:=bE 8 (λz:LsA×dT Wu=>(aQ (z.1.MU z.2)).toList) (λ_=>Q) a (t/8) (t%8) d (by omega);rw[<-e]at f;show _=(a.flatMap λz=>(aQ (z.1.MU z.2)).toList)[t]?;rw[f,List.getElem?_take,gL k,gT,gT,<-j,PV w g t c 107 (0,0) i];rw[yz (by simp;omega),yz (by rw[nf];omega)]
theorem pZ.same{w'}{b}{zs}(h:pZ B w g b zs)(e:w'.heap[g]?=w.heap[g]?):pZ B w' g b zs:=
 ⟨h.base,by rw[e];exact h.obj,h.le,h.max,λi d j c=>(cB (a:=⟨g,i*8+j,N⟩) e).t (h.cells i d j c)⟩
theorem pZ.lt{b}(h:pZ B w g a b):g<w.heap.size:=by
 obtain⟨cur,h,-⟩:=h.obj
 grind
theorem jE{i}(h:∃a:eW Wx,w.heap[g]?=J (E a T (0,0))/\a.size=i):∃a:eW Wx,(w.setCell ⟨g,j,N⟩ v).heap[g]?=J (E a T (0,0))/\a.size=i:=by
 obtain⟨a,h1,b⟩:=h;refine⟨a.setIfInBounds j v,?_,by simpa using b⟩;show(w.heap.modify g _)[g]?=_
 grind
theorem pZ.frozen{B}{w}{g a}{b}(h:pZ B w g a b)j:w.frozen? ⟨g,j,N⟩=false:=by
 obtain⟨cur,h,-⟩:=h.obj;simp[sT,h]
def MM(w:Wj)(g i:H)(l:Lst):Wj:=
 (((((((w.setCell ⟨g,i*8,N⟩ (I K l.num)).setCell ⟨g,i*8+1,N⟩ (O l.root)).setCell ⟨g,i*8+2,N⟩ (C l.vs)).setCell ⟨g,i*8+3,N⟩ (U l.p)).setCell ⟨g,i*8+4,N⟩ (U l.d)).setCell ⟨g,i*8+5,N⟩ (U l.af)).setCell ⟨g,i*8+6,N⟩ (I K l.size)).setCell ⟨g,i*8+7,N⟩ (I K l.left)
theorem G5{i b}{l'}(h:∃a:eW Wx,w.heap[g]?=J (E a T (0,0))/\a.size=b):∃a:eW Wx,(MM w g i l').heap[g]?=J (E a T (0,0))/\a.size=b:=
 jE (jE (jE (jE (jE (jE (jE (jE h)))))))
theorem G6{i b}{l'}(h:b<i*8\/i*8+8<=b):(MM w g i l').cell? ⟨g,b,N⟩=w.cell? ⟨g,b,N⟩:=by
 unfold MM
 iterate 8 rw[cO _ _ _ _ (bB (by omega))]
theorem bc{b}(h:(w.cell? ⟨g,b,N⟩).isSome=Y):((w.setCell ⟨g,a,N⟩ v).cell? ⟨g,b,N⟩).isSome=true:=by
 by_cases e:a=b
 subst e;rw[cS _ _ _ h];rfl
 rwa [cO _ _ _ _ (bB e)]
theorem DV{i}{l'}(h:∀j,j<8->(w.cell? ⟨g,i*8+j,N⟩).isSome=Y)j(hj:j<8):(MM w g i l').cell? ⟨g,i*8+j,N⟩=(aQ l')[j]?:=by
 have a:(MM w g i l').cell? ⟨g,i*8,N⟩=(aQ l')[0]?:=by
  unfold MM
  iterate 7 rw[cO _ _ _ _ (bB (by omega))]
  exact cS _ _ _ (h 0 (by omega))
 have c:(MM w g i l').cell? ⟨g,i*8+1,N⟩=(aQ l')[1]?:=by
  unfold MM
  iterate 6 rw[cO _ _ _ _ (bB (by omega))]
  exact cS _ _ _ (bc (h 1 (by omega)))
 have m:(MM w g i l').cell? ⟨g,i*8+2,N⟩=(aQ l')[2]?:=by
  unfold MM
  iterate 5 rw[cO _ _ _ _ (bB (by omega))]
  exact cS _ _ _ (bc (bc (h 2 (by omega))))
 have d:(MM w g i l').cell? ⟨g,i*8+3,N⟩=(aQ l')[3]?:=by
  unfold MM
  iterate 4 rw[cO _ _ _ _ (bB (by omega))]
  exact cS _ _ _ (bc (bc (bc (h 3 (by omega)))))
 have f:(MM w g i l').cell? ⟨g,i*8+4,N⟩=(aQ l')[4]?:=by
  unfold MM
  iterate 3 rw[cO _ _ _ _ (bB (by omega))]
  exact cS _ _ _ (bc (bc (bc (bc (h 4 (by omega))))))
 have b:(MM w g i l').cell? ⟨g,i*8+5,N⟩=(aQ l')[5]?:=by
  unfold MM
  iterate 2 rw[cO _ _ _ _ (bB (by omega))]
  exact cS _ _ _ (bc (bc (bc (bc (bc (h 5 (by omega)))))))
 have e:(MM w g i l').cell? ⟨g,i*8+6,N⟩=(aQ l')[6]?:=by
  unfold MM
  iterate 1 rw[cO _ _ _ _ (bB (by omega))]
  exact cS _ _ _ (bc (bc (bc (bc (bc (bc (h 6 (by omega))))))))
 have k:(MM w g i l').cell? ⟨g,i*8+7,N⟩=(aQ l')[7]?:=by
  exact cS _ _ _ (bc (bc (bc (bc (bc (bc (bc (h 7 (by omega)))))))))
 rcases j with - | - | - | - | - | - | - | - |j;exact a;exact c;exact m;exact d;exact f;exact b;exact e;exact k;omega
theorem pZ.MM{c}(h:pZ B w g a c)i(hi:i<c.length)(z:LsA×dT Wu):pZ B (MM w g i (z.1.MU z.2)) g a (c.set i z):=by
 refine⟨h.base,G5 h.obj,by rw[xt];exact h.le,h.max,λk hk j d=>?_⟩;have b:k<c.length:=by grind
 by_cases e:k=i
 subst e;rw[DV (λj d=>by rw[h.cells k b j d];simp[aQ];omega) j d];simp;rw[G6 (by omega),h.cells k b j d,List.getElem_set_ne (by omega)]
section
variable {P:Wv}
theorem yv(w:Wj)(t e p:Ww)(z:Wx)(l:P.underlying t=J (.slice e))(i:∀w,(zeroValue e).run P w=.ok z w)(h1:∀v∈z.cells.toList,v.oneCell'=Y)
  (g o n c:H) (a:eW Wx) (T:Ww) (q:w.heap[g]?=J (.cells a T (0,0))) (hn:0<n) (hfit:o+n*z.cells.size<=a.size):
  ∃b,(Qn #[t] p #[.slice (J ⟨g,o,N⟩) n c]).run P w=.ok (.tuple #[]) (w.setRow g b)/\b.size=a.size/\b.toList.take o=a.toList.take o:=by
 have h:(Qm z.cells n).size=n*z.cells.size:=by simp[Qm]
 have d:∀v∈(Qm z.cells n).toList,v.oneCell'=true:=λv i=>by
  obtain⟨k,hk,rfl⟩:=Array.getElem_of_mem (Array.mem_toList_iff.1 i);have j:0<z.cells.size:=by
   grind
  simp[Qm];have:k%z.cells.size<z.cells.size:=Nat.mod_lt _ j
  grind
 have f:=run_storeCells_at P g o T (Qm z.cells n).toList 0 a w q (by rw[lY,h];omega) d;refine⟨(a.toList.take o++(Qm z.cells n).toList++a.toList.drop (o+(Qm z.cells n).size)).toArray,?_,?_,?_⟩;obtain⟨m,rfl⟩:∃m,n=m+1:=⟨n-1,by omega⟩;simp[Qn,P9 l,i,f]
 grind
 grind
end
def p8(z:LsA×dT Wu):lj:=decide (z.1.left<=0)
def jF(z:LsA×dT Wu):lj:=!p8 z
structure dW (g:dT H)(w w':Wj):Prop where
 os:w'.os=w.os
 size:w.heap.size<=w'.heap.size
 block:∀b,b<w.heap.size->g≠J b->w'.heap[b]?=w.heap[b]?
theorem dW.refl{g:dT H}{w}:dW g w w:=⟨Q,lR _,λ_ _ _=>Q⟩
theorem dW.t{g:dT H}{w' w''}(h:dW g w w')(k:dW g w' w''):dW g w w'':=⟨k.os.t h.os,lT h.size k.size,λb c a=>(k.block b (lL c h.size) a).t (h.block b c a)⟩
theorem dW.below{g:dT H}{w'}(h:Below w.heap.size w w'):dW g w w':=⟨h.os,h.size,λb a _=>h.block b a⟩
theorem dW.set{w'}(h:dW (J g) w w'):dW (J g) w (w'.setCell ⟨g,j,N⟩ v):=
 ⟨h.os,by have:=h.size;simpa using this,λb c a=>(bS _ _ _ _ (λe=>a (by rw[show b=g from e]))).t (h.block b c a)⟩
theorem dW.MM{i}{l}:dW (J g) w (MM w g i l):=
 dW.set (dW.set (dW.set (dW.set (dW.set (dW.set (dW.set (dW.set dW.refl)))))))
theorem G7(w:Wj)(g:H)(a cs:eW Wx)(T:Ww)(b:w.heap[g]?=J (E a T (0,0))):(w.setRow g cs).heap[g]?=J (E cs T (0,0)):=setRow_heap w g a cs T _ b
theorem dW.setRow{k cs:eW Wx}(_hg:w.heap[g]?=J (E k T (0,0))):dW (J g) w (w.setRow g cs):=by
 refine⟨Q,?_,λb hb c=>?_⟩
 simp_all
 have:b≠g:=λe=>c (by rw[e])
 simp[World.setRow,Array.getElem?_modify,this.s]
theorem pZ.cut{c i}{d}{b a:eW Wx}(h:pZ B w g c d)(e:w.heap[g]?=J (E b 107 (0,0)))(hs:a.size=b.size)(p:a.toList.take (i*8)=b.toList.take (i*8))(hi:i<=d.length):pZ B (w.setRow g a) g c (d.take i):=by
 have f:=G7 w g b a 107 e;have⟨c2,m,h2⟩:=h.obj;rw[e]at m;cases m;refine⟨h.base,⟨a,f,by omega⟩,by rw[tL];have:=h.le;omega,h.max,λk hk j o=>?_⟩;have hk':k<i:=by grind
 have n:=h.cells k (by omega) j o;rw[PV w g _ b 107 (0,0) e]at n;rw[PV _ g _ a 107 (0,0) f,PI,<-n];have h4:=jp (λl:S Wx=>l[k*8+j]?) p
 grind
theorem Ke w:(zeroValue 107).run Vp w=.ok (Qa #[I K 0,O N,C Z,U ⟨#[]⟩,U ⟨#[]⟩,U ⟨#[]⟩,I K 0,I K 0]) w:=by simp_all
theorem G8 w g o n(b:eW Wx)(k:w.heap[g]?=J (E b 107 (0,0)))(l:0<n)(e:o+n*8<=b.size):
  ∃a:eW Wx,(∀h c,(Qn #[37] h #[M (J ⟨g,o,N⟩) n c]).run Vp w=.ok (Qb #[]) (w.setRow g a))/\a.size=b.size/\a.toList.take o=b.toList.take o:=by
 have f:∀v∈(Value.agg #[I K 0,O N,C Z,U ⟨#[]⟩,U ⟨#[]⟩,U ⟨#[]⟩,I K 0,I K 0]).cells.toList,v.oneCell'=true:=by
  intro v i;simp[Qk]at i;rcases i with rfl|rfl|rfl|rfl|rfl|rfl<;>rfl
 obtain⟨a,h1,h2,h3⟩:=yv (P:=Vp) w 37 107 0 _ (Yq.u underlying37) Ke f g o n 0 b 107 k l (by simpa[Qk]using e);have h0:∀h d c j,(Qn #[37] h #[M (J ⟨g,o,N⟩) n c]).run Vp w=(Qn #[37] d #[M (J ⟨g,o,N⟩) n j]).run Vp w:=λh d c j=>by
  obtain⟨m,rfl⟩:∃m,n=m+1:=⟨n-1,by omega⟩;simp[Qn,P9 (Yq.u underlying37)]
 grind
theorem vX l w:Calls Vp 75 #[lV l] w λe w'=>e=Nm (C (decide (l.left<=0)))/\Below w.heap.size w w':=by
 unfold lV aQ;go_enter (Yq.nq func75),ntmps75;go_wp2_with fail
 go_ret;exact⟨Q,(bR _ _).alloc (lR _) _⟩
theorem G9 B(v:dT Wu)x a w(u:w.ownsRow B 107 8 (M v a.length x) a.length (bW a))(hl:a.length<=3):
  Calls Vp 46 #[M v a.length x,.func (.func 75) #[] #[]] w λe w'=>e=Nm (I K (((a.findIdx? p8).map λ(i:H)=>(i:ey)).getD (-1)))/\Below w.heap.size w w':=by
 have HZ:=aI u;obtain⟨R,y⟩:∃R:ey,R=((a.findIdx? p8).map λ(i:H)=>(i:ey)).getD (-1):=⟨_,Q⟩;have HR:=aI y;rw[<-y];clear u y;go_enter (Yq.nq func46),ntmps46;go_wp2_with fail
 go_loopw [5,8] (λ_ s8 wr=>∃i:H,i<=a.length/\s8=I K i/\(∀j (n:j<a.length),j<i->p8 a[j]=Z)/\Below w.heap.size w wr) (λ_ s8 _=>a.length-(intOf s8).toNat)
 case atStart=>exact⟨0,QW _,Q,λ_ _ h=>g6 h (by omega),bR _ _⟩
 case round=>
  obtain⟨i,hi,rfl,l,c⟩:=hrel;by_cases s:i<a.length
  obtain⟨g,k,he⟩:∃g k,Qi v a.length x=M (J ⟨g,0,N⟩) a.length k:=by
   rcases HZ.o.2 with⟨T,h2⟩|⟨g,k,cur,T,-⟩;omega;exact⟨g,k,T⟩
  cases he;have⟨D,P,q2,V,F,X,L,G⟩:=nh HZ.o i s;replace D:=ag c D;replace P:=ag c P;replace q2:=ag c q2;replace V:=ag c V;replace F:=ag c F;replace X:=ag c X;replace L:=ag c L;replace G:=ag c G;have HF:Calls Vp 75 #[Qa #[I K a[i].1.num,O a[i].2,C a[i].1.q.vs,U a[i].1.q.p,U a[i].1.q.d,U a[i].1.q.af,I K a[i].1.size,I K a[i].1.left]] wr λe w'=>e=Nm (C (p8 a[i]))/\Below wr.heap.size wr w':=vX (a[i].1.MU a[i].2) wr
  have b:=jf l c;clear l c;cases f:p8 a[i]with
  |true=>
   rw[f]at HF;have HE:Hid (R=(i:ey)):=by
    show R=(i:ey);have:a.findIdx? p8=J i:=by
     rw[vx];refine⟨s,f,λj n=>?_⟩;have:=b.o.1 j (by omega) n;simp[this]
    rw[HR.o,this];rfl
   go_wp2_with (go_at_call 75;refine HF.m ?_;clear HF;rintro e w1 ⟨rfl,r⟩)
   go_ret;exact⟨by rw[HE.o];rfl,b.o.2.t (r.m b.o.2.size)⟩
  |false=>
   rw[f]at HF;go_wp2_with (go_at_call 75;refine HF.m ?_;clear HF;rintro e w1 ⟨rfl,r⟩)
   refine⟨⟨i+1,by omega,by go_num,λj n hji=>?_,b.o.2.t (r.m b.o.2.size)⟩,by simp[intOf];omega⟩;by_cases A:j=i
   subst A;exact f;exact b.o.1 j n (by omega)
  have:i=a.length:=by omega
  subst this;go_wp2_with fail
  go_ret;refine⟨?_,c⟩;have:a.findIdx? p8=none:=by
   rw[wd];intro z u;obtain⟨j,n,rfl⟩:=gM u;exact l j n n
  rw[HR.o,this];rfl
theorem lr{a:S (LsA×dT Wu)}(b:j<a.length):(a.take (j+1)).filter jF=(a.take j).filter jF++(if jF a[j]then[a[j]]else[]):=by
 rw[tS b,List.filter_append]
 grind
theorem DW B(va:dT Wu)A a w(F:w.ownsRow B 107 8 (M va a.length A) a.length (bW a))(hl:a.length<=3):
  Calls Vp 74 #[M va a.length A,.func (.func 75) #[] #[]] w λe w'=>∃v',e=Nm v'/\w'.ownsRow B 107 8 v' (a.filter jF).length (bW (a.filter jF))/\(∀g,v'.ownBlock=J g->(Qi va a.length A).ownBlock=J g)/\dW (Qi va a.length A).ownBlock w w':=by
 have n:=G9 B va A a w F hl;cases hp:a.findIdx? p8 with
 |none=>
  rw[hp]at n;simp only[QJ,QH]at n;have T:a.filter jF=a:=by
   rw[NE];intro z F;have:=wd.1 hp z F;simp[jF,this]
  rw[T];have HZ:=aI F;clear F T hp;go_enter (Yq.nq func74),ntmps74;go_wp2_with (go_at_call 46;refine n.m ?_;clear n;rintro e w1 ⟨rfl,D⟩)
  go_ret;exact⟨_,Q,bH HZ.o λg _ hg=>D.block g hg,λ_ h=>h,.below D⟩
 |some p=>
  rw[hp]at n;simp only[QK,QG]at n;have⟨av,al,aj⟩:=vx.1 hp;obtain⟨g,L,he⟩:∃g L,Qi va a.length A=M (J ⟨g,0,N⟩) a.length L:=by
   rcases F.2 with⟨h1,h2⟩|⟨g,L,ap,h1,-⟩;omega;exact⟨g,L,h1⟩
  cases he;have ac:=pZ.N8 F;have HS:Hid (pZ B w g A a/\(a.take (p+1)).filter jF=a.take p):=by
   refine⟨ac,?_⟩;rw[lr av];have e1:(a.take p).filter jF=a.take p:=by
    rw[NE];intro z F;obtain⟨j,hj,rfl⟩:=gM F;have:=aj j (by simp at hj;omega);rw[PI];simpa[jF]using this
   rw[e1];simp[jF,al]
  have hpI:((p:ey) == -1)=false:=by simp
  have hpI2:¬((p:ey)=-1):=by omega
  have hvc:a.length<=A:=ac.le;clear F hp al aj ac;go_enter (Yq.nq func74),ntmps74;go_wp2_with (go_at_call 46;refine n.m ?_;clear n;rintro e w1 ⟨rfl,D⟩)
  go_loopw [5,6,7] (λs5 s6 _ wr=>∃ (i j:H) (x:S (LsA×dT Wu)),s5=I K i/\s6=I K j/\j<=a.length/\i<j/\x.length=a.length/\x.take i=(a.take j).filter jF/\x.drop j=a.drop j/\pZ B wr g A x/\dW (J g) w wr) (λ_ s6 _ _=>a.length-(intOf s6).toNat)
  case atStart=>exact⟨p,p+1,a,Q,by go_num,av,by omega,Q,HS.o.2.s,Q,HS.o.1.same (D.block g HS.o.1.lt),.below D⟩
  case round=>
   obtain⟨i,j,x,rfl,rfl,hj,hij,X,y,P,b,f⟩:=hrel;by_cases aa:j<a.length
   have a1:j<x.length:=by omega
   have ab:i<x.length:=by omega
   have a0:x[j]=a[j]:=by
    have h1:(x.drop j)[0]?=(a.drop j)[0]?:=by rw[P]
    rw[PA,PA,QX,eL a1,eL aa]at h1;exact oJ h1
   have k:=b.cells j a1;rw[a0]at k;have q0:=k 0 (by omega);have q1:=k 1 (by omega);have q2:=k 2 (by omega);have q3:=k 3 (by omega);have q4:=k 4 (by omega);have q5:=k 5 (by omega);have q6:=k 6 (by omega);have q7:=k 7 (by omega);simp only[aQ,LsA.MU,gA,gZ,gS,QX]at q0 q1 q2 q3 q4 q5 q6 q7;obtain⟨W,hW⟩:∃W,W=wr.alloc (E #[I K a[j].1.num,O a[j].2,C a[j].1.q.vs,U a[j].1.q.p,U a[j].1.q.d,U a[j].1.q.af,I K a[j].1.size,I K a[j].1.left] 107):=⟨_,Q⟩;have HF:Calls Vp 75 #[Qa #[I K a[j].1.num,O a[j].2,C a[j].1.q.vs,U a[j].1.q.p,U a[j].1.q.d,U a[j].1.q.af,I K a[j].1.size,I K a[j].1.left]] W λe w'=>e=Nm (C (p8 a[j]))/\Below W.heap.size W w':=vX (a[j].1.MU a[j].2) W
   have a2:=b.lt;have HI:=AB X y P b f;have HB:Hid (∀r,Below W.heap.size W r->dW (J g) w r/\pZ B r g A x /\
     (r.cell? ⟨wr.heap.size,0,N⟩=J (I K a[j].1.num)/\r.cell? ⟨wr.heap.size,1,N⟩=J (O a[j].2)/\r.cell? ⟨wr.heap.size,2,N⟩=J (C a[j].1.q.vs)/\r.cell? ⟨wr.heap.size,3,N⟩=J (U a[j].1.q.p)/\r.cell? ⟨wr.heap.size,4,N⟩=J (U a[j].1.q.d)/\r.cell? ⟨wr.heap.size,5,N⟩=J (U a[j].1.q.af)/\r.cell? ⟨wr.heap.size,6,N⟩=J (I K a[j].1.size)/\r.cell? ⟨wr.heap.size,7,N⟩=J (I K a[j].1.left))):=λr u=>by
    have V:Below wr.heap.size wr W:=by rw[hW];exact(bR _ _).alloc (lR _) _
    have e:r.heap[wr.heap.size]?=J (E #[I K a[j].1.num,O a[j].2,C a[j].1.q.vs,U a[j].1.q.p,U a[j].1.q.d,U a[j].1.q.af,I K a[j].1.size,I K a[j].1.left] 107):=by
     rw[u.block _ (by rw[hW];simp),hW];exact aN _ _
    refine⟨f.t ((dW.below V).t (.below u)),b.same ((u.block g (by have:=V.size;omega)).t (V.block g a2)),?_⟩;refine⟨?_,?_,?_,?_,?_,?_,?_,?_⟩<;>simp[sq,e]
   clear X y P b f k a0;cases G:p8 a[j]with
   |true=>
    rw[G]at HF;rw[hW]at HF;go_wp2_with (go_at_call 75;refine HF.m ?_;clear HF;rintro e r ⟨rfl,u⟩)
    obtain⟨h1,h2,-⟩:=HB.o r (by rw[hW];exact u);obtain⟨k1,k2,k3,-,-⟩:=HI.o;refine⟨⟨i,j+1,x,Q,by go_num,by omega,by omega,k1,?_,?_,h2,h1⟩,by simp[intOf];omega⟩;rw[lr aa,k2];simp[jF,G];have:=jp (PP 1) k3
    rwa [xb,xb]at this
   |false=>
    rw[G]at HF;rw[hW]at HF;go_wp2_with (go_at_call 75;refine HF.m ?_;clear HF;rintro e r ⟨rfl,u⟩;have⟨ai,c,b0,b1,b2,b3,b4,b5,b6,b7⟩:=HB.o r (by rw[hW];exact u);have k:=c.cells i ab;have p0:=k 0 (by omega);have p1:=k 1 (by omega);have p2:=k 2 (by omega);have p3:=k 3 (by omega);have p4:=k 4 (by omega);have p5:=k 5 (by omega);have p6:=k 6 (by omega);have p7:=k 7 (by omega);simp only[aQ,LsA.MU,gA,gZ,gS,QX]at p0 p1 p2 p3 p4 p5 p6 p7;have f0:=c.frozen (i*8);have f1:=c.frozen (i*8+1);have f2:=c.frozen (i*8+2);have f3:=c.frozen (i*8+3);have f4:=c.frozen (i*8+4);have f5:=c.frozen (i*8+5);have f6:=c.frozen (i*8+6);have f7:=c.frozen (i*8+7);have HE:Hid (_/\_):=QM ai c;clear ai c k)
    obtain⟨k1,k2,k3,-,-⟩:=HI.o;refine⟨⟨i+1,j+1,x.set i a[j],by go_num,by go_num,by omega,by omega,by simp[k1],?_,?_,HE.o.2.MM i ab a[j],?_⟩,by simp[intOf];omega⟩;rw[lr aa,<-k2,tS (by simpa using ab),List.getElem_set_self];have:(x.set i a[j]).take i=x.take i:=by rw[PK];exact List.set_eq_of_length_le (by simp;omega)
    rw[this];simp[jF,G];rw[List.drop_set_of_lt (by omega)];have:=jp (PP 1) k3
    rwa [xb,xb]at this
    exact HE.o.1.t (dW.MM (l:=a[j].1.MU a[j].2))
   have:j=a.length:=by omega
   subst this;have⟨ap,v,hcs⟩:=b.obj;have⟨R,hcl0,ad,ar⟩:=G8 wr g (i*8) (a.length-i) ap v (by omega) (by omega);have a3:Hid (pZ B (wr.setRow g R) g A (a.filter jF)/\(a.filter jF).length=i/\dW (J g) w (wr.setRow g R)):=by
    have hr:=b.cut v ad ar (by omega);rw[y,tO (lR _)]at hr;refine⟨hr,?_,f.t (dW.setRow v)⟩;have:=jp List.length y;rw[tO (lR a.length),tL]at this;omega
   clear b f y P X v ad ar;go_wp2_with fail
   go_ret;have⟨e1,e2,e3⟩:=a3.o;have e4:=e1.owns;rw[e2]at e4 ⊢;exact⟨_,Q,e4,λ_ h=>h,e3⟩
def mt(L:Lg)(u:ey):Lg:={L with opened:=(L.opened.map λx=>x.again (x.left-u)).filter λx=>!decide (x.left<=0)}
section
variable {A:Nat->Prop} {B k0:Nat} {L:Lg}
theorem eE.Pe{w':Wj}(h:eE A B w k0 L){i:Wx}{zs P:S (LsA×dT Wu)}(R:w.cell? ⟨k0,4,N⟩=J v)(z2:w.ownsRow B 107 8 v zs.length (bW zs))(z3:∀g,v.ownBlock=J g->¬A g)(r:w'.ownsRow B 107 8 i P.length (bW P))(y:∀g,i.ownBlock=J g->v.ownBlock=J g)(o:dW v.ownBlock w w')(hy:∀z∈P,ao A 41 w z.2 z.1.f):
  eE A B (w'.setCell ⟨k0,4,N⟩ i) k0 {L with opened:=P.map (·.1)}/\aX A B k0 w (w'.setCell ⟨k0,4,N⟩ i)/\FrC k0 w (w'.setCell ⟨k0,4,N⟩ i):=by
 have hk:=h.low;have⟨mv,c6,X⟩:=h.told;have u:=λg D=>(z2.lt g D).1
 have k:=o.block k0 h.lt (λe=>by have:=u k0 e;omega);have c:∀b,b≠k0->(w'.setCell ⟨k0,4,N⟩ i).heap[b]?=w'.heap[b]?:=λb d=>bS _ _ _ _ d
 have G:=λb d=>(c b (λe=>h.Mv (e▸d))).t (o.block b (h.Ng b d) (λe=>z3 b e d))
 have q:=λj=>cB (a:=⟨k0,j,N⟩) k
 have l:∀j,j≠4->(w'.setCell ⟨k0,4,N⟩ i).cell? ⟨k0,j,N⟩=w.cell? ⟨k0,j,N⟩:=λj h4=>by
  rw[cO _ _ _ _ (bB λe=>h4 e.s),q]
 have F:∀j,(w'.setCell ⟨k0,4,N⟩ i).frozen? ⟨k0,j,N⟩=w.frozen? ⟨k0,j,N⟩:=λj=>by
  rw[pt];exact fB (a:=⟨k0,j,N⟩) k
 have n:w.heap.size<=(w'.setCell ⟨k0,4,N⟩ i).heap.size:=by have:=o.size;simpa using this
 refine⟨⟨⟨i,?_,P,Q,fH r λg D=>c g (by have:=(r.lt g D).1;omega),λg D=>z3 g (y g D),λz hz=>ao.Mr (λb d _=>⟨d,G b d⟩) 41 _ _ (hy z hz)⟩,(l 5 (by omega)).t h.begun,⟨mv,(l 6 (by omega)).t c6,?_⟩,λj=>(F j).t (h.frozen j),h.Mv,h.low,λb d=>lL (h.Ng b d) n⟩,⟨o.os,n,λb V T h3=>(c b h3).t (o.block b T (λe=>by have:=u b e;omega)),λb d _=>G b d,λj hj=>l j (by omega),F⟩,?_⟩
 rotate_right
 refine⟨n,λb d k r=>(c b k).t (o.block b d.lt (λe=>r ⟨v,R,e⟩)),λb r=>?_⟩;obtain⟨x,V,T⟩:=r;rw[cS _ _ _ (by rw[q,R];rfl)]at V;cases V;exact Qc ⟨v,R,y b T⟩;exact cS _ _ _ (by rw[q,R];rfl);rcases X with X|⟨m,es,p,m1,m2,m3,m4,m5⟩;exact Qc X;refine Qd ⟨m,es,p,m1,?_,m3,m4,m5⟩;rw[c m (by omega),o.block m (eS m2).1 (λe=>?_)];exact m2;rcases z2.2 with⟨rfl,-⟩|⟨g,cap,cur,rfl,d,hr,-⟩;cases e;cases e
 grind
def LH(u:ey)(z:LsA×dT Wu):LsA×dT Wu:=(z.1.again (z.1.left-u),z.2)
theorem Kf(w:Wj)(h:eE A B w k0 L)(hop:L.opened.length<=3)(u:Int)(hu:0<=u/\u<=1000)(ac:∀x∈L.opened,0<=x.left/\x.left<=10):
  Calls Go.Proofs.Yq.prog 50 #[.pointer (some ⟨k0,4,none⟩),.int .i64 u] w λe w'=>e=.returned (.tuple #[])/\eE A B w' k0 (mt L u)/\aX A B k0 w w'/\FrC k0 w w':=by
 obtain⟨v4,c4,b,z1,z2,z3,z4⟩:=h.opened;obtain⟨r,l,rfl,-⟩:=az z2;have hlz:L.opened.length=b.length:=by rw[z1];simp
 have hlt:=h.lt;have aa:=λi hi=>ac _ (by rw[z1];exact List.mem_map.2 ⟨b[i],List.getElem_mem hi,rfl⟩)
 have hzl:b.length<=3:=by omega
 obtain⟨k,X⟩:∃k:Nat->List (LsA×Option Wu),k=λi=>(b.take i).map (LH u)++b.drop i:=⟨_,rfl⟩
 have c:∀i,(k i).length=b.length:=λi=>by rw[X];simp;omega
 have HY:=aI X;have HL:=AB h z1 z2 z3 z4;clear X z1 z2 z3 z4 ac h;go_enter (Yq.nq func50),ntmps50;go_wp2_with fail
 go_loopw [4,10] (λ_ s10 wr=>∃i:Nat,i<=b.length/\s10=.int .i64 i/\eE A B wr k0 {L with opened:=(k i).map (·.1)}/\aX A B k0 w wr/\FrC k0 w wr/\wr.cell? ⟨k0,4,none⟩=some (.slice r b.length l)/\wr.ownsRow B 107 8 (.slice r b.length l) (k i).length (bW (k i))/\∀z∈k i,ao A 41 wr z.2 z.1.f) (λ_ s10 _=>b.length-(intOf s10).toNat)
 case atStart=>
  have e0:k 0=b:=by rw[HY.o];simp
  obtain⟨h1,h2,h3,h4,h5⟩:=HL.o;refine⟨0,Nat.zero_le _,rfl,?_,aX.refl,FrC.refl,c4,?_,?_⟩;rw[e0,<-h2];exact h1
  grind
  grind
 case round=>
  obtain⟨i,hi,rfl,n,P,D,k4,j,G⟩:=hrel;by_cases p:i<b.length
  obtain⟨g,V,he⟩:∃g V,Go.Value.slice r b.length l=.slice (some ⟨g,0,none⟩) b.length V:=by
   rcases HL.o.2.2.1.2 with⟨h1,h2⟩|⟨g,V,cur,h1,-⟩;omega
   grind
  cases he;have T:i<(k i).length:=by rw[c];exact p
  have ab:(k i)[i]=b[i]:=by
   have:(k i)[i]?=some b[i]:=by
    rw[HY.o];simp only;rw[List.getElem?_append_right (by simp;omega)];simp;rw[Nat.min_eq_left (by omega)];simp[p]
   rw[eL T]at this;exact oJ this
  have d:wr.ownsRow B 107 8 (.slice (some ⟨g,0,none⟩) (k i).length l) (k i).length (bW (k i)):=by rw[c]at j ⊢;exact j
  have q7:=(nh d i T).2.2.2.2.2.2.2;rw[ab]at q7;have f7:=(pZ.N8 d).frozen (i*8+7);have af:wr.cell? ⟨k0,4,none⟩=some (.slice (some ⟨g,0,none⟩) (k i).length l):=by rw[c];exact k4
  obtain⟨hlo,hhi⟩:=aa i p;have hwr:wrap64 (b[i].1.left-u)=b[i].1.left-u:=by unfold wrap64;omega
  have q:=n.Ob af rfl d (HL.o.2.2.2.1 g rfl) G i T (b[i].1.left-u);rw[ab]at q;have R:(k i).set i (b[i].1.again (b[i].1.left-u),b[i].2)=k (i+1):=by
   rw[HY.o];simp only;rw[List.set_append_right _ _ (by simp;omega),tS p,List.map_append,pA];congr 1;have e0:i-(List.map (LH u) (List.take i b)).length=0:=by simp;omega
   rw[e0,List.drop_eq_getElem_cons p,List.set_cons_zero];simp[LH]
  have HN:Hid (eE A B (wr.setCell ⟨g,i*8+7,none⟩ (.int .i64 (b[i].1.left-u))) k0 {L with opened:=(k (i+1)).map (·.1)}/\aX A B k0 w (wr.setCell ⟨g,i*8+7,none⟩ (.int .i64 (b[i].1.left-u)))/\FrC k0 w (wr.setCell ⟨g,i*8+7,none⟩ (.int .i64 (b[i].1.left-u)))/\(wr.setCell ⟨g,i*8+7,none⟩ (.int .i64 (b[i].1.left-u))).cell? ⟨k0,4,none⟩=some (.slice (some ⟨g,0,none⟩) b.length l)/\(wr.setCell ⟨g,i*8+7,none⟩ (.int .i64 (b[i].1.left-u))).ownsRow B 107 8 (.slice (some ⟨g,0,none⟩) b.length l) (k (i+1)).length (bW (k (i+1)))/\∀z∈k (i+1),ao A 41 (wr.setCell ⟨g,i*8+7,none⟩ (.int .i64 (b[i].1.left-u))) z.2 z.1.f):=by
   rw[<-R];obtain⟨n1,n2,n3,n4⟩:=q;refine⟨?_,P.t n2,D.t (FrC.open ⟨_,k4,rfl⟩ (by have:=(d.lt g rfl).1;have:=n.low;omega)),?_,?_,n4⟩;rw[List.map_set];exact n1;rw[cB (w:=wr) (a:=⟨k0,4,none⟩) (bS _ _ _ _ (show k0≠g by have:=(d.lt g rfl).1;have:=n.low;omega))];exact k4;rw[c]at n3;exact n3
  clear n P D j G d q R af;go_wp2_with fail
  exact⟨⟨i+1,by omega,by go_num,HN.o⟩,by simp[intOf];omega⟩;have:i=b.length:=by omega
  subst this;have ad:k b.length=b.map (LH u):=by rw[HY.o];simp
  have s:=DW B r l (k b.length) wr (by rw[c]at j ⊢;exact j) (by rw[c];omega);rw[c]at s;have ai:=aI D;have HE:=AB n P j G ad;have HC:Hid (∀w2,dW (Go.Value.slice r b.length l).ownBlock wr w2->w2.cell? ⟨k0,4,none⟩=some (.slice r b.length l)/\w2.frozen? ⟨k0,4,none⟩=false):=λw2 aj=>by
   have e:=aj.block k0 n.lt (λe=>by have:=(j.lt k0 e).1;have:=n.low;omega);exact⟨(cB (a:=⟨k0,4,none⟩) e).t k4,(fB (a:=⟨k0,4,none⟩) e).t (n.frozen 4)⟩
  clear n P D j G ad;go_wp2_with (go_at_call 74;refine s.m ?_;clear s;rintro e w2 ⟨v',rfl,y,F,v⟩;obtain⟨va',vc',rfl,-⟩:=az y;obtain⟨d4,g4⟩:=HC.o w2 v;have HD:Hid (_/\_/\_):=And.intro y (And.intro F v);clear y F v)
  go_end0;obtain⟨h1,h2,h3,h4,h5⟩:=HE.o;obtain⟨y,F,v⟩:=HD.o;obtain⟨r1,r2,r3⟩:=h1.Pe k4 h3 HL.o.2.2.2.1 y F v (λz hz=>h4 z (List.mem_filter.1 hz).1);refine⟨rfl,?_,h2.t r2,ai.o.t r3⟩;have e:mt L u={L with opened:=((k b.length).filter jF).map (·.1)}:=by
   unfold mt;congr 1;rw[h5,HL.o.2.1,List.map_map,List.filter_map,List.filter_map,List.map_map];rfl
  rw[e];exact r1
end
theorem zV k0(p:dT Wu)w(a:w.cell? ⟨k0,0,N⟩=J (O p)):Calls Vp 16 #[O (J ⟨k0,0,N⟩)] w λe w'=>e=Nm (Qa #[O p])/\w'=w.alloc (E #[O p] 33):=by
 have hlt:k0<w.heap.size:=bC w _ a;go_enter (Yq.nq func16),ntmps16;go_wp2_with fail
 exact PQ (v:=Qa #[O p]) (by simp[results,results16,go_sem]) Q ⟨Q,Q⟩
theorem Hb k0(n:ey)w(c1:w.cell? ⟨k0,1,N⟩=J (I K n)):Calls Vp 21 #[O (J ⟨k0,0,N⟩)] w λe w'=>e=Nm (I K n)/\w'=w:=by
 go_enter (Yq.nq func21),ntmps21;go_wp2_with fail
 go_ret;exact⟨Q,Q⟩
theorem Hc(a:lj)(p d b:eV)w:(Qu 74 #[(0,C a),(1,U p),(2,U d),(3,U b)]).run Vp w=.ok (Qa #[C a,U p,U d,U b]) w:=by kernel_rfl
theorem zW o w:Calls Vp 17 #[aJ o] w λe w'=>e=Nm (qV (o.kind==7) o.key o.eQ o.past)/\Below w.heap.size w w':=by
 obtain⟨b,c,body,d,a,n,src⟩:=o;have hb:=Hc;unfold aJ qV;go_enter (Yq.nq func17),ntmps17;go_wp2_with fail
 exact PQ (v:=Qa #[C (b==7),U c,U d,U a]) (by simp[results,results17,go_sem]) Q ⟨Q,((bR _ _).alloc (lR _) _).alloc (by simp) _⟩
theorem Hd k0(n u:ey)w(c3:w.cell? ⟨k0,3,N⟩=J (I .u64 n))(f3:w.frozen? ⟨k0,3,N⟩=Z):Calls Vp 49 #[O (J ⟨k0,0,N⟩),I K u] w λe w'=>e=Nm (Qb #[])/\w'=w.setCell ⟨k0,3,N⟩ (I .u64 (IntKind.u64.wrap (n+u))):=by
 go_enter (Yq.nq func49),ntmps49;go_wp2_with fail
 go_end0;exact⟨Q,by congr 2;simp[IntKind.wrap,IntKind.bits,IntKind.signed]⟩
theorem zX k0(a:dT Wu)n c(s:ey)w(_hn:n<=2199023255552)(c8:w.cell? ⟨k0,8,N⟩=J (M a n c)):Calls Vp 48 #[O (J ⟨k0,0,N⟩),I K s] w λe w'=>e=Nm (C (decide (0<=s/\s<n)))/\w'=w:=by
 by_cases b:0<=s
 .by_cases d:s<n
  .have e:decide (0<=s/\s<n)=true:=by simp[b,d]
   rw[e];go_enter (Yq.nq func48),ntmps48;go_wp2_with fail
   go_ret;exact⟨Q,Q⟩
  have e:decide (0<=s/\s<n)=false:=by simp[d]
  rw[e];go_enter (Yq.nq func48),ntmps48;go_wp2_with fail
  go_ret;exact⟨by simp,Q⟩
 have e:decide (0<=s/\s<n)=false:=by simp[b]
 rw[e];go_enter (Yq.nq func48),ntmps48;go_wp2_with fail
 go_ret;exact⟨Q,Q⟩
structure aW (A:H->Prop)(B:H)(w:Wj)(k0:H)(st:St)(L:Lg):Prop where
 store:aP A w k0 st
 ls:eE A B w k0 L
 time:w.cell? ⟨k0,3,N⟩=J (I .u64 L.tm)
structure fi (A:H->Prop)(B k0:H)(w w':Wj):Prop where
 os:w'.os=w.os
 size:w.heap.size<=w'.heap.size
 low:∀b,b<B->b<w.heap.size->b≠k0->w'.heap[b]?=w.heap[b]?
 tree:∀b,A b->b<w.heap.size->w'.heap[b]?=w.heap[b]?
 cells:∀j,6<j->w'.cell? ⟨k0,j,N⟩=w.cell? ⟨k0,j,N⟩
 fz:∀j,w'.frozen? ⟨k0,j,N⟩=w.frozen? ⟨k0,j,N⟩
section
variable {A A':Nat->Prop} {B k0:Nat} {w w' w'':Wj} {st:St} {L L':Lg}
theorem aX.ND(h:aX A B k0 w w'):fi A B k0 w w':=⟨h.os,h.size,h.low,h.tree,λj a=>h.cells j (Qd a),h.fz⟩
theorem fi.t(h:fi A B k0 w w')(k:fi A B k0 w' w''):fi A B k0 w w'':=
 ⟨k.os.t h.os,lT h.size k.size,λb a c e=>(k.low b a (lL c h.size) e).t (h.low b a c e),λb a c=>(k.tree b a (lL c h.size)).t (h.tree b a c),λj d=>(k.cells j d).t (h.cells j d),λj=>(k.fz j).t (h.fz j)⟩
theorem aP.Og(a:aP A w k0 st)(c:aX A B k0 w w')(k:∀b,A b->A' b)(h:¬A' k0):aP A' w' k0 st:=by
 have⟨p,i,l⟩:=a.tree;exact⟨λb d e=>h (e▸d),⟨p,(c.cells 0 (Qc (by omega))).t i,ao.Mr (λb d f=>⟨k b d,c.tree b d f⟩) 41 _ _ l⟩,(c.cells 1 (Qc (by omega))).t a.count,(c.cells 2 (Qc (by omega))).t a.last,λj=>(c.fz j).t (a.frozen j)⟩
theorem aW.step(h:aW A B w k0 st L)(a:aX A B k0 w w')(e:∀b,A b->A' b)(c:eE A' B w' k0 L')(d:L'.tm=L.tm):aW A' B w' k0 st L':=
 ⟨h.store.Og a e c.Mv,c,by rw[d];exact(a.cells 3 (Qc (by omega))).t h.time⟩
theorem aW.NV(h:aW A B w k0 st L)(m:ey):aW A B (w.setCell ⟨k0,3,N⟩ (I .u64 m)) k0 st {L with tm:=m}/\fi A B k0 w (w.setCell ⟨k0,3,N⟩ (I .u64 m)):=by
 have c:∀b,b≠k0->(w.setCell ⟨k0,3,N⟩ (I .u64 m)).heap[b]?=w.heap[b]?:=λb a=>bS _ _ _ _ a
 have f:∀j,j≠3->(w.setCell ⟨k0,3,N⟩ (I .u64 m)).cell? ⟨k0,j,N⟩=w.cell? ⟨k0,j,N⟩:=λj T=>cO _ _ _ _ (bB (by omega))
 have i:∀j,(w.setCell ⟨k0,3,N⟩ (I .u64 m)).frozen? ⟨k0,j,N⟩=w.frozen? ⟨k0,j,N⟩:=λj=>pt ..
 have l:∀b,A b->(w.setCell ⟨k0,3,N⟩ (I .u64 m)).heap[b]?=w.heap[b]?:=λb a=>c b (λe=>h.ls.Mv (e▸a))
 have s:=h.time;have⟨p,R,hN⟩:=h.store.tree;have⟨v,c4,x,V,q,F,P⟩:=h.ls.opened;have⟨G,X,k⟩:=h.ls.told;have hlow:=h.ls.low;refine⟨⟨⟨h.store.Mv,⟨p,(f 0 (by omega)).t R,ao.Mr (λb a _=>⟨a,l b a⟩) 41 _ _ hN⟩,(f 1 (by omega)).t h.store.count,(f 2 (by omega)).t h.store.last,λj=>(i j).t (h.store.frozen j)⟩,⟨⟨v,(f 4 (by omega)).t c4,x,V,fH q λg D=>c g (by have:=(q.lt g D).1;omega),F,λz hz=>ao.Mr (λb a _=>⟨a,l b a⟩) 41 _ _ (P z hz)⟩,(f 5 (by omega)).t h.ls.begun,⟨G,(f 6 (by omega)).t X,?_⟩,λj=>(i j).t (h.ls.frozen j),h.ls.Mv,h.ls.low,λb a=>by simpa using h.ls.Ng b a⟩,cS _ _ _ (by rw[s];rfl)⟩,⟨Q,by simp,λb _ _ a=>c b a,λb a _=>l b a,λj T=>f j (by omega),i⟩⟩;rcases k with k|⟨o,u,d,y,r,n⟩
 .exact Qc k
 .exact Qd ⟨o,u,d,y,(c o (by have:=n.2.2;omega)).t r,n⟩
def fx(L:Lg)(u:ey):Lg×ey:=if u<0\/1000<u then(L,11)else(mt {L with tm:=IntKind.u64.wrap (L.tm+u)} u,0)
theorem Kg w(h:aW A B w k0 st L)(j:L.opened.length<=3)(u:ey)(i:∀x∈L.opened,0<=x.left/\x.left<=10):
  Calls Vp 20 #[O (J ⟨k0,0,N⟩),I K u] w λe w'=>e=Nm (I K (fx L u).2)/\aW A B w' k0 st (fx L u).1/\fi A B k0 w w'/\FrC k0 w w':=by
 have HD:Hid (aW A B w k0 st L):=h;have a:fi A B k0 w w:=(aX.refl (A:=A) (B:=B) (k0:=k0) (w:=w)).ND;by_cases f:u<0\/1000<u
 .have e:fx L u=(L,11):=by rw[fx,gL f]
  rw[e];clear h;rcases f with l|q
  .go_enter (Yq.nq func20),ntmps20;go_wp2_with fail
   go_ret;exact⟨Q,HD.o,a,FrC.refl⟩
  .have l:¬u<0:=by omega
   go_enter (Yq.nq func20),ntmps20;go_wp2_with fail
   go_ret;exact⟨Q,HD.o,a,FrC.refl⟩
 .have e:fx L u=(mt {L with tm:=IntKind.u64.wrap (L.tm+u)} u,0):=by rw[fx,gI f]
  rw[e];have l:¬u<0:=by omega
  have q:¬1000<u:=by omega
  have n:=h.time;have HS:=Hd k0 L.tm u w n (h.ls.frozen 3);have HP:Hid (∀m,Calls Vp 50 #[O (J ⟨k0,4,N⟩),I K u] (w.setCell ⟨k0,3,N⟩ (I .u64 m)) λe w'=>e=Nm (Qb #[])/\aW A B w' k0 st (mt {L with tm:=m} u)/\fi A B k0 w w'/\FrC k0 w w'):=λm=>by
   have⟨k,p⟩:=HD.o.NV m;refine(Kf _ k.ls j u (by omega) i).m ?_;rintro e w' ⟨rfl,d,b,c⟩;exact⟨Q,k.step b (λ_ h=>h) d Q,p.t b.ND,(FrC.set 3 _ (by omega)).t c⟩
  clear h n;go_enter (Yq.nq func20),ntmps20;go_wp2_with (first
   |(go_at_call 49;refine HS.m ?_;clear HS;rintro e w1 ⟨rfl,rfl⟩)
   |(go_at_call 50;refine(HP.o _).m ?_;clear HP;rintro e w2 ⟨rfl,d,b,c⟩))
  go_ret;exact⟨Q,d,b,c⟩
end
def iz(x:LsA):ItD:=⟨0,⟨#[]⟩,x.left⟩
theorem yw(v:ey)w:(Qu 117 #[(2,I K v)]).run Vp w=.ok (Qa #[I K 0,U ⟨#[]⟩,I K v]) w:=by kernel_rfl
section
variable {A:Nat->Prop} {B k0:Nat} {L:Lg}
theorem DX w(h:eE A B w k0 L)(hop:L.opened.length<=3):
  Calls Vp 22 #[O (J ⟨k0,4,N⟩)] w λe w'=>∃sv,e=Nm sv/\w'.ownsRow w.heap.size 117 3 sv (L.opened.map iz).length (aq (L.opened.map iz))/\Below w.heap.size w w':=by
 have⟨v4,c4,a,D,z,z3,z4⟩:=h.opened;obtain⟨x,R,rfl,-⟩:=az z;have hlz:L.opened.length=a.length:=by rw[D];simp
 have hlt:=h.lt;obtain⟨Mt,c⟩:∃Mt:H->S ItD,Mt=λi=>((a.map (·.1)).map iz).take i:=⟨_,Q⟩
 have HI:=aI c;have T:∀i,i<=a.length->(Mt i).length=i:=λi hi=>by rw[c];simp;omega
 have r:Hid ((L.opened.map iz)=Mt a.length):=by
  show L.opened.map iz=Mt a.length;rw[c,D];exact(tO (by simp)).s
 have hzl:a.length<=3:=by omega
 rw[r.o];have HZ:=aI z;have⟨i0,X,y,F,G⟩:=PZ Yq.Nu;have hbi:=yw;clear h D z z3 z4 c;go_enter (Yq.nq func22),ntmps22;go_wp2_with fail
 go_loopw [3,5,11] (λs3 _ s11 wr=>∃i:H,i<=a.length/\s11=I K i/\wr.ownsRow w.heap.size 117 3 s3 i (aq (Mt i))/\Below w.heap.size w wr) (λ_ _ s11 _=>a.length-(intOf s11).toNat)
 case atStart=>exact⟨0,QW _,Q,by rw[HI.o];exact⟨Q,Qc ⟨Q,Q⟩⟩,bR _ _⟩
 case round=>
  obtain⟨i,hi,rfl,b,l⟩:=hrel;obtain⟨so,sc,rfl,-⟩:=az b;by_cases n:i<a.length
  obtain⟨g,m,he⟩:∃g m,Qi x a.length R=M (J ⟨g,0,N⟩) a.length m:=by
   rcases HZ.o.2 with⟨h1,h2⟩|⟨g,m,cur,h1,-⟩;omega;exact⟨g,m,h1⟩
  cases he;have⟨q0,q1,q2,q3,q4,q5,q6,q7⟩:=nh HZ.o i n;replace q0:=ag l q0;replace q1:=ag l q1;replace q2:=ag l q2;replace q3:=ag l q3;replace q4:=ag l q4;replace q5:=ag l q5;replace q6:=ag l q6;replace q7:=ag l q7;have HS:Hid (Mt (i+1)=Mt i++[⟨0,⟨#[]⟩,a[i].1.left⟩]):=by
   show Mt (i+1)=Mt i++[⟨0,⟨#[]⟩,a[i].1.left⟩];rw[HI.o];simp only;rw[tS (by simpa using n)];simp[iz]
  obtain⟨O1,v⟩:∃O1,O1=Obj.cells #[I K a[i].1.num,O a[i].2,C a[i].1.q.vs,U a[i].1.q.p,U a[i].1.q.d,U a[i].1.q.af,I K a[i].1.size,I K a[i].1.left] 107:=⟨_,Q⟩;obtain⟨O2,t⟩:∃O2,O2=Obj.cells #[I K 0,U ⟨#[]⟩,I K a[i].1.left] 117:=⟨_,Q⟩;have f:Hid (((wr.alloc O1).alloc O2).ownsRow w.heap.size 117 3 (M so i sc) i (aq (Mt i))/\Below w.heap.size w wr/\∀k,(Qi so i sc).ownBlock=J k->w.heap.size<=k):=⟨(b.alloc _).alloc _,l,λk e=>(b.lt k e).1⟩;have HN:Hid (∀j u,[Ql K 0,U ⟨#[]⟩,I K a[i].1.left][j]?=J u->((wr.alloc O1).alloc O2).cell? ((⟨wr.heap.size+1,0,N⟩:Wu).add j)=J u):=by
   rw[t];have:=na (wr.alloc O1) (I K 0) (U ⟨#[]⟩) (I K a[i].1.left) 117
   rwa [tb]at this
  have hbs:=l.size;rw[v,t]at f HN;clear b l;go_wp2_with (at_builtin;refine wpList_append_own _ Q _ _ 44 Q w.heap.size 117 i0 _ 3 32 (Yq.u underlying44) X y F G Q (by decide) _ _ _ Q f.o.1 ⟨wr.heap.size+1,0,N⟩ 1 1 [I K 0,U ⟨#[]⟩,I K a[i].1.left] ?qa Q ?qb ?qc ?qd ?qe ?qf ?_)
  case qa=>rfl
  case qb=>exact HN.o
  case qc=>simp[Value.oneCell']
  case qd=>simp only[PR];omega
  case qe=>omega
  case qf=>simp;omega
  intro v' w3 P hg _;obtain⟨aa,V,rfl,-⟩:=az P;have HE:Hid (w3.ownsRow w.heap.size 117 3 (M aa (i+1) V) (i+1) (aq (Mt i)++[I K 0,U ⟨#[]⟩,I K a[i].1.left])/\Below w.heap.size w w3):=
   ⟨P,((f.o.2.1.alloc f.o.2.1.size _).alloc (by have:=f.o.2.1.size;simp;omega) _).grown hg (by simp;omega) f.o.2.2⟩
  clear P hg;go_wp2_with fail
  refine⟨⟨i+1,by omega,by go_num,?_,HE.o.2⟩,by simp[intOf];omega⟩;rw[HS.o,nN];exact HE.o.1;have:i=a.length:=by omega
  subst this;go_wp2_with fail
  go_ret;refine⟨_,Q,?_,l⟩;rw[T _ (lR _)];exact b
theorem DY w(h:eE A B w k0 L)(a:eV)(d:ee a L.told=N):
  Calls Vp 18 #[O (J ⟨k0,4,N⟩),U a] w λe w'=>e=Nm (Qb #[Qa #[M N 0 0,U ⟨#[]⟩],I K 9])/\bK A B k0 w L [] (M N 0 0) w':=by
 have⟨mv,c6,c⟩:=h.told;have hlt:=h.lt;have b:=nd (c.left (ay.refl.alloc (E #[M N 0 0,U ⟨#[]⟩] 69))) a;rw[d]at b;simp only[QH,Option.isSome_none,plV]at b;have HL:=aI h;have hbp:=fX;clear h c;go_enter (Yq.nq func18),ntmps18;go_wp2_with fail
 exact PQ (v:=Qb #[Qa #[M N 0 0,U ⟨#[]⟩],I K 9]) (by simp[results,results18,go_sem]) Q ⟨Q,bK.same HL.o ((ay.refl.alloc _).alloc _)⟩
theorem DZ w(h:eE A B w k0 L)(d:eV)(n pg:ey)(hop:L.opened.length<=3)(u:ee d L.told=J (n,pg))(F:mr n L.opened=N):
  Calls Vp 18 #[O (J ⟨k0,4,N⟩),U d] w λe w'=>e=Nm (Qb #[Qa #[M N 0 0,U ⟨#[]⟩],I K 10])/\bK A B k0 w L [] (M N 0 0) w':=by
 have⟨mv,c6,s⟩:=h.told;have⟨v4,c4,r,q,p,D,G⟩:=h.opened;obtain⟨k,l,rfl,-⟩:=az p;have hlz:L.opened.length=r.length:=by rw[q];simp
 have hlt:=h.lt;have hk1:k0<w.heap.size+1:=by omega
 have i:=nd (s.left (ay.refl.alloc (E #[M N 0 0,U ⟨#[]⟩] 69))) d;rw[u]at i;simp only[QG,QI,plV]at i;obtain⟨W,c⟩:∃W,W=(w.alloc (E #[M N 0 0,U ⟨#[]⟩] 69)).alloc (E #[I K n,I K pg] 111):=⟨_,Q⟩;have f:ay w W:=by rw[c];exact(ay.refl.alloc _).alloc _
 have b:=zU B k l r (w.heap.size+1) n W (bH p λg _ z=>f.block g z) (by omega) (by
  rw[c];have:=cA (w:=w.alloc (E #[M N 0 0,U ⟨#[]⟩] 69)) #[I K n,I K pg] 111 (w.heap.size+1) 0 (by simp);rw[this];rfl)
 rw[<-q,F]at b;simp only[QJ,QH]at b;have HL:=jf h f;have HF:Hid (∀a,Below W.heap.size W a->a.cell? ⟨w.heap.size,0,N⟩=J (M N 0 0)/\a.cell? ⟨w.heap.size,1,N⟩=J (U ⟨#[]⟩)/\a.frozen? ⟨w.heap.size,0,N⟩=Z/\a.frozen? ⟨w.heap.size,1,N⟩=Z):=λa y=>by
  have e:a.heap[w.heap.size]?=J (E #[M N 0 0,U ⟨#[]⟩] 69):=by
   rw[y.block _ (by rw[c];simp;omega),c,bA _ _ _ (by simp)];exact aN _ _
  exact⟨by simp[sq,e],by simp[sq,e],by simp[sT,e],by simp[sT,e]⟩
 have x:=aI c;have hbp:=fX;have hWs:W.heap.size=w.heap.size+2:=by rw[c];simp
 clear h s q p D G f;subst c;go_enter (Yq.nq func18),ntmps18;go_wp2_with (go_at_call 46;refine b.m ?_;clear b;rintro e a ⟨rfl,j⟩;have⟨s0,s1,u0,u1⟩:=HF.o a j)
 exact PQ (v:=Qb #[Qa #[M N 0 0,U ⟨#[]⟩],I K 10]) (by simp[results,results18,go_sem,s0,s1]) Q ⟨Q,bK.same HL.o.1 (((HL.o.2.t (.below j)).set (lR _) _ _).set (lR _) _ _)⟩
end
theorem dl.set{b}(h:dl w b):dl (w.setCell ⟨b,j,N⟩ x) b:=by
 obtain⟨a,e1,c⟩:=h;cases a with
 |cells d e z=>
  refine⟨E (d.setIfInBounds j x) e z,?_,Q⟩;show(w.heap.modify b _)[b]?=_
  grind
 |_=>cases c
theorem dl.of_block{w'}{b}(h:dl w b)(e:w'.heap[b]?=w.heap[b]?):dl w' b:=by
 obtain⟨o,a,c⟩:=h;exact⟨o,e.t a,c⟩
section
variable {A:Nat->Prop} {B k0:Nat} {L L2:Lg} {w X W7 w8:Wj} {sv:Wx} {pg:List ItD} {r0:Nat}
def j5(A:H->Prop)(sv:Wx):H->Prop:=λb=>A b\/sv.ownBlock=J b
theorem p9(h:eE A B X k0 L)(d:ay X W7)(a:W7.ownsRow X.heap.size 117 3 sv pg.length (aq pg)):eE (j5 A sv) B W7 k0 L:=
 h.more d (λ_ h=>Qc h) (λb c=>c.imp id λe=>(a.lt b e).1) (λb c=>by
  rcases c with c|c
  .exact lL (h.Ng b c) d.size
  .exact (a.lt b c).2)
theorem D1(z:FrC k0 w X)(P:ed k0 W7 w8)(hw:∀b,A b->b<w.heap.size)(r:aX A B k0 w X)(u:ay X W7)(c:W7.ownsRow X.heap.size 117 3 sv pg.length (aq pg))(R:eE (j5 A sv) B w8 k0 L2)(D:aX (j5 A sv) B k0 W7 w8)(L:w8.cell? ⟨k0,4,N⟩=X.cell? ⟨k0,4,N⟩)(hr1:w.heap.size<=r0)(hr2:r0<X.heap.size)(hB:B<=w.heap.size)(T:∀v g,X.cell? ⟨k0,4,N⟩=J v->v.ownBlock=J g->g≠r0)(V:dl w8 r0)p y:
  bK A B k0 w L2 pg sv ((w8.setCell ⟨r0,0,N⟩ p).setCell ⟨r0,1,N⟩ y):=by
 have hlow:=R.low;have d:¬j5 A sv r0:=λn=>by
  rcases n with n|n
  .have:=hw _ n;omega
  .have:=(c.lt _ n).1;omega
 have i:r0≠k0:=by omega
 have h9:=R.other (j:=0) (x:=p) i d V (λv g e=>T v g (L.s.t e));have G:(w8.setCell ⟨r0,0,N⟩ p).cell? ⟨k0,4,N⟩=w8.cell? ⟨k0,4,N⟩:=cB (a:=⟨k0,4,N⟩) (bS _ _ _ _ (show k0≠r0 by omega));have F:=h9.other (j:=1) (x:=y) i d V.set (λv g e=>T v g (L.s.t (G.s.t e)));have f:k0<X.heap.size:=by have:=r.size;omega
 have k:aX (j5 A sv) B k0 W7 ((w8.setCell ⟨r0,0,N⟩ p).setCell ⟨r0,1,N⟩ y):=(D.t (aX.other i d (by omega))).t (aX.other i d (by omega));refine⟨j5 A sv,λ_ h=>Qc h,λb l=>?_,F,(r.t (aX.left f u)).t (k.m λ_ h=>Qc h),?_,?_⟩
 .rcases l with l|l
  .exact Qc l
  .have:=(c.lt b l).1;have:=r.size;exact Qd (by omega)
 .exact ng (fH c λg o=>k.tree g (Qd o) (c.lt g o).2) (λg o=>Qd o)
 .have e7:W7.cell? ⟨k0,4,N⟩=X.cell? ⟨k0,4,N⟩:=cB (a:=⟨k0,4,N⟩) (u.block k0 f);have q:=(z.t (FrC.left f u)).t (FrC.OW P (L.t e7.s));exact(q.fresh (by omega) i).fresh (by omega) i
theorem He(f:FrC k0 w X)(h:eE A B X k0 L)(m:∀b,A b->b<w.heap.size)(l:aX A B k0 w X)(e:ay X W7)(c:W7.ownsRow X.heap.size 117 3 sv pg.length (aq pg))(i:w.heap.size<=r0)(d:r0<X.heap.size)(p:B<=w.heap.size)(n:∀v g,X.cell? ⟨k0,4,N⟩=J v->v.ownBlock=J g->g≠r0)(q:dl X r0)j k:
  bK A B k0 w L pg sv ((W7.setCell ⟨r0,0,N⟩ j).setCell ⟨r0,1,N⟩ k):=by
 have o:=p9 h e c;exact D1 f (ed.refl _ _) m l e c o aX.refl (cB (a:=⟨k0,4,N⟩) (e.block k0 h.lt)) i d p n (q.of_block (e.block r0 d)) j k
theorem Hf(q:FrC k0 w X)(h:eE A B X k0 L)(z:∀b,A b->b<w.heap.size)(y:aX A B k0 w X)(f:ay X W7)(c:W7.ownsRow X.heap.size 117 3 sv pg.length (aq pg))(r:w.heap.size<=r0)(i:r0<X.heap.size)(P:B<=w.heap.size)(G:∀v g,X.cell? ⟨k0,4,N⟩=J v->v.ownBlock=J g->g≠r0)(R:dl X r0)(u:eV)(k:ey×ey):
  Calls Vp 45 #[O (J ⟨k0,4,N⟩),U u,plV k] W7 λe w8=>e=Nm (Qb #[])/\ed k0 W7 w8/\∀s l,bK A B k0 w {L with told:=lE u k L.told} pg sv ((w8.setCell ⟨r0,0,N⟩ s).setCell ⟨r0,1,N⟩ l):=by
 have hlow:=h.low;have:=f.size;refine(DU W7 (p9 h f c) (by omega) u k).m ?_;rintro e w8 ⟨rfl,D,p,d,j⟩;refine⟨Q,d,λs l=>?_⟩;have n:dl w8 r0:=by
  have⟨o,F,x⟩:=R.of_block (f.block r0 i);exact⟨o,d.2.2 r0 o F x (by omega),x⟩
 exact D1 q d z y f c D p ((j 4 (by omega)).t (cB (a:=⟨k0,4,N⟩) (f.block k0 h.lt))) r i P G n s l
end
theorem cP{a}{i:Prop}
  (u:o.guard=N) (f:FuncId) (n:eW Operand) (r:eW Ww) (q:o.op=Op.call {callee:=Callee.value (.func f),args:=n,argTypes:=r})
  (j:eW Wx) (x:n.map a.eval=j) (k:(callFunc f j).run P w=.ok (.enter f j) w)
  (R:Wx->Wj->Prop) (c:S PanicEntry->Wj->Prop) (s:Calls P f j w λe w'=>(∃v,e=Nm v/\R v w')\/∃l,e=.panicked l/\c l w') (hS:∀l w',c l w'->h (.panic l) a w') (hK:∀v w',R v w'->b (a.put o.dst v) w'):
  if Qq o (yielded y a.tmps)=Y then QT P o a w b h else i:=by
 rw[gL (by simp[Qq,u])];subst x;unfold QT;have e:(PY a.eval o).run P w=.ok (.enter f (n.map a.eval)) w:=by
  have t:PY a.eval o=(do let d <-resolve a.eval {callee:=Callee.value (.func f),args:=n,argTypes:=r} o.type;invoke d.target d.args):=by simp[PY,q]
  rw[t];simpa[resolve,Deferred.ofValue,Act.eval,invoke]using k
 rw[e,Oper.upon_enter];refine s.m ?_
 grind
noncomputable def II:Code:=dm (dm (dm (dm (dm (dm (dm (cn nF)))))))
def vY(k0 r0 a bx:H)(u:H->Wx):eW Wx:=
 #[O (J ⟨k0,4,N⟩),u 1,u 2,u 3,O (J ⟨r0,0,N⟩),u 5,O (J ⟨a,0,N⟩),u 7,u 8,O (J ⟨bx,0,N⟩),u 10,u 11,u 12,u 13,u 14,u 15,u 16,u 17,u 18,u 19,u 20,u 21,u 22,u 23,u 24,u 25,u 26,u 27,u 28,u 29,u 30,u 31,u 32,u 33,u 34,u 35,u 36,u 37,u 38,u 39,u 40,u 41,u 42,u 43,u 44,u 45,u 46,u 47,u 48,u 49,u 50,u 51,u 52,u 53,u 54,u 55,u 56,u 57,u 58,u 59,u 60,u 61]
section
variable {A:Nat->Prop} {B k0:Nat} {L:Lg}
theorem D2(Qok:Qy->Prop){X W7}{r0 r y}{u:H->Wx}{D R}{i:eV}{n pg:ey}{Mt}(p:FrC k0 w X)(h:eE A B X k0 L)(hw:∀b,A b->b<w.heap.size)(V:aX A B k0 w X)(q:ay X W7)(d:W7.ownsRow X.heap.size 117 3 (M z D R) Mt.length (aq Mt))(P:w.heap.size<=r0)(k:r0<X.heap.size)(hB:B<=w.heap.size)(hv:∀v g,X.cell? ⟨k0,4,N⟩=J v->v.ownBlock=J g->g≠r0)
  (b0:X.heap[r0]?=J (E #[M N 0 0,U ⟨#[]⟩] 69)) (b1:X.heap[r]?=J (E #[I K n,I K pg] 111)) (c0:W7.cell? ⟨y,0,N⟩=J (M z D R)) (c1:W7.cell? ⟨y,1,N⟩=J (U i)) (hbx:X.heap.size<=y) (_hbt:w.heap.size<=r) (hpg:0<=pg/\pg<2199023255552):
  II.wp Vp (Qh Vp nF λe w'=>(∃sv,e=Nm (Qb #[Qa #[sv,U i],I K 0])/\bK A B k0 w ⟨L.opened,L.begun,if i=⟨#[]⟩then L.told else lE i (n,pg+1) L.told,L.tm⟩ Mt sv w')\/Stop Qok e w') ⟨vY k0 r0 r y u,[]⟩ W7:=by
 have hlow:=h.low;have hlt:=h.lt;have hsX:=V.size;have hs7:=q.size;have hk:k0≠r0:=by omega
 have j:dl X r0:=⟨_,b0,Q⟩;have x:=(q.block r0 k).t b0;have e1:=(q.block r ((eS b1).1)).t b1;have s0:W7.cell? ⟨r0,0,N⟩=J (M N 0 0):=by simp[sq,x]
 have s1:W7.cell? ⟨r0,1,N⟩=J (U ⟨#[]⟩):=by simp[sq,x]
 have y0:W7.frozen? ⟨r0,0,N⟩=false:=by simp[sT,x]
 have y1:W7.frozen? ⟨r0,1,N⟩=false:=by simp[sT,x]
 have p0:W7.cell? ⟨r,0,N⟩=J (I K n):=by simp[sq,e1]
 have p1:W7.cell? ⟨r,1,N⟩=J (I K pg):=by simp[sq,e1]
 have HL:=He p h hw V q d P k hB hv j;have HK:=Hf p h hw V q d P k hB hv j i (n,pg+1);have hwr:wrap64 (pg+1)=pg+1:=by unfold wrap64;omega
 have hbq:=pY;have ac:Hid (∀y0 y1,bK A B k0 w L Mt (M z D R) ((W7.setCell ⟨r0,0,N⟩ y0).setCell ⟨r0,1,N⟩ y1)):=HL;unfold plV at HK;generalize hQ:Qh Vp nF _=a;have HQ:Hid (Qh Vp nF _=a):=hQ;clear hQ HL h hw V q d p hv b0 b1 x e1 j;unfold vY;dsimp only[II,cn,nF,iG,dm,Option.getD];by_cases l:i=⟨#[]⟩
 .subst l;go_wp2_with fail
  rw[<-HQ.o];refine PQ (v:=Qb #[Qa #[M z D R,U ⟨#[]⟩],I K 0]) (by simp[results,results18,go_sem,s0,s1]) Q (Qc ⟨_,Q,?_⟩);simp;exact ac.o _ _
 have T:=λhx=>by
  have:(i==(⟨#[]⟩:eV))=true:=by rw[PS];simpa using hx
  exact l ((QS _ _).1 this)
 have hne:(i.toList == [])=false:=by simpa using T
 have G:y≠k0:=by omega
 go_wp2_with (go_at_call 45;refine HK.m ?_;clear HK;rintro e w8 ⟨rfl,c,F⟩;have c0':=c.cell c0 G;have c1':=c.cell c1 G;have ab:=c.cell s0 hk.s;have aa:=c.cell s1 hk.s;have y0':=(c.frozen s0 hk.s).t y0;have y1':=(c.frozen s1 hk.s).t y1)
 rw[<-HQ.o];refine PQ (v:=Qb #[Qa #[M z D R,U i],I K 0]) (by simp[results,results18,go_sem,ab,aa]) Q (Qc ⟨_,Q,?_⟩);rw[gI l];exact F _ _
theorem D3(Qok:Qy->Prop)(hQ:∀q,Qok q->jc q/\jd q)w(h:eE A B w k0 L)(hB:B<=w.heap.size)(a3:eV)(n pg:ey)i x(hop:L.opened.length<=3)(hf:ee a3 L.told=J (n,pg))(hn:mr n L.opened=J i)(hx:L.opened[i]?=J x)(hq:Qok x.q)(ap:fG (bL x.f x.q.p.data.toList)<=1000)(hp:x.q.p.size<=PR)(b2:0<=pg/\pg<2199023255552)(G:Wj->Prop)(a9:∀w',G w'->dE w')(hG:∀w',aX A B k0 w w'->G w')(hT:mq G n (pg+1)):
  Calls Vp 18 #[O (J ⟨k0,4,N⟩),U a3] w λe w'=>
   (∃sv,e=Nm (Qb #[Qa #[sv,U (x.tok pg)],I K 0])/\bK A B k0 w ⟨L.opened.set i (x.again 10),L.begun,if x.tok pg=⟨#[]⟩then L.told else lE (x.tok pg) (n,pg+1) L.told,L.tm⟩ (x.Mz pg) sv w')\/Stop Qok e w':=by
 have⟨mv,c6,hm⟩:=h.told;have⟨v4,c4,j,z1,z2,z3,z4⟩:=h.opened;have bp:L.opened.length=j.length:=by rw[z1];simp
 have a1:x.num=n:=by
  obtain⟨h1,h2,-⟩:=vx.1 hn;rw[eL h1]at hx;cases hx;simpa using h2
 have hi:i<j.length:=by rw[<-bp];exact(sL hx).1
 have a6:j[i].1=x:=by
  rw[z1,List.getElem?_map,eL hi]at hx;simpa using hx
 obtain⟨g,aa,bv⟩:∃g aa,v4=M (J ⟨g,0,N⟩) j.length aa:=by
  rcases z2.2 with⟨h1,h2⟩|⟨g,aa,bq,h1,-⟩
  .omega
  .exact ⟨g,aa,h1⟩
 subst bv;have hgw:=(z2.lt g Q);have ai:=h.lt;have hlow:=h.low;have hk1:k0<w.heap.size+1:=by omega
 have a7:=nd (hm.left (ay.refl.alloc (E #[M N 0 0,U ⟨#[]⟩] 69))) a3;rw[hf]at a7;simp only[QG,QI,plV]at a7;obtain⟨W,hW⟩:∃W,W=(w.alloc (E #[M N 0 0,U ⟨#[]⟩] 69)).alloc (E #[I K n,I K pg] 111):=⟨_,Q⟩;have a4:ay w W:=by rw[hW];exact(ay.refl.alloc _).alloc _
 have hWs:W.heap.size=w.heap.size+2:=by rw[hW];simp
 have be:W.heap[w.heap.size]?=J (E #[M N 0 0,U ⟨#[]⟩] 69):=by
  rw[hW,bA _ _ _ (by simp)];exact aN _ _
 have a2:W.heap[w.heap.size+1]?=J (E #[I K n,I K pg] 111):=by
  rw[hW];have:=aN (w.alloc (E #[M N 0 0,U ⟨#[]⟩] 69)) (E #[I K n,I K pg] 111)
  rwa [tb]at this
 have al:=zU B (J ⟨g,0,N⟩) aa j (w.heap.size+1) n W (bH z2 λg _ hg=>a4.block g hg) (by omega) (by simp[sq,a2]);rw[<-z1,hn]at al;simp only[QK,QG]at al;obtain⟨tk,ar⟩:∃tk,tk=x.tok pg:=⟨_,Q⟩;obtain⟨R,ab⟩:∃R,R=x.Mz pg:=⟨_,Q⟩;have HA:Hid (∀F,Below W.heap.size W F->(F.cell? ⟨k0,4,N⟩=J (M (J ⟨g,0,N⟩) j.length aa)/\F.frozen? ⟨g,i*8+7,N⟩=Z/\F.cell? ⟨g,i*8+7,N⟩=J (I K x.left)) /\
   (∀X,X=F.setCell ⟨g,i*8+7,N⟩ (I K 10)->eE A B X k0 {L with opened:=L.opened.set i (x.again 10)}/\aX A B k0 w X/\ao A 41 X j[i].2 x.f/\(X.cell? ⟨k0,4,N⟩=J (M (J ⟨g,0,N⟩) j.length aa)/\k0<X.heap.size/\g<X.heap.size/\w.heap.size+2<=X.heap.size) /\
    (X.cell? ⟨g,i*8,N⟩=J (I K n)/\X.cell? ⟨g,i*8+1,N⟩=J (O j[i].2)/\X.cell? ⟨g,i*8+2,N⟩=J (C x.q.vs)/\X.cell? ⟨g,i*8+3,N⟩=J (U x.q.p)/\X.cell? ⟨g,i*8+4,N⟩=J (U x.q.d)/\X.cell? ⟨g,i*8+5,N⟩=J (U x.q.af)/\X.cell? ⟨g,i*8+6,N⟩=J (I K x.size)/\X.cell? ⟨g,i*8+7,N⟩=J (I K 10)) /\
    X.heap[w.heap.size]?=J (E #[M N 0 0,U ⟨#[]⟩] 69)/\X.heap[w.heap.size+1]?=J (E #[I K n,I K pg] 111)/\FrC k0 w X)):=λF y=>by
  have T:ay w F:=a4.t (.below y);have av:F.ownsRow B 107 8 (M (J ⟨g,0,N⟩) j.length aa) j.length (bW j):=bH z2 λg _ hg=>T.block g hg
  have q7:=(nh av i hi).2.2.2.2.2.2.2;rw[a6]at q7;have b8:F.frozen? ⟨g,i*8+7,N⟩=false:=by
   rcases av.2 with⟨h1,-⟩|⟨g',cap',bq,h1,-,hr,-⟩
   .cases h1
   .cases h1;simp[sT,hr]
  refine⟨⟨T.cell c4,b8,q7⟩,λX hX=>?_⟩;obtain⟨s1,s2,s3,s4⟩:=(h.left T).Ob (T.cell c4) z1 av (z3 g Q) (λz hz=>ao.Mr (λb hb b6=>⟨hb,T.block b b6⟩) 41 _ _ (z4 z hz)) i hi 10;rw[a6]at s1 s3 s4;rw[<-hX]at s1 s2 s3 s4;have bo:i<(j.set i (x.again 10,j[i].2)).length:=by simpa using hi
  have bl:X.ownsRow B 107 8 (M (J ⟨g,0,N⟩) (j.set i (x.again 10,j[i].2)).length aa) (j.set i (x.again 10,j[i].2)).length (bW (j.set i (x.again 10,j[i].2))):=by simpa using s3
  have hc:=nh bl i bo;have e1:(j.set i (x.again 10,j[i].2))[i]=(x.again 10,j[i].2):=by simp
  rw[e1]at hc;have hsz:=T.size;have hXs:X.heap.size=F.heap.size:=by rw[hX];simp
  have a0:∀b,b≠g->X.heap[b]?=F.heap[b]?:=λb hb=>by rw[hX];exact bS _ _ _ _ hb
  have hW1:=y.size;refine⟨s1,(aX.left ai T).t s2,s4 (x.again 10,j[i].2) (List.mem_iff_getElem?.2 ⟨i,by simp[hi]⟩),⟨(cB (a:=⟨k0,4,N⟩) (a0 k0 (by omega))).t (T.cell c4),by omega,by omega,by omega⟩,⟨by rw[<-a1];exact hc.1,hc.2.1,hc.2.2.1,hc.2.2.2.1,hc.2.2.2.2.1,hc.2.2.2.2.2.1,hc.2.2.2.2.2.2.1,hc.2.2.2.2.2.2.2⟩,?_,?_,?_⟩
  .rw [a0 _ (by omega),y.block _ (by omega)];exact be
  .rw [a0 _ (by omega),y.block _ (by omega)];exact a2
  .rw [hX];exact(FrC.left ai T).t (FrC.open ⟨_,T.cell c4,Q⟩ (by omega))
 have HP:Hid (∀F X,Below W.heap.size W F->X=F.setCell ⟨g,i*8+7,N⟩ (I K 10)->∀V,ay X V->Calls Vp 44 #[Qa #[I K n,O j[i].2,C x.q.vs,U x.q.p,U x.q.d,U x.q.af,I K x.size,I K 10],I K pg] V λe w'=>(∃v,e=Nm v/\(∃D P sc,v=Qa #[M D P sc,U tk]/\w'.ownsRow V.heap.size 117 3 (M D P sc) R.length (aq R)/\ay V w'))\/∃ch,e=.panicked ch/\Stop Qok (.panicked ch) w'):=λF X y hX V hV=>by
  obtain⟨-,ad⟩:=HA.o F y;obtain⟨s1,s2,s3,s4,-⟩:=ad X hX;have bi:Lf Qok ((x.again 10).MU j[i].2) x.f V:=⟨.of (ao.Mr (A':=λ_=>True) (λb _ ai=>⟨trivial,hV.block b ai⟩) 41 _ _ s3),hq,ap,hp,a9 _ (hG _ (s2.t (aX.left s4.2.1 hV)))⟩;have b7:IntKind.i64.wrap (pg+1)=pg+1:=by rw[nb];unfold wrap64;omega
  have a8:=ym Qok hQ ((x.again 10).MU j[i].2) pg x.f V bi G (λw' hl=>hG w' ((s2.t (aX.left s4.2.1 hV)).t (aX.left (lL s4.2.1 hV.size) hl))) (λ_=>by
   rw[b7];show mq G x.num (pg+1);rw[a1];exact hT)
  rw[show lV ((x.again 10).MU j[i].2)=Qa #[I K n,O j[i].2,C x.q.vs,U x.q.p,U x.q.d,U x.q.af,I K x.size,I K 10]by rw[<-a1];rfl]at a8;refine a8.m ?_;rintro e w' (⟨sv,rfl,h3,h4⟩|hs)
  .left
   rw[iV (l:=(x.again 10).MU j[i].2) (l':=x.MU N) Q]at h3;obtain⟨D,P,rfl,-⟩:=az h3;rw[ar,ab];exact⟨_,Q,D,_,P,Q,h3,h4⟩
  .obtain ⟨a,b,r,rfl,b4⟩:=hs;exact Qd ⟨_,Q,a,b,r,Q,b4⟩
 have bd:Hid (∀ (ac:eW Wx) (wx:Wj),(callFunc 44 ac).run Vp wx=.ok (.enter 44 ac) wx):=λac wx=>by go_simp
 have HW:=aI h.Ng;have hiI:¬((i:ey)<0):=by omega
 have hbp:=fX;rw[<-ar,<-ab];clear ar ab;clear h hm z1 z2 z3 z4 a4 be a2 hq ap hp hG a9 hT hQ hx hn hf;subst hW;go_enter (Yq.nq func18),ntmps18
 go_upto_region 8 with(go_at_call 46;refine al.m ?_;clear al;rintro e F ⟨rfl,y⟩;obtain⟨⟨m4,f7,q7⟩,-⟩:=HA.o F y)
 obtain⟨X,hX⟩:∃X,X=F.setCell ⟨g,i*8+7,N⟩ (I K 10):=⟨_,Q⟩;rw[<-hX];obtain⟨-,ad⟩:=HA.o F y;have⟨s1,s2,s3,⟨x4,xk,xg,xs⟩,⟨q0,q1,q2,q3,q4,q5,q6,q8⟩,b0,b1,bk⟩:=ad X hX;have p0:X.cell? ⟨w.heap.size+1,0,N⟩=J (I K n):=by simp[sq,b1]
 have p1:X.cell? ⟨w.heap.size+1,1,N⟩=J (I K pg):=by simp[sq,b1]
 have xw:w.heap.size+1<X.heap.size:=by omega
 have HS:=AB s1 s2 b0 b1 hX;have bt:=aI bk;have HV:Hid (∀k,ay (X.alloc (E #[M N 0 0,U ⟨#[]⟩] 69)).drew k->k.cell? ⟨X.heap.size,0,N⟩=J (M N 0 0)/\k.cell? ⟨X.heap.size,1,N⟩=J (U ⟨#[]⟩)/\k.frozen? ⟨X.heap.size,0,N⟩=Z/\k.frozen? ⟨X.heap.size,1,N⟩=Z):=λk hl=>by
  have e:k.heap[X.heap.size]?=J (E #[M N 0 0,U ⟨#[]⟩] 69):=(hl.block _ (by simp)).t (aN X _);exact⟨by simp[sq,e],by simp[sq,e],by simp[sT,e],by simp[sT,e]⟩
 clear ad s1 s2 s3 b0 b1 hX bk;have bn:Hid (∀v g',X.cell? ⟨k0,4,N⟩=J v->v.ownBlock=J g'->g'≠w.heap.size):=λv g' hv b3=>by
  rw[x4]at hv;cases hv;cases b3;show g≠w.heap.size;omega
 rename_i K1 bb;have a5:Hid (∀ (a:Act) (W7:Wj) (bx:H) (D:dT Wu) (P sc:H),a=⟨vY k0 w.heap.size (w.heap.size+1) bx (λi=>a.tmps.getD i Wo),[]⟩->ay X W7->W7.ownsRow X.heap.size 117 3 (M D P sc) R.length (aq R)->W7.cell? ⟨bx,0,N⟩=J (M D P sc)->W7.cell? ⟨bx,1,N⟩=J (U tk)->X.heap.size<=bx->K1 a W7):=λa W7 bx D P sc ha hl c c0 c1 b5=>by
  refine bb a W7 ?_;rw[ha];have:=D2 (L:={L with opened:=L.opened.set i (x.again 10)}) Qok (u:=λi=>a.tmps.getD i Wo) bt.o HS.o.1 HW.o HS.o.2.1 hl c (lR _) (by omega) hB bn.o HS.o.2.2.1 HS.o.2.2.2.1 c0 c1 b5 (by omega) b2;exact this
 have bw:Hid (∀k D P sc,ay X.drew k->k.ownsRow X.drew.heap.size 117 3 (M D P sc) R.length (aq R)->∀a,a=⟨vY k0 w.heap.size (w.heap.size+1) k.heap.size (λi=>a.tmps.getD i Wo),[]⟩->K1 a (k.alloc (E #[M D P sc,U tk] 69))):=λk D P sc s c a ha=>by
  have aj:ay X k:=(ay.refl.drew).t s;refine a5.o a _ k.heap.size D P sc ha (aj.alloc _) (bH c λg _ hg=>bA _ _ _ hg) ?_ ?_ aj.size
  .rw [cA (w:=k) _ _ k.heap.size 0 Q];rfl
  .rw [cA (w:=k) _ _ k.heap.size 1 Q];rfl
 have bs:Hid (∀k D P sc,ay (X.alloc (E #[M N 0 0,U ⟨#[]⟩] 69)).drew k->k.ownsRow (X.alloc (E #[M N 0 0,U ⟨#[]⟩] 69)).drew.heap.size 117 3 (M D P sc) R.length (aq R)->∀a,a=⟨vY k0 w.heap.size (w.heap.size+1) X.heap.size (λi=>a.tmps.getD i Wo),[]⟩->K1 a ((k.setCell ⟨X.heap.size,0,N⟩ (M D P sc)).setCell ⟨X.heap.size,1,N⟩ (U tk))):=λk D P sc s c a ha=>by
  have aj:ay X k:=((ay.refl.alloc _).drew).t s;have⟨v0,v1,o0,o1⟩:=HV.o k s;have hbs:(X.alloc (E #[M N 0 0,U ⟨#[]⟩] 69)).drew.heap.size=X.heap.size+1:=by simp
  refine a5.o a _ X.heap.size D P sc ha ((aj.set (lR _) _ _).set (lR _) _ _) (cI (bH c λg h1 hg=>?_) (by omega)) ?_ ?_ (lR _)
  .rw [bS _ _ _ _ (show g≠X.heap.size by omega),bS _ _ _ _ (show g≠X.heap.size by omega)]
  .rw [cO _ _ _ _ (bB (by omega))];exact cS _ _ _ (by rw[v0];rfl)
  .exact cS _ _ _ (by rw[cO _ _ _ _ (bB (by omega)),v1];rfl)
 clear bb
 go_region_law (first
  |(refine cP rfl 44 #[Qe 44,Qe 46] #[107,3] rfl #[Qa #[I K n,O j[i].2,C x.q.vs,U x.q.p,U x.q.d,U x.q.af,I K x.size,I K 10],I K pg] (by simp[Act.eval]) (bd.o _ _) _ (λch w'=>Stop Qok (.panicked ch) w') (HP.o F X y HS.o.2.2.2.2 X.drew ay.refl.drew) (λch w' hs=>⟨Q,Or.inr hs⟩) ?_;rintro v k ⟨D,P,sc,rfl,c,s⟩;have HE:Hid (_/\_):=QM c s;clear c s)
  |(refine cP rfl 44 #[Qe 44,Qe 46] #[107,3] rfl #[Qa #[I K n,O j[i].2,C x.q.vs,U x.q.p,U x.q.d,U x.q.af,I K x.size,I K 10],I K pg] (by simp[Act.eval]) (bd.o _ _) _ (λch w'=>Stop Qok (.panicked ch) w') (HP.o F X y HS.o.2.2.2.2 (X.alloc (E #[M N 0 0,U ⟨#[]⟩] 69)).drew (ay.refl.alloc _).drew) (λch w' hs=>⟨Q,Or.inr hs⟩) ?_;rintro v k ⟨D,P,sc,rfl,c,s⟩;have⟨v0,v1,o0,o1⟩:=HV.o k s;have HE:Hid (_/\_):=QM c s;clear c s))
 all_goals first
  |exact bw.o k D P sc HE.o.2 HE.o.1 _ Q
  |exact bs.o k D P sc HE.o.2 HE.o.1 _ Q
end
theorem Kh{k0}{L}(Qok:Qy->Prop)(u:∀q,Qok q->jc q/\jd q)w(h:eE A B w k0 L)(D:B<=w.heap.size)(a:eV)(j:L.opened.length<=3)(d:∀x∈L.opened,Qok x.q/\fG (bL x.f x.q.p.data.toList)<=1000/\x.q.p.size<=PR)(k:∀n pg,ee a L.told=J (n,pg)->0<=pg/\pg<2199023255552)(G:Wj->Prop)(l:∀w',G w'->dE w')(v:∀w',aX A B k0 w w'->G w')(y:∀n pg,ee a L.told=J (n,pg)->(mr n L.opened).isSome=Y->mq G n (pg+1)):
  Calls Vp 18 #[O (J ⟨k0,4,N⟩),U a] w λe w'=>
   (∃sv,e=Nm (Qb #[Qa #[sv,U (dR L a).2.2.1],I K (dR L a).2.2.2])/\bK A B k0 w (dR L a).1 (dR L a).2.1 sv w')\/Stop Qok e w':=by
 cases b:ee a L.told with
 |none=>
  have e:dR L a=(L,[],⟨#[]⟩,9):=by simp[dR,b]
  rw[e];exact(DY w h a b).m λe w' h=>Qc ⟨_,h.1,h.2⟩
 |some x=>
  obtain⟨n,pg⟩:=x;cases c:mr n L.opened with
  |none=>
   have e:dR L a=(L,[],⟨#[]⟩,10):=by simp[dR,b,c]
   rw[e];exact(DZ w h a n pg j b c).m λe w' h=>Qc ⟨_,h.1,h.2⟩
  |some i=>
   have o:i<L.opened.length:=(vx.1 c).1;have r:L.opened[i]?=J L.opened[i]:=eL o;have e:dR L a=(⟨L.opened.set i (L.opened[i].again 10),L.begun,if L.opened[i].tok pg=⟨#[]⟩then L.told else lE (L.opened[i].tok pg) (n,pg+1) L.told,L.tm⟩,L.opened[i].Mz pg,L.opened[i].tok pg,0):=by simp[dR,b,c,r]
   rw[e];have⟨z,s,t⟩:=d L.opened[i] (xc o);exact D3 Qok u w h D a n pg i L.opened[i] j b c r z s t (k n pg b) G l v (y n pg b (by simp[c]))
section
variable {A:Nat->Prop} {B k0:Nat} {L:Lg}
theorem qg(Qok:Qy->Prop)(hQ:∀q,Qok q->jc q/\jd q)w(h:eE A B w k0 L)(_hB:B<=w.heap.size)(i:dT Wu)(f:S kr->S Ver)q(c:ey)(hN:ao A 41 w i f)(hq:Qok q)(T:fG (bL f q.p.data.toList)<=1000)(hp:q.p.size<=PR)(bi:0<=L.begun/\L.begun<2199023255552)(bn:L.opened.length<=3)(G:Wj->Prop)(al:∀w',G w'->dE w')(hG:∀w',ay w w'->G w')(hT:mq G (L.begun+1) 2)(bb:(c<1\/20<c)\/(iW L f q c).tok 1=⟨#[]⟩\/3<=L.opened.length):
  Calls Vp 15 #[O (J ⟨k0,4,N⟩),sV i,qV q.vs q.p q.d q.af,I K c] w λe w'=>
   (∃sv,e=Nm (Qb #[Qa #[sv,U (fw L f q c).2.2.1],I K (fw L f q c).2.2.2])/\bK A B k0 w (fw L f q c).1 (fw L f q c).2.1 sv w')\/Stop Qok e w':=by
 have c5:=h.begun;have⟨v4,c4,zs,z1,z2,z3,z4⟩:=h.opened;obtain⟨bl,bp,rfl,-⟩:=az z2;have hlz:L.opened.length=zs.length:=by rw[z1];simp
 have ap:=h.lt;have HL:=aI h;obtain⟨u,p,d,z⟩:=q;unfold sV qV;by_cases ac:c<1\/20<c
 .have hR:fw L f ⟨u,p,d,z⟩ c=(L,[],⟨#[]⟩,7):=by rw[fw,gL ac]
  rw[hR];have bk:=fX;clear hN hq T hp bi bn hT hG al h hQ z1 z2 z3 z4 c4 c5;rcases ac with h1|h2
  .go_enter (Yq.nq func15),ntmps15;go_wp2_with fail
   refine PQ (v:=Qb #[Qa #[M N 0 0,U ⟨#[]⟩],I K 7]) (by simp[results,results15,go_sem]) Q (Qc ⟨_,Q,bK.same HL.o (((ay.refl.alloc _).alloc _).alloc _)⟩)
  .have h1:¬c<1:=by omega
   go_enter (Yq.nq func15),ntmps15;go_wp2_with fail
   refine PQ (v:=Qb #[Qa #[M N 0 0,U ⟨#[]⟩],I K 7]) (by simp[results,results15,go_sem]) Q (Qc ⟨_,Q,bK.same HL.o (((ay.refl.alloc _).alloc _).alloc _)⟩)
 .have h1:¬c<1:=by omega
  have h2:¬20<c:=by omega
  have hbl:=vW;have bk:=fX;have hwb:wrap64 (L.begun+1)=L.begun+1:=by unfold wrap64;omega
  have hk1:k0<w.heap.size+1:=by omega
  have hk2:k0<w.heap.size+1+1:=by omega
  have hk3:k0<w.heap.size+1+1+1:=by omega
  obtain⟨V,hV⟩:∃V,V=((((w.alloc (E #[O i] 33)).alloc (E #[C u,U p,U d,U z] 74)).alloc (E #[M N 0 0,U ⟨#[]⟩] 69)).alloc (E #[I K (L.begun+1),O i,C u,U p,U d,U z,I K c,I K 10] 107)).drew:=⟨_,Q⟩;have n:ay w V:=by rw[hV];exact((((ay.refl.alloc _).alloc _).alloc _).alloc _).drew
  have ab:V.heap.size=w.heap.size+4:=by rw[hV];simp
  have ai:Lf Qok ((iW L f ⟨u,p,d,z⟩ c).MU i) f V:=⟨.of (ao.Mr (A':=λ_=>True) (λb _ ap=>⟨trivial,n.block b ap⟩) 41 i f hN),hq,T,hp,al _ (hG _ n)⟩;have a8:=ym Qok hQ ((iW L f ⟨u,p,d,z⟩ c).MU i) 1 f V ai G (λw' hl=>hG w' (n.t hl)) (λ_=>hT);obtain⟨X,s⟩:∃X,X=(iW L f ⟨u,p,d,z⟩ c).tok 1:=⟨_,Q⟩;obtain⟨pg,ar⟩:∃pg,pg=(iW L f ⟨u,p,d,z⟩ c).Mz 1:=⟨_,Q⟩;have HP:Calls Vp 44 #[Qa #[I K (L.begun+1),O i,C u,U p,U d,U z,I K c,I K 10],I K 1] V λe w'=>(∃D F P,e=Nm (Qa #[M D F P,U X])/\w'.ownsRow V.heap.size 117 3 (M D F P) pg.length (aq pg)/\ay V w')\/Stop Qok e w':=by
   refine a8.m ?_;rintro e w' (⟨sv,rfl,h3,h4⟩|h)
   .left
    rw[s,ar];rw[iV (l:=(iW L f ⟨u,p,d,z⟩ c).MU i) (l':=(iW L f ⟨u,p,d,z⟩ c).MU N) Q]at h3;obtain⟨D,F,P,rfl⟩:∃D F P,sv=M D F P:=by
     rcases h3.2 with⟨rfl,-⟩|⟨g,cap,cur,rfl,-⟩
     .exact ⟨_,_,_,Q⟩
     .exact ⟨_,_,_,Q⟩
    exact⟨D,F,P,Q,h3,h4⟩
   .exact Qd h
  clear a8;have HF:Hid (∀k,ay V k->((k.cell? ⟨w.heap.size+1+1+1,0,N⟩=J (I K (L.begun+1))/\k.cell? ⟨w.heap.size+1+1+1,1,N⟩=J (O i)/\k.cell? ⟨w.heap.size+1+1+1,2,N⟩=J (C u)/\k.cell? ⟨w.heap.size+1+1+1,3,N⟩=J (U p)/\k.cell? ⟨w.heap.size+1+1+1,4,N⟩=J (U d)/\k.cell? ⟨w.heap.size+1+1+1,5,N⟩=J (U z)/\k.cell? ⟨w.heap.size+1+1+1,6,N⟩=J (I K c)/\k.cell? ⟨w.heap.size+1+1+1,7,N⟩=J (I K 10)) /\
    (k.cell? ⟨w.heap.size+1+1,0,N⟩=J (M N 0 0)/\k.cell? ⟨w.heap.size+1+1,1,N⟩=J (U ⟨#[]⟩)/\k.frozen? ⟨w.heap.size+1+1,0,N⟩=Z/\k.frozen? ⟨w.heap.size+1+1,1,N⟩=Z) /\
    (k.cell? ⟨k0,4,N⟩=J (M bl zs.length bp)/\k.cell? ⟨k0,5,N⟩=J (I K L.begun)/\k.frozen? ⟨k0,4,N⟩=Z/\k.frozen? ⟨k0,5,N⟩=Z)/\(w.heap.size+1+1<k.heap.size/\w.heap.size+1+1+1<k.heap.size/\k0<k.heap.size))):=λk hl=>by
   have r3:V.heap[w.heap.size+3]?=J (E #[I K (L.begun+1),O i,C u,U p,U d,U z,I K c,I K 10] 107):=by
    rw[hV];simp only[uc,tn,gP,QR]
    repeat rw[gI (by omega)]
    simp
   have r2:V.heap[w.heap.size+2]?=J (E #[M N 0 0,U ⟨#[]⟩] 69):=by
    rw[hV];simp only[uc,tn,gP,QR]
    repeat rw[gI (by omega)]
    simp
   have bd:∀j,k.frozen? ⟨k0,j,N⟩=false:=λj=>(fB (a:=⟨k0,j,N⟩) ((n.t hl).block k0 ap)).t (HL.o.frozen j)
   have:=hl.size;refine⟨⟨?_,?_,?_,?_,?_,?_,?_,?_⟩,⟨?_,?_,?_,?_⟩,⟨(n.t hl).cell c4,(n.t hl).cell c5,bd 4,bd 5⟩,by omega,by omega,by omega⟩;all_goals simp[sq,sT,(hl.block _ (by omega)).t r3,((hl.block _ (by omega)).t r2)]
  have HX:=xh n hN ab;have HZ:=FG z1 z2 z3 z4;have HB:Hid (fw L f ⟨u,p,d,z⟩ c=(if X=⟨#[]⟩then(L,pg,⟨#[]⟩,0)else if 3<=L.opened.length then(L,[],⟨#[]⟩,8)else(⟨L.opened++[iW L f ⟨u,p,d,z⟩ c],L.begun+1,lE X (L.begun+1,2) L.told,L.tm⟩,pg,X,0))):=by
   show fw L f ⟨u,p,d,z⟩ c=_;rw[fw,gI ac,s,ar]
  generalize fw L f ⟨u,p,d,z⟩ c=R at *;have HV:=aI hV;have be:=aI s;clear hV n ab ai s ar hN z1 z2 z3 z4 hG al hT hq T hp h hQ;by_cases s:X=⟨#[]⟩
  .subst s;have hR:R=(L,pg,⟨#[]⟩,0):=by rw[HB.o,gL Q]
   subst hR;go_enter (Yq.nq func15),ntmps15;go_wp2_with fail
   go_region
   rw[<-HV.o];obtain⟨⟨a0,a1,a2,a3,a4,a5,a6,a7⟩,-⟩:=HF.o V ay.refl;go_wp2_with (go_at_call 44;refine HP.m ?_;clear HP;rintro e k (⟨D,F,P,rfl,ad,aa⟩|⟨x,y,r,rfl,av⟩);rotate_left;exact⟨Q,Or.inr ⟨x,y,r,Q,av⟩⟩;have⟨⟨q0,q1,q2,q3,q4,q5,q6,q7⟩,⟨s0,s1,z0,z1⟩,⟨m4,m5,n4,n5⟩,y2,y3,yk⟩:=HF.o k aa)
   obtain⟨n,-,ab⟩:=HX.o;have bo:∀b,b≠w.heap.size+1+1->b<k.heap.size->(((k.setCell ⟨w.heap.size+1+1,0,N⟩ (M D F P)).setCell ⟨w.heap.size+1+1,1,N⟩ (U ⟨#[]⟩)).alloc (E #[M D F P,U ⟨#[]⟩] 69)).heap[b]?=k.heap[b]?:=λb h1 h2=>by
    rw[bA _ _ _ (by simpa using h2),bS _ _ _ _ h1,bS _ _ _ _ h1]
   have aj:ay w (((k.setCell ⟨w.heap.size+1+1,0,N⟩ (M D F P)).setCell ⟨w.heap.size+1+1,1,N⟩ (U ⟨#[]⟩)).alloc (E #[M D F P,U ⟨#[]⟩] 69)):=(((n.t aa).set (by omega) _ _).set (by omega) _ _).alloc _;refine PQ (v:=Qb #[Qa #[M D F P,U ⟨#[]⟩],I K 0]) (by simp[results,results15,go_sem,s0,s1,y2]) Q (Qc ⟨_,Q,bK.Mz HL.o aj ad (by omega) λg h1 h2=>bo g (by omega) h2⟩)
  .have a9:¬X.toList=[]:=λhx=>by
    have:(X==(⟨#[]⟩:eV))=true:=by rw[PS];simpa using hx
    exact s ((QS _ _).1 this)
   have hne:(X.toList == [])=false:=by simpa using a9
   by_cases h3:3<=L.opened.length
   .have hR:R=(L,[],⟨#[]⟩,8):=by rw[HB.o,gI s,gL h3]
    subst hR;have h3i:(3:ey)<=(zs.length:ey):=by omega
    go_enter (Yq.nq func15),ntmps15;go_wp2_with fail
    go_region
    rw[<-HV.o];obtain⟨⟨a0,a1,a2,a3,a4,a5,a6,a7⟩,-⟩:=HF.o V ay.refl;go_wp2_with (go_at_call 44;refine HP.m ?_;clear HP;rintro e k (⟨D,F,P,rfl,ad,aa⟩|⟨x,y,r,rfl,av⟩);rotate_left;exact⟨Q,Or.inr ⟨x,y,r,Q,av⟩⟩;have⟨⟨q0,q1,q2,q3,q4,q5,q6,q7⟩,⟨s0,s1,z0,z1⟩,⟨m4,m5,n4,n5⟩,y2,y3,yk⟩:=HF.o k aa)
    obtain⟨n,-,ab⟩:=HX.o;have aj:ay w (((k.setCell ⟨w.heap.size+1+1,0,N⟩ (M N 0 0)).setCell ⟨w.heap.size+1+1,1,N⟩ (U ⟨#[]⟩)).alloc (E #[M D F P,U X] 69)):=(((n.t aa).set (by omega) _ _).set (by omega) _ _).alloc _;refine PQ (v:=Qb #[Qa #[M N 0 0,U ⟨#[]⟩],I K 8]) (by simp[results,results15,go_sem,s0,s1,y2]) Q (Qc ⟨_,Q,bK.same HL.o aj⟩)
   .rcases bb with h|h|h
    .exact g6 h ac
    .rw [<-be.o]at h;exact g6 h s
    .exact g6 h h3
theorem D5(Qok:Qy->Prop)(hQ:∀q,Qok q->jc q/\jd q)w(h:eE A B w k0 L)(hB:B<=w.heap.size)(i:dT Wu)(f:List kr->List Ver)q(c:ey)(hN:ao A 41 w i f)(hq:Qok q)(bb:fG (bL f q.p.data.toList)<=1000)(hp:q.p.size<=PR)(hbg:0<=L.begun/\L.begun<2199023255552)(hop:L.opened.length<=3)(G:Wj->Prop)(bw:∀w',G w'->dE w')(hG:∀w',ay w w'->G w')(hT:mq G (L.begun+1) 2)(bq:¬(c<1\/20<c))(bd:(iW L f q c).tok 1≠⟨#[]⟩)(h3:¬3<=L.opened.length):
    Calls Vp 15 #[O (J ⟨k0,4,N⟩),sV i,qV q.vs q.p q.d q.af,I K c] w λe w'=>
      (∃sv,e=Nm (Qb #[Qa #[sv,U (fw L f q c).2.2.1],I K (fw L f q c).2.2.2])/\bK A B k0 w (fw L f q c).1 (fw L f q c).2.1 sv w')\/Stop Qok e w':=by
  have c5:=h.begun;have⟨v4,c4,zs,z1,z2,z3,z4⟩:=h.opened;obtain⟨aa,ac,rfl,-⟩:=az z2;have hlz:L.opened.length=zs.length:=by rw[z1];simp
  have bn:=h.lt;have HL:Hid (eE A B w k0 L):=h;obtain⟨D,p,d,F⟩:=q;unfold sV qV;have h1:¬c<1:=by omega
  have h2:¬20<c:=by omega
  have hbl:=vW;have hbp:=fX;have hwb:wrap64 (L.begun+1)=L.begun+1:=by unfold wrap64;omega
  have hk1:k0<w.heap.size+1:=by omega
  have hk2:k0<w.heap.size+1+1:=by omega
  have hk3:k0<w.heap.size+1+1+1:=by omega
  obtain⟨V,hV⟩:∃V,V=((((w.alloc (E #[O i] 33)).alloc (E #[C D,U p,U d,U F] 74)).alloc (E #[M N 0 0,U ⟨#[]⟩] 69)).alloc (E #[I K (L.begun+1),O i,C D,U p,U d,U F,I K c,I K 10] 107)).drew:=⟨_,Q⟩;have ai:ay w V:=by rw[hV];exact((((ay.refl.alloc _).alloc _).alloc _).alloc _).drew
  have bp:V.heap.size=w.heap.size+4:=by rw[hV];simp
  have be:Lf Qok ((iW L f ⟨D,p,d,F⟩ c).MU i) f V:=⟨.of (ao.Mr (A':=λ_=>True) (λb _ bn=>⟨trivial,ai.block b bn⟩) 41 i f hN),hq,bb,hp,bw _ (hG _ ai)⟩;have bv:=ym Qok hQ ((iW L f ⟨D,p,d,F⟩ c).MU i) 1 f V be G (λw' hl=>hG w' (ai.t hl)) (λ_=>hT);obtain⟨tk,al⟩:∃tk,tk=(iW L f ⟨D,p,d,F⟩ c).tok 1:=⟨_,Q⟩;obtain⟨pg,bo⟩:∃pg,pg=(iW L f ⟨D,p,d,F⟩ c).Mz 1:=⟨_,Q⟩;have HP:Calls Vp 44 #[Qa #[I K (L.begun+1),O i,C D,U p,U d,U F,I K c,I K 10],I K 1] V λe w'=>(∃P T X,e=Nm (Qa #[M P T X,U tk])/\w'.ownsRow V.heap.size 117 3 (M P T X) pg.length (aq pg)/\ay V w')\/Stop Qok e w':=by
    refine bv.m ?_;rintro e w' (⟨sv,rfl,h3,h4⟩|h)
    . left
      rw[al,bo];rw[iV (l:=(iW L f ⟨D,p,d,F⟩ c).MU i) (l':=(iW L f ⟨D,p,d,F⟩ c).MU N) Q]at h3;obtain⟨P,T,X,rfl⟩:∃P T X,sv=M P T X:=by
        rcases h3.2 with⟨rfl,-⟩|⟨g,cap,cur,rfl,-⟩
        . exact⟨_,_,_,Q⟩
        . exact⟨_,_,_,Q⟩
      exact⟨P,T,X,Q,h3,h4⟩
    . exact Qd h
  clear bv;have HF:Hid (∀k,ay V k->((k.cell? ⟨w.heap.size+1+1+1,0,none⟩=some (.int .i64 (L.begun+1))/\k.cell? ⟨w.heap.size+1+1+1,1,none⟩=some (.pointer i)/\k.cell? ⟨w.heap.size+1+1+1,2,none⟩=some (.bool D)/\k.cell? ⟨w.heap.size+1+1+1,3,none⟩=some (.string p)/\k.cell? ⟨w.heap.size+1+1+1,4,none⟩=some (.string d)/\k.cell? ⟨w.heap.size+1+1+1,5,none⟩=some (.string F)/\k.cell? ⟨w.heap.size+1+1+1,6,none⟩=some (.int .i64 c)/\k.cell? ⟨w.heap.size+1+1+1,7,none⟩=some (.int .i64 10)) /\
      (k.cell? ⟨w.heap.size+1+1,0,N⟩=J (M N 0 0)/\k.cell? ⟨w.heap.size+1+1,1,N⟩=J (U ⟨#[]⟩)/\k.frozen? ⟨w.heap.size+1+1,0,N⟩=Z/\k.frozen? ⟨w.heap.size+1+1,1,N⟩=Z) /\
      (k.cell? ⟨k0,4,N⟩=J (M aa zs.length ac)/\k.cell? ⟨k0,5,N⟩=J (I K L.begun)/\k.frozen? ⟨k0,4,N⟩=Z/\k.frozen? ⟨k0,5,N⟩=Z)/\(w.heap.size+1+1<k.heap.size/\w.heap.size+1+1+1<k.heap.size/\k0<k.heap.size))):=λk hl=>by
    have r3:V.heap[w.heap.size+3]?=J (E #[I K (L.begun+1),O i,C D,U p,U d,U F,I K c,I K 10] 107):=by
      rw[hV];simp only[uc,tn,gP,QR]
      repeat rw[gI (by omega)]
      simp
    have r2:V.heap[w.heap.size+2]?=J (E #[M N 0 0,U ⟨#[]⟩] 69):=by
      rw[hV];simp only[uc,tn,gP,QR]
      repeat rw[gI (by omega)]
      simp
    have e3:=(hl.block _ (by omega)).t r3;have e2:=(hl.block _ (by omega)).t r2;have b8:∀j,k.frozen? ⟨k0,j,N⟩=false:=λj=>(fB (a:=⟨k0,j,N⟩) ((ai.t hl).block k0 bn)).t (HL.o.frozen j)
    have:=hl.size;refine⟨⟨?_,?_,?_,?_,?_,?_,?_,?_⟩,⟨?_,?_,?_,?_⟩,⟨(ai.t hl).cell c4,(ai.t hl).cell c5,b8 4,b8 5⟩,by omega,by omega,by omega⟩;all_goals simp[sq,sT,e3,e2]
  have HX:Hid (ay w V/\ao A 41 w i f/\V.heap.size=w.heap.size+4):=⟨ai,hN,bp⟩;have HZ:Hid (L.opened=zs.map (·.1)/\w.ownsRow B 107 8 (M aa zs.length ac) zs.length (bW zs)/\(∀g,(Qi aa zs.length ac).ownBlock=J g->¬A g)/\∀z∈zs,ao A 41 w z.2 z.1.f):=⟨z1,z2,z3,z4⟩;have HB:Hid (fw L f ⟨D,p,d,F⟩ c=(if tk=⟨#[]⟩then(L,pg,⟨#[]⟩,0)else if 3<=L.opened.length then(L,[],⟨#[]⟩,8)else(⟨L.opened++[iW L f ⟨D,p,d,F⟩ c],L.begun+1,lE tk (L.begun+1,2) L.told,L.tm⟩,pg,tk,0))):=by
    show fw L f ⟨D,p,d,F⟩ c=_;rw[fw,gI bq,<-al,<-bo]
  generalize fw L f ⟨D,p,d,F⟩ c=R at *;have HV:Hid (V=((((w.alloc (E #[O i] 33)).alloc (E #[C D,U p,U d,U F] 74)).alloc (E #[M N 0 0,U ⟨#[]⟩] 69)).alloc (E #[I K (L.begun+1),O i,C D,U p,U d,U F,I K c,I K 10] 107)).drew):=hV;rw[<-al]at bd;replace al:=bd;clear hV ai bp be bo hN z1 z2 z3 z4 hG bw hT hq bb hp h hQ;have bx:¬tk.toList=[]:=λhx=>by
    have:(tk==(⟨#[]⟩:eV))=true:=by rw[PS];simpa using hx
    exact al ((QS _ _).1 this)
  have hne:(tk.toList == [])=false:=by simpa using bx
  have hR:R=(⟨L.opened++[iW L f ⟨D,p,d,F⟩ c],L.begun+1,lE tk (L.begun+1,2) L.told,L.tm⟩,pg,tk,0):=by rw[HB.o,gI al,gI h3]
  subst hR;have h3i:¬(3:ey)<=(zs.length:ey):=by omega
  have⟨i0,cc,cd,cj,cb⟩:=PZ Yq.OP;have hbq:=pY;obtain⟨cL,hcL⟩:∃cL:eW Wx,cL=#[I K (L.begun+1),O i,C D,U p,U d,U F,I K c,I K 10]:=⟨_,Q⟩;have bt:Hid (∀k,ay V k->∀o o':Obj,((k.alloc o).alloc o').drew.ownsRow B 107 8 (M aa zs.length ac) zs.length (bW zs)/\B<=((k.alloc o).alloc o').drew.heap.size):=λk hl o o'=>by
    have h5:ay w ((k.alloc o).alloc o').drew:=(((HX.o.1.t hl).alloc o).alloc o').drew;exact⟨bH HZ.o.2.1 λg _ hg=>h5.block g hg,lT hB h5.size⟩
  have ca:Hid (∀ (k:Wj) (o:Obj),∀j u,[Ql K (L.begun+1),O i,C D,U p,U d,U F,I K c,I K 10][j]?=J u->((k.alloc o).alloc (E #[I K (L.begun+1),O i,C D,U p,U d,U F,I K c,I K 10] 107)).drew.cell? ((⟨k.heap.size+1,0,N⟩:Wu).add j)=J u):=λk o j u hj=>by
    have:=LU (k.alloc o) _ 107 j u hj
    rwa [tb]at this
  have ck:Hid (∀k,ay V k->∀P T X n,((k.alloc (.cells #[.slice P T X,.string tk] 69)).alloc (.cells #[.int .i64 (L.begun+1),.pointer i,.bool D,.string p,.string d,.string F,.int .i64 c,.int .i64 10] 107)).drew.grownBy n (Qi aa zs.length ac).ownBlock ->
      ((n.cell? ⟨k0,4,N⟩=J (M aa zs.length ac)/\n.cell? ⟨k0,5,N⟩=J (I K L.begun)/\n.frozen? ⟨k0,4,N⟩=Z/\n.frozen? ⟨k0,5,N⟩=Z) /\
       (n.cell? ⟨k.heap.size,0,N⟩=J (M P T X)/\n.cell? ⟨k.heap.size,1,N⟩=J (U tk)/\n.cell? ⟨w.heap.size+1+1+1,0,N⟩=J (I K (L.begun+1))) /\
       (n.cell? ⟨w.heap.size+1+1,0,N⟩=J (M N 0 0)/\n.cell? ⟨w.heap.size+1+1,1,N⟩=J (U ⟨#[]⟩)/\n.frozen? ⟨w.heap.size+1+1,0,N⟩=Z/\n.frozen? ⟨w.heap.size+1+1,1,N⟩=Z) /\
       w.heap.size+1+1<n.heap.size/\w.heap.size+1+1+1<n.heap.size/\k.heap.size<n.heap.size/\k0<n.heap.size)):=λk ad P T X n ab=>by
    have⟨⟨q0,q1,q2,q3,q4,q5,q6,q7⟩,⟨s0,s1,z0,z1⟩,⟨m4,m5,n4,n5⟩,y2,y3,yk⟩:=HF.o k ad;have bl:ay k ((k.alloc (E #[M P T X,U tk] 69)).alloc (E #[I K (L.begun+1),O i,C D,U p,U d,U F,I K c,I K 10] 107)).drew:=((ay.refl.alloc _).alloc _).drew;have bq:((k.alloc (E #[M P T X,U tk] 69)).alloc (E #[I K (L.begun+1),O i,C D,U p,U d,U F,I K c,I K 10] 107)).drew.heap.size=k.heap.size+2:=by simp
    have aj:∀b,w.heap.size<=b->J b≠(Qi aa zs.length ac).ownBlock:=λb hb e=>by have:=(HZ.o.2.1.lt b e.s).2;omega
    have b9:J k0≠(Qi aa zs.length ac).ownBlock:=λe=>by have:=(HZ.o.2.1.lt k0 e.s).1;have:=HL.o.low;omega
    have bk:n.heap[k0]?=k.heap[k0]?:=(ab.block k0 (by omega) b9).t (bl.block k0 yk);have b2:n.heap[w.heap.size+1+1]?=k.heap[w.heap.size+1+1]?:=(ab.block _ (by omega) (aj _ (by omega))).t (bl.block _ y2);have b3:n.heap[w.heap.size+1+1+1]?=k.heap[w.heap.size+1+1+1]?:=(ab.block _ (by omega) (aj _ (by omega))).t (bl.block _ y3);have b1:n.heap[k.heap.size]?=J (E #[M P T X,U tk] 69):=by
      rw[ab.block _ (by omega) (aj _ (by omega))];show((k.alloc (E #[M P T X,U tk] 69)).alloc _).heap[k.heap.size]?=_;rw[bA _ _ _ (by simp)];exact aN _ _
    have:=ab.size;have a8:∀ {b:H},n.heap[b]?=k.heap[b]?->∀j,n.cell? ⟨b,j,N⟩=k.cell? ⟨b,j,N⟩:=λh j=>cB (a:=⟨_,j,N⟩) h
    have a9:∀ {b:H},n.heap[b]?=k.heap[b]?->∀j,n.frozen? ⟨b,j,N⟩=k.frozen? ⟨b,j,N⟩:=λh j=>fB (a:=⟨_,j,N⟩) h
    refine⟨⟨(a8 bk 4).t m4,(a8 bk 5).t m5,(a9 bk 4).t n4,(a9 bk 5).t n5⟩,⟨by simp[sq,b1],by simp[sq,b1],(a8 b3 0).t q0⟩,⟨(a8 b2 0).t s0,(a8 b2 1).t s1,(a9 b2 0).t z0,(a9 b2 1).t z1⟩,by omega,by omega,by omega,by omega⟩
  have b7:Hid (∀k,ay V k->∀P T X,k.ownsRow V.heap.size 117 3 (.slice P T X) pg.length (aq pg)->∀n v',n.ownsRow B 107 8 v' (zs.length+1) (bW zs++[.int .i64 (L.begun+1),.pointer i,.bool D,.string p,.string d,.string F,.int .i64 c,.int .i64 10])->((k.alloc (.cells #[.slice P T X,.string tk] 69)).alloc (.cells #[.int .i64 (L.begun+1),.pointer i,.bool D,.string p,.string d,.string F,.int .i64 c,.int .i64 10] 107)).drew.grownBy n (Qi aa zs.length ac).ownBlock ->
      (∀g,v'.ownBlock=J g->(Qi aa zs.length ac).ownBlock=J g\/((k.alloc (E #[M P T X,U tk] 69)).alloc (E #[I K (L.begun+1),O i,C D,U p,U d,U F,I K c,I K 10] 107)).drew.heap.size<=g)->k.cell? ⟨w.heap.size+1+1,0,N⟩=J (M N 0 0) ->
      Calls Vp 45 #[O (J ⟨k0,4,N⟩),U tk,Qa #[I K (L.begun+1),I K 2]] ((n.setCell ⟨k0,4,N⟩ v').setCell ⟨k0,5,N⟩ (I K (L.begun+1))) λe w6=>e=Nm (Qb #[])/\ed k0 ((n.setCell ⟨k0,4,N⟩ v').setCell ⟨k0,5,N⟩ (I K (L.begun+1))) w6 /\
        ∀y0 y1,bK A B k0 w ⟨L.opened++[iW L f ⟨D,p,d,F⟩ c],L.begun+1,lE tk (L.begun+1,2) L.told,L.tm⟩ pg (M P T X) ((w6.setCell ⟨w.heap.size+1+1,0,N⟩ y0).setCell ⟨w.heap.size+1+1,1,N⟩ y1)):=
    λk ad P T X ar n v' av ab aj b6=>Ka HL.o hB HX.o.1 HX.o.2.2 ad ar c4 HZ.o.1 HZ.o.2.1 HZ.o.2.2.1 HZ.o.2.2.2 (x:=iW L f ⟨D,p,d,F⟩ c) HX.o.2.1 _ _ av ab aj (L.begun+1) tk (L.begun+1,2) b6
  go_enter (Yq.nq func15),ntmps15;go_wp2_with fail
  go_region
  rw[<-HV.o];obtain⟨⟨a0,a1,a2,a3,a4,a5,a6,a7⟩,-⟩:=HF.o V ay.refl;go_wp2_with (go_at_call 44;refine HP.m ?_;clear HP;rintro e k (⟨P,T,X,rfl,ar,ad⟩|⟨x,y,r,rfl,ch⟩);rotate_left;exact⟨Q,Or.inr ⟨x,y,r,Q,ch⟩⟩;have⟨⟨q0,q1,q2,q3,q4,q5,q6,q7⟩,⟨s0,s1,z0,z1⟩,⟨m4,m5,n4,n5⟩,y2,y3,yk⟩:=HF.o k ad)
  have yk1:k0<k.heap.size+1:=by omega
  have y31:w.heap.size+1+1+1<k.heap.size+1:=by omega
  go_region_law (refine dw Q (Qe 47) (Qe 49) 37 Q B 107 i0 _ 8 88 (Yq.u underlying37) cc cd cj cb Q (by decide) (M aa zs.length ac) zs.length (bW zs) (by simp[Act.eval]) (bt.o k ad _ _).1 ⟨k.heap.size+1,0,N⟩ 1 1 [I K (L.begun+1),O i,C D,U p,U d,U F,I K c,I K 10] (by simp[Act.eval]) Q (ca.o _ _) (one8 ((iW L f ⟨D,p,d,F⟩ c).MU i)) (by simp only[PR];omega) (by omega) (bt.o k ad _ _).2 ?_;intro v' n av ab aj;obtain⟨va',vc',rfl,-⟩:=az av;have⟨⟨b4,b5,g4,g5⟩,⟨b0,b1,b2⟩,⟨t0,t1,u0,u1⟩,x2,x3,x4,xk⟩:=ck.o k ad P T X n ab;have bi:Hid (_/\_/\_):=QM av (QM ab aj);clear av ab aj)
  all_goals
    have HK:=(b7.o k ad P T X ar n _ bi.o.1 bi.o.2.1 bi.o.2.2 s0);clear b7;go_wp2_with (go_at_call 45;refine HK.m ?_;clear HK;rintro e w6 ⟨rfl,ap,bs⟩;have p0:=ap.cell (gu b0 (by omega)) (by omega);have p1:=ap.cell (gu b1 (by omega)) (by omega);have r0:=ap.cell (gu t0 (by omega)) (by omega);have r1:=ap.cell (gu t1 (by omega)) (by omega);have e0:w6.frozen? ⟨w.heap.size+1+1,0,N⟩=false:=(by rw[ap.frozen (gu t0 (by omega)) (by omega),pt,pt];exact u0);have e1:w6.frozen? ⟨w.heap.size+1+1,1,N⟩=false:=(by rw[ap.frozen (gu t1 (by omega)) (by omega),pt,pt];exact u1))
    exact PQ (v:=Qb #[Qa #[M P T X,U tk],I K 0]) (by simp[results,results15,go_sem,r0,r1]) Q (Qc ⟨_,Q,bs _ _⟩)
end
theorem zY{k0}{L}(Qok:Qy->Prop)(m:∀q,Qok q->jc q/\jd q)w(h:eE A B w k0 L)(s:B<=w.heap.size)(b:dT Wu)(f:S kr->S Ver)q(a:ey)(t:ao A 41 w b f)(o:Qok q)(c:fG (bL f q.p.data.toList)<=1000)(l:q.p.size<=PR)(i:0<=L.begun/\L.begun<2199023255552)(j:L.opened.length<=3)(G:Wj->Prop)(k:∀w',G w'->dE w')(n:∀w',ay w w'->G w')(r:mq G (L.begun+1) 2):
  Calls Vp 15 #[O (J ⟨k0,4,N⟩),sV b,qV q.vs q.p q.d q.af,I K a] w λe w'=>
   (∃sv,e=Nm (Qb #[Qa #[sv,U (fw L f q a).2.2.1],I K (fw L f q a).2.2.2])/\bK A B k0 w (fw L f q a).1 (fw L f q a).2.1 sv w')\/Stop Qok e w':=by
 by_cases x:a<1\/20<a
 exact qg Qok m w h s b f q a t o c l i j G k n r (Qc x);by_cases u:(iW L f q a).tok 1=⟨#[]⟩
 exact qg Qok m w h s b f q a t o c l i j G k n r (Qd (Qc u));by_cases v:3<=L.opened.length
 exact qg Qok m w h s b f q a t o c l i j G k n r (Qd (Qd v));exact D5 Qok m w h s b f q a t o c l i j G k n r x u v
structure mu where
 code:ey
 MG:ey
 body:eV
 items:S ItD
 tok:eV
def j6(a:mu)(sv:Wx):Wx:=Qa #[I K a.code,I K a.MG,U a.body,sv,U a.tok]
def bQ(A:H->Prop)(B k0:H)(w:Wj)(c:St)(L':Lg)(a:mu)(e:Ending)(w':Wj):Prop:=
 ∃sv,e=Nm (j6 a sv)/\∃A':H->Prop,(∀b,A b->A' b)/\(∀b,A' b->A b\/w.heap.size<=b)/\aW A' B w' k0 c L'/\fi A B k0 w w'/\cw A' w' sv a.items.length (aq a.items)
section
variable {A A':Nat->Prop} {B k0:Nat} {w w' w'':Wj} {st:St} {L L':Lg}
theorem fi.left(a:k0<w.heap.size)(h:ay w w'):fi A B k0 w w':=(aX.left a h).ND
theorem aW.left(h:aW A B w k0 st L)(a:ay w w'):aW A B w' k0 st L:=h.step (aX.left h.ls.lt a) (λ_ h=>h) (h.ls.left a) Q
theorem aW.other{b}(h:aW A B w k0 st L)(c:b≠k0)(d:¬A b)(a:dl w b)(i:¬lp k0 w b)(k:B<=b):aW A B (w.setCell ⟨b,j,N⟩ x) k0 st L:=
 h.step (aX.other c d k) (λ_ h=>h) (h.ls.other c d a (λv _g e l f=>i ⟨v,e,f▸l⟩)) Q
theorem ni{l}{r}{sv}{Mt}(X:ay w W0)(hk:k0<w.heap.size)(hBw:B<=w.heap.size)(hr:w.heap.size<=r)(hrl:r<W0.heap.size)(u:dl W0 r)(_hA1:∀b,A b->A' b)(p:∀b,A' b->A b\/W0.heap.size<=b)(q:∀b,A b->b<w.heap.size)(T:aW A' B l k0 st L')(R:fi A B k0 W0 l)(V:FrC k0 W0 l)(ho:∀g,lp k0 W0 g->g<w.heap.size)(z:cw A' l sv Mt.length (aq Mt))D P L G F:
  (∀b,A' b->A b\/w.heap.size<=b)/\aW A' B (put5 l r D P L G F) k0 st L'/\fi A B k0 w (put5 l r D P L G F)/\cw A' (put5 l r D P L G F) sv Mt.length (aq Mt):=by
 have hlow:=T.ls.low;have d:r≠k0:=by omega
 have k:¬A' r:=λh=>by
  rcases p r h with h|h
  .have:=q r h;omega
  .omega
 have o:¬lp k0 W0 r:=λh=>by have:=ho r h;omega
 have e1:l.heap[r]?=W0.heap[r]?:=V.Mr r u d o;have n:dl l r:=u.same e1;have f:¬lp k0 l r:=λh=>by
  rcases V.own r h with h|h
  .exact o h
  .omega
 have c:∀ (W:Wj) (j:H) (x:Wx),¬lp k0 W r->¬lp k0 (W.setCell ⟨r,j,N⟩ x) r:=λW j x h=>by
  rintro⟨v,h1,h2⟩;exact h ⟨v,(cB (a:=⟨k0,4,N⟩) (bS _ _ _ _ (λe=>d e.s))).s.t h1,h2⟩
 have i:∀b,b≠r->(put5 l r D P L G F).heap[b]?=l.heap[b]?:=λb m=>by
  unfold put5;rw[bS _ _ _ _ m,bS _ _ _ _ m,bS _ _ _ _ m,bS _ _ _ _ m,bS _ _ _ _ m]
 refine⟨λb m=>(p b m).imp id λh=>by have:=X.size;omega,?_,(fi.left hk X).t (R.t ?_),cw.Mr z λb m _=>⟨m,i b (λe=>k (e▸m))⟩⟩
 .unfold put5;exact((((T.other d k n f (by omega)).other d k n.set (c _ _ _ f) (by omega)).other d k n.set.set (c _ _ _ (c _ _ _ f)) (by omega)).other d k n.set.set.set (c _ _ _ (c _ _ _ (c _ _ _ f))) (by omega)).other d k n.set.set.set.set (c _ _ _ (c _ _ _ (c _ _ _ (c _ _ _ f)))) (by omega)
 .have y:=i k0 (λe=>d e.s);exact⟨Q,by simp[put5],λb h1 _ _=>i b (by omega),λb m _=>i b (λe=>by have:=q b m;omega),λj _=>cB (a:=⟨k0,j,N⟩) y,λj=>fB (a:=⟨k0,j,N⟩) y⟩
end
end
