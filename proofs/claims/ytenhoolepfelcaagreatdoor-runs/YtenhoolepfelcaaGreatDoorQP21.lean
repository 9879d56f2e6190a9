/- A part. -/
import Derived.Test.YtenhoolepfelcaaGreatDoorQP20
set_option maxHeartbeats 4000000
set_option maxRecDepth 100000
open _root_ renaming Int->dT,if_neg->ey,congrArg->eV,if_pos->eW,absurd->gI
open List renaming map_map->gL,filter_map->g6,mem_of_getElem?->jp,mem_singleton->kr,pairwise_iff_getElem->lj,filter_congr->lk,ext_getElem->nF,getElem_mem->n8,mem_append->pt,mem_map->sq,map_set->sT,map->ta
open Go renaming World->Wj,Value->Wx
namespace Go.Proofs.Qw
open _root_ renaming rfl->Q
open _root_ renaming Nat->H,List->S
open Option renaming none->N,some->J
open Bool renaming true->Y,false->Z
open Value renaming int->I,string->U,slice->M,pointer->O,bool->C,agg->Qa
open IntKind renaming i64->K
open Obj renaming cells->E
open Ending renaming returned->Nm
open Or renaming inl->Qc,inr->Qd
variable {a d:dT}{P:S PlL}{L:Lg}{T:S PlT}{B k s:H}{vL vT:Wx}{R:S bg}{st:St}{Zq:S SvE->Prop}
open Tryz
section
open Go.Conc Go.ConcX Go.ConcX.Gen Go.RowKit
theorem mD{z:PlL×H}:z∈opens a P↔P[z.2]?=J z.1/\z.1.Mw a=true:=by
 unfold opens
 grind
theorem yV(hu:0<=d)P:opens (a+d) P=(opens a P).filter λz=>z.1.Mw (a+d):=by
 unfold opens;rw[List.filter_filter];unfold PlL.Mw
 grind
theorem eY.tick(h:eY L P T a s)(u:dT)(i:0<=u/\u<=1000)(hs:s<2199023255340):eY (mt {L with tm:=IntKind.u64.wrap (L.tm+u)} u) P T (a+u) (s+1):=by
 have j:=h.time;have hf:=h.OI;refine⟨⟨?_,by omega,by omega⟩,h.begun,by omega,?_,λl e=>by have:=h.lists l e;omega,h.Mq,h.told,h.here⟩
 .show IntKind.u64.wrap (L.tm+u)=a+u;rw[j.1,oH (by omega) (by omega)]
 .show ((L.opened.map λx=>x.again (x.left-u)).filter λx=>!decide (x.left<=0)).map LsA.key=_;have c:(L.opened.map λx=>x.again (x.left-u)).filter (λx=>!decide (x.left<=0))=(L.opened.filter λx=>!decide (x.left-u<=0)).map λx=>x.again (x.left-u):=by
   rw[g6];rfl
  let f:dT×dT×S ItD×dT->dT×dT×S ItD×dT:=λx=>(x.1,x.2.1-u,x.2.2)
  let p:dT×dT×S ItD×dT->Bool:=λx=>!decide (x.2.1-u<=0)
  have k:((L.opened.filter λx=>!decide (x.left-u<=0)).map λx=>x.again (x.left-u)).map LsA.key=((L.opened.map LsA.key).filter p).map f:=by
   rw[g6,gL,gL];rfl
  rw[c,k,h.opened,yV i.1,g6,gL];have d:(opens a P).filter (p∘BY a)=(opens a P).filter λz=>z.1.Mw (a+u):=by
   refine lk λz m=>?_
   have b:=(mD.1 m).2;show(!decide (z.1.fin-a-u<=0))=z.1.Mw (a+u);unfold PlL.Mw at b ⊢
   grind
  rw[d];refine List.map_congr_left λz _=>?_
  show((z.2:dT)+1,z.1.fin-a-u,z.1.Mt,(z.1.Mz:dT))=((z.2:dT)+1,z.1.fin-(a+u),z.1.Mt,(z.1.Mz:dT))
  grind
theorem eY.Pg(h:eY L P T a s):L.opened.map iz=(opens a P).map λz=>⟨0,⟨#[]⟩,z.1.fin-a⟩:=by
 have e:=eV (ta λx:dT×dT×S ItD×dT=>(⟨0,⟨#[]⟩,x.2.1⟩:ItD)) h.opened;rw[gL,gL]at e;exact e
theorem eY.MJ(h:eY L P T a s):L.opened.map (·.num)=(opens a P).map λz=>(z.2:dT)+1:=by
 have e:=eV (ta λx:dT×dT×S ItD×dT=>x.1) h.opened;rw[gL,gL]at e;exact e
theorem Ci(c:dT)P:(opens c P).Pairwise λa b=>a.2<b.2:=by
 refine List.Pairwise.filter _ ?_;rw[lj]
 grind
theorem eY.at(h:eY L P T a s){x}(hx:L.opened[B]?=J x):∃k l,(opens a P)[B]?=J (l,k)/\P[k]?=J l/\l.Mw a=Y/\x.num=(k:dT)+1/\x.left=l.fin-a/\x.all=l.Mt/\x.size=(l.Mz:dT):=by
 have e:(L.opened.map LsA.key)[B]?=J x.key:=by grind
 rw[h.opened,List.getElem?_map]at e;have⟨⟨l,k⟩,c,b⟩:=Option.map_eq_some_iff.1 e;have hm:=mD.1 (jp c);simp[BY,LsA.key]at b
 grind
theorem eY.shut{L:Lg}{P:S PlL}{T:S PlT}{a:dT}{s:H}(h:eY L P T a s){k:H}{l:PlL}(c:P[k]?=J l)(j:mr ((k:dT)+1) L.opened=.none):l.Mw a=false:=by
 cases d:l.Mw a with
 |false=>rfl
 |true=>
  have b:(l,k)∈opens a P:=mD.2 ⟨c,d⟩;have f:((k:dT)+1)∈L.opened.map (·.num):=by rw[h.MJ];exact sq.2 ⟨_,b,Q⟩
  have⟨x,i,e⟩:=sq.1 f;have:=List.findIdx?_eq_none_iff.1 j x i
  grind
theorem Fb{l}(q:(opens a P)[B]?=J (l,k))(x:dT)(v:a<x):opens a (ME P k x)=(opens a P).set B ({l with fin:=x},k):=by
 have⟨c,b⟩:=sL q;have m:=mD.1 (jp q);have⟨n,hke⟩:=sL m.1;have t:l.gone=false:=by
  have:=m.2;unfold PlL.Mw at this
  grind
 have r:(ME P k x).zipIdx=P.zipIdx.map λz=>if z.2=k then({l with fin:=x},k)else z:=by
  rw[jP n];refine nF (by simp) λj d s=>?_
  grind
 have u:opens a (ME P k x)=(opens a P).map λz=>if z.2=k then({l with fin:=x},k)else z:=by
  unfold opens;rw[r,g6];congr 1;refine lk λz hz=>?_
  simp;by_cases h:z.2=k
  .have f:z.1=l:=by
    grind
   rw[eW h,f,m.2];unfold PlL.Mw;simp[t,v]
  .grind
 rw[u];refine nF (by simp) λj d s=>?_
 simp[List.getElem_set];rw[lM]at d;by_cases h:B=j
 .grind
 .rw [ey h,ey λe=>?_];have p:=lj.1 (Ci a P);rcases Nat.lt_or_gt_of_ne h with o|o
  .have:=p B j c d o;rw[b,e]at this;exact gI this (Nat.lt_irrefl _)
  .have:=p j B d c o;rw[b,e]at this;exact gI this (Nat.lt_irrefl _)
theorem eY.next(h:eY L P T d s){t}(ht:t∈T){l}(B:P[t.ls]?=J l):
  (l.Mw d=Z/\dR L t.text=(L,[],⟨#[]⟩,10))\/(l.Mw d=Y/\∃L',dR L t.text=(L',(l.Mt.take ((t.pg+1)*l.Mz)).drop (t.pg*l.Mz),if(t.pg+1)*l.Mz<l.Mt.length then eR ((t.ls+1:H):dT) ((t.pg+1+1:H):dT)else⟨#[]⟩,0) /\
   eY L' (ME P t.ls (d+10)) (if(t.pg+1)*l.Mz<l.Mt.length then T++[⟨eR ((t.ls+1:H):dT) ((t.pg+1+1:H):dT),t.ls,t.pg+1⟩]else T) d (s+1)):=by
 obtain⟨n,pg,hf⟩:∃n pg,ee t.text L.told=J (n,pg):=by
  cases e:ee t.text L.told with
  |none=>exact gI e (h.here t ht)
  |some x=>exact⟨x.1,x.2,Q⟩
 obtain⟨t',aa,e1,rfl,rfl⟩:=h.told _ _ _ hf;have et:t'.ls=t.ls/\t'.pg=t.pg:=by
  have h1:=(h.Mq t ht).1;have a:=(h.Mq t' aa).1;rw[e1,h1]at a;have:=wC a;omega
 rw[et.1,et.2]at hf;have⟨l',X,hpl⟩:=(h.Mq t ht).2;rw[B]at X;cases X;have z:=h.lists l (jp B);cases hn:mr ((t.ls:dT)+1) L.opened with
 |none=>
  refine Qc ⟨h.shut B hn,?_⟩;unfold dR
  grind
 |some i=>
  have⟨ac,hip⟩:=List.findIdx?_eq_some_iff_getElem.1 hn;obtain⟨x,hx⟩:∃x,L.opened[i]?=J x:=⟨_,eL ac⟩;have⟨k,l',o1,o2,o3,o4,o5,o6,o7⟩:=h.at hx;have ab:x.num=(t.ls:dT)+1:=by
   grind
  have hk:k=t.ls:=by omega
  subst hk;rw[B]at o2;cases o2;have R:t.pg<=1000:=by
   have:t.pg*1<=t.pg*l.Mz:=Nat.mul_le_mul_left _ z.1;omega
  have p1:=LsA.NX (x:=x) (p:=l.Mz) (i:=t.pg) o7 z.2.1 R (by rw[o6];omega);have A:=LsA.N7 (x:=x) (p:=l.Mz) (i:=t.pg) o7 z.2.1 R;rw[o6]at p1 A;rw[ab,show((t.ls:dT)+1)=((t.ls+1:H):dT)by omega,show((t.pg:dT)+2)=((t.pg+1+1:H):dT)by omega]at A;refine Qd ⟨o3,⟨L.opened.set i (x.again 10),L.begun,if x.tok ((t.pg:dT)+1)=⟨#[]⟩then L.told else lE (x.tok ((t.pg:dT)+1)) ((t.ls:dT)+1,(t.pg:dT)+1+1) L.told,L.tm⟩,?_,?_⟩
  .unfold dR
   grind
  .have u:=h.time;have hfew:=h.OI;have G:=(sL B).1;have v:=jP G (d+10);have q:(ME P t.ls (d+10)).length=P.length:=by rw[v,List.length_set]
   have o:∀ (j:H) (m:PlL),P[j]?=J m->∃r:PlL,(ME P t.ls (d+10))[j]?=J r/\r.Mz=m.Mz/\r.Mt=m.Mt:=λj m hj=>by
    grind
   have f:(L.opened.set i (x.again 10)).map LsA.key=(opens d (ME P t.ls (d+10))).map (BY d):=by
    rw[Fb o1 _ (by omega),sT,sT,h.opened];congr 1;simp only[LsA.key,BY,LsA.again];have ea:({x with left:=10}:LsA).all=x.all:=rfl
    grind
   have c:∀m∈ME P t.ls (d+10),1<=m.Mz/\m.Mz<=20/\m.Mt.length<=200/\m.fin<=1000*((s+1:H):dT)+10/\0<=m.fin:=λm hm=>by
    rw[v]at hm;rcases List.mem_or_eq_of_mem_set hm with hm|rfl
    .have:=h.lists m hm;omega
    .have:=h.lists _ (n8 G);simp only;omega
   by_cases b:(t.pg+1)*l.Mz<l.Mt.length
   .rw [eW b]at A ⊢;rw[A,ey (oN _ _)];refine⟨⟨u.1,u.2.1,by omega⟩,by rw[q];exact h.begun,by rw[q,lP];simp;omega,f,c,λy a=>?_,λk n pg e=>?_,λy a=>?_⟩
    .rcases pt.1 a with a|a
     .have ⟨V,m,q2,q3⟩:=h.Mq y a;obtain⟨r,F,r2,D⟩:=o _ _ q2;exact⟨V,r,F,by rw[r2,D];exact q3⟩
     .rw [kr.1 a];obtain⟨r,F,r2,D⟩:=o _ _ B;exact⟨Q,r,F,by rw[r2,D];exact b⟩
    .simp [fZ]at e;split at e
     .rename_i e3;cases e;exact⟨_,List.mem_append_right _ (kr.2 Q),e3.s,by simp only,by simp only;omega⟩
     .have ⟨y,V,q2⟩:=h.told k n pg e;exact⟨y,List.mem_append_left _ V,q2⟩
    .simp only[fZ];split
     .simp
     .rename_i e3;rcases pt.1 a with a|a
      .exact h.here y a
      .exact gI (by rw[kr.1 a]) e3
   .rw [ey b]at A ⊢;rw[A,eW Q];refine⟨⟨u.1,u.2.1,by omega⟩,by rw[q];exact h.begun,by rw[q];omega,f,c,λy a=>?_,h.told,h.here⟩;have⟨V,m,q2,q3⟩:=h.Mq y a;obtain⟨r,F,r2,D⟩:=o _ _ q2;exact⟨V,r,F,by rw[r2,D];exact q3⟩
end
section
open Go.RowKit
theorem aA.NP{w}{c f:dT}(a:aA B w k vT R c f)(tm':dT):aA B (w.setCell ⟨k,2,N⟩ (I K tm')) k vT R c tm':=
 ⟨a.cells.NP _,a.row.kept (bz w k 2 _) (Or.inr a.apart),λe b=>(a.MC e b).kept (bz w k 2 _) (Or.inr (a.MD e b)),a.apart,a.MD,a.MF,a.pw⟩
theorem aD.NP{w}(h:aD B w k P T vL vT)v:aD B (w.setCell ⟨k,2,N⟩ v) k P T vL vT:=
 h.Mr (cO w ⟨k,2,N⟩ ⟨k,3,N⟩ v (λe=>by have:=eV Addr.off e;simp only at this;omega)) (cO w ⟨k,2,N⟩ ⟨k,4,N⟩ v (λe=>by have:=eV Addr.off e;simp only at this;omega)) (λj=>by simp) λg _ b _ _=>bS _ _ _ _ b
theorem Cj{x}{X q:dT}w(b:aA B w k x R X q)(hP:aD B w k P T vL vT)(af:B<=k)(c:Sim st R X)(SL:eY L P T q s){a}(hz:dh B w k a (RwB x R))(hq:Zq a)(hs:s<2199023255300)o(hk:o.kind=9)u r:
  Calls Yq.prog 9 #[O (J ⟨k,0,N⟩),aJ o,gC ⟨(fx L o.n).2,0,⟨#[]⟩⟩ u r] w (cK B k st (fx L o.n).1 Zq s w):=by
 obtain⟨kind,j,f,G,i,d,l⟩:=o;simp only at hk ⊢;subst hk;have y:=hP.lt;have htm:=SL.time;have HH:Hid (aA B w k x R X q/\aD B w k P T vL vT/\B<=k/\Sim st R X/\eY L P T q s):=⟨b,hP,af,c,SL⟩;have c2:=b.cells.c2;have aj:=b.cells.fz 2;have v:Hid (dh B w k a (RwB x R)/\Zq a):=⟨hz,hq⟩;clear b hP c SL hz hq;unfold aJ;by_cases V:d<0\/1000<d
 .have e:fx L d=(L,11):=by rw[fx,eW V]
  rw[e];have HC:Hid (∀F,Below ((w.alloc (E #[I K 9,U j,U f,U G,U i,I K d,I K l] 30)).alloc (E #[I K 11,I K 0,U ⟨#[]⟩,M u 0 r,U ⟨#[]⟩] 46)).drew.heap.size ((w.alloc (E #[I K 9,U j,U f,U G,U i,I K d,I K l] 30)).alloc (E #[I K 11,I K 0,U ⟨#[]⟩,M u 0 r,U ⟨#[]⟩] 46)).drew F->cz F (w.heap.size+1) (I K 11) (I K 0) (U ⟨#[]⟩) (M u 0 r) (U ⟨#[]⟩)/\Below w.heap.size w F):=λF b2=>by
   have h5:=kn (w.alloc (E #[I K 9,U j,U f,U G,U i,I K d,I K l] 30)) (I K 11) (I K 0) (U ⟨#[]⟩) (M u 0 r) (U ⟨#[]⟩) 46;rw[show(w.alloc (E #[I K 9,U j,U f,U G,U i,I K d,I K l] 30)).heap.size=w.heap.size+1 by simp]at h5;have hb:Below w.heap.size w ((w.alloc (E #[I K 9,U j,U f,U G,U i,I K d,I K l] 30)).alloc (E #[I K 11,I K 0,U ⟨#[]⟩,M u 0 r,U ⟨#[]⟩] 46)).drew:=(((bR _ w).alloc (lR _) _).alloc (by simp) _).drew;exact⟨(h5.on ((bR _ _).drew)).on b2,hb.t (b2.m hb.size)⟩
  have HS:=em ⟨11,0,⟨#[]⟩⟩ u r;have HN:=fk 11;unfold aG gC at HS;unfold aG at HN;unfold gC;rcases V with V|V;all_goals
   first|have hu':¬d<0:=by omega|skip
   go_enter (Yq.nq func9),ntmps9
   go_upto_region 15 with fail
   go_region_with (first
    |(go_at_call 30;refine(HN _).m ?_;rintro e F ⟨rfl,b2⟩;have⟨⟨d0,d1,d2,d3,d4⟩,aa⟩:=HC.o F b2;have ac:Hid (Below w.heap.size w F):=aa;clear b2 aa)
    |(go_at_call 26;refine(HS _).m ?_;rintro e w3 ⟨rfl,b3⟩))
   all_goals
    go_wp2_with fail
    go_ret;have A:=ac.o.t (b3.m ac.o.size);exact cK.mk v.o.1 v.o.2 (HH.o.1.below A) (HH.o.2.1.below A) HH.o.2.2.2.1 (HH.o.2.2.2.2.m (by omega)) (PFr.below y A) (λ_ _ h=>h)
 .have e:fx L d=(mt {L with tm:=IntKind.u64.wrap (L.tm+d)} d,0):=by rw[fx,ey V]
  rw[e];have ad:Hid (eY (mt {L with tm:=IntKind.u64.wrap (L.tm+d)} d) P T (q+d) (s+1)):=HH.o.2.2.2.2.tick d (by omega) (by omega);have hu1:¬d<0:=by omega
  have hu2:¬(1000:dT)<d:=by omega
  clear V e;have HS:=em ⟨0,0,⟨#[]⟩⟩ u r;unfold aG gC at HS;unfold gC;simp only at HS ⊢;generalize mt {L with tm:=IntKind.u64.wrap (L.tm+d)} d=L' at *;go_enter (Yq.nq func9),ntmps9
  go_upto_region 16 with fail
  have⟨W,hW,D⟩:=jQ w 9 j f G i d l (I K 0) (I K 0) (U ⟨#[]⟩) (M u 0 r) (U ⟨#[]⟩);rw[hW];have HW:Hid _:=D;have n5:W.cell? ⟨w.heap.size,5,N⟩=J (I K d):=D.2.1 5;clear hW D;have ai:=ag HW.o.1 c2;have ab:W.frozen? ⟨k,2,N⟩=false:=(HW.o.1.frozen (p:=⟨k,2,N⟩) y).t aj
  go_cut [56] (λ_ wx=>aA B wx k x R X (q+d)/\aD B wx k P T vL vT/\PFr B k (RwB x R) w wx/\cz wx (w.heap.size+1) (I K 0) (I K 0) (U ⟨#[]⟩) (M u 0 r) (U ⟨#[]⟩))
  case first=>
   go_region
   all_goals
    go_wp2_with fail
    go_meet
    case rel=>
     have hd:Below (W.setCell ⟨k,2,N⟩ (I K (q+d))).heap.size (W.setCell ⟨k,2,N⟩ (I K (q+d))) (W.setCell ⟨k,2,N⟩ (I K (q+d))).drew:=(bR _ _).drew;have X1:=(HH.o.1.below HW.o.1).NP (q+d);have X2:=(HH.o.2.1.below HW.o.1).NP (I K (q+d));refine⟨X1.below hd,X2.below hd,((PFr.below y HW.o.1).t (PFr.set HH.o.2.2.1 2 (by omega) _)).t (PFr.below X1.lt hd),HW.o.2.2.block ?_⟩;exact bS _ _ _ _ (show w.heap.size+1≠k by omega)
  case rest=>
  obtain⟨X1,X2,X3,⟨d0,d1,d2,d3,d4⟩⟩:=hcut;have HX:Hid (aA B wc k x R X (q+d)/\aD B wc k P T vL vT/\PFr B k (RwB x R) w wc):=⟨X1,X2,X3⟩;clear X1 X2 X3 HW n5 ai ab;go_wp2_with fail
  refine(HS _).m ?_;rintro e w3 ⟨rfl,b3⟩;have z:Hid (Below wc.heap.size wc w3):=b3;clear b3 HS;go_wp2_with fail
  go_ret;exact cK.mk v.o.1 v.o.2 (HX.o.1.below z.o) (HX.o.2.1.below z.o) HH.o.2.2.2.1 ad.o (HX.o.2.2.t (PFr.below HX.o.1.lt z.o)) (λ_ _ h=>h)
def dz(tm:dT)(P:S PlL)(i:H):S ItD:=((P.take i).filter (PlL.Mw tm)).map λl=>⟨0,⟨#[]⟩,l.fin-tm⟩
theorem yW(a:dT)(P:S PlL)(i:H)(h:i<P.length):dz a P (i+1)=if P[i].Mw a then dz a P i++[⟨0,⟨#[]⟩,P[i].fin-a⟩]else dz a P i:=by
 unfold dz;rw[tS h,List.filter_append,List.map_append]
 grind
theorem Ck(a:dT)P:dz a P P.length=(opens a P).map λz=>⟨0,⟨#[]⟩,z.1.fin-a⟩:=by
 have e:P.filter (PlL.Mw a)=(opens a P).map (·.1):=by
  conv=>lhs;rw[<-List.zipIdx_map_fst 0 P]
  rw[g6];rfl
 unfold dz
 simp_all
theorem Cl(a:dT)P i:(dz a P i).length<=(opens a P).length:=by
 rw[wD];unfold dz
 conv=>rhs;rw[<-List.take_append_drop i P]
 grind
theorem Yq.Of:(Yq.prog.info? 117).map (λi=>(i.zero,i.size,i.bytes))=J (J (Qa #[I K 0,U ⟨#[]⟩,I K 0]),3,32):=by kernel_rfl
theorem Cm{sl}{nx:dT}w(c:aA B w k sl R nx d)(hP:aD B w k P T vL vT)(a:Sim st R nx)(SL:eY L P T d s)(hs:s<2199023255300)(ar:L.opened.length<=3)A(hI:∀x,Below w.heap.size w x->g8 x A (L.opened.map iz)):
  Calls Yq.prog 31 #[O (J ⟨k,0,N⟩),Qa #[I K 0,I K st.count,U ⟨#[]⟩,A,U ⟨#[]⟩]] w λe x=>e=Nm (C Y)/\Below w.heap.size w x:=by
 have⟨i0,a8,al,av,a0⟩:=info_parts Yq.Of;have D:=a.count;have a1:=gB R a.full;have hlim:=a.MO;have htm:=SL.time;have hfew:=SL.OI;rw[SL.Pg,<-Ck]at hI;have G:∀i,(dz d P i).length<=3:=λi=>lT (Cl d P i) (by rw[SL.count];exact ar)
 have HC:Hid (∀W,Below w.heap.size w W->Calls Yq.prog 63 #[O (J ⟨k,0,N⟩)] W λe x=>e=Nm (I K (totR R:dT))/\W=x):=λW y=>nu B k sl R nx d W (c.below y) a1 (by omega)
 have HH:Hid (aA B w k sl R nx d/\aD B w k P T vL vT/\eY L P T d s/\(∀x,Below w.heap.size w x->g8 x A (dz d P P.length))/\∀i,(dz d P i).length<=3):=⟨c,hP,SL,hI,G⟩;obtain⟨va,vc,a7,-⟩:=az hP.MR;subst a7;have c2:=c.cells.c2;have c3:=hP.c3;rw[D];clear c hP a SL hI G D;go_enter (Yq.nq func31),ntmps31;go_wp2_with fail
 have HW:Hid (Below w.heap.size w (w.alloc (E #[I K 0,I K (totR R:dT),U ⟨#[]⟩,A,U ⟨#[]⟩] 46))/\cz (w.alloc (E #[I K 0,I K (totR R:dT),U ⟨#[]⟩,A,U ⟨#[]⟩] 46)) w.heap.size (I K 0) (I K (totR R:dT)) (U ⟨#[]⟩) A (U ⟨#[]⟩)):=⟨(bR _ w).alloc (lR _) _,kn w _ _ _ _ _ _⟩;generalize w.alloc (E #[I K 0,I K (totR R:dT),U ⟨#[]⟩,A,U ⟨#[]⟩] 46)=W at *
 go_loopw [5,6] (λs5 s6 wr=>∃i:H,i<=P.length/\s6=I K i/\wr.ownsRow W.heap.size 117 3 s5 (dz d P i).length (aq (dz d P i))/\Below W.heap.size W wr) (λ_ s6 _=>P.length-(intOf s6).toNat)
 case atStart=>exact⟨0,Nat.zero_le _,Q,World.ownsRow_nil _ _ _ _,bR _ _⟩
 case round=>
  obtain⟨i,hin,rfl,f,y⟩:=hrel;obtain⟨so,sc,rfl,-⟩:=az f;have j:Hid (Below w.heap.size w wr):=HW.o.1.t (y.m HW.o.1.size);have V:=ag j.o c2;have ab:=ag j.o c3;have G:=HH.o.2.2.2.2 i;by_cases p:i<P.length
  .have hii:(i:dT)<(P.length:dT):=by omega
   obtain⟨g,cap,he,-,hg,-,-,e2,-⟩:=Aw HH.o.2.1.MR i p;cases he;replace e2:=ag j.o e2;have r:=lA wr (HH.o.1.below j.o) (HH.o.2.1.below j.o) i p;have aa:Hid (dz d P (i+1)=if P[i].Mw d then dz d P i++[⟨0,⟨#[]⟩,P[i].fin-d⟩]else dz d P i):=yW d P i p;have ai:=HH.o.2.2.1.lists _ (n8 p);have a5:Hid (P[i].Mw d=Y->d<P[i].fin):=λh=>by
    unfold PlL.Mw at h;rw[bT]at h;exact of_decide_eq_true h.2
   have HO:Hid (wr.ownsRow W.heap.size 117 3 (M so (dz d P i).length sc) (dz d P i).length (aq (dz d P i))/\Below W.heap.size W wr):=⟨f,y⟩;clear f y;generalize P[i].Mw d=bo at *;generalize P[i]=l at *;generalize dz d P i=q at *;obtain⟨Mt,v,pp,fn,gone⟩:=l;simp only at e2 aa ai;have hbsz:=HO.o.2.size;go_wp2_with fail
   refine r.m ?_;rintro e F ⟨rfl,b1⟩;have z:Hid (Below wr.heap.size wr F):=b1;have hsz1:=b1.size;replace V:=ag b1 V;replace ab:=ag b1 ab;replace e2:=ag b1 e2;clear b1 r;cases bo
   .go_wp2_with fail
    refine⟨⟨i+1,p,by go_num,?_,HO.o.2.t (z.o.m HO.o.2.size)⟩,by simp[intOf];omega⟩;rw[aa.o,ey (by simp)];exact HO.o.1.kept (aO z.o N) (dX _)
   .go_upto_region 7 with fail
    have hop2:d<fn:=a5.o (by first|trivial|rfl);have aj:Hid (IntKind.i64.wrap (fn-d)=fn-d):=wrap_small _ (by omega) (by omega);have a3:Hid (∀X:Obj,(F.alloc X).ownsRow W.heap.size 117 3 (M so q.length sc) q.length (aq q)):=λX=>(HO.o.1.kept (aO z.o N) (dX _)).alloc X
    go_region_law (refine step_append_lies _ Q _ _ 44 Q W.heap.size 117 i0 _ 3 32 (Yq.u underlying44) a8 al av a0 Q (by decide) (M so q.length sc) q.length (aq q) (by simp[Act.eval]) (a3.o _) ⟨F.heap.size,0,N⟩ 1 1 [I K 0,U ⟨#[]⟩,I K (IntKind.i64.wrap (fn-d))] (by simp[Act.eval]) Q (Ax F _ _ _ _) (by simp[Value.oneCell']) (by omega) (by simp only[maxLen];omega) (by omega) (by simp;omega) (F.heap.size+1) (by simp) ?_;intro g ad w3 ap n hgg hlt3;have af:Hid (w3.ownsRow W.heap.size 117 3 (M (J ⟨g,0,N⟩) (q.length+1) ad) (q.length+1) (aq q++[I K 0,U ⟨#[]⟩,I K (IntKind.i64.wrap (fn-d))])/\(F.alloc (E #[I K 0,U ⟨#[]⟩,I K (IntKind.i64.wrap (fn-d))] 117)).grownBy w3 (Value.slice so q.length sc).ownBlock):=⟨ap,⟨n.os,n.tape,n.output,n.size,n.block⟩⟩)
    all_goals
     go_wp2_with fail
     refine⟨⟨i+1,p,by go_num,?_,?_⟩,by simp[intOf];omega⟩
     .rw [aa.o,eW (by trivial),lP,lS];have e:aq (q++[⟨0,⟨#[]⟩,fn-d⟩])=aq q++[I K 0,U ⟨#[]⟩,I K (IntKind.i64.wrap (fn-d))]:=by rw[aj.o];simp[aq]
      rw[e];exact af.o.1
     .have ac:Below W.heap.size W F:=HO.o.2.t (z.o.m HO.o.2.size);exact(ac.alloc ac.size _).grown af.o.2 (by have:=ac.size;simp;omega) (λb e=>(HO.o.1.lt b e).1)
  .have a6:i=P.length:=by omega
   subst a6;have HO:Hid (wr.ownsRow W.heap.size 117 3 (M so (dz d P P.length).length sc) (dz d P P.length).length (aq (dz d P P.length))/\Below W.heap.size W wr):=⟨f,y⟩;have r:=HC.o wr j.o;have⟨d0,d1,d2,d3,d4⟩:=HW.o.2.on y;have HS:=nv A (M so (dz d P P.length).length sc) (dz d P P.length) wr (HH.o.2.2.2.1 wr j.o) (tT f).o (by omega);have HD:Hid (cz wr w.heap.size (I K 0) (I K (totR R:dT)) (U ⟨#[]⟩) A (U ⟨#[]⟩)):=HW.o.2.on y;clear f y HC;go_wp2_with fail
   refine r.m ?_;rintro e F ⟨rfl,a2⟩;subst a2;clear r;go_wp2_with fail
   refine HS.m ?_;rintro e w2 ⟨rfl,b2⟩;have⟨f0,f1,f2,f3,f4⟩:=HD.o.on b2;have a4:Hid (Below w.heap.size w w2):=j.o.t (b2.m j.o.size);clear b2 HS d0 d1 d2 d3 d4 V ab;go_wp2_with fail
   go_ret;exact⟨Q,a4.o⟩
theorem yX{G}{z y:dT}w(c:aA B w k vT R z y)(D:aD B w k P T vL G)(b:Sim st R z)(SL:eY L P T y s){a}(hz:dh B w k a (RwB vT R))(hq:Zq a)(hs:s<2199023255300)(A:L.opened.length<=3)o(hk:o.kind=10)u(hI:∀x,PFr B k (RwB vT R) w x->g8 x u (L.opened.map iz)):
  Calls Yq.prog 9 #[O (J ⟨k,0,N⟩),aJ o,Qa #[I K 0,I K st.count,U ⟨#[]⟩,u,U ⟨#[]⟩]] w (cK B k st L Zq s w):=by
 obtain⟨kind,l,d,X,f,nn,v⟩:=o;subst hk;have n:=D.lt;have HH:Hid (aA B w k vT R z y/\aD B w k P T vL G/\Sim st R z/\eY L P T y s):=⟨c,D,b,SL⟩;have p:Below w.heap.size w ((w.alloc (E #[I K 10,U l,U d,U X,U f,I K nn,I K v] 30)).alloc (E #[I K 0,I K st.count,U ⟨#[]⟩,u,U ⟨#[]⟩] 46)):=((bR _ w).alloc (lR _) _).alloc (by simp) _;have F:=Cm _ (c.below p) (D.below p) b SL hs A u (λx h=>hI x (PFr.below n (p.t (h.m p.size))));have HB:Hid (Below w.heap.size w ((w.alloc (E #[I K 10,U l,U d,U X,U f,I K nn,I K v] 30)).alloc (E #[I K 0,I K st.count,U ⟨#[]⟩,u,U ⟨#[]⟩] 46))):=p;have q:Hid (dh B w k a (RwB vT R)/\Zq a):=⟨hz,hq⟩;unfold aJ;go_enter (Yq.nq func9),ntmps9;go_wp2_with fail
 refine F.m ?_;rintro e w2 ⟨rfl,b2⟩;have i:Hid (Below w.heap.size w w2):=HB.o.t (b2.m HB.o.size);go_wp2_with fail
 go_ret;exact cK.mk q.o.1 q.o.2 (HH.o.1.below i.o) (HH.o.2.1.below i.o) HH.o.2.2.1 (HH.o.2.2.2.m (by omega)) (PFr.below n i.o) (λ_ _ h=>h)
end
