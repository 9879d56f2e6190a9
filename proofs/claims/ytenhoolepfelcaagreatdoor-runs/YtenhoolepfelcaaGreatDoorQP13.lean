/- A part. -/
import Derived.Test.YtenhoolepfelcaaGreatDoorQP11
set_option maxHeartbeats 4000000
set_option maxRecDepth 100000
open List renaming getElem_mem->dT,eq_nil_of_length_eq_zero->ey,length_pos_iff->eV,mem_append->eW,set_eq_take_append_cons_drop->gI,pairwise_append->gL,mem_of_mem_take->g6,mem_of_mem_drop->jp,pairwise_iff_getElem->kr,length_set->lj,mem_append_right->lk,getElem?_eq_none->nF,mem_append_left->n8,mem_singleton->pt,getElem?_take->sq,getElem?_drop->sT,getElem_set->ta
open Go renaming bodyPost_ret->tb,wpList_append_own->tn,below_drewN->uc,maxLen->vf,info_parts->vx
open _root_ renaming Int->wd,absurd->xb,ByteArray->xc,if_pos->xt,if_neg->xv
open Or renaming inr->yz,inl->NE
open Go.Value renaming slice->Pi
open Nat renaming lt_of_not_le->PA,lt_or_ge->PB,zero_le->PI
open Go renaming World->Wj,Value->Wx
namespace Go.Proofs.Qw
open _root_ renaming rfl->Q
open _root_ renaming Nat->H,List->S
open Option renaming none->N,some->J
open Bool renaming true->Y,false->Z
open Value renaming int->I,string->U,slice->M,pointer->O,bool->C
open IntKind renaming i64->K
open Obj renaming cells->E
open Or renaming inl->Qc,inr->Qd
variable {B i k r:H}{R:S bg}{m n nx:wd}{A P b d x:St}{o:OpD}
open Tryz
section
open Go.RowKit
theorem Mf w(c:wd)(d b h a:xc)(f e:wd):∃W,(w.alloc (E #[I K c,U d,U b,U h,U a,I K f,I K e] 30)).alloc (E #[I K 0,I K 0,U ⟨#[]⟩,M N 0 0,U ⟨#[]⟩] 46)=W/\Below w.heap.size w W/\kz (w.heap.size+1) W/\∀j,W.cell? ⟨w.heap.size,j,N⟩=(#[I K c,U d,U b,U h,U a,I K f,I K e]:Array Wx)[j]?:=by
 refine⟨_,Q,((bR _ w).alloc (lR _) _).alloc (by simp) _,IT _ (w.heap.size+1) (by simp) 46,λj=>?_⟩;rw[cB (bA _ _ _ (by simp))];exact cA (w:=w) _ _ w.heap.size j Q
theorem aA.MG{w:Wj}{f:Wx}(h:aA B w k f R m n)(i:H)(l:i<R.length)(r:H)(c:r<R[i].h.length):
  ∃g a,R[i].v=M (J ⟨g,0,N⟩) R[i].h.length a/\g<w.heap.size/\w.cell? ⟨g,r*3,N⟩=J (I K R[i].h[r].num)/\w.cell? ⟨g,r*3+1,N⟩=J (U R[i].h[r].body)/\w.cell? ⟨g,r*3+2,N⟩=J (C R[i].h[r].mark):=by
 have b:=h.MC _ (dT l);have⟨g,a,d,h1,j,h3⟩:=cq b (by omega);rw[d]at b;refine⟨g,a,d,j,?_,?_,?_⟩
 .have:=b.cellAt (r*3+0) (by omega);rw[aw,bE 3 _ (λ_=>rfl) R[i].h r 0 c (by omega)]at this;simpa using this
 .have:=b.cellAt (r*3+1) (by omega);rw[aw,bE 3 _ (λ_=>rfl) R[i].h r 1 c (by omega)]at this;simpa using this
 .have:=b.cellAt (r*3+2) (by omega);rw[aw,bE 3 _ (λ_=>rfl) R[i].h r 2 c (by omega)]at this;simpa using this
theorem Sim.missing(a:Sim d R m){b:xc}(c:∀x∈R,x.key≠b):d.f b.data.toList=[]:=
 a.gone _ (λe i h=>c e i (jN h))
theorem ES(a:o.kind=2\/o.kind=3\/o.kind=5)(d:aS o.key=Y)(c:b.f o.key.data.toList=[]):aE b o=(b,⟨5,0,⟨#[]⟩⟩):=by
 rcases a with h|h|h<;>simp[aE,h,d,c,db]
theorem ET B k q R(h u:wd)s o w(b:aA B w k q R h u)(a:Sim s R h)(c:o.kind=2\/o.kind=3\/o.kind=5)(L:aS o.key=Y)(d:∀x∈R,x.key≠o.key):
  Calls Yq.prog 57 #[O (J ⟨k,0,N⟩),aJ o] w (cy B k (aE s o).1 (aE s o).2 w q R u):=by
 have hlen:=gB R a.full;have hlim:=a.MO;have y:=b.lt;rw[ES c L (a.missing d)];have HH:Hid (aA B w k q R h u/\Sim s R h):=⟨b,a⟩;have n:Hid (∀x∈R,x.key≠o.key):=d;clear b a d L c;obtain⟨r,j,l,eQ,p,nn,A⟩:=o;simp only at n;unfold cy aJ;go_enter (Yq.nq func57),ntmps57;go_wp2_with fail
 refine(jL B k q R h u j _ ((HH.o.1.alloc _).alloc _) (by omega)).m ?_;rintro e w1 ⟨rfl,⟨i,hi,D,-⟩|⟨-,rfl⟩⟩
 .exact xb D (n.o _ (dT hi))
 go_wp2_with fail
 refine(fk 5 _).m ?_;rintro e P ⟨rfl,z⟩;have G:Below w.heap.size w P:=(((bR _ w).alloc (lR _) _).alloc (by simp) _).t (z.m (by simp;omega));have HB:Hid (Below w.heap.size w P):=G;have RA:=(IT (w.alloc (E #[I K r,U j,U l,U eQ,U p,I K nn,I K A] 30)) (w.heap.size+1) (by simp) 46).on z;obtain⟨V,d1,T,X,d4,f⟩:=RA;have g0:=f 0;have g1:=f 1;have g2:=f 2;have g3:=f 3;have g4:=f 4;clear G z f;unfold aG;go_wp2;refine tb (v:=aG ⟨5,0,⟨#[]⟩⟩) (by simp[results,results57,go_sem,aG,V,d1,T,X,d4]) Q ⟨Q,?_⟩;have F:=dS HB.o (x:=w.heap.size+1) (by omega) (I K 5) (I K 0) (U ⟨#[]⟩) (M N 0 0) (U ⟨#[]⟩);exact⟨q,R,h,HH.o.1.below F,HH.o.2,bX y F _ _⟩
theorem yP h v(a:o.kind=2)(d:aS o.key=Y)(e:b.f o.key.data.toList=h)(i:h.getLast?=J v):aE b o=(b,if v.mark then⟨5,0,⟨#[]⟩⟩else⟨0,v.num,v.body⟩):=by
 cases c:v.mark<;>simp[aE,a,d,e,i,c]
theorem H8(B k:H)(sl:Wx)(R:S bg)(u tm:wd)(st:St)(o:OpD)(w:Wj)(b:aA B w k sl R u tm)(a:Sim st R u)(c:o.kind=2)(hk:aS o.key=Y)(i:H)(z:i<R.length)(n:R[i].key=o.key):
  Calls Yq.prog 57 #[O (J ⟨k,0,N⟩),aJ o] w (cy B k (aE st o).1 (aE st o).2 w sl R tm):=by
 have hlen:=gB R a.full;have hlim:=a.MO;have F:=b.lt;have f:R[i]∈R:=dT z;have D:=a.full _ f;have P:=eV.2 D;have ac:=rW R i z;have d:R[i].h.getLast?=J (R[i].h[R[i].h.length-1]):=by rw[List.getLast?_eq_getElem?,eL (by omega)]
 rw[yP R[i].h _ c hk (by rw[<-n];exact a.here _ f) d];have⟨gv,vcap,hv,hgl,z0,z1,z2⟩:=b.MG i z (R[i].h.length-1) (by omega);obtain⟨ge,V,rfl,-,hgel,x0,x1⟩:=b.Od i z;rw[hv]at x1;have c0:=b.cells.c0;have HH:Hid (aA B w k (M (J ⟨ge,0,N⟩) R.length V) R u tm/\Sim st R u):=⟨b,a⟩;have T:Hid (R[i].key=o.key):=n;have A:Hid (∀j (hj:j<R.length),R[j].key=o.key->j=i):=λj hj l=>by
  by_cases h:j=i
  .exact h
  .exact xb (l.t n.s) (a.other z hj h)
 generalize R[i].h[R[i].h.length-1]=v at *;obtain⟨vn,vb,vm⟩:=v;simp only at z0 z1 z2;obtain⟨m,hm⟩:∃m,R[i].h.length=m+1:=⟨R[i].h.length-1,by omega⟩;rw[hm,Nat.add_sub_cancel]at z0 z1 z2;rw[hm]at x1 ac;have L:=c;clear b a n hk hv d f D P x0 hm;obtain⟨kind,r,p,eQ,q,nn,X⟩:=o;simp only at L T A;subst L;have hii:(i:wd)<(R.length:wd):=by omega
 unfold cy aJ;go_enter (Yq.nq func57),ntmps57;go_wp2_with fail
 refine(jL B k _ R u tm r _ ((HH.o.1.alloc _).alloc _) (by omega)).m ?_;rintro e w1 ⟨rfl,⟨j,hj,l,rfl⟩|⟨aa,-⟩⟩
 rotate_left
 .exact xb T.o (aa _ (dT z))
 have ab:=A.o j hj l;subst ab;clear l;have hne1:¬ge=w.heap.size:=by omega
 have hne2:¬ge=w.heap.size+1:=by omega
 have hne3:¬gv=w.heap.size:=by omega
 have hne4:¬gv=w.heap.size+1:=by omega
 have hne5:¬k=w.heap.size:=by omega
 have hne6:¬k=w.heap.size+1:=by omega
 cases vm with
 |true=>
  go_wp2_with fail
  refine(fk 5 _).m ?_;rintro e w2 ⟨rfl,b2⟩;have b3:Below w.heap.size w w2:=((((bR _ w).alloc (lR _) _).alloc (by simp) _).alloc (by simp;omega) _).t (b2.m (by simp;omega));have HB:Hid (Below w.heap.size w w2):=b3;have RA:=((IT (w.alloc (E #[I K 2,U r,U p,U eQ,U q,I K nn,I K X] 30)) (w.heap.size+1) (by simp) 46).on ((bR _ _).alloc (lR _) _)).on b2;obtain⟨d0,d1,d2,d3,d4,y⟩:=RA;have g0:=y 0;have g1:=y 1;have g2:=y 2;have g3:=y 3;have g4:=y 4;clear b3 b2 y;unfold aG;go_wp2;refine tb (v:=aG ⟨5,0,⟨#[]⟩⟩) (by simp[results,results57,go_sem,aG,d0,d1,d2,d3,d4]) rfl ⟨rfl,?_⟩;have G:=dS HB.o (x:=w.heap.size+1) (by omega) (I K 5) (I K 0) (U ⟨#[]⟩) (M N 0 0) (U ⟨#[]⟩);exact⟨_,R,u,HH.o.1.below G,HH.o.2,bX F G _ _⟩
 |false=>
  go_wp2;refine tb (v:=aG ⟨0,vn,vb⟩) (by simp[results,results57,go_sem,aG]) rfl ⟨rfl,?_⟩;have G:Below w.heap.size w (((w.alloc (E #[I K 2,U r,U p,U eQ,U q,I K nn,I K X] 30)).alloc (E #[I K 0,I K vn,U vb,M N 0 0,U ⟨#[]⟩] 46)).alloc (E #[I K vn,U vb,C Z] 130)):=(((bR _ w).alloc (lR _) _).alloc (by simp) _).alloc (by simp;omega) _;exact⟨_,R,u,HH.o.1.below G,HH.o.2,bX F G _ _⟩
theorem qK(a:o.kind=3)(d:aS o.key=Y)(c:db (b.f o.key.data.toList) o.n=N):aE b o=(b,⟨5,0,⟨#[]⟩⟩):=by
 simp[aE,a,d,c]
theorem wM v(a:o.kind=3)(e:aS o.key=Y)(c:db (b.f o.key.data.toList) o.n=J r)(h:(b.f o.key.data.toList)[r]?=J v):aE b o=(b,if v.mark then⟨6,0,⟨#[]⟩⟩else⟨0,0,v.body⟩):=by
 cases d:v.mark<;>simp[aE,a,e,c,h,d]
theorem nU{h:S Ver}(hno:∀j (a:j<h.length),h[j].num≠n):db h n=none:=by
 unfold db;rw[List.findIdx?_eq_none_iff];intro x b;obtain⟨j,a,rfl⟩:=gM b
 grind
theorem nV{h:S Ver}(hr:r<h.length)(hn:h[r].num=n)(hno:∀j (hj:j<h.length),j<r->h[j].num≠n):db h n=J r:=by
 unfold db;rw[List.findIdx?_eq_some_iff_getElem]
 grind
theorem EU(B k:H)(sl:Wx)(R:S bg)(X tm:wd)(u:St)(o:OpD)(w:Wj)(b:aA B w k sl R X tm)(a:Sim u R X)(p:o.kind=3)(hk:aS o.key=Y)(i:H)(hi:i<R.length)(P:R[i].key=o.key):
  Calls Yq.prog 57 #[O (J ⟨k,0,N⟩),aJ o] w (cy B k (aE u o).1 (aE u o).2 w sl R tm):=by
 have hlen:=gB R a.full;have hlim:=a.MO;have ac:=b.lt;have F:R[i]∈R:=dT hi;have aa:=eV.2 (a.full _ F);have hml:=rW R i hi;have T:u.f o.key.data.toList=R[i].h:=by rw[<-P];exact a.here _ F
 obtain⟨gv,al,hv,hgl,-⟩:=b.MG i hi 0 aa;obtain⟨ge,a4,rfl,-,hgel,x0,x1⟩:=b.Od i hi;rw[hv]at x1;have c0:=b.cells.c0;have HH:Hid (aA B w k (M (J ⟨ge,0,N⟩) R.length a4) R X tm/\Sim u R X/\R[i].v=M (J ⟨gv,0,N⟩) R[i].h.length al):=⟨b,a,hv⟩;have a2:Hid (R[i].key=o.key):=P;have av:Hid (∀j (hj:j<R.length),R[j].key=o.key->j=i):=λj hj L=>by
  by_cases h:j=i
  .exact h
  .exact xb (L.t P.s) (a.other hi hj h)
 have A:Hid ((∀j (hj:j<R[i].h.length),R[i].h[j].num≠o.n)->aE u o=(u,⟨5,0,⟨#[]⟩⟩)):=λh=>qK p hk (by rw[T];exact nU h)
 have z:Hid (∀r (hr:r<R[i].h.length),R[i].h[r].num=o.n->(∀j (hj:j<R[i].h.length),j<r->R[i].h[j].num≠o.n)->aE u o=(u,if R[i].h[r].mark then⟨6,0,⟨#[]⟩⟩else⟨0,0,R[i].h[r].body⟩)):=λr hr h1 h2=>wM _ p hk (by rw[T];exact nV hr h1 h2) (by rw[T,eL hr])
 have ap:=p;clear b a P hk hv F aa x0 T;generalize aE u o=so at *;obtain⟨kind,a1,aj,eQ,ar,V,a8⟩:=o;simp only at ap a2 av A z;subst ap;have hii:(i:wd)<(R.length:wd):=by omega
 unfold cy aJ;go_enter (Yq.nq func57),ntmps57;go_wp2_with fail
 refine(jL B k _ R X tm a1 _ ((HH.o.1.alloc _).alloc _) (by omega)).m ?_;rintro e w1 ⟨rfl,⟨j,hj,L,rfl⟩|⟨G,-⟩⟩
 rotate_left
 .exact xb a2.o (G _ (dT hi))
 have a5:=av.o j hj L;subst a5;clear L;have hne1:¬ge=w.heap.size:=by omega
 have hne2:¬ge=w.heap.size+1:=by omega
 have hne3:¬gv=w.heap.size:=by omega
 have hne4:¬gv=w.heap.size+1:=by omega
 have hne5:¬k=w.heap.size:=by omega
 have hne6:¬k=w.heap.size+1:=by omega
 go_wp2_with fail
 have⟨Wz,a3,y⟩:=Mf w 3 a1 aj eQ ar V a8;rw[a3];have HW:Hid (Below w.heap.size w Wz/\kz (w.heap.size+1) Wz/\Wz.cell? ⟨w.heap.size,0,N⟩=J (I K 3)/\Wz.cell? ⟨w.heap.size,5,N⟩=J (I K V)):=⟨y.1,y.2.1,y.2.2 0,y.2.2 5⟩;clear a3 y
 go_loopw [8] (λs8 wr=>∃r:H,r<=R[j].h.length/\s8=I K r/\(∀t (ht:t<R[j].h.length),t<r->R[j].h[t].num≠V)/\Below Wz.heap.size Wz wr) (λs8 _=>R[j].h.length-(intOf s8).toNat)
 case atStart=>exact⟨0,PI _,rfl,λt ht h=>xb h (by omega),bR _ _⟩
 case round=>
  obtain⟨r,hrm,rfl,G,q⟩:=hrel;have ad:Hid (∀t (ht:t<R[j].h.length),t<r->R[j].h[t].num≠V):=G;have HB:Hid (Below w.heap.size w wr/\kz (w.heap.size+1) wr):=⟨HW.o.1.t (q.m HW.o.1.size),HW.o.2.1.on q⟩;have o0:=ag q HW.o.2.2.1;have o5:=ag q HW.o.2.2.2;have a6:Hid (Below Wz.heap.size Wz wr):=q;clear G q;by_cases ab:r<R[j].h.length
  .skip
   obtain⟨gv',vcap',a0,-,z0,z1,z2⟩:=HH.o.1.MG j hj r ab;rw[HH.o.2.2]at a0;cases a0;replace z0:=ag HB.o.1 z0;replace z1:=ag HB.o.1 z1;replace z2:=ag HB.o.1 z2;have hri:(r:wd)<(R[j].h.length:wd):=by omega
   by_cases c:R[j].h[r].num=V
   .have HS:=z.o r ab c ad.o;have l:Hid (so=(u,if R[j].h[r].mark then⟨6,0,⟨#[]⟩⟩else⟨0,0,R[j].h[r].body⟩)):=HS;have ai:(R[j].h[r].num != V)=false:=by simp[c]
    clear HS c;generalize R[j].h[r]=v at *;obtain⟨vn,vb,vm⟩:=v;simp only at z0 z1 z2 ai l;go_wp2_with fail
    go_quiet (fail)
    have hq:Below wr.heap.size wr (wr.drewN nq):=uc (bR _ _) _;have z1':=ag hq z1;have z2':=ag hq z2;have o0':=ag hq o0;have D:Hid (Below w.heap.size w (wr.drewN nq)/\kz (w.heap.size+1) (wr.drewN nq)):=⟨HB.o.1.t (hq.m HB.o.1.size),HB.o.2.on hq⟩;clear z0 z1 z2 o0 o5 hq;generalize wr.drewN nq=wq at *;cases vm with
    |true=>
     go_wp2_with fail
     refine(fk 6 _).m ?_;rintro e w2 ⟨rfl,b2⟩;have af:Hid (Below w.heap.size w w2):=D.o.1.t (b2.m D.o.1.size);have⟨d0,d1,d2,d3,d4,d⟩:=D.o.2.on b2;have g0:=d 0;have g1:=d 1;have g2:=d 2;have g3:=d 3;have g4:=d 4;clear b2 d;unfold aG;go_wp2;refine tb (v:=aG ⟨6,0,⟨#[]⟩⟩) (by simp[results,results57,go_sem,aG,d0,d1,d2,d3,d4]) rfl ⟨by rw[l.o];rfl,?_⟩;have q:=dS af.o (x:=w.heap.size+1) (by omega) (I K 6) (I K 0) (U ⟨#[]⟩) (M N 0 0) (U ⟨#[]⟩);exact⟨_,R,X,HH.o.1.below q,by rw[l.o];exact HH.o.2.1,bX ac q _ _⟩
    |false=>
     have⟨d0,d1,d2,d3,d4,d⟩:=D.o.2;have g0:=d 0;have g1:=d 1;have g2:=d 2;have g3:=d 3;have g4:=d 4;clear d;go_wp2;refine tb (v:=aG ⟨0,0,vb⟩) (by simp[results,results57,go_sem,aG,d0,d1,d2,d3,d4]) rfl ⟨by rw[l.o];rfl,?_⟩;have q:=dS D.o.1 (x:=w.heap.size+1) (by omega) (I K 0) (I K 0) (U vb) (M N 0 0) (U ⟨#[]⟩);exact⟨_,R,X,HH.o.1.below q,by rw[l.o];exact HH.o.2.1,bX ac q _ _⟩
   .have ai:(R[j].h[r].num != V)=true:=by simp[c]
    have a7:Hid (R[j].h[r].num≠V):=c;generalize R[j].h[r].num=vn at z0 ai c;clear z1 z2 c;go_wp2_with fail
    go_quiet (fail)
    go_wp2_with fail
    refine⟨⟨r+1,ab,by go_num,λt ht hlt=>?_,uc a6.o _⟩,by simp[intOf];omega⟩;rcases PB t r with h1|h1
    .exact ad.o t ht h1
    .have:t=r:=by omega
     subst this;exact a7.o
  .have a9:r=R[j].h.length:=by omega
   subst a9;have l:Hid (so=(u,⟨5,0,⟨#[]⟩⟩)):=A.o (λt ht=>ad.o t ht ht);go_wp2_with fail
   refine(fk 5 _).m ?_;rintro e w2 ⟨rfl,b2⟩;have af:Hid (Below w.heap.size w w2):=HB.o.1.t (b2.m HB.o.1.size);have⟨d0,d1,d2,d3,d4,d⟩:=HB.o.2.on b2;have g0:=d 0;have g1:=d 1;have g2:=d 2;have g3:=d 3;have g4:=d 4;clear b2 d;unfold aG;go_wp2;refine tb (v:=aG ⟨5,0,⟨#[]⟩⟩) (by simp[results,results57,go_sem,aG,d0,d1,d2,d3,d4]) rfl ⟨by rw[l.o],?_⟩;have q:=dS af.o (x:=w.heap.size+1) (by omega) (I K 5) (I K 0) (U ⟨#[]⟩) (M N 0 0) (U ⟨#[]⟩);exact⟨_,R,X,HH.o.1.below q,by rw[l.o];exact HH.o.2.1,bX ac q _ _⟩
theorem ow(a:o.kind=5)(d:aS o.key=Y)(c:db (b.f o.key.data.toList) o.n=N):aE b o=(b,⟨5,0,⟨#[]⟩⟩):=by
 simp[aE,a,d,c]
theorem tW(a:o.kind=5)(d:aS o.key=Y)(c:db (b.f o.key.data.toList) o.n=J r):aE b o=(bP b o.key r,⟨0,0,⟨#[]⟩⟩):=by
 simp[aE,a,d,c]
theorem Sim.Om(c:Sim A R nx)(m:i<R.length){n:xc}(q:R[i].key=n)(hr:r<R[i].h.length)(v:Wx)(d:R[i].h.take r++R[i].h.drop (r+1)≠[]):Sim (bP A n r) (R.set i ⟨R[i].key,R[i].h.take r++R[i].h.drop (r+1),v⟩) nx:=by
 subst q;have D:=Aq R i m ⟨R[i].key,R[i].h.take r++R[i].h.drop (r+1),v⟩;simp at D;have hcnt:=c.count;have hlim:=c.MO;refine⟨c.next,?_,?_,?_,?_,?_,by omega⟩
 .intro e o;rcases jM o with rfl|⟨j,l,-,rfl⟩
  .exact d
  .exact c.full _ (dT l)
 .rw [kr];intro a b t z y;rw[lj]at t z;rw[ta,ta];by_cases u:i=a
  .have p:¬i=b:=by omega
   rw[xt u,xv p];exactλe=>c.other m z (by omega) e.s
  .rw [xv u];by_cases p:i=b
   .rw [xt p];exact c.other m t (by omega)
   .rw [xv p];have B:=c.keys;rw[kr]at B;exact B a b t z y
 .intro e o;rcases jM o with rfl|⟨j,l,f,rfl⟩
  .simp [bP,upd,c.here _ (dT m)]
  .have d:R[j].key.data.toList≠R[i].key.data.toList:=λe=>c.other m l f (jN e)
   simp[bP,upd,d,c.here _ (dT l)]
 .intro k q;have u:=q _ (rR (x:=⟨R[i].key,R[i].h.take r++R[i].h.drop (r+1),v⟩) m);have p:=c.gone k (λe o=>by
   obtain⟨j,l,rfl⟩:=gM o;by_cases f:j=i
   .grind
   .exact q _ (rT l f))
  simp[bP,upd]
  grind
 .show A.count-1=_;omega
theorem Sim.dropLast(c:Sim x R nx)(F:i<R.length){o:xc}(n:R[i].key=o)(hr:r<R[i].h.length)(p:R[i].h.take r++R[i].h.drop (r+1)=[]):Sim (bP x o r) (R.take i++R.drop (i+1)) nx:=by
 subst n;have y:R=R.take i++([R[i]]++R.drop (i+1)):=by simp
 have A:(R[i].h.take r++R[i].h.drop (r+1)).length=R[i].h.length-1:=by rw[lP,tL,lD];omega
 rw[p]at A;have ht:totR R=totR (R.take i++R.drop (i+1))+1:=by
  have B:=congrArg totR y;rw[B,dN,dN,dN];have:totR [R[i]]=R[i].h.length:=by simp[totR]
  grind
 have hcnt:=c.count;have hlim:=c.MO;have j:∀e∈R.take i++R.drop (i+1),e∈R:=λe d=>by
  grind
 have q:=c.keys;rw[y,gL]at q;obtain⟨v,z,u⟩:=q;have f:=gL.1 z;have t:∀e∈R.take i++R.drop (i+1),e.key≠R[i].key:=λe d=>by
  rcases eW.1 d with h|h
  .exact u e h R[i] (n8 _ (pt.2 Q))
  .exact λm=>f.2.2 R[i] (pt.2 Q) e h m.s
 refine⟨c.next,λe d=>c.full e (j e d),?_,?_,?_,?_,by omega⟩
 .rw [gL];exact⟨v,f.2.1,λa G b D=>u a G b (lk _ D)⟩
 .intro e d;have n:e.key.data.toList≠R[i].key.data.toList:=λh=>t e d (jN h)
  simp[bP,upd,n,c.here _ (j e d)]
 .intro k n;simp[bP,upd];by_cases l:k=R[i].key.data.toList
  .rw [xt l,c.here _ (dT F)];exact p
  .rw [xv l];refine c.gone k (λe d=>?_);rw[y]at d;rcases eW.1 d with h|h
   .exact n e (n8 _ h)
   .rcases eW.1 h with m|m
    .simp at m;subst m;exactλe=>l e.s
    .exact n e (lk _ m)
 .show x.count-1=_;omega
theorem aA.O8{w l}{x d}{R'}{t r:wd}(c:aA B w k x R t r)(u:Below w.heap.size w l)(n:l.ownsRow w.heap.size 140 2 d R'.length (aB R'))(y:B<=w.heap.size)(m:∀e∈R',e∈R)(o:R'.Pairwise (λa b=>a.v.ownBlock≠b.v.ownBlock))(h:∀e∈R',e.v.ownBlock≠N):
  aA B (l.setCell ⟨k,0,N⟩ d) k d R' t r:=by
 have hk:=c.lt;have f:=bz l k 0 d;have j:d.ownBlock≠J k:=λe=>by have:=(n.lt k e).1;omega
 have H1:=c.below u;refine⟨H1.cells.NY _,(cI n y).kept f (yz j),λe i=>(H1.MC e (m e i)).kept f (yz (H1.MD e (m e i))),j,λe i=>H1.MD e (m e i),?_,o⟩;intro e i q;cases p:e.v.ownBlock with
 |none=>exact h e i p
 |some b=>
  have h3:=((c.MC e (m e i)).lt b p).2;rw[p]at q;have:=(n.lt b q.s).1;omega
theorem KA{A y:wd}{w l n:Wj}{f d j:H}{v':Wx}{h':S Ver}(T:j<R.length)(c:Sim P R y)(a:aA B w k (M (J ⟨f,0,N⟩) R.length d) R y A)(Hq:aA B l k (M (J ⟨f,0,N⟩) R.length d) R y A)
  (r:Below w.heap.size w l) (o:Below l.heap.size l n) (F:n.ownsRow l.heap.size 130 3 v' h'.length (aw h')) (RA:kz (w.heap.size+1) n) (G:w.heap.size+1<l.heap.size) (X:B<=l.heap.size):
  aA B (n.setCell ⟨f,j*2+1,N⟩ v') k (M (J ⟨f,0,N⟩) R.length d) (R.set j ⟨R[j].key,h',v'⟩) y A/\bm w (n.setCell ⟨f,j*2+1,N⟩ v') k (M (J ⟨f,0,N⟩) R.length d) R (M (J ⟨f,0,N⟩) R.length d) (R.set j ⟨R[j].key,h',v'⟩)/\kz (w.heap.size+1) (n.setCell ⟨f,j*2+1,N⟩ v') /\
   (Pi (J ⟨f,0,N⟩) R.length d).ownBlock≠J (w.heap.size+1)/\(∀e∈R.set j ⟨R[j].key,h',v'⟩,e.v.ownBlock≠J (w.heap.size+1)):=by
 have hge:=(a.row.lt f rfl).2;have L:=a.lt;have q:=bz n f (j*2+1) v';have D:f≠k:=λe=>a.apart (by rw[<-e];rfl)
 have s:=r.t (o.m r.size);have z:=λb e=>(F.lt b e).1
 refine⟨Hq.Pv T (aO o N) (NE rfl) (cI F X) ?_ (λi p _=>c.full _ (dT p)),?_,RA.grown q (by simp;omega),by simp[Value.ownBlock];omega,?_⟩
 .cases u:v'.ownBlock with
  |none=>exact NE rfl
  |some b=>exact yz (yz ⟨b,rfl,z b u⟩)
 .refine ((bX L s (M (J ⟨f,0,N⟩) R.length d) R).step q (λb _ e=>NE e) (lL L s.size) (by simpa using D)).put λb u h=>?_
  rcases h with h|⟨x,G,h⟩
  .exact Qc h
  .rcases jM G with rfl|⟨i,p,-,rfl⟩
   .grind
   .exact Qd ⟨_,dT p,h⟩
 .intro e V;rcases jM V with rfl|⟨i,p,-,rfl⟩
  .grind
  .intro u;have:=((a.MC _ (dT p)).lt _ u).2;omega
theorem H9(R:S bg)(j:H)(a:j<R.length)(x:bg):(R.set j x).take j=R.take j:=by
 rw[gI,xt a]
 grind
theorem Ia(R:S bg)(j:H)(a:j<R.length)(x:bg):(R.set j x).drop (j+1)=R.drop (j+1):=by
 rw[gI,xt a,show R.take j++x::R.drop (j+1)=(R.take j++[x])++R.drop (j+1)by simp];exact List.drop_left' (by rw[lP,tL];simp;omega)
theorem nW{w}{h}(b:aA B w r h R m n)L(l:∀e∈L,e∈R):∀u∈aB L,u.oneCell'=true:=by
 intro u d;have⟨e,i,d⟩:=List.mem_flatMap.1 d;simp at d;rcases d with rfl|rfl
 .rfl
 .obtain ⟨a,c,j,-⟩:=az (b.MC e (l e i));rw[j];rfl
theorem B5(B k:H)(sl:Wx)(R:S bg)(nx tm:wd)(st:St)(o:OpD)(w:Wj)(d:aA B w k sl R nx tm)(c:Sim st R nx)(af:o.kind=5)(hk:aS o.key=Y)(i:H)(hi:i<R.length)(bi:R[i].key=o.key)(hB:B<=w.heap.size):
  Calls Yq.prog 57 #[O (J ⟨k,0,N⟩),aJ o] w (cy B k (aE st o).1 (aE st o).2 w sl R tm):=by
 have⟨i0,b8,bs,cb,b3⟩:=vx Yq.Np;have hlen:=gB R c.full;have hlim:=c.MO;have er:=d.lt;have ar:R[i]∈R:=dT hi;have bn:=eV.2 (c.full _ ar);have hml:=rW R i hi;have cj:st.f o.key.data.toList=R[i].h:=by rw[<-bi];exact c.here _ ar
 obtain⟨gv,ab,hv,-,hgl,ek⟩:=cq (d.MC _ ar) bn;obtain⟨G,z,rfl,-,hgel,x0,x1⟩:=d.Od i hi;rw[hv]at x1;have c0:=d.cells.c0;have HH:Hid (aA B w k (M (J ⟨G,0,N⟩) R.length z) R nx tm/\Sim st R nx/\R[i].v=M (J ⟨gv,0,N⟩) R[i].h.length ab):=⟨d,c,hv⟩;have be:Hid (R[i].key=o.key):=bi;have cr:Hid (∀j (hj:j<R.length),R[j].key=o.key->j=i):=λj hj bd=>by
  by_cases h:j=i
  .exact h
  .exact xb (bd.t bi.s) (c.other hi hj h)
 have a5:Hid ((∀j (hj:j<R[i].h.length),R[i].h[j].num≠o.n)->aE st o=(st,⟨5,0,⟨#[]⟩⟩)):=λh=>ow af hk (by rw[cj];exact nU h)
 have a0:Hid (∀r (hr:r<R[i].h.length),R[i].h[r].num=o.n->(∀j (hj:j<R[i].h.length),j<r->R[i].h[j].num≠o.n)->aE st o=(bP st o.key r,⟨0,0,⟨#[]⟩⟩)):=λr hr h1 h2=>tW af hk (by rw[cj];exact nV hr h1 h2)
 have cp:=af;clear d c bi hk hv ar bn x0 cj;generalize aE st o=so at *;obtain⟨kind,cd,c6,eQ,c7,nn,ej⟩:=o;simp only at cp be cr a5 a0;subst cp;have hii:(i:wd)<(R.length:wd):=by omega
 unfold cy aJ;go_enter (Yq.nq func57),ntmps57;go_wp2_with fail
 refine(jL B k _ R nx tm cd _ ((HH.o.1.alloc _).alloc _) (by omega)).m ?_;rintro e w1 ⟨rfl,⟨j,hj,bd,rfl⟩|⟨bb,-⟩⟩
 rotate_left
 .exact xb be.o (bb _ (dT hi))
 have el:=cr.o j hj bd;subst el;clear bd;have hne1:¬G=w.heap.size:=by omega
 have hne2:¬G=w.heap.size+1:=by omega
 have hne3:¬gv=w.heap.size:=by omega
 have hne4:¬gv=w.heap.size+1:=by omega
 have hne5:¬k=w.heap.size:=by omega
 have hne6:¬k=w.heap.size+1:=by omega
 go_wp2_with fail
 have⟨Wz,c5,a3⟩:=Mf w 5 cd c6 eQ c7 nn ej;rw[c5];have HW:Hid (Below w.heap.size w Wz/\kz (w.heap.size+1) Wz/\Wz.cell? ⟨w.heap.size,0,N⟩=J (I K 5)/\Wz.cell? ⟨w.heap.size,5,N⟩=J (I K nn)):=⟨a3.1,a3.2.1,a3.2.2 0,a3.2.2 5⟩;clear c5 a3
 go_loopw [8] (λs8 wr=>∃r:H,r<=R[j].h.length/\s8=I K r/\(∀t (A:t<R[j].h.length),t<r->R[j].h[t].num≠nn)/\Below Wz.heap.size Wz wr) (λs8 _=>R[j].h.length-(intOf s8).toNat)
 case atStart=>exact⟨0,PI _,rfl,λt A h=>xb h (by omega),bR _ _⟩
 case round=>
  obtain⟨r,hrm,rfl,bb,hb⟩:=hrel;have bv:Hid (∀t (A:t<R[j].h.length),t<r->R[j].h[t].num≠nn):=bb;have HB:Hid (Below w.heap.size w wr/\kz (w.heap.size+1) wr):=⟨HW.o.1.t (hb.m HW.o.1.size),HW.o.2.1.on hb⟩;have o0:=ag hb HW.o.2.2.1;have o5:=ag hb HW.o.2.2.2;have d8:Hid (Below Wz.heap.size Wz wr):=hb;clear bb hb;by_cases a9:r<R[j].h.length
  .skip
   obtain⟨gv',vcap',dd,-,z0,z1,z2⟩:=HH.o.1.MG j hj r a9;rw[HH.o.2.2]at dd;cases dd;replace z0:=ag HB.o.1 z0;replace z1:=ag HB.o.1 z1;replace z2:=ag HB.o.1 z2;have hri:(r:wd)<(R[j].h.length:wd):=by omega
   by_cases D:R[j].h[r].num=nn
   .have HS:=a0.o r a9 D bv.o;have ap:Hid (so=(bP st cd r,⟨0,0,⟨#[]⟩⟩)):=HS;have ck:(R[j].h[r].num != nn)=false:=by simp[D]
    clear HS D z1 z2;generalize R[j].h[r].num=vn at z0 ck;have hml2:R[j].h.length<=200:=by omega
    go_wp2_with fail
    go_quiet (fail)
    have hq:Below wr.heap.size wr (wr.drewN nq):=uc (bR _ _) _;have o0':=ag hq o0;have ad:Hid (Below w.heap.size w (wr.drewN nq)/\kz (w.heap.size+1) (wr.drewN nq)):=⟨HB.o.1.t (hq.m HB.o.1.size),HB.o.2.on hq⟩;clear z0 o0 o5 hq;generalize wr.drewN nq=V at *;have cl:Hid (aA B V k (M (J ⟨G,0,N⟩) R.length z) R nx tm):=HH.o.1.below ad.o.1;have d6:Hid (∀t u,(aw (R[j].h.take r))[t]?=J u->V.cell? ((⟨gv,0,N⟩:Addr).add t)=J u):=λt u A=>by
     have ho:=cl.o.MC _ (dT hj);refine ho.cells (g:=gv) (by rw[HH.o.2.2];rfl) t u ?_;have h3:aw (R[j].h.take r)=(aw R[j].h).take (r*3):=(iq 3 _ (λ_=>rfl) R[j].h r).s;rw[h3]at A;rw[sq]at A;split at A
     .exact A
     .cases A
    have bq:(aw (R[j].h.take r)).length=r*3:=by rw[aw,eN 3 _ (λ_=>rfl),tL];omega
    go_upto_region 20 with(at_builtin;go_loud (refine tn _ rfl _ _ 138 rfl V.heap.size 130 i0 _ 3 32 (Yq.u underlying138) b8 bs cb b3 rfl (by decide) _ 0 [] rfl (World.ownsRow_nil _ _ _ _) ⟨gv,0,N⟩ r ab (aw (R[j].h.take r)) rfl bq d6.o (eC _) (by simp only[vf];omega) (by omega) (lR _) ?_);intro v1 w1 b4 c4 _;obtain⟨ds,dy,rfl,-⟩:=az b4)
    have ac:Hid (Below V.heap.size V w1/\w1.ownsRow V.heap.size 130 3 (M ds r dy) r (aw (R[j].h.take r))):=⟨(bR _ V).grown (row:=N) c4 (lR _) (λk e=>by cases e),by simpa using b4⟩;clear b4 c4;obtain⟨q,hq⟩:∃q,R[j].h.length=r+1+q:=⟨R[j].h.length-(r+1),by omega⟩;have c8:(aw (R[j].h.drop (r+1))).length=q*3:=by rw[aw,eN 3 _ (λ_=>rfl),lD];omega
    have c2:Hid (∀a:Addr,(a=⟨gv,(r+1)*3,N⟩\/q=0)->∀t u,(aw (R[j].h.drop (r+1)))[t]?=J u->w1.cell? (a.add t)=J u):=λa ha t u A=>by
     rcases ha with rfl|h0
     .have ho:=cl.o.MC _ (dT hj);have h3:aw (R[j].h.drop (r+1))=(aw R[j].h).drop ((r+1)*3):=(ir 3 _ (λ_=>rfl) R[j].h (r+1)).s;rw[h3,sT]at A;have:=ag ac.o.1 (ho.cells (g:=gv) (by rw[HH.o.2.2];rfl) _ u A);rw[Addr.add_lit]at this ⊢;simpa using this
     .have:aw (R[j].h.drop (r+1))=[]:=ey (by omega);rw[this]at A;simp at A
    have h200:r+1+q<=200:=by omega
    have eo:r+1+q<=ab:=by have:=ek;omega
    have dt:(R[j].h.take r++R[j].h.drop (r+1)).length=r+q:=by rw[lP,tL,lD];omega
    have b5:Hid ((R[j].h.take r++R[j].h.drop (r+1)).length=r+q):=dt;have ct:Hid ((R[j].h)[r]?≠N):=show(R[j].h)[r]?≠N by rw[eL a9];simp
    clear dt;rw[hq]at *;clear hq;have dc:Hid (∀ (v2:Wx) (w2:Wj),w2.ownsRow V.heap.size 130 3 v2 (r+q) (aw (R[j].h.take r)++aw (R[j].h.drop (r+1)))->w1.grownBy w2 (Pi ds r dy).ownBlock->Below V.heap.size V w2/\w2.ownsRow V.heap.size 130 3 v2 (r+q) (aw (R[j].h.take r++R[j].h.drop (r+1)))):=λv2 w2 aj a7=>⟨ac.o.1.grown a7 ac.o.1.size (λk e=>(ac.o.2.lt k e).1),by
     have:aw (R[j].h.take r++R[j].h.drop (r+1))=aw (R[j].h.take r)++aw (R[j].h.drop (r+1)):=by simp[aw]
     rw[this];exact aj⟩
    go_cut [9] (λs9 wx=>∃y l,s9=M y (r+q) l/\Below V.heap.size V wx/\wx.ownsRow V.heap.size 130 3 (M y (r+q) l) (r+q) (aw (R[j].h.take r++R[j].h.drop (r+1))))
    case first=>
     by_cases bw:ab=r+1
     .have eg:q=0:=by have:=eo;omega
      subst eg;subst bw;go_wp2_with (at_builtin;go_loud (refine tn _ rfl _ _ 138 rfl V.heap.size 130 i0 _ 3 32 (Yq.u underlying138) b8 bs cb b3 rfl (by decide) _ r _ rfl ac.o.2 ⟨gv,0,N⟩ 0 0 (aw (R[j].h.drop (r+1))) rfl c8 (c2.o _ (yz rfl)) (eC _) (by simp only[vf];omega) (by omega) ac.o.1.size ?_);intro v2 w2 aj a7 _;obtain⟨y,l,rfl,-⟩:=az aj)
      go_meet
      case rel=>exact⟨y,l,rfl,dc.o _ _ aj a7⟩
     .go_wp2_with (at_builtin;refine tn _ rfl _ _ 138 rfl V.heap.size 130 i0 _ 3 32 (Yq.u underlying138) b8 bs cb b3 rfl (by decide) _ r _ rfl ac.o.2 ⟨gv,(r+1)*3,N⟩ q (ab-(r+1)) (aw (R[j].h.drop (r+1))) rfl c8 (c2.o _ (NE rfl)) (eC _) (by simp only[vf];omega) (by omega) ac.o.1.size ?_;intro v2 w2 aj a7 _;obtain⟨y,l,rfl,-⟩:=az aj)
      go_meet
      case rel=>exact⟨y,l,rfl,dc.o _ _ aj a7⟩
    case rest=>
    obtain⟨y,l,rfl,av,b9⟩:=hcut;have a2:Below w.heap.size w wc:=ad.o.1.t (av.m ad.o.1.size);have HC:Hid (Below w.heap.size w wc/\Below V.heap.size V wc/\wc.ownsRow V.heap.size 130 3 (M y (r+q) l) (r+q) (aw (R[j].h.take r++R[j].h.drop (r+1)))/\aA B wc k (M (J ⟨G,0,N⟩) R.length z) R nx tm/\kz (w.heap.size+1) wc):=⟨a2,av,b9,HH.o.1.below a2,ad.o.2.on av⟩;have c0':=ag a2 c0;have x1':=ag a2 x1;have f1':=HC.o.2.2.2.1.row.frozenAt (j*2+1);have cv:=KA (v':=M y (r+q) l) (h':=R[j].h.take r++R[j].h.drop (r+1)) hj HH.o.2.1 HH.o.1 cl.o ad.o.1 av (by rw[b5.o];exact b9) (ad.o.2.on av) ad.o.2.lt (lT hB ad.o.1.size);have HD:Hid (aA B (wc.setCell ⟨G,j*2+1,N⟩ (M y (r+q) l)) k (M (J ⟨G,0,N⟩) R.length z) (R.set j ⟨R[j].key,R[j].h.take r++R[j].h.drop (r+1),M y (r+q) l⟩) nx tm/\bm w (wc.setCell ⟨G,j*2+1,N⟩ (M y (r+q) l)) k (M (J ⟨G,0,N⟩) R.length z) R (M (J ⟨G,0,N⟩) R.length z) (R.set j ⟨R[j].key,R[j].h.take r++R[j].h.drop (r+1),M y (r+q) l⟩)/\kz (w.heap.size+1) (wc.setCell ⟨G,j*2+1,N⟩ (M y (r+q) l)) /\
     (Pi (J ⟨G,0,N⟩) R.length z).ownBlock≠J (w.heap.size+1)/\(∀e∈R.set j ⟨R[j].key,R[j].h.take r++R[j].h.drop (r+1),M y (r+q) l⟩,e.v.ownBlock≠J (w.heap.size+1))):=cv
    clear a2 av b9 cv
    go_upto_region 22 with fail
    generalize wc.setCell ⟨G,j*2+1,N⟩ (M y (r+q) l)=P at *;have⟨d0,d1,d2,d3,d4,T⟩:=HD.o.2.2.1;have g0:=T 0;have g1:=T 1;have g2:=T 2;have g3:=T 3;have g4:=T 4;clear T;by_cases hz:r+q=0
    .have en:((r:wd)+(q:wd)==0)=true:=by simp;omega
     have e0:=HD.o.1.cells.c0;have e1:=HD.o.1.cells.fz 0;have b0:=HD.o.1.lt;have ai:Hid (aA B P k (M (J ⟨G,0,N⟩) R.length z) (R.set j ⟨R[j].key,R[j].h.take r++R[j].h.drop (r+1),M y (r+q) l⟩) nx tm):=HD.o.1;obtain⟨R1,bk⟩:∃R1,R1=R.set j ⟨R[j].key,R[j].h.take r++R[j].h.drop (r+1),M y (r+q) l⟩:=⟨_,rfl⟩;rw[<-bk]at ai;have bl:Hid (R1=R.set j ⟨R[j].key,R[j].h.take r++R[j].h.drop (r+1),M y (r+q) l⟩):=bk;have bq:(aB (R1.take j)).length=j*2:=by rw[jK,tL,bk,lj];omega
     clear bk;have eq:Hid (∀t u,(aB (R1.take j))[t]?=J u->P.cell? ((⟨G,0,N⟩:Addr).add t)=J u):=λt u A=>by
      refine ai.o.row.cells (g:=G) rfl t u ?_;have h3:aB (R1.take j)=(aB R1).take (j*2):=(iq 2 _ (λ_=>rfl) R1 j).s;rw[h3,sq]at A;split at A
      .exact A
      .cases A
     have d7:Hid (∀u∈aB (R1.take j),u.oneCell'=Y):=nW ai.o _ (λe he=>g6 he);have⟨t0,b7,bt,ch,b6⟩:=vx Yq.Nw;have hec:R.length<=z:=by obtain⟨_,_,he,-,-,h⟩:=cq HH.o.1.row (by omega);cases he;exact h
     go_upto_region 25 with(at_builtin;go_loud (refine tn _ rfl _ _ 49 rfl P.heap.size 140 t0 _ 2 40 (Yq.u underlying49) b7 bt ch b6 rfl (by decide) _ 0 [] rfl (World.ownsRow_nil _ _ _ _) ⟨G,0,N⟩ j z (aB (R1.take j)) rfl bq eq.o d7.o (by simp only[vf];omega) (by omega) (lR _) ?_);intro v3 w3 ca c1 _;obtain⟨c9,cm,rfl,-⟩:=az ca)
     have X:Hid (Below P.heap.size P w3/\w3.ownsRow P.heap.size 140 2 (M c9 j cm) j (aB (R1.take j))):=⟨(bR _ P).grown (row:=N) c1 (lR _) (λk e=>by cases e),by simpa using ca⟩;clear ca c1;have a4:(aB (R1.drop (j+1))).length=(R.length-(j+1))*2:=by rw[jK,lD,bl.o,lj]
     have dj:Hid (∀a:Addr,(a=⟨G,(j+1)*2,N⟩\/R.length-(j+1)=0)->∀t u,(aB (R1.drop (j+1)))[t]?=J u->w3.cell? (a.add t)=J u):=λa ha t u A=>by
      rcases ha with rfl|h0
      .have h3:aB (R1.drop (j+1))=(aB R1).drop ((j+1)*2):=(ir 2 _ (λ_=>rfl) R1 (j+1)).s;rw[h3,sT]at A;have:=ag X.o.1 (ai.o.row.cells (g:=G) rfl _ u A);rw[Addr.add_lit]at this ⊢;simpa using this
      .have:aB (R1.drop (j+1))=[]:=ey (by rw[a4,h0]);rw[this]at A;simp at A
     have c3:Hid (∀u∈aB (R1.drop (j+1)),u.oneCell'=Y):=nW ai.o _ (λe he=>jp he);have e0c:=ag X.o.1 e0;have bo:Hid (∀ (v4:Wx) (w4:Wj),w4.ownsRow P.heap.size 140 2 v4 (j+(R.length-(j+1))) (aB (R1.take j)++aB (R1.drop (j+1)))->w3.grownBy w4 (Pi c9 j cm).ownBlock->Below P.heap.size P w4/\w4.ownsRow P.heap.size 140 2 v4 (j+(R.length-(j+1))) (aB (R1.take j++R1.drop (j+1)))):=λv4 w4 al a6=>⟨X.o.1.grown a6 X.o.1.size (λk e=>(X.o.2.lt k e).1),by
      have:aB (R1.take j++R1.drop (j+1))=aB (R1.take j)++aB (R1.drop (j+1)):=by simp[aB]
      rw[this];exact al⟩
     go_cut [10] (λs10 wx=>∃F L,s10=M F (j+(R.length-(j+1))) L/\Below P.heap.size P wx/\wx.ownsRow P.heap.size 140 2 (M F (j+(R.length-(j+1))) L) (j+(R.length-(j+1))) (aB (R1.take j++R1.drop (j+1))))
     case first=>
      have hjl:j+1<=R.length:=hj;by_cases bw:z=j+1
      .have bx:Hid (R.length-(j+1)=0):=show R.length-(j+1)=0 by omega
       subst bw;have d5:(aB (R1.drop (j+1))).length=0*2:=by rw[a4,bx.o]
       go_wp2_with (at_builtin;go_loud (refine tn _ rfl _ _ 49 rfl P.heap.size 140 t0 _ 2 40 (Yq.u underlying49) b7 bt ch b6 rfl (by decide) _ j _ rfl X.o.2 ⟨G,0,N⟩ 0 0 (aB (R1.drop (j+1))) rfl d5 (dj.o _ (yz bx.o)) c3.o (by simp only[vf];omega) (by omega) X.o.1.size ?_);intro v4 w4 al a6 _;obtain⟨F,L,rfl,-⟩:=az al)
       go_meet
       case rel=>
        have cc:j+(R.length-(j+1))=j:=by rw[bx.o];rfl
        have h4:=bo.o (M F j L) _ (by rw[cc];exact al) a6;rw[cc]at h4;rw[cc];exact⟨F,L,rfl,h4⟩
      .go_wp2_with (at_builtin;go_loud (refine tn _ rfl _ _ 49 rfl P.heap.size 140 t0 _ 2 40 (Yq.u underlying49) b7 bt ch b6 rfl (by decide) _ j _ rfl X.o.2 ⟨G,(j+1)*2,N⟩ (R.length-(j+1)) (z-(j+1)) (aB (R1.drop (j+1))) rfl a4 (dj.o _ (NE rfl)) c3.o (by simp only[vf];omega) (by omega) X.o.1.size ?_);intro v4 w4 al a6 _;obtain⟨F,L,rfl,-⟩:=az al)
       go_meet
       case rel=>exact⟨F,L,rfl,bo.o _ _ al a6⟩
     case rest=>
     obtain⟨F,L,rfl,a1,df⟩:=hcut;have e0x:=ag a1 e0;have e1x:=(a1.frozen (p:=⟨k,0,N⟩) b0).t e1;have⟨d0,d1,d2,d3,d4,T⟩:=HD.o.2.2.1.on a1;have g0:=T 0;have g1:=T 1;have g2:=T 2;have g3:=T 3;have g4:=T 4;have hk1:¬k=w.heap.size+1:=by omega
     have hk2:¬w.heap.size+1=k:=by omega
     have HZ:Hid (Below P.heap.size P wc/\wc.ownsRow P.heap.size 140 2 (M F (j+(R.length-(j+1))) L) (j+(R.length-(j+1))) (aB (R1.take j++R1.drop (j+1)))):=⟨a1,df⟩;clear T a1 df;go_wp2;refine tb (v:=aG ⟨0,0,⟨#[]⟩⟩) (by simp[results,results57,go_sem,aG,d0,d1,d2,d3,d4]) rfl ⟨by rw[ap.o],?_⟩;have⟨P1,P3,P4,P7,P8⟩:=HD.o;have hlt4:=P4.lt;have hwd:=P3.size;have b1:R1.take j++R1.drop (j+1)=R.take j++R.drop (j+1):=by rw[bl.o,H9 R j hj,Ia R j hj]
     have da:∀e∈R1.take j++R1.drop (j+1),e∈R1:=λe he=>by
      rcases eW.1 he with h|h
      .exact g6 h
      .exact jp h
     have aa:∀e∈R1.take j++R1.drop (j+1),e∈R:=λe he=>by
      rw[b1]at he;rcases eW.1 he with h|h
      .exact g6 h
      .exact jp h
     have bp:=ai.o.O8 (R':=R1.take j++R1.drop (j+1)) HZ.o.1 (by
       have hl:(R1.take j++R1.drop (j+1)).length=j+(R.length-(j+1)):=by rw[b1,lP,tL,lD];omega
       rw[hl];exact HZ.o.2) (by omega) da (by rw[<-List.eraseIdx_eq_take_drop_succ];exact ai.o.pw.sublist (List.eraseIdx_sublist _ _))
      (λe he=>oO (HH.o.1.MC e (aa e he)) (eV.2 (HH.o.2.1.full e (aa e he))))
     have a8:=km (wc.setCell ⟨k,0,N⟩ (M F (j+(R.length-(j+1))) L)) (w.heap.size+1) (I K 0) (I K 0) (U ⟨#[]⟩) (M N 0 0) (U ⟨#[]⟩);have ef:k<wc.heap.size:=lL b0 HZ.o.1.size;refine⟨_,_,nx,bp.grown a8 (by simp;omega) (yz (λe=>by have:=(HZ.o.2.lt _ e).1;omega)) (λe he=>yz (λh=>by have:=((HH.o.1.MC e (aa e he)).lt _ h).2;omega)),?_,((rV (P3.below HZ.o.1 b0) _ ef).step a8 (λb hb e=>by cases e;omega) bp.lt (by simp;omega)).put λb hb h=>h.elim (λh=>by have:=(HZ.o.2.lt b h).1;omega) λ⟨x,hx,h⟩=>Qd ⟨x,aa x hx,h⟩⟩;rw[ap.o,b1];exact HH.o.2.1.dropLast hj be.o (PA (λh=>ct.o (nF h))) (ey (by rw[b5.o];exact hz))
    .have en:((r:wd)+(q:wd)==0)=false:=by simp;omega
     go_wp2;refine tb (v:=aG ⟨0,0,⟨#[]⟩⟩) (by simp[results,results57,go_sem,aG,d0,d1,d2,d3,d4]) rfl ⟨by rw[ap.o],?_⟩;have a8:=km P (w.heap.size+1) (I K 0) (I K 0) (U ⟨#[]⟩) (M N 0 0) (U ⟨#[]⟩);obtain⟨P1,P3,-,P7,P8⟩:=HD.o;refine⟨_,_,nx,P1.grown a8 (by simp;omega) (yz P7) (λe he=>yz (P8 e he)),?_,P3.step a8 (λb hb e=>by cases e;omega) P1.lt (by simp;omega)⟩;rw[ap.o];exact HH.o.2.1.Om hj be.o (PA (λh=>ct.o (nF h))) _ (λe=>by have:=b5.o;rw[e]at this;simp at this;omega)
   .have ck:(R[j].h[r].num != nn)=true:=by simp[D]
    have ea:Hid (R[j].h[r].num≠nn):=D;generalize R[j].h[r].num=vn at z0 ck D;clear z1 z2 D;go_wp2_with fail
    go_quiet (fail)
    go_wp2_with fail
    refine⟨⟨r+1,a9,by go_num,λt A hlt=>?_,uc d8.o _⟩,by simp[intOf];omega⟩;rcases PB t r with h1|h1
    .exact bv.o t A h1
    .have:t=r:=by omega
     subst this;exact ea.o
  .have es:r=R[j].h.length:=by omega
   subst es;have ap:Hid (so=(st,⟨5,0,⟨#[]⟩⟩)):=a5.o (λt A=>bv.o t A A);go_wp2_with fail
   refine(fk 5 _).m ?_;rintro e w2 ⟨rfl,b2⟩;have ei:Hid (Below w.heap.size w w2):=HB.o.1.t (b2.m HB.o.1.size);have⟨d0,d1,d2,d3,d4,T⟩:=HB.o.2.on b2;have g0:=T 0;have g1:=T 1;have g2:=T 2;have g3:=T 3;have g4:=T 4;clear b2 T;unfold aG;go_wp2;refine tb (v:=aG ⟨5,0,⟨#[]⟩⟩) (by simp[results,results57,go_sem,aG,d0,d1,d2,d3,d4]) rfl ⟨by rw[ap.o],?_⟩;have hb:=dS ei.o (x:=w.heap.size+1) (by omega) (I K 5) (I K 0) (U ⟨#[]⟩) (M N 0 0) (U ⟨#[]⟩);exact⟨_,R,nx,HH.o.1.below hb,by rw[ap.o];exact HH.o.2.1,bX er hb _ _⟩
end
