/- A part. -/
import Derived.Test.YthnlbojplkflaaaGreatDoorQP12
set_option maxHeartbeats 4000000
set_option maxRecDepth 100000
open List renaming getElem_mem->dT,eq_nil_of_length_eq_zero->ey,length_pos_iff->eV,mem_append->eW,set_eq_take_append_cons_drop->gI,pairwise_append->gL,mem_of_mem_take->kr,mem_of_mem_drop->lj,pairwise_iff_getElem->lk,length_set->nF,mem_append_right->n8,getElem?_eq_none->pt,mem_append_left->sq,mem_singleton->sT,getElem?_take->tb,getElem?_drop->tn,getElem_set->uc
open Go renaming bodyPost_ret->vf,wpList_append_own->vx,below_drewN->wz,maxLen->xb,info_parts->xc
open _root_ renaming Int->xt,ByteArray->xv,absurd->yz,of_decide_eq_true->Rj,if_pos->Rk,if_neg->Rl
open Or renaming inr->Rm,inl->Rn
open Go.Value renaming slice->Ro
open Go renaming World->Wj,Value->Wx
namespace Go.Proofs.Qw
open _root_ renaming rfl->Q
open Go.Proofs.Yq renaming prog->Vp
open _root_ renaming Nat->H,List->S
open Option renaming none->N,some->J
open Bool renaming true->Y,false->Z
open Value renaming int->I,string->U,slice->M,pointer->O,bool->C,agg->Rd
open IntKind renaming i64->K
open Obj renaming cells->E
open Or renaming inl->Rf,inr->Rg
variable {B i k r:H}{R:S bz}{m n nx:xt}{A L a b d x:St}{o:OpD}
open Tryz
section
open Go.RowKit
theorem Nk w(c:xt)(d b h a:xv)(f e:xt):∃W,(w.alloc (E #[I K c,U d,U b,U h,U a,I K f,I K e] 37)).alloc (E #[I K 0,I K 0,U ⟨#[]⟩,M N 0 0,U ⟨#[]⟩] 53)=W/\Below w.heap.size w W/\ru (w.heap.size+1) W/\∀j,W.cell? ⟨w.heap.size,j,N⟩=(#[I K c,U d,U b,U h,U a,I K f,I K e]:Array Wx)[j]?:=by
 refine⟨_,Q,((bR _ w).alloc Q0 _).alloc (by simp) _,JN _ (w.heap.size+1) (by simp) 53,λj=>?_⟩;rw[cB (Rb (by simp))];exact cA (w:=w) _ _ w.heap.size j Q
theorem aD.NP{w:Wj}{f:Wx}(h:aD B w k f R m n)(i:H)(l:i<R.length)(r:H)(c:r<R[i].h.length):
  ∃g a,R[i].v=M (J ⟨g,0,N⟩) R[i].h.length a/\g<w.heap.size/\w.cell? ⟨g,r*3,N⟩=J (I K R[i].h[r].num)/\w.cell? ⟨g,r*3+1,N⟩=J (U R[i].h[r].body)/\w.cell? ⟨g,r*3+2,N⟩=J (C R[i].h[r].mark):=by
 have b:=h.NL _ (dT l);have⟨g,a,d,h1,j,h3⟩:=bm b (by omega);rw[d]at b;refine⟨g,a,d,j,?_,?_,?_⟩;have:=b.cellAt (r*3+0) (by omega);rw[aA,bL 3 _ (λ_=>Q) R[i].h r 0 c (by omega)]at this;simpa using this;have:=b.cellAt (r*3+1) (by omega);rw[aA,bL 3 _ (λ_=>Q) R[i].h r 1 c (by omega)]at this;simpa using this;have:=b.cellAt (r*3+2) (by omega);rw[aA,bL 3 _ (λ_=>Q) R[i].h r 2 c (by omega)]at this;simpa using this
theorem Sim.missing(a:Sim d R m){b:xv}(c:∀x∈R,x.key≠b):d.f b.data.toList=[]:=
 a.gone _ (λe i h=>c e i (kg h))
theorem FO(a:o.kind=2\/o.kind=3\/o.kind=5)(d:aV o.key=Y)(c:b.f o.key.data.toList=[]):aE b o=(b,⟨5,0,⟨#[]⟩⟩):=by
 rcases a with h|h|h<;>simp[aE,h,d,c,dk]
theorem FP B k q R(r z:xt)y o w(b:aD B w k q R r z)(a:Sim y R r)(c:o.kind=2\/o.kind=3\/o.kind=5)(L:aV o.key=Y)(d:∀x∈R,x.key≠o.key):
  Calls Vp 61 #[O (J ⟨k,0,N⟩),aL o] w (cP B k (aE y o).1 (aE y o).2 w q R z):=by
 have hlen:=ie R a.full;have hlim:=a.NW;have s:=b.lt;rw[FO c L (a.missing d)];have HH:=bJ b a;have l:=aq d;clear b a d L c;obtain⟨p,h,j,fe,n,nn,A⟩:=o;simp only at l;unfold cP aL;go_enter (Yq.nq func61),ntmps61;go_wp2_with fail
 refine(j9 B k q R r z h _ ((HH.o.1.alloc _).alloc _) (by omega)).m ?_;rintro e w1 ⟨rfl,⟨i,X,D,-⟩|⟨-,rfl⟩⟩;exact yz D (l.o _ (dT X));go_wp2_with fail
 refine(fx 5 _).m ?_;rintro e w2 ⟨rfl,u⟩;have G:Below w.heap.size w w2:=(((bR _ w).alloc Q0 _).alloc (by simp) _).t (u.m (by simp;omega));have HB:=aq G;have⟨T,d1,P,V,d4,f⟩:=(JN (w.alloc (E #[I K p,U h,U j,U fe,U n,I K nn,I K A] 37)) (w.heap.size+1) (by simp) 53).on u;have g0:=f 0;have g1:=f 1;have g2:=f 2;have g3:=f 3;have g4:=f 4;clear G u f;unfold aG;go_wp2;refine vf (v:=aG ⟨5,0,⟨#[]⟩⟩) (by simp[results,results61,go_sem,aG,T,d1,P,V,d4]) Q ⟨Q,?_⟩;have F:=dZ HB.o (x:=w.heap.size+1) (by omega) (I K 5) (I K 0) (U ⟨#[]⟩) (M N 0 0) (U ⟨#[]⟩);exact⟨q,R,r,HH.o.1.below F,HH.o.2,cw s F _ _⟩
theorem zC h v(a:o.kind=2)(d:aV o.key=Y)(e:b.f o.key.data.toList=h)(i:h.getLast?=J v):aE b o=(b,if v.mark then⟨5,0,⟨#[]⟩⟩else⟨0,v.num,v.body⟩):=by
 cases c:v.mark<;>simp[aE,a,d,e,i,c]
theorem I4(B k:H)(sl:Wx)(R:S bz)(V tm:xt)(st:St)(o:OpD)(w:Wj)(b:aD B w k sl R V tm)(a:Sim st R V)(c:o.kind=2)(hk:aV o.key=Y)(i:H)(y:i<R.length)(n:R[i].key=o.key):
  Calls Vp 61 #[O (J ⟨k,0,N⟩),aL o] w (cP B k (aE st o).1 (aE st o).2 w sl R tm):=by
 have hlen:=ie R a.full;have hlim:=a.NW;have D:=b.lt;have f:R[i]∈R:=dT y;have A:=a.full _ f;have L:=eV.2 A;have ac:=sP R i y;have d:R[i].h.getLast?=J (R[i].h[R[i].h.length-1]):=by rw[List.getLast?_eq_getElem?,eL (by omega)]
 rw[zC R[i].h _ c hk (by rw[<-n];exact a.here _ f) d];have⟨gv,vcap,hv,hgl,z0,z1,z2⟩:=b.NP i y (R[i].h.length-1) (by omega);obtain⟨ge,ecap,rfl,-,hgel,x0,x1⟩:=b.Pc i y;rw[hv]at x1;have c0:=b.cells.c0;have HH:=bJ b a;have P:=aq n;have z:Hid (∀j (X:j<R.length),R[j].key=o.key->j=i):=λj X l=>by
  by_cases h:j=i
  exact h;exact yz (l.t n.s) (a.other y X h)
 generalize R[i].h[R[i].h.length-1]=v at *;obtain⟨vn,vb,vm⟩:=v;simp only at z0 z1 z2;obtain⟨m,hm⟩:∃m,R[i].h.length=m+1:=⟨R[i].h.length-1,by omega⟩;rw[hm,Nat.add_sub_cancel]at z0 z1 z2;rw[hm]at x1 ac;have G:=c;clear b a n hk hv d f A L x0 hm;obtain⟨kind,r,p,fe,q,nn,T⟩:=o;simp only at G P z;subst G;have hii:(i:xt)<(R.length:xt):=by omega
 unfold cP aL;go_enter (Yq.nq func61),ntmps61;go_wp2_with fail
 refine(j9 B k _ R V tm r _ ((HH.o.1.alloc _).alloc _) (by omega)).m ?_;rintro e w1 ⟨rfl,⟨j,X,l,rfl⟩|⟨aa,-⟩⟩
 rotate_left
 exact yz P.o (aa _ (dT y));have ab:=z.o j X l;subst ab;clear l;have hne1:¬ge=w.heap.size:=by omega
 have hne2:¬ge=w.heap.size+1:=by omega
 have hne3:¬gv=w.heap.size:=by omega
 have hne4:¬gv=w.heap.size+1:=by omega
 have hne5:¬k=w.heap.size:=by omega
 have hne6:¬k=w.heap.size+1:=by omega
 cases vm with
 |true=>
  go_wp2_with fail
  refine(fx 5 _).m ?_;rintro e w2 ⟨rfl,b2⟩;have b3:Below w.heap.size w w2:=((((bR _ w).alloc Q0 _).alloc (by simp) _).alloc (by simp;omega) _).t (b2.m (by simp;omega));have HB:=aq b3;obtain⟨d0,d1,d2,d3,d4,u⟩:=((JN (w.alloc (E #[I K 2,U r,U p,U fe,U q,I K nn,I K T] 37)) (w.heap.size+1) (by simp) 53).on ((Q9).alloc Q0 _)).on b2;have g0:=u 0;have g1:=u 1;have g2:=u 2;have g3:=u 3;have g4:=u 4;clear b3 b2 u;unfold aG;go_wp2;refine vf (v:=aG ⟨5,0,⟨#[]⟩⟩) (by simp[results,results61,go_sem,aG,d0,d1,d2,d3,d4]) Q ⟨Q,?_⟩;have F:=dZ HB.o (x:=w.heap.size+1) (by omega) (I K 5) (I K 0) (U ⟨#[]⟩) (M N 0 0) (U ⟨#[]⟩);exact⟨_,R,V,HH.o.1.below F,HH.o.2,cw D F _ _⟩
 |false=>
  go_wp2;refine vf (v:=aG ⟨0,vn,vb⟩) (by simp[results,results61,go_sem,aG]) Q ⟨Q,?_⟩;have F:Below w.heap.size w (((w.alloc (E #[I K 2,U r,U p,U fe,U q,I K nn,I K T] 37)).alloc (E #[I K 0,I K vn,U vb,M N 0 0,U ⟨#[]⟩] 53)).alloc (E #[I K vn,U vb,C Z] 137)):=(((bR _ w).alloc Q0 _).alloc (by simp) _).alloc (by simp;omega) _;exact⟨_,R,V,HH.o.1.below F,HH.o.2,cw D F _ _⟩
theorem rv(a:o.kind=3)(d:aV o.key=Y)(c:dk (b.f o.key.data.toList) o.n=N):aE b o=(b,⟨5,0,⟨#[]⟩⟩):=by
 simp[aE,a,d,c]
theorem xF v(a:o.kind=3)(e:aV o.key=Y)(c:dk (b.f o.key.data.toList) o.n=J r)(h:(b.f o.key.data.toList)[r]?=J v):aE b o=(b,if v.mark then⟨6,0,⟨#[]⟩⟩else⟨0,0,v.body⟩):=by
 cases d:v.mark<;>simp[aE,a,e,c,h,d]
theorem ox{h:S Ver}(hno:∀j (a:j<h.length),h[j].num≠n):dk h n=none:=by
 unfold dk;rw[List.findIdx?_eq_none_iff];intro x b;obtain⟨j,a,rfl⟩:=gM b
 grind
theorem oy{h:S Ver}(hr:r<h.length)(hn:h[r].num=n)(hno:∀j (hj:j<h.length),j<r->h[j].num≠n):dk h n=J r:=by
 unfold dk;rw[List.findIdx?_eq_some_iff_getElem]
 grind
theorem FQ(B k:H)(sl:Wx)(R:S bz)(nx tm:xt)(F:St)(o:OpD)(w:Wj)(b:aD B w k sl R nx tm)(a:Sim F R nx)(p:o.kind=3)(hk:aV o.key=Y)(i:H)(hi:i<R.length)(P:R[i].key=o.key):
  Calls Vp 61 #[O (J ⟨k,0,N⟩),aL o] w (cP B k (aE F o).1 (aE F o).2 w sl R tm):=by
 have hlen:=ie R a.full;have hlim:=a.NW;have ab:=b.lt;have D:R[i]∈R:=dT hi;have V:=eV.2 (a.full _ D);have hml:=sP R i hi;have T:F.f o.key.data.toList=R[i].h:=by rw[<-P];exact a.here _ D
 obtain⟨gv,vcap,hv,hgl,-⟩:=b.NP i hi 0 V;obtain⟨ge,ecap,rfl,-,hgel,x0,x1⟩:=b.Pc i hi;rw[hv]at x1;have c0:=b.cells.c0;have HH:=eM b a hv;have a0:=aq P;have ap:Hid (∀j (X:j<R.length),R[j].key=o.key->j=i):=λj X L=>by
  by_cases h:j=i
  exact h;exact yz (L.t P.s) (a.other hi X h)
 have z:Hid ((∀j (X:j<R[i].h.length),R[i].h[j].num≠o.n)->aE F o=(F,⟨5,0,⟨#[]⟩⟩)):=λh=>rv p hk (by rw[T];exact ox h)
 have y:Hid (∀r (hr:r<R[i].h.length),R[i].h[r].num=o.n->(∀j (X:j<R[i].h.length),j<r->R[i].h[j].num≠o.n)->aE F o=(F,if R[i].h[r].mark then⟨6,0,⟨#[]⟩⟩else⟨0,0,R[i].h[r].body⟩)):=λr hr h1 h2=>xF _ p hk (by rw[T];exact oy hr h1 h2) (by rw[T,eL hr])
 have aj:=p;clear b a P hk hv D V x0 T;generalize aE F o=so at *;obtain⟨kind,av,ai,fe,al,nn,a5⟩:=o;simp only at aj a0 ap z y;subst aj;have hii:(i:xt)<(R.length:xt):=by omega
 unfold cP aL;go_enter (Yq.nq func61),ntmps61;go_wp2_with fail
 refine(j9 B k _ R nx tm av _ ((HH.o.1.alloc _).alloc _) (by omega)).m ?_;rintro e w1 ⟨rfl,⟨j,X,L,rfl⟩|⟨G,-⟩⟩
 rotate_left
 exact yz a0.o (G _ (dT hi));have a2:=ap.o j X L;subst a2;clear L;have hne1:¬ge=w.heap.size:=by omega
 have hne2:¬ge=w.heap.size+1:=by omega
 have hne3:¬gv=w.heap.size:=by omega
 have hne4:¬gv=w.heap.size+1:=by omega
 have hne5:¬k=w.heap.size:=by omega
 have hne6:¬k=w.heap.size+1:=by omega
 go_wp2_with fail
 have⟨Wz,a1,u⟩:=Nk w 3 av ai fe al nn a5;rw[a1];have HW:=ig u.1 u.2.1 (u.2.2 0) (u.2.2 5);clear a1 u
 go_loopw [8] (λs8 wr=>∃r:H,r<=R[j].h.length/\s8=I K r/\(∀t (ht:t<R[j].h.length),t<r->R[j].h[t].num≠nn)/\Below Wz.heap.size Wz wr) (λs8 _=>R[j].h.length-(intOf s8).toNat)
 case atStart=>exact⟨0,Q8,Q,λt ht h=>yz h (by omega),Q9⟩
 case round=>
  obtain⟨r,hrm,rfl,G,q⟩:=hrel;have ac:=aq G;have HB:=bJ (HW.o.1.t (q.m HW.o.1.size)) (HW.o.2.1.on q);have o0:=ag q HW.o.2.2.1;have o5:=ag q HW.o.2.2.2;have a3:=aq q;clear G q;by_cases aa:r<R[j].h.length
  obtain⟨gv',vcap',ar,-,z0,z1,z2⟩:=HH.o.1.NP j X r aa;rw[HH.o.2.2]at ar;cases ar;replace z0:=ag HB.o.1 z0;replace z1:=ag HB.o.1 z1;replace z2:=ag HB.o.1 z2;have hri:(r:xt)<(R[j].h.length:xt):=by omega
  by_cases c:R[j].h[r].num=nn
  have HS:=y.o r aa c ac.o;have l:=aq HS;have af:(R[j].h[r].num != nn)=false:=by simp[c]
  clear HS c;generalize R[j].h[r]=v at *;obtain⟨vn,vb,vm⟩:=v;simp only at z0 z1 z2 af l;go_wp2_with fail
  go_quiet (fail)
  have hq:Below wr.heap.size wr (wr.drewN nq):=wz Q9 _;have z1':=ag hq z1;have z2':=ag hq z2;have o0':=ag hq o0;have A:=bJ (HB.o.1.t (hq.m HB.o.1.size)) (HB.o.2.on hq);clear z0 z1 z2 o0 o5 hq;generalize wr.drewN nq=wq at *;cases vm with
  |true=>
   go_wp2_with fail
   refine(fx 6 _).m ?_;rintro e w2 ⟨rfl,b2⟩;have ad:=aq (A.o.1.t (b2.m A.o.1.size));have⟨d0,d1,d2,d3,d4,d⟩:=A.o.2.on b2;have g0:=d 0;have g1:=d 1;have g2:=d 2;have g3:=d 3;have g4:=d 4;clear b2 d;unfold aG;go_wp2;refine vf (v:=aG ⟨6,0,⟨#[]⟩⟩) (by simp[results,results61,go_sem,aG,d0,d1,d2,d3,d4]) Q ⟨by rw[l.o];rfl,?_⟩;have q:=dZ ad.o (x:=w.heap.size+1) (by omega) (I K 6) (I K 0) (U ⟨#[]⟩) (M N 0 0) (U ⟨#[]⟩);exact⟨_,R,nx,HH.o.1.below q,by rw[l.o];exact HH.o.2.1,cw ab q _ _⟩
  |false=>
   have⟨d0,d1,d2,d3,d4,d⟩:=A.o.2;have g0:=d 0;have g1:=d 1;have g2:=d 2;have g3:=d 3;have g4:=d 4;clear d;go_wp2;refine vf (v:=aG ⟨0,0,vb⟩) (by simp[results,results61,go_sem,aG,d0,d1,d2,d3,d4]) Q ⟨by rw[l.o];rfl,?_⟩;have q:=dZ A.o.1 (x:=w.heap.size+1) (by omega) (I K 0) (I K 0) (U vb) (M N 0 0) (U ⟨#[]⟩);exact⟨_,R,nx,HH.o.1.below q,by rw[l.o];exact HH.o.2.1,cw ab q _ _⟩
  have af:(R[j].h[r].num != nn)=true:=by simp[c]
  have a4:=aq c;generalize R[j].h[r].num=vn at z0 af c;clear z1 z2 c;go_wp2_with fail
  go_quiet (fail)
  go_wp2_with fail
  refine⟨⟨r+1,aa,by go_num,λt ht hlt=>?_,wz a3.o _⟩,by simp[intOf];omega⟩;rcases Nat.lt_or_ge t r with h1|h1;exact ac.o t ht h1;have:t=r:=by omega
  subst this;exact a4.o;have a6:r=R[j].h.length:=by omega
  subst a6;have l:Hid (so=(F,⟨5,0,⟨#[]⟩⟩)):=z.o (λt ht=>ac.o t ht ht);go_wp2_with fail
  refine(fx 5 _).m ?_;rintro e w2 ⟨rfl,b2⟩;have ad:Hid (Below w.heap.size w w2):=HB.o.1.t (b2.m HB.o.1.size);have⟨d0,d1,d2,d3,d4,d⟩:=HB.o.2.on b2;have g0:=d 0;have g1:=d 1;have g2:=d 2;have g3:=d 3;have g4:=d 4;clear b2 d;unfold aG;go_wp2;refine vf (v:=aG ⟨5,0,⟨#[]⟩⟩) (by simp[results,results61,go_sem,aG,d0,d1,d2,d3,d4]) Q ⟨by rw[l.o],?_⟩;have q:=dZ ad.o (x:=w.heap.size+1) (by omega) (I K 5) (I K 0) (U ⟨#[]⟩) (M N 0 0) (U ⟨#[]⟩);exact⟨_,R,nx,HH.o.1.below q,by rw[l.o];exact HH.o.2.1,cw ab q _ _⟩
theorem oT(a:o.kind=5)(d:aV o.key=Y)(c:dk (b.f o.key.data.toList) o.n=N):aE b o=(b,⟨5,0,⟨#[]⟩⟩):=by
 simp[aE,a,d,c]
theorem uC(a:o.kind=5)(d:aV o.key=Y)(c:dk (b.f o.key.data.toList) o.n=J r):aE b o=(cg b o.key r,⟨0,0,⟨#[]⟩⟩):=by
 simp[aE,a,d,c]
theorem Sim.Pr(c:Sim A R nx)(m:i<R.length){n:xv}(p:R[i].key=n)(hr:r<R[i].h.length)(v:Wx)(d:R[i].h.take r++R[i].h.drop (r+1)≠[]):Sim (cg A n r) (R.set i ⟨R[i].key,R[i].h.take r++R[i].h.drop (r+1),v⟩) nx:=by
 subst p;have D:=A9 R i m ⟨R[i].key,R[i].h.take r++R[i].h.drop (r+1),v⟩;simp at D;have hcnt:=c.count;have hlim:=c.NW;refine⟨c.next,?_,?_,?_,?_,?_,by omega⟩;intro e o;rcases ke o with rfl|⟨j,l,-,rfl⟩;exact d;exact c.full _ (dT l);rw[lk];intro a b t z y;rw[nF]at t z;rw[uc,uc];by_cases u:i=a
 rw[Rk u,Rl (by omega)];exactλe=>c.other m z (by omega) e.s
 rw[Rl u];by_cases q:i=b
 rw[Rk q];exact c.other m t (by omega);rw[Rl q];have B:=c.keys;rw[lk]at B;exact B a b t z y;intro e o;rcases ke o with rfl|⟨j,l,f,rfl⟩;simp[cg,upd,c.here _ (dT m)];have d:R[j].key.data.toList≠R[i].key.data.toList:=λe=>c.other m l f (kg e)
 simp[cg,upd,d,c.here _ (dT l)];intro k p;have u:=p _ (sK (x:=⟨R[i].key,R[i].h.take r++R[i].h.drop (r+1),v⟩) m);have q:=c.gone k (λe o=>by
  obtain⟨j,l,rfl⟩:=gM o;by_cases f:j=i
  grind
  exact p _ (sM l f))
 simp[cg,upd]
 grind
 show A.count-1=_;omega
theorem Sim.dropLast(c:Sim x R nx)(D:i<R.length){o:xv}(n:R[i].key=o)(hr:r<R[i].h.length)(p:R[i].h.take r++R[i].h.drop (r+1)=[]):Sim (cg x o r) (R.take i++R.drop (i+1)) nx:=by
 subst n;have y:R=R.take i++([R[i]]++R.drop (i+1)):=by simp
 have A:(R[i].h.take r++R[i].h.drop (r+1)).length=R[i].h.length-1:=by rw[lP,tL,lD];omega
 rw[p]at A;have ht:totR R=totR (R.take i++R.drop (i+1))+1:=by
  rw[(congrArg totR y),dR,dR,dR];have:totR [R[i]]=R[i].h.length:=by simp[totR]
  grind
 have hcnt:=c.count;have hlim:=c.NW;have j:∀e∈R.take i++R.drop (i+1),e∈R:=λe d=>by
  grind
 have q:=c.keys;rw[y,gL]at q;obtain⟨v,z,u⟩:=q;have f:=gL.1 z;have t:∀e∈R.take i++R.drop (i+1),e.key≠R[i].key:=λe d=>by
  rcases eW.1 d with h|h;exact u e h R[i] (sq _ (sT.2 rfl));exactλm=>f.2.2 R[i] (sT.2 Q) e h m.s
 refine⟨c.next,λe d=>c.full e (j e d),?_,?_,?_,?_,by omega⟩;rw[gL];exact⟨v,f.2.1,λa F b B=>u a F b (n8 _ B)⟩;intro e d;have n:e.key.data.toList≠R[i].key.data.toList:=λh=>t e d (kg h)
 simp[cg,upd,n,c.here _ (j e d)];intro k n;simp[cg,upd];by_cases l:k=R[i].key.data.toList
 rw[Rk l,c.here _ (dT D)];exact p;rw[Rl l];refine c.gone k (λe d=>?_);rw[y]at d;rcases eW.1 d with h|h;exact n e (sq _ h);rcases eW.1 h with m|m;simp at m;subst m;exactλe=>l e.s
 exact n e (n8 _ m);show x.count-1=_;omega
theorem aD.Qk{w l}{x d}{R'}{t r:xt}(c:aD B w k x R t r)(u:Below w.heap.size w l)(n:l.ownsRow w.heap.size 147 2 d R'.length (aB R'))(y:B<=w.heap.size)(m:∀e∈R',e∈R)(o:R'.Pairwise (λa b=>a.v.ownBlock≠b.v.ownBlock))(h:∀e∈R',e.v.ownBlock≠N):
  aD B (l.setCell ⟨k,0,N⟩ d) k d R' t r:=by
 have hk:=c.lt;have f:=bH l k 0 d;have j:d.ownBlock≠J k:=λe=>by have:=(n.lt k e).1;omega
 have H1:=c.below u;refine⟨H1.cells.OS _,(ba n y).kept f (Rm j),λe i=>(H1.NL e (m e i)).kept f (Rm (H1.NM e (m e i))),j,λe i=>H1.NM e (m e i),?_,o⟩;intro e i q;cases p:e.v.ownBlock with
 |none=>exact h e i p
 |some b=>
  have h3:=((c.NL e (m e i)).lt b p).2;rw[p]at q;have:=(n.lt b q.s).1;omega
theorem Lw{A y:xt}{w l n:Wj}{f d j:H}{v':Wx}{h':S Ver}(P:j<R.length)(c:Sim L R y)(a:aD B w k (M (J ⟨f,0,N⟩) R.length d) R y A)(Hq:aD B l k (M (J ⟨f,0,N⟩) R.length d) R y A)
  (r:Below w.heap.size w l) (o:Below l.heap.size l n) (D:n.ownsRow l.heap.size 137 3 v' h'.length (aA h')) (RA:ru (w.heap.size+1) n) (F:w.heap.size+1<l.heap.size) (V:B<=l.heap.size):
  aD B (n.setCell ⟨f,j*2+1,N⟩ v') k (M (J ⟨f,0,N⟩) R.length d) (R.set j ⟨R[j].key,h',v'⟩) y A/\bU w (n.setCell ⟨f,j*2+1,N⟩ v') k (M (J ⟨f,0,N⟩) R.length d) R (M (J ⟨f,0,N⟩) R.length d) (R.set j ⟨R[j].key,h',v'⟩)/\ru (w.heap.size+1) (n.setCell ⟨f,j*2+1,N⟩ v') /\
   (Ro (J ⟨f,0,N⟩) R.length d).ownBlock≠J (w.heap.size+1)/\(∀e∈R.set j ⟨R[j].key,h',v'⟩,e.v.ownBlock≠J (w.heap.size+1)):=by
 have hge:=(a.row.lt f Q).2;have G:=a.lt;have q:=bH n f (j*2+1) v';have s:=r.t (o.m r.size);have z:=λb e=>(D.lt b e).1
 refine⟨Hq.QI P (aQ o N) (Rn Q) (ba D V) ?_ (λi p _=>c.full _ (dT p)),?_,RA.grown q (by simp;omega),by simp[Value.ownBlock];omega,?_⟩;cases u:v'.ownBlock with
 |none=>exact Rn Q
 |some b=>exact Rm (Rm ⟨b,Q,z b u⟩)
 refine((cw G s (M (J ⟨f,0,N⟩) R.length d) R).step q (λb _ e=>Rn e) (lL G s.size) (by simpa using(λe=>a.apart (by rw[<-e];rfl)))).put λb u h=>?_
 rcases h with h|⟨x,F,h⟩;exact Rf h;rcases ke F with rfl|⟨i,p,-,rfl⟩
 grind
 exact Rg ⟨_,dT p,h⟩;intro e T;rcases ke T with rfl|⟨i,p,-,rfl⟩
 grind
 intro u;have:=((a.NL _ (dT p)).lt _ u).2;omega
theorem I5(R:S bz)(j:H)(a:j<R.length)(x:bz):(R.set j x).take j=R.take j:=by
 rw[gI,Rk a]
 grind
theorem I6(R:S bz)(j:H)(a:j<R.length)(x:bz):(R.set j x).drop (j+1)=R.drop (j+1):=by
 rw[gI,Rk a,show R.take j++x::R.drop (j+1)=(R.take j++[x])++R.drop (j+1)by simp];exact List.drop_left' (by rw[lP,tL];simp;omega)
theorem oz{w}{h}(b:aD B w r h R m n)L(l:∀e∈L,e∈R):∀u∈aB L,u.oneCell'=true:=by
 intro u d;have⟨e,i,d⟩:=List.mem_flatMap.1 d;simp at d;rcases d with rfl|rfl;rfl;obtain⟨a,c,j,-⟩:=ao (b.NL e (l e i));rw[j];rfl
theorem CS(B k:H)(sl:Wx)(R:S bz)(nx tm:xt)(st:St)(o:OpD)(w:Wj)(d:aD B w k sl R nx tm)(c:Sim st R nx)(ac:o.kind=5)(hk:aV o.key=Y)(i:H)(hi:i<R.length)(be:R[i].key=o.key)(hB:B<=w.heap.size):
  Calls Vp 61 #[O (J ⟨k,0,N⟩),aL o] w (cP B k (aE st o).1 (aE st o).2 w sl R tm):=by
 have⟨i0,b7,bq,ca,b1⟩:=xc Yq.Oo;have hlen:=ie R c.full;have hlim:=c.NW;have en:=d.lt;have ap:R[i]∈R:=dT hi;have bl:=eV.2 (c.full _ ap);have hml:=sP R i hi;have cd:st.f o.key.data.toList=R[i].h:=by rw[<-be];exact c.here _ ap
 obtain⟨gv,al,hv,-,hgl,eg⟩:=bm (d.NL _ ap) bl;obtain⟨X,A,rfl,-,hgel,x0,x1⟩:=d.Pc i hi;rw[hv]at x1;have c0:=d.cells.c0;have HH:=eM d c hv;have bd:=aq be;have cm:Hid (∀j (hj:j<R.length),R[j].key=o.key->j=i):=λj hj bb=>by
  by_cases h:j=i
  .exact h
  .exact yz (bb.t be.s) (c.other hi hj h)
 have a4:Hid ((∀j (hj:j<R[i].h.length),R[i].h[j].num≠o.n)->aE st o=(st,⟨5,0,⟨#[]⟩⟩)):=λh=>oT ac hk (by rw[cd];exact ox h)
 have av:Hid (∀r (hr:r<R[i].h.length),R[i].h[r].num=o.n->(∀j (hj:j<R[i].h.length),j<r->R[i].h[j].num≠o.n)->aE st o=(cg st o.key r,⟨0,0,⟨#[]⟩⟩)):=λr hr h1 h2=>uC ac hk (by rw[cd];exact oy hr h1 h2)
 have cl:=ac;clear d c be hk hv ap bl x0 cd;generalize aE st o=so at *;obtain⟨kind,dc,c3,fe,c4,nn,ef⟩:=o;simp only at cl bd cm a4 av;subst cl;have hii:(i:xt)<(R.length:xt):=by omega
 unfold cP aL;go_enter (Yq.nq func61),ntmps61;go_wp2_with fail
 refine(j9 B k _ R nx tm dc _ ((HH.o.1.alloc _).alloc _) (by omega)).m ?_;rintro e w1 ⟨rfl,⟨j,hj,bb,rfl⟩|⟨a9,-⟩⟩
 rotate_left
 .exact yz bd.o (a9 _ (dT hi))
 have ei:=cm.o j hj bb;subst ei;clear bb;have hne1:¬X=w.heap.size:=by omega
 have hne2:¬X=w.heap.size+1:=by omega
 have hne3:¬gv=w.heap.size:=by omega
 have hne4:¬gv=w.heap.size+1:=by omega
 have hne5:¬k=w.heap.size:=by omega
 have hne6:¬k=w.heap.size+1:=by omega
 go_wp2_with fail
 have⟨Wz,c2,a2⟩:=Nk w 5 dc c3 fe c4 nn ef;rw[c2];have HW:=ig a2.1 a2.2.1 (a2.2.2 0) (a2.2.2 5);clear c2 a2
 go_loopw [8] (λs8 wr=>∃r:H,r<=R[j].h.length/\s8=I K r/\(∀t (z:t<R[j].h.length),t<r->R[j].h[t].num≠nn)/\Below Wz.heap.size Wz wr) (λs8 _=>R[j].h.length-(intOf s8).toNat)
 case atStart=>exact⟨0,Q8,Q,λt z h=>yz h (by omega),Q9⟩
 case round=>
  obtain⟨r,hrm,rfl,a9,hb⟩:=hrel;have bt:=aq a9;have HB:=bJ (HW.o.1.t (hb.m HW.o.1.size)) (HW.o.2.1.on hb);have o0:=ag hb HW.o.2.2.1;have o5:=ag hb HW.o.2.2.2;have d6:=aq hb;clear a9 hb;by_cases a8:r<R[j].h.length
  .skip
   obtain⟨gv',vcap',c9,-,z0,z1,z2⟩:=HH.o.1.NP j hj r a8;rw[HH.o.2.2]at c9;cases c9;replace z0:=ag HB.o.1 z0;replace z1:=ag HB.o.1 z1;replace z2:=ag HB.o.1 z2;have hri:(r:xt)<(R[j].h.length:xt):=by omega
   by_cases D:R[j].h[r].num=nn
   .have HS:=av.o r a8 D bt.o;have aj:=aq HS;have ch:(R[j].h[r].num != nn)=false:=by simp[D]
    clear HS D z1 z2;generalize R[j].h[r].num=vn at z0 ch;have hml2:R[j].h.length<=200:=by omega
    go_wp2_with fail
    go_quiet (fail)
    have hq:Below wr.heap.size wr (wr.drewN nq):=wz Q9 _;have o0':=ag hq o0;have ab:=bJ (HB.o.1.t (hq.m HB.o.1.size)) (HB.o.2.on hq);clear z0 o0 o5 hq;generalize wr.drewN nq=wq at *;have cj:=aq (HH.o.1.below ab.o.1);have dy:Hid (∀t u,(aA (R[j].h.take r))[t]?=J u->wq.cell? ((⟨gv,0,N⟩:Addr).add t)=J u):=λt u z=>by
     have ho:=cj.o.NL _ (dT hj);refine ho.cells (g:=gv) (by rw[HH.o.2.2];rfl) t u ?_;have h3:aA (R[j].h.take r)=(aA R[j].h).take (r*3):=(iN 3 _ (λ_=>Q) R[j].h r).s;rw[h3]at z;rw[tb]at z;split at z
     .exact z
     .cases z
    have bp:(aA (R[j].h.take r)).length=r*3:=by rw[aA,cF 3 _ (λ_=>Q),tL];omega
    go_upto_region 20 with(at_builtin;go_loud (refine vx _ Q _ _ 145 Q wq.heap.size 137 i0 _ 3 32 (Yq.u underlying145) b7 bq ca b1 Q (by decide) _ 0 [] Q (World.ownsRow_nil _ _ _ _) ⟨gv,0,N⟩ r al (aA (R[j].h.take r)) Q bp dy.o (eJ _) (by simp only[xb];omega) (by omega) Q0 ?_);intro v1 w1 b3 c1 _;obtain⟨df,ds,rfl,-⟩:=ao b3)
    have aa:Hid (Below wq.heap.size wq w1/\w1.ownsRow wq.heap.size 137 3 (M df r ds) r (aA (R[j].h.take r))):=⟨(bR _ wq).grown (row:=N) c1 Q0 (λk e=>by cases e),by simpa using b3⟩;clear b3 c1;obtain⟨q,hq⟩:∃q,R[j].h.length=r+1+q:=⟨R[j].h.length-(r+1),by omega⟩;have c5:(aA (R[j].h.drop (r+1))).length=q*3:=by rw[aA,cF 3 _ (λ_=>Q),lD];omega
    have cu:Hid (∀a:Addr,(a=⟨gv,(r+1)*3,N⟩\/q=0)->∀t u,(aA (R[j].h.drop (r+1)))[t]?=J u->w1.cell? (a.add t)=J u):=λa ha t u z=>by
     rcases ha with rfl|h0
     .have ho:=cj.o.NL _ (dT hj);have h3:aA (R[j].h.drop (r+1))=(aA R[j].h).drop ((r+1)*3):=(iO 3 _ (λ_=>Q) R[j].h (r+1)).s;rw[h3,tn]at z;have:=ag aa.o.1 (ho.cells (g:=gv) (by rw[HH.o.2.2];rfl) _ u z);rw[Addr.add_lit]at this ⊢;simpa using this
     .have:aA (R[j].h.drop (r+1))=[]:=ey (by omega);rw[this]at z;simp at z
    have h200:r+1+q<=200:=by omega
    have ek:r+1+q<=al:=by have:=eg;omega
    have dj:(R[j].h.take r++R[j].h.drop (r+1)).length=r+q:=by rw[lP,tL,lD];omega
    have b4:=aq dj;have cp:Hid ((R[j].h)[r]?≠N):=show(R[j].h)[r]?≠N by rw[eL a8];simp
    clear dj;rw[hq]at *;clear hq;have c8:Hid (∀ (v2:Wx) (w2:Wj),w2.ownsRow wq.heap.size 137 3 v2 (r+q) (aA (R[j].h.take r)++aA (R[j].h.drop (r+1)))->w1.grownBy w2 (Ro df r ds).ownBlock->Below wq.heap.size wq w2/\w2.ownsRow wq.heap.size 137 3 v2 (r+q) (aA (R[j].h.take r++R[j].h.drop (r+1)))):=λv2 w2 af a6=>⟨aa.o.1.grown a6 aa.o.1.size (λk e=>(aa.o.2.lt k e).1),by
     have:aA (R[j].h.take r++R[j].h.drop (r+1))=aA (R[j].h.take r)++aA (R[j].h.drop (r+1)):=by simp[aA]
     rw[this];exact af⟩
    go_cut [9] (λs9 wx=>∃y l,s9=M y (r+q) l/\Below wq.heap.size wq wx/\wx.ownsRow wq.heap.size 137 3 (M y (r+q) l) (r+q) (aA (R[j].h.take r++R[j].h.drop (r+1))))
    case first=>
     by_cases bv:al=r+1
     .have ea:q=0:=by have:=ek;omega
      subst ea;subst bv;go_wp2_with (at_builtin;go_loud (refine vx _ Q _ _ 145 Q wq.heap.size 137 i0 _ 3 32 (Yq.u underlying145) b7 bq ca b1 Q (by decide) _ r _ Q aa.o.2 ⟨gv,0,N⟩ 0 0 (aA (R[j].h.drop (r+1))) Q c5 (cu.o _ (Rm Q)) (eJ _) (by simp only[xb];omega) (by omega) aa.o.1.size ?_);intro v2 w2 af a6 _;obtain⟨y,l,rfl,-⟩:=ao af)
      go_meet
      case rel=>exact⟨y,l,Q,c8.o _ _ af a6⟩
     .go_wp2_with (at_builtin;refine vx _ Q _ _ 145 Q wq.heap.size 137 i0 _ 3 32 (Yq.u underlying145) b7 bq ca b1 Q (by decide) _ r _ Q aa.o.2 ⟨gv,(r+1)*3,N⟩ q (al-(r+1)) (aA (R[j].h.drop (r+1))) Q c5 (cu.o _ (Rn Q)) (eJ _) (by simp only[xb];omega) (by omega) aa.o.1.size ?_;intro v2 w2 af a6 _;obtain⟨y,l,rfl,-⟩:=ao af)
      go_meet
      case rel=>exact⟨y,l,Q,c8.o _ _ af a6⟩
    case rest=>
    obtain⟨y,l,rfl,ar,b8⟩:=hcut;have a1:Below w.heap.size w wc:=ab.o.1.t (ar.m ab.o.1.size);have HC:=gB a1 ar b8 (HH.o.1.below a1) (ab.o.2.on ar);have c0':=ag a1 c0;have x1':=ag a1 x1;have f1':=HC.o.2.2.2.1.row.frozenAt (j*2+1);have cr:=Lw (v':=M y (r+q) l) (h':=R[j].h.take r++R[j].h.drop (r+1)) hj HH.o.2.1 HH.o.1 cj.o ab.o.1 ar (by rw[b4.o];exact b8) (ab.o.2.on ar) ab.o.2.lt (lT hB ab.o.1.size);have HD:Hid (aD B (wc.setCell ⟨X,j*2+1,N⟩ (M y (r+q) l)) k (M (J ⟨X,0,N⟩) R.length A) (R.set j ⟨R[j].key,R[j].h.take r++R[j].h.drop (r+1),M y (r+q) l⟩) nx tm/\bU w (wc.setCell ⟨X,j*2+1,N⟩ (M y (r+q) l)) k (M (J ⟨X,0,N⟩) R.length A) R (M (J ⟨X,0,N⟩) R.length A) (R.set j ⟨R[j].key,R[j].h.take r++R[j].h.drop (r+1),M y (r+q) l⟩)/\ru (w.heap.size+1) (wc.setCell ⟨X,j*2+1,N⟩ (M y (r+q) l)) /\
     (Ro (J ⟨X,0,N⟩) R.length A).ownBlock≠J (w.heap.size+1)/\(∀e∈R.set j ⟨R[j].key,R[j].h.take r++R[j].h.drop (r+1),M y (r+q) l⟩,e.v.ownBlock≠J (w.heap.size+1))):=cr
    clear a1 ar b8 cr
    go_upto_region 22 with fail
    generalize wc.setCell ⟨X,j*2+1,N⟩ (M y (r+q) l)=P at *;have⟨d0,d1,d2,d3,d4,L⟩:=HD.o.2.2.1;have g0:=L 0;have g1:=L 1;have g2:=L 2;have g3:=L 3;have g4:=L 4;clear L;by_cases hz:r+q=0
    .have ej:((r:xt)+(q:xt)==0)=true:=by simp;omega
     have e0:=HD.o.1.cells.c0;have e1:=HD.o.1.cells.fz 0;have bx:=HD.o.1.lt;have ad:=aq HD.o.1;obtain⟨R1,bi⟩:∃R1,R1=R.set j ⟨R[j].key,R[j].h.take r++R[j].h.drop (r+1),M y (r+q) l⟩:=⟨_,Q⟩;rw[<-bi]at ad;have bk:=aq bi;have bp:(aB (R1.take j)).length=j*2:=by rw[j8,tL,bi,nF];omega
     clear bi;have el:Hid (∀t u,(aB (R1.take j))[t]?=J u->P.cell? ((⟨X,0,N⟩:Addr).add t)=J u):=λt u z=>by
      refine ad.o.row.cells (g:=X) Q t u ?_;have h3:aB (R1.take j)=(aB R1).take (j*2):=(iN 2 _ (λ_=>Q) R1 j).s;rw[h3,tb]at z;split at z
      .exact z
      .cases z
     have d5:Hid (∀u∈aB (R1.take j),u.oneCell'=Y):=oz ad.o _ (λe he=>kr he);have⟨t0,b6,bs,cc,b5⟩:=xc Yq.Ov;have hec:R.length<=A:=by obtain⟨_,_,he,-,-,h⟩:=bm HH.o.1.row (by omega);cases he;exact h
     go_upto_region 25 with(at_builtin;go_loud (refine vx _ Q _ _ 56 Q P.heap.size 147 t0 _ 2 40 (Yq.u underlying56) b6 bs cc b5 Q (by decide) _ 0 [] Q (World.ownsRow_nil _ _ _ _) ⟨X,0,N⟩ j A (aB (R1.take j)) Q bp el.o d5.o (by simp only[xb];omega) (by omega) Q0 ?_);intro v3 w3 b9 ct _;obtain⟨c6,ck,rfl,-⟩:=ao b9)
     have T:Hid (Below P.heap.size P w3/\w3.ownsRow P.heap.size 147 2 (M c6 j ck) j (aB (R1.take j))):=⟨(bR _ P).grown (row:=N) ct Q0 (λk e=>by cases e),by simpa using b9⟩;clear b9 ct;have a3:(aB (R1.drop (j+1))).length=(R.length-(j+1))*2:=by rw[j8,lD,bk.o,nF]
     have dd:Hid (∀a:Addr,(a=⟨X,(j+1)*2,N⟩\/R.length-(j+1)=0)->∀t u,(aB (R1.drop (j+1)))[t]?=J u->w3.cell? (a.add t)=J u):=λa ha t u z=>by
      rcases ha with rfl|h0
      .have h3:aB (R1.drop (j+1))=(aB R1).drop ((j+1)*2):=(iO 2 _ (λ_=>Q) R1 (j+1)).s;rw[h3,tn]at z;have:=ag T.o.1 (ad.o.row.cells (g:=X) Q _ u z);rw[Addr.add_lit]at this ⊢;simpa using this
      .have:aB (R1.drop (j+1))=[]:=ey (by rw[a3,h0]);rw[this]at z;simp at z
     have cv:Hid (∀u∈aB (R1.drop (j+1)),u.oneCell'=Y):=oz ad.o _ (λe he=>lj he);have e0c:=ag T.o.1 e0;have bn:Hid (∀ (v4:Wx) (w4:Wj),w4.ownsRow P.heap.size 147 2 v4 (j+(R.length-(j+1))) (aB (R1.take j)++aB (R1.drop (j+1)))->w3.grownBy w4 (Ro c6 j ck).ownBlock->Below P.heap.size P w4/\w4.ownsRow P.heap.size 147 2 v4 (j+(R.length-(j+1))) (aB (R1.take j++R1.drop (j+1)))):=λv4 w4 ai a5=>⟨T.o.1.grown a5 T.o.1.size (λk e=>(T.o.2.lt k e).1),by
      have:aB (R1.take j++R1.drop (j+1))=aB (R1.take j)++aB (R1.drop (j+1)):=by simp[aB]
      rw[this];exact ai⟩
     go_cut [10] (λs10 wx=>∃F G,s10=M F (j+(R.length-(j+1))) G/\Below P.heap.size P wx/\wx.ownsRow P.heap.size 147 2 (M F (j+(R.length-(j+1))) G) (j+(R.length-(j+1))) (aB (R1.take j++R1.drop (j+1))))
     case first=>
      have hjl:j+1<=R.length:=hj;by_cases bv:A=j+1
      .have bw:Hid (R.length-(j+1)=0):=show R.length-(j+1)=0 by omega
       subst bv;have dt:(aB (R1.drop (j+1))).length=0*2:=by rw[a3,bw.o]
       go_wp2_with (at_builtin;go_loud (refine vx _ Q _ _ 56 Q P.heap.size 147 t0 _ 2 40 (Yq.u underlying56) b6 bs cc b5 Q (by decide) _ j _ Q T.o.2 ⟨X,0,N⟩ 0 0 (aB (R1.drop (j+1))) Q dt (dd.o _ (Rm bw.o)) cv.o (by simp only[xb];omega) (by omega) T.o.1.size ?_);intro v4 w4 ai a5 _;obtain⟨F,G,rfl,-⟩:=ao ai)
       go_meet
       case rel=>
        have cb:j+(R.length-(j+1))=j:=by rw[bw.o];rfl
        have h4:=bn.o (M F j G) _ (by rw[cb];exact ai) a5;rw[cb]at h4;rw[cb];exact⟨F,G,Q,h4⟩
      .go_wp2_with (at_builtin;go_loud (refine vx _ Q _ _ 56 Q P.heap.size 147 t0 _ 2 40 (Yq.u underlying56) b6 bs cc b5 Q (by decide) _ j _ Q T.o.2 ⟨X,(j+1)*2,N⟩ (R.length-(j+1)) (A-(j+1)) (aB (R1.drop (j+1))) Q a3 (dd.o _ (Rn Q)) cv.o (by simp only[xb];omega) (by omega) T.o.1.size ?_);intro v4 w4 ai a5 _;obtain⟨F,G,rfl,-⟩:=ao ai)
       go_meet
       case rel=>exact⟨F,G,Q,bn.o _ _ ai a5⟩
     case rest=>
     obtain⟨F,G,rfl,a0,da⟩:=hcut;have e0x:=ag a0 e0;have e1x:=(a0.frozen (p:=⟨k,0,N⟩) bx).t e1;have⟨d0,d1,d2,d3,d4,L⟩:=HD.o.2.2.1.on a0;have g0:=L 0;have g1:=L 1;have g2:=L 2;have g3:=L 3;have g4:=L 4;have hk1:¬k=w.heap.size+1:=by omega
     have hk2:¬w.heap.size+1=k:=by omega
     have HZ:Hid (Below P.heap.size P wc/\wc.ownsRow P.heap.size 147 2 (M F (j+(R.length-(j+1))) G) (j+(R.length-(j+1))) (aB (R1.take j++R1.drop (j+1)))):=⟨a0,da⟩;clear L a0 da;go_wp2;refine vf (v:=aG ⟨0,0,⟨#[]⟩⟩) (by simp[results,results61,go_sem,aG,d0,d1,d2,d3,d4]) Q ⟨by rw[aj.o],?_⟩;have⟨P1,P3,P4,P7,P8⟩:=HD.o;have hlt4:=P4.lt;have hwd:=P3.size;have b0:R1.take j++R1.drop (j+1)=R.take j++R.drop (j+1):=by rw[bk.o,I5 R j hj,I6 R j hj]
     have c7:∀e∈R1.take j++R1.drop (j+1),e∈R1:=λe he=>by
      rcases eW.1 he with h|h
      .exact kr h
      .exact lj h
     have V:∀e∈R1.take j++R1.drop (j+1),e∈R:=λe he=>by
      rw[b0]at he;rcases eW.1 he with h|h
      .exact kr h
      .exact lj h
     have bo:=ad.o.Qk (R':=R1.take j++R1.drop (j+1)) HZ.o.1 (by
       have hl:(R1.take j++R1.drop (j+1)).length=j+(R.length-(j+1)):=by rw[b0,lP,tL,lD];omega
       rw[hl];exact HZ.o.2) (by omega) c7 (by rw[<-List.eraseIdx_eq_take_drop_succ];exact ad.o.pw.sublist (List.eraseIdx_sublist _ _))
      (λe he=>pu (HH.o.1.NL e (V e he)) (eV.2 (HH.o.2.1.full e (V e he))))
     have a7:=kQ (wc.setCell ⟨k,0,N⟩ (M F (j+(R.length-(j+1))) G)) (w.heap.size+1) (I K 0) (I K 0) (U ⟨#[]⟩) (M N 0 0) (U ⟨#[]⟩);have d8:k<wc.heap.size:=lL bx HZ.o.1.size;refine⟨_,_,nx,bo.grown a7 (by simp;omega) (Rm (λe=>by have:=(HZ.o.2.lt _ e).1;omega)) (λe he=>Rm (λh=>by have:=((HH.o.1.NL e (V e he)).lt _ h).2;omega)),?_,((sO (P3.below HZ.o.1 bx) _ d8).step a7 (λb hb e=>by cases e;omega) bo.lt (by simp;omega)).put λb hb h=>h.elim (λh=>by have:=(HZ.o.2.lt b h).1;omega) λ⟨x,hx,h⟩=>Rg ⟨x,V x hx,h⟩⟩;rw[aj.o,b0];exact HH.o.2.1.dropLast hj bd.o (Nat.lt_of_not_le (λh=>cp.o (pt h))) (ey (by rw[b4.o];exact hz))
    .have ej:((r:xt)+(q:xt)==0)=false:=by simp;omega
     go_wp2;refine vf (v:=aG ⟨0,0,⟨#[]⟩⟩) (by simp[results,results61,go_sem,aG,d0,d1,d2,d3,d4]) Q ⟨by rw[aj.o],?_⟩;have a7:=kQ P (w.heap.size+1) (I K 0) (I K 0) (U ⟨#[]⟩) (M N 0 0) (U ⟨#[]⟩);obtain⟨P1,P3,-,P7,P8⟩:=HD.o;refine⟨_,_,nx,P1.grown a7 (by simp;omega) (Rm P7) (λe he=>Rm (P8 e he)),?_,P3.step a7 (λb hb e=>by cases e;omega) P1.lt (by simp;omega)⟩;rw[aj.o];exact HH.o.2.1.Pr hj bd.o (Nat.lt_of_not_le (λh=>cp.o (pt h))) _ (λe=>by have:=b4.o;rw[e]at this;simp at this;omega)
   .have ch:(R[j].h[r].num != nn)=true:=by simp[D]
    have d7:Hid (R[j].h[r].num≠nn):=D;generalize R[j].h[r].num=vn at z0 ch D;clear z1 z2 D;go_wp2_with fail
    go_quiet (fail)
    go_wp2_with fail
    refine⟨⟨r+1,a8,by go_num,λt z hlt=>?_,wz d6.o _⟩,by simp[intOf];omega⟩;rcases Nat.lt_or_ge t r with h1|h1
    .exact bt.o t z h1
    .have:t=r:=by omega
     subst this;exact d7.o
  .have eo:r=R[j].h.length:=by omega
   subst eo;have aj:Hid (so=(st,⟨5,0,⟨#[]⟩⟩)):=a4.o (λt z=>bt.o t z z);go_wp2_with fail
   refine(fx 5 _).m ?_;rintro e w2 ⟨rfl,b2⟩;have eb:Hid (Below w.heap.size w w2):=HB.o.1.t (b2.m HB.o.1.size);have⟨d0,d1,d2,d3,d4,L⟩:=HB.o.2.on b2;have g0:=L 0;have g1:=L 1;have g2:=L 2;have g3:=L 3;have g4:=L 4;clear b2 L;unfold aG;go_wp2;refine vf (v:=aG ⟨5,0,⟨#[]⟩⟩) (by simp[results,results61,go_sem,aG,d0,d1,d2,d3,d4]) Q ⟨by rw[aj.o],?_⟩;have hb:=dZ eb.o (x:=w.heap.size+1) (by omega) (I K 5) (I K 0) (U ⟨#[]⟩) (M N 0 0) (U ⟨#[]⟩);exact⟨_,R,nx,HH.o.1.below hb,by rw[aj.o];exact HH.o.2.1,cw en hb _ _⟩
theorem I7 B k i R(l f:xt)c s(d:xv)(m:xt)(e:xv)j w(b:aD B w k i R l f)(a:Sim c R l)(n:Low c s)(p:s<2199023255552)(o:B<=w.heap.size):
  Calls Vp 60 #[O (J ⟨k,0,N⟩),U d,Rd #[I K m,U e,C j]] w (cP B k (if 200<=c.count then c else ce c d e j) (if 200<=c.count then⟨4,0,⟨#[]⟩⟩else⟨0,c.last+1,⟨#[]⟩⟩) w i R f):=by
 by_cases h:200<=c.count
 rw[Rk h,Rk h];exact FM B k i R l f c d m e j w b a h;rw[Rl h,Rl h];exact FN B k i R l f c s d m e j w b a n p o h
theorem I8 B k l R(m j:xt)f o w(b:aD B w k l R m j)(a:Sim f R m)(c:o.kind=2\/o.kind=3\/o.kind=5)(p:aV o.key=Y)(r:B<=w.heap.size):
  Calls Vp 61 #[O (J ⟨k,0,N⟩),aL o] w (cP B k (aE f o).1 (aE f o).2 w l R j):=by
 by_cases d:∀x∈R,x.key≠o.key
 exact FP B k l R m j f o w b a c p d;have:∃ (i:H) (h:i<R.length),R[i].key=o.key:=by
  rw[Classical.not_forall]at d;obtain⟨x,q⟩:=d;rw[Classical.not_imp,Classical.not_not]at q;obtain⟨i,n,rfl⟩:=gM q.1;exact⟨i,n,q.2⟩
 obtain⟨i,n,e⟩:=this;rcases c with h|h|h;exact I4 B k l R m j f o w b a h p i n e;exact FQ B k l R m j f o w b a h p i n e;exact CS B k l R m j f o w b a h p i n e r
theorem JP(w:Wj)(cs:Array Wx)(b c e d f:Wx):∃a z,((w.alloc (E cs 37)).alloc (E #[b,c,e,d,f] 53)).heap[w.heap.size+1]?=J (E a 53 z):=
 ⟨#[b,c,e,d,f],(0,0),by have:=heap_alloc_new (w.alloc (E cs 37)) (E #[b,c,e,d,f] 53);rwa [show(w.alloc (E cs 37)).heap.size=w.heap.size+1 by simp]at this⟩
theorem CT B k s R(L A:xt)l o w(a:aD B w k s R L A)(b:Sim l R L)(hB:B<=w.heap.size)(c:o.kind=2\/o.kind=3\/o.kind=5)(r:aV o.key=Y):
  Calls Vp 31 #[O (J ⟨k,0,N⟩),aL o] w (cP B k (aE l o).1 (aE l o).2 w s R A):=by
 have⟨q,p⟩:=Rj r;have u:¬o.kind=1:=by omega
 have t:¬o.kind=4:=by omega
 have R0:=JN (w.alloc (E #[I K o.kind,U o.key,U o.body,U o.fe,U o.past,I K o.n,I K o.src] 37)) (w.heap.size+1) (by simp) 53;have HC:=I8 B k s R L A l o ((w.alloc (E #[I K o.kind,U o.key,U o.body,U o.fe,U o.past,I K o.n,I K o.src] 37)).alloc (E #[I K 0,I K 0,U ⟨#[]⟩,M N 0 0,U ⟨#[]⟩] 53)) ((a.alloc _).alloc _) b c r (by simp;omega);obtain⟨d,y,h,fe,j,nn,D⟩:=o;simp only at u t q p HC R0;have b1:(d==1)=false:=by simp[u]
 have b4:(d==4)=false:=by simp[t]
 have HH:=aq a;have i:=aq R0;clear a b c r R0 u t;generalize aE l ⟨d,y,h,fe,j,nn,D⟩=sr at *;obtain⟨st',P,V,T⟩:=sr;simp only at HC ⊢;unfold cP;unfold cP at HC;simp only[aL,aG]at HC ⊢;go_enter (Yq.nq func31),ntmps31;go_wp2_with fail
 refine HC.m ?_;rintro e w2 ⟨rfl,G,R',z,H',S',F⟩;have⟨d0,d1,X,d3,d4,f⟩:=i.o.frame F (HH.o.old (by omega));have g0:=f 0;have g1:=f 1;have g2:=f 2;have g3:=f 3;have g4:=f 4;have HE:=eM H' S' F;clear HC H' S' F f;go_wp2;refine vf (v:=aG ⟨P,V,T⟩) (by simp[results,results31,go_sem,aG,d0,d1,X,d3,d4]) Q ⟨Q,?_⟩;obtain⟨e1,e2⟩:=JO HH.o (x:=w.heap.size+1) (((bR _ w).alloc Q0 _).alloc (by simp) _) (by omega) i.o.lt (JP w _ _ _ _ _ _) HE.o.1 HE.o.2.2 (I K P) (I K V) (U T) (M N 0 0) (U ⟨#[]⟩);exact⟨G,R',z,e1,HE.o.2.1,e2⟩
theorem CU(hkind:1<=o.kind/\o.kind<=5)(b:aV o.key=Z):aE a o=(a,⟨2,0,⟨#[]⟩⟩):=by
 have h:o.kind=1\/o.kind=2\/o.kind=3\/o.kind=4\/o.kind=5:=by omega
 rcases h with h|h|h|h|h<;>simp[aE,h,b]
theorem zD(a:o.kind=1)(c:aV o.key=Y)(d:100<o.body.size):aE b o=(b,⟨3,0,⟨#[]⟩⟩):=by
 simp[aE,a,c,d]
theorem xG(b:o.kind=1)(c:aV o.key=Y)(d:¬100<o.body.size)(e:¬a.last=9223372036854775807):aE a o=(if 200<=a.count then a else ce a o.key o.body Z,if 200<=a.count then⟨4,0,⟨#[]⟩⟩else⟨0,a.last+1,⟨#[]⟩⟩):=by
 by_cases h:200<=a.count<;>simp[aE,b,c,d,h,e]
theorem uD(b:o.kind=4)(d:aV o.key=Y)(c:¬a.last=9223372036854775807):aE a o=(if 200<=a.count then a else ce a o.key ⟨#[]⟩ Y,if 200<=a.count then⟨4,0,⟨#[]⟩⟩else⟨0,a.last+1,⟨#[]⟩⟩):=by
 by_cases h:200<=a.count<;>simp[aE,b,d,h,c]
theorem xH B k x R(z F:xt)D o(c:xt)w(a:aD B w k x R z F)(b:Sim D R z)(y:(c=2/\aV o.key=Z)\/(c=3/\o.kind=1/\aV o.key=Y/\100<o.body.size)):
  Calls Vp 31 #[O (J ⟨k,0,N⟩),aL o] w (cP B k D ⟨c,0,⟨#[]⟩⟩ w x R F):=by
 have R0:=JN (w.alloc (E #[I K o.kind,U o.key,U o.body,U o.fe,U o.past,I K o.n,I K o.src] 37)) (w.heap.size+1) (by simp) 53;obtain⟨p,d,l,fe,past,nn,src⟩:=o;simp only at y R0;have u:(c=2/\d.size<1)\/(c=2/\¬d.size<1/\40<d.size)\/(c=3/\p=1/\¬d.size<1/\¬40<d.size/\100<l.size):=by
  rcases y with⟨f,j⟩|⟨f,j,A,V⟩;have:=of_decide_eq_false j;by_cases h:d.size<1
  exact Rn ⟨f,h⟩;exact Rm (Rn ⟨f,h,by omega⟩);have:=Rj A;exact Rm (Rm ⟨f,j,by omega,by omega,V⟩)
 have HH:=bJ a b;have s:=aq R0;have q:=a.lt;clear a b R0 y;unfold cP;simp only[aL,aG];rcases u with⟨rfl,f⟩|⟨rfl,f,j⟩|⟨rfl,rfl,f,j,A⟩;all_goals
  first|have h0:d.size=0:=by omega|skip
  go_enter (Yq.nq func31),ntmps31;go_wp2_with fail
  refine(fx _ _).m ?_;rintro e w2 ⟨rfl,r⟩;have HB:=aq ((((bR _ w).alloc Q0 _).alloc (by simp) _).t (r.m (by simp;omega)));have⟨L,X,G,P,T,i⟩:=s.o.on r;have g0:=i 0;have g1:=i 1;have g2:=i 2;have g3:=i 3;have g4:=i 4;clear r i;unfold aG;go_wp2;exact vf (v:=aG ⟨_,0,⟨#[]⟩⟩) (by simp[results,results31,go_sem,aG,L,X,G,P,T]) Q ⟨Q,⟨x,R,z,HH.o.1.below (dZ HB.o (by omega) _ _ _ _ _),HH.o.2,cw q (dZ HB.o (by omega) _ _ _ _ _) _ _⟩⟩
theorem sQ B k r R(nx A:xt)f s o(y:xv)t w(a:aD B w k r R nx A)(b:Sim f R nx)(hI:Low f s)(hs:s<2199023255552)(hB:B<=w.heap.size)(hk:aV o.key=Y)
  (hc:(o.kind=1/\¬100<o.body.size/\y=o.body/\t=Z)\/(o.kind=4/\y=⟨#[]⟩/\t=Y)):
  Calls Vp 31 #[O (J ⟨k,0,N⟩),aL o] w (cP B k (if 200<=f.count then f else ce f o.key y t) (if 200<=f.count then⟨4,0,⟨#[]⟩⟩else⟨0,f.last+1,⟨#[]⟩⟩) w r R A):=by
 have⟨V,T⟩:=Rj hk;have R0:=JN (w.alloc (E #[I K o.kind,U o.key,U o.body,U o.fe,U o.past,I K o.n,I K o.src] 37)) (w.heap.size+1) (by simp) 53;have HC:=I7 B k r R nx A f s o.key 0 y t ((w.alloc (E #[I K o.kind,U o.key,U o.body,U o.fe,U o.past,I K o.n,I K o.src] 37)).alloc (E #[I K 0,I K 0,U ⟨#[]⟩,M N 0 0,U ⟨#[]⟩] 53)) ((a.alloc _).alloc _) b hI hs (by simp;omega);obtain⟨D,u,l,fe,q,nn,aa⟩:=o;simp only at V T HC R0 hc;have HH:=aq a;have p:=aq R0;clear a b hk R0 hI hs;generalize(if 200<=f.count then f else ce f u y t)=z at *;generalize(if 200<=f.count then(⟨4,0,⟨#[]⟩⟩:Do)else⟨0,f.last+1,⟨#[]⟩⟩)=sr at *;obtain⟨G,P,L⟩:=sr;unfold cP;unfold cP at HC;simp only[aL,aG]at HC ⊢;have h:∀i,Hid (∃d R' c,aD B i k d R' c A/\Sim z R' c/\bU ((w.alloc (E #[I K D,U u,U l,U fe,U q,I K nn,I K aa] 37)).alloc (E #[I K 0,I K 0,U ⟨#[]⟩,M N 0 0,U ⟨#[]⟩] 53)) i k r R d R') ->
   ∃d R' c,aD B (((((i.setCell ⟨w.heap.size+1,0,N⟩ (I K G)).setCell ⟨w.heap.size+1,1,N⟩ (I K P)).setCell ⟨w.heap.size+1,2,N⟩ (U L)).setCell ⟨w.heap.size+1,3,N⟩ (M N 0 0)).setCell ⟨w.heap.size+1,4,N⟩ (U ⟨#[]⟩)) k d R' c A/\Sim z R' c /\
    bU w (((((i.setCell ⟨w.heap.size+1,0,N⟩ (I K G)).setCell ⟨w.heap.size+1,1,N⟩ (I K P)).setCell ⟨w.heap.size+1,2,N⟩ (U L)).setCell ⟨w.heap.size+1,3,N⟩ (M N 0 0)).setCell ⟨w.heap.size+1,4,N⟩ (U ⟨#[]⟩)) k r R d R':=λi hX=>by
  have⟨d,R',c,H',S',F⟩:=hX.o;obtain⟨e1,e2⟩:=JO HH.o (x:=w.heap.size+1) (((bR _ w).alloc Q0 _).alloc (by simp) _) (by omega) p.o.lt (JP w _ _ _ _ _ _) H' F (I K G) (I K P) (U L) (M N 0 0) (U ⟨#[]⟩);exact⟨d,R',c,e1,S',e2⟩
 have KEY2:=aq h;clear h;rcases hc with⟨rfl,hbd,rfl,rfl⟩|⟨rfl,rfl,rfl⟩ <;>
 .go_enter (Yq.nq func31),ntmps31;go_wp2_with fail
  refine HC.m ?_;rintro e i ⟨rfl,d,R',c,H',S',F⟩;have⟨d0,d1,d2,d3,d4,j⟩:=p.o.frame F (HH.o.old (by omega));have g0:=j 0;have g1:=j 1;have g2:=j 2;have g3:=j 3;have g4:=j 4;have HE:=KEY2.o i ⟨d,R',c,H',S',F⟩;have X:=aq HE;clear HC H' S' F j HE KEY2;go_wp2;exact vf (v:=aG ⟨G,P,L⟩) (by simp[results,results31,go_sem,aG,d0,d1,d2,d3,d4]) Q ⟨Q,X.o⟩
theorem CW B k f R(j e:xt)d s o w(b:aD B w k f R j e)(a:Sim d R j)(l:Low d s)(p:s<2199023255552)(n:B<=w.heap.size)(i:1<=o.kind/\o.kind<=5):
  Calls Vp 31 #[O (J ⟨k,0,N⟩),aL o] w (cP B k (aE d o).1 (aE d o).2 w f R e):=by
 cases c:aV o.key with
 |false=>rw[CU i c];exact xH B k f R j e d o 2 w b a (Rn ⟨Q,c⟩)
 |true=>
  have h:o.kind=1\/o.kind=4\/o.kind=2\/o.kind=3\/o.kind=5:=by omega
  rcases h with h|h|h;by_cases m:100<o.body.size
  rw[zD h c m];exact xH B k f R j e d o 3 w b a (Rm ⟨Q,h,c,m⟩);rw[xG h c m (by have:=l.NY;omega)];exact sQ B k f R j e d s o o.body Z w b a l p n c (Rn ⟨h,m,Q,Q⟩);rw[uD h c (by have:=l.NY;omega)];exact sQ B k f R j e d s o ⟨#[]⟩ Y w b a l p n c (Rm ⟨h,Q,Q⟩);exact CT B k f R j e d o w b a n h c
end
