/- A part. -/
import Derived.Test.YteidaiooccmmmaaGreatDoorQP11
set_option maxHeartbeats 4000000
set_option maxRecDepth 100000
open Go renaming World->Wj,Value->Wx
namespace Go.Proofs.Qw
open Option renaming none->N,some->J
open Bool renaming true->Y,false->Z
open Value renaming int->I,string->U,slice->M,pointer->O,bool->C
open IntKind renaming i64->K
open Obj renaming cells->E
variable {B i k r:Nat}{R:List bD}{n nx q:Int}{b c s u y:St}{o:OpD}
open Tryz
section
open Go.RowKit
theorem ax.ver{w:Wj}{f:Wx}(h:ax B w k f R n nx)(i:Nat)(l:i<R.length)(r:Nat)(c:r<R[i].h.length):
  ∃g a,R[i].v=M (J ⟨g,0,N⟩) R[i].h.length a/\g<w.heap.size/\w.cell? ⟨g,r*3,N⟩=J (I K R[i].h[r].num)/\w.cell? ⟨g,r*3+1,N⟩=J (U R[i].h[r].body)/\w.cell? ⟨g,r*3+2,N⟩=J (C R[i].h[r].mark):=by
 have b:=h.vers _ (List.getElem_mem l);have⟨g,a,d,h1,j,h3⟩:=cW b (by omega);rw[d]at b;refine⟨g,a,d,j,?_,?_,?_⟩
 .have:=b.cellAt (r*3+0) (by omega);rw[aq,ce 3 _ (λ_=>rfl) R[i].h r 0 c (by omega)]at this;simpa using this
 .have:=b.cellAt (r*3+1) (by omega);rw[aq,ce 3 _ (λ_=>rfl) R[i].h r 1 c (by omega)]at this;simpa using this
 .have:=b.cellAt (r*3+2) (by omega);rw[aq,ce 3 _ (λ_=>rfl) R[i].h r 2 c (by omega)]at this;simpa using this
theorem Sim.missing(S:Sim c R n){a:ByteArray}(b:∀x∈R,x.key≠a):c.f a.data.toList=[]:=
 S.gone _ (λe d h=>b e d (jc h))
theorem CN(a:o.kind=2\/o.kind=3\/o.kind=5)(d:aK o.key=Y)(c:b.f o.key.data.toList=[]):aA b o=(b,⟨5,0,⟨#[]⟩⟩):=by
 rcases a with h|h|h<;>simp[aA,h,d,c,cD]
theorem CO(B k:Nat)(n:Wx)(R:List bD)(f r:Int)(q:St)(o:OpD)(w:Wj)(H:ax B w k n R f r)(S:Sim q R f)(a:o.kind=2\/o.kind=3\/o.kind=5)(D:aK o.key=Y)(b:∀x∈R,x.key≠o.key):
  Calls Yq.prog 57 #[O (J ⟨k,0,N⟩),aT o] w (bQ B k (aA q o).1 (aA q o).2 w n R r):=by
 have hlen:=gl R S.full;have hlim:=S.lim;have s:=H.lt;rw[CN a D (S.missing b)];have HH:Hid (ax B w k n R f r/\Sim q R f):=⟨H,S⟩;have l:Hid (∀x∈R,x.key≠o.key):=b;clear H S b D a;obtain⟨p,h,j,c,m,X,u⟩:=o;simp only at l;unfold bQ aT;go_enter (Yq.nq func57),ntmps57;go_wp2_with fail
 refine(jb B k n R f r h _ ((HH.out.1.alloc _).alloc _) (by omega)).mono ?_;rintro e w1 ⟨rfl,⟨i,Q,y,-⟩|⟨-,rfl⟩⟩
 .exact absurd y (l.out _ (List.getElem_mem Q))
 go_wp2_with fail
 refine(eF 5 _).mono ?_;rintro e F ⟨rfl,t⟩;have A:Below w.heap.size w F:=(((bR _ w).alloc (lR _) _).alloc (by simp) _).trans (t.mono (by simp;omega));have HB:Hid (Below w.heap.size w F):=A;have RA:=(Fc (w.alloc (E #[I K p,U h,U j,U c,U m,I K X,I K u] 30)) (w.heap.size+1) (by simp) 46).on t;obtain⟨L,V,G,P,T,d⟩:=RA;have g0:=d 0;have g1:=d 1;have g2:=d 2;have g3:=d 3;have g4:=d 4;clear A t d;unfold aD;go_wp2;refine bodyPost_ret (v:=aD ⟨5,0,⟨#[]⟩⟩) (by simp[results,results57,go_sem,aD,L,V,G,P,T]) rfl ⟨rfl,?_⟩;have z:=dH HB.out (x:=w.heap.size+1) (by omega) (I K 5) (I K 0) (U ⟨#[]⟩) (M N 0 0) (U ⟨#[]⟩);exact⟨n,R,f,HH.out.1.below z,HH.out.2,bI s z _ _⟩
theorem wD(h:List Ver)(v:Ver)(a:o.kind=2)(d:aK o.key=Y)(e:b.f o.key.data.toList=h)(i:h.getLast?=J v):aA b o=(b,if v.mark then⟨5,0,⟨#[]⟩⟩else⟨0,v.num,v.body⟩):=by
 cases c:v.mark<;>simp[aA,a,d,e,i,c]
theorem Fe(B k:Nat)(sl:Wx)(R:List bD)(r T:Int)(Q:St)(o:OpD)(w:Wj)(H:ax B w k sl R r T)(S:Sim Q R r)(a:o.kind=2)(hk:aK o.key=Y)(i:Nat)(t:i<R.length)(l:R[i].key=o.key):
  Calls Yq.prog 57 #[O (J ⟨k,0,N⟩),aT o] w (bQ B k (aA Q o).1 (aA Q o).2 w sl R T):=by
 have hlen:=gl R S.full;have hlim:=S.lim;have z:=H.lt;have d:R[i]∈R:=List.getElem_mem t;have y:=S.full _ d;have F:=List.length_pos_iff.2 y;have ab:=uw R i t;have c:R[i].h.getLast?=J (R[i].h[R[i].h.length-1]):=by rw[List.getLast?_eq_getElem?,eL (by omega)]
 rw[wD R[i].h _ a hk (by rw[<-l];exact S.here _ d) c];have⟨gv,vcap,hv,hgl,z0,z1,z2⟩:=H.ver i t (R[i].h.length-1) (by omega);obtain⟨ge,L,rfl,-,hgel,x0,x1⟩:=H.ent i t;rw[hv]at x1;have c0:=H.cells.c0;have HH:Hid (ax B w k (M (J ⟨ge,0,N⟩) R.length L) R r T/\Sim Q R r):=⟨H,S⟩;have G:Hid (R[i].key=o.key):=l;have u:Hid (∀j (V:j<R.length),R[j].key=o.key->j=i):=λj V f=>by
  by_cases h:j=i
  .exact h
  .exact absurd (f.trans l.symm) (S.other t V h)
 generalize R[i].h[R[i].h.length-1]=v at *;obtain⟨vn,vb,vm⟩:=v;simp only at z0 z1 z2;obtain⟨m,hm⟩:∃m,R[i].h.length=m+1:=⟨R[i].h.length-1,by omega⟩;rw[hm,Nat.add_sub_cancel]at z0 z1 z2;rw[hm]at x1 ab;have D:=a;clear H S l hk hv c d y F x0 hm;obtain⟨kind,q,n,b,p,nn,P⟩:=o;simp only at D G u;subst D;have hii:(i:Int)<(R.length:Int):=by omega
 unfold bQ aT;go_enter (Yq.nq func57),ntmps57;go_wp2_with fail
 refine(jb B k _ R r T q _ ((HH.out.1.alloc _).alloc _) (by omega)).mono ?_;rintro e w1 ⟨rfl,⟨j,V,f,rfl⟩|⟨X,-⟩⟩
 rotate_left
 .exact absurd G.out (X _ (List.getElem_mem t))
 have aa:=u.out j V f;subst aa;clear f;have hne1:¬ge=w.heap.size:=by omega
 have hne2:¬ge=w.heap.size+1:=by omega
 have hne3:¬gv=w.heap.size:=by omega
 have hne4:¬gv=w.heap.size+1:=by omega
 have hne5:¬k=w.heap.size:=by omega
 have hne6:¬k=w.heap.size+1:=by omega
 cases vm with
 |true=>
  go_wp2_with fail
  refine(eF 5 _).mono ?_;rintro e w2 ⟨rfl,b2⟩;have b3:Below w.heap.size w w2:=((((bR _ w).alloc (lR _) _).alloc (by simp) _).alloc (by simp;omega) _).trans (b2.mono (by simp;omega));have HB:Hid (Below w.heap.size w w2):=b3;have RA:=((Fc (w.alloc (E #[I K 2,U q,U n,U b,U p,I K nn,I K P] 30)) (w.heap.size+1) (by simp) 46).on ((bR _ _).alloc (lR _) _)).on b2;obtain⟨d0,d1,d2,d3,d4,s⟩:=RA;have g0:=s 0;have g1:=s 1;have g2:=s 2;have g3:=s 3;have g4:=s 4;clear b3 b2 s;unfold aD;go_wp2;refine bodyPost_ret (v:=aD ⟨5,0,⟨#[]⟩⟩) (by simp[results,results57,go_sem,aD,d0,d1,d2,d3,d4]) rfl ⟨rfl,?_⟩;have A:=dH HB.out (x:=w.heap.size+1) (by omega) (I K 5) (I K 0) (U ⟨#[]⟩) (M N 0 0) (U ⟨#[]⟩);exact⟨_,R,r,HH.out.1.below A,HH.out.2,bI z A _ _⟩
 |false=>
  go_wp2;refine bodyPost_ret (v:=aD ⟨0,vn,vb⟩) (by simp[results,results57,go_sem,aD]) rfl ⟨rfl,?_⟩;have A:Below w.heap.size w (((w.alloc (E #[I K 2,U q,U n,U b,U p,I K nn,I K P] 30)).alloc (E #[I K 0,I K vn,U vb,M N 0 0,U ⟨#[]⟩] 46)).alloc (E #[I K vn,U vb,C Z] 130)):=(((bR _ w).alloc (lR _) _).alloc (by simp) _).alloc (by simp;omega) _;exact⟨_,R,r,HH.out.1.below A,HH.out.2,bI z A _ _⟩
theorem pf(a:o.kind=3)(d:aK o.key=Y)(c:cD (b.f o.key.data.toList) o.n=N):aA b o=(b,⟨5,0,⟨#[]⟩⟩):=by
 simp[aA,a,d,c]
theorem ux(v:Ver)(a:o.kind=3)(e:aK o.key=Y)(c:cD (b.f o.key.data.toList) o.n=J r)(h:(b.f o.key.data.toList)[r]?=J v):aA b o=(b,if v.mark then⟨6,0,⟨#[]⟩⟩else⟨0,0,v.body⟩):=by
 cases d:v.mark<;>simp[aA,a,e,c,h,d]
theorem mS{h:List Ver}(a:∀j (b:j<h.length),h[j].num≠n):cD h n=none:=by
 unfold cD;rw[List.findIdx?_eq_none_iff];intro x c;obtain⟨j,b,rfl⟩:=gM c;simpa using a j b
theorem mT{h:List Ver}(c:r<h.length)(d:h[r].num=n)(a:∀j (b:j<h.length),j<r->h[j].num≠n):cD h n=J r:=by
 unfold cD;rw[List.findIdx?_eq_some_iff_getElem];exact⟨c,by simpa using d,λj b=>by simpa using a j (by omega) b⟩
theorem CP(B k:Nat)(sl:Wx)(R:List bD)(V tm:Int)(z:St)(o:OpD)(w:Wj)(H:ax B w k sl R V tm)(S:Sim z R V)(u:o.kind=3)(hk:aK o.key=Y)(i:Nat)(hi:i<R.length)(Q:R[i].key=o.key):
  Calls Yq.prog 57 #[O (J ⟨k,0,N⟩),aT o] w (bQ B k (aA z o).1 (aA z o).2 w sl R tm):=by
 have hlen:=gl R S.full;have hlim:=S.lim;have ab:=H.lt;have G:R[i]∈R:=List.getElem_mem hi;have X:=List.length_pos_iff.2 (S.full _ G);have hml:=uw R i hi;have T:z.f o.key.data.toList=R[i].h:=by rw[<-Q];exact S.here _ G
 obtain⟨gv,ap,hv,hgl,-⟩:=H.ver i hi 0 X;obtain⟨ge,a3,rfl,-,hgel,x0,x1⟩:=H.ent i hi;rw[hv]at x1;have c0:=H.cells.c0;have HH:Hid (ax B w k (M (J ⟨ge,0,N⟩) R.length a3) R V tm/\Sim z R V/\R[i].v=M (J ⟨gv,0,N⟩) R[i].h.length ap):=⟨H,S,hv⟩;have a2:Hid (R[i].key=o.key):=Q;have av:Hid (∀j (hj:j<R.length),R[j].key=o.key->j=i):=λj hj P=>by
  by_cases h:j=i
  .exact h
  .exact absurd (P.trans Q.symm) (S.other hi hj h)
 have D:Hid ((∀j (hj:j<R[i].h.length),R[i].h[j].num≠o.n)->aA z o=(z,⟨5,0,⟨#[]⟩⟩)):=λh=>pf u hk (by rw[T];exact mS h)
 have A:Hid (∀r (hr:r<R[i].h.length),R[i].h[r].num=o.n->(∀j (hj:j<R[i].h.length),j<r->R[i].h[j].num≠o.n)->aA z o=(z,if R[i].h[r].mark then⟨6,0,⟨#[]⟩⟩else⟨0,0,R[i].h[r].body⟩)):=λr hr h1 h2=>ux _ u hk (by rw[T];exact mT hr h1 h2) (by rw[T,eL hr])
 have ar:=u;clear H S Q hk hv G X x0 T;generalize aA z o=so at *;obtain⟨kind,d,b,a,c,p,l⟩:=o;simp only at ar a2 av D A;subst ar;have hii:(i:Int)<(R.length:Int):=by omega
 unfold bQ aT;go_enter (Yq.nq func57),ntmps57;go_wp2_with fail
 refine(jb B k _ R V tm d _ ((HH.out.1.alloc _).alloc _) (by omega)).mono ?_;rintro e w1 ⟨rfl,⟨j,hj,P,rfl⟩|⟨L,-⟩⟩
 rotate_left
 .exact absurd a2.out (L _ (List.getElem_mem hi))
 have a4:=av.out j hj P;subst a4;clear P;have hne1:¬ge=w.heap.size:=by omega
 have hne2:¬ge=w.heap.size+1:=by omega
 have hne3:¬gv=w.heap.size:=by omega
 have hne4:¬gv=w.heap.size+1:=by omega
 have hne5:¬k=w.heap.size:=by omega
 have hne6:¬k=w.heap.size+1:=by omega
 go_wp2_with fail
 have a1:Below w.heap.size w ((w.alloc (E #[I K 3,U d,U b,U a,U c,I K p,I K l] 30)).alloc (E #[I K 0,I K 0,U ⟨#[]⟩,M N 0 0,U ⟨#[]⟩] 46)):=((bR _ w).alloc (lR _) _).alloc (by simp) _;have RA:=Fc (w.alloc (E #[I K 3,U d,U b,U a,U c,I K p,I K l] 30)) (w.heap.size+1) (by simp) 46;have ad:Below (w.alloc (E #[I K 3,U d,U b,U a,U c,I K p,I K l] 30)).heap.size (w.alloc (E #[I K 3,U d,U b,U a,U c,I K p,I K l] 30)) ((w.alloc (E #[I K 3,U d,U b,U a,U c,I K p,I K l] 30)).alloc (E #[I K 0,I K 0,U ⟨#[]⟩,M N 0 0,U ⟨#[]⟩] 46)):=(bR _ _).alloc (lR _) _;have o0:((w.alloc (E #[I K 3,U d,U b,U a,U c,I K p,I K l] 30)).alloc (E #[I K 0,I K 0,U ⟨#[]⟩,M N 0 0,U ⟨#[]⟩] 46)).cell? ⟨w.heap.size,0,N⟩=J (I K 3):=ah ad (by rw[cA (w:=w) _ _ w.heap.size 0 rfl];rfl);have o5:((w.alloc (E #[I K 3,U d,U b,U a,U c,I K p,I K l] 30)).alloc (E #[I K 0,I K 0,U ⟨#[]⟩,M N 0 0,U ⟨#[]⟩] 46)).cell? ⟨w.heap.size,5,N⟩=J (I K p):=ah ad (by rw[cA (w:=w) _ _ w.heap.size 5 rfl];rfl);have HW:Hid (Below w.heap.size w ((w.alloc (E #[I K 3,U d,U b,U a,U c,I K p,I K l] 30)).alloc (E #[I K 0,I K 0,U ⟨#[]⟩,M N 0 0,U ⟨#[]⟩] 46))/\jG (w.heap.size+1) ((w.alloc (E #[I K 3,U d,U b,U a,U c,I K p,I K l] 30)).alloc (E #[I K 0,I K 0,U ⟨#[]⟩,M N 0 0,U ⟨#[]⟩] 46))/\((w.alloc (E #[I K 3,U d,U b,U a,U c,I K p,I K l] 30)).alloc (E #[I K 0,I K 0,U ⟨#[]⟩,M N 0 0,U ⟨#[]⟩] 46)).cell? ⟨w.heap.size,0,N⟩=J (I K 3)/\((w.alloc (E #[I K 3,U d,U b,U a,U c,I K p,I K l] 30)).alloc (E #[I K 0,I K 0,U ⟨#[]⟩,M N 0 0,U ⟨#[]⟩] 46)).cell? ⟨w.heap.size,5,N⟩=J (I K p)):=⟨a1,RA,o0,o5⟩;clear a1 RA ad o0 o5;generalize((w.alloc (E #[I K 3,U d,U b,U a,U c,I K p,I K l] 30)).alloc (E #[I K 0,I K 0,U ⟨#[]⟩,M N 0 0,U ⟨#[]⟩] 46))=Wz at *
 go_loopw [8] (λs8 wr=>∃r:Nat,r<=R[j].h.length/\s8=I K r/\(∀t (ht:t<R[j].h.length),t<r->R[j].h[t].num≠p)/\Below Wz.heap.size Wz wr) (λs8 _=>R[j].h.length-(intOf s8).toNat)
 case atStart=>exact⟨0,Nat.zero_le _,rfl,λt ht h=>absurd h (by omega),bR _ _⟩
 case round=>
  obtain⟨r,hrm,rfl,L,y⟩:=hrel;have ac:Hid (∀t (ht:t<R[j].h.length),t<r->R[j].h[t].num≠p):=L;have HB:Hid (Below w.heap.size w wr/\jG (w.heap.size+1) wr):=⟨HW.out.1.trans (y.mono HW.out.1.size),HW.out.2.1.on y⟩;have o0:=ah y HW.out.2.2.1;have o5:=ah y HW.out.2.2.2;have a5:Hid (Below Wz.heap.size Wz wr):=y;clear L y;by_cases aa:r<R[j].h.length
  .skip
   obtain⟨gv',vcap',a0,-,z0,z1,z2⟩:=HH.out.1.ver j hj r aa;rw[HH.out.2.2]at a0;cases a0;replace z0:=ah HB.out.1 z0;replace z1:=ah HB.out.1 z1;replace z2:=ah HB.out.1 z2;have hri:(r:Int)<(R[j].h.length:Int):=by omega
   by_cases m:R[j].h[r].num=p
   .have HS:=A.out r aa m ac.out;have s:Hid (so=(z,if R[j].h[r].mark then⟨6,0,⟨#[]⟩⟩else⟨0,0,R[j].h[r].body⟩)):=HS;have al:(R[j].h[r].num != p)=false:=by simp[m]
    clear HS m;generalize R[j].h[r]=v at *;obtain⟨vn,vb,vm⟩:=v;simp only at z0 z1 z2 al s;go_wp2_with fail
    go_quiet (fail)
    have hq:Below wr.heap.size wr (wr.drewN nq):=below_drewN (bR _ _) _;have z1':=ah hq z1;have z2':=ah hq z2;have o0':=ah hq o0;have F:Hid (Below w.heap.size w (wr.drewN nq)/\jG (w.heap.size+1) (wr.drewN nq)):=⟨HB.out.1.trans (hq.mono HB.out.1.size),HB.out.2.on hq⟩;clear z0 z1 z2 o0 o5 hq;generalize wr.drewN nq=wq at *;cases vm with
    |true=>
     go_wp2_with fail
     refine(eF 6 _).mono ?_;rintro e w2 ⟨rfl,b2⟩;have af:Hid (Below w.heap.size w w2):=F.out.1.trans (b2.mono F.out.1.size);have⟨d0,d1,d2,d3,d4,q⟩:=F.out.2.on b2;have g0:=q 0;have g1:=q 1;have g2:=q 2;have g3:=q 3;have g4:=q 4;clear b2 q;unfold aD;go_wp2;refine bodyPost_ret (v:=aD ⟨6,0,⟨#[]⟩⟩) (by simp[results,results57,go_sem,aD,d0,d1,d2,d3,d4]) rfl ⟨by rw[s.out];rfl,?_⟩;have y:=dH af.out (x:=w.heap.size+1) (by omega) (I K 6) (I K 0) (U ⟨#[]⟩) (M N 0 0) (U ⟨#[]⟩);exact⟨_,R,V,HH.out.1.below y,by rw[s.out];exact HH.out.2.1,bI ab y _ _⟩
    |false=>
     have⟨d0,d1,d2,d3,d4,q⟩:=F.out.2;have g0:=q 0;have g1:=q 1;have g2:=q 2;have g3:=q 3;have g4:=q 4;clear q;go_wp2;refine bodyPost_ret (v:=aD ⟨0,0,vb⟩) (by simp[results,results57,go_sem,aD,d0,d1,d2,d3,d4]) rfl ⟨by rw[s.out];rfl,?_⟩;have y:=dH F.out.1 (x:=w.heap.size+1) (by omega) (I K 0) (I K 0) (U vb) (M N 0 0) (U ⟨#[]⟩);exact⟨_,R,V,HH.out.1.below y,by rw[s.out];exact HH.out.2.1,bI ab y _ _⟩
   .have al:(R[j].h[r].num != p)=true:=by simp[m]
    have a6:Hid (R[j].h[r].num≠p):=m;generalize R[j].h[r].num=vn at z0 al m;clear z1 z2 m;go_wp2_with fail
    go_quiet (fail)
    go_wp2_with fail
    refine⟨⟨r+1,aa,by go_num,λt ht hlt=>?_,below_drewN a5.out _⟩,by simp[intOf];omega⟩;rcases Nat.lt_or_ge t r with h1|h1
    .exact ac.out t ht h1
    .have:t=r:=by omega
     subst this;exact a6.out
  .have a7:r=R[j].h.length:=by omega
   subst a7;have s:Hid (so=(z,⟨5,0,⟨#[]⟩⟩)):=D.out (λt ht=>ac.out t ht ht);go_wp2_with fail
   refine(eF 5 _).mono ?_;rintro e w2 ⟨rfl,b2⟩;have af:Hid (Below w.heap.size w w2):=HB.out.1.trans (b2.mono HB.out.1.size);have⟨d0,d1,d2,d3,d4,q⟩:=HB.out.2.on b2;have g0:=q 0;have g1:=q 1;have g2:=q 2;have g3:=q 3;have g4:=q 4;clear b2 q;unfold aD;go_wp2;refine bodyPost_ret (v:=aD ⟨5,0,⟨#[]⟩⟩) (by simp[results,results57,go_sem,aD,d0,d1,d2,d3,d4]) rfl ⟨by rw[s.out],?_⟩;have y:=dH af.out (x:=w.heap.size+1) (by omega) (I K 5) (I K 0) (U ⟨#[]⟩) (M N 0 0) (U ⟨#[]⟩);exact⟨_,R,V,HH.out.1.below y,by rw[s.out];exact HH.out.2.1,bI ab y _ _⟩
theorem nj(a:o.kind=5)(d:aK o.key=Y)(c:cD (b.f o.key.data.toList) o.n=N):aA b o=(b,⟨5,0,⟨#[]⟩⟩):=by
 simp[aA,a,d,c]
theorem rF(a:o.kind=5)(d:aK o.key=Y)(c:cD (b.f o.key.data.toList) o.n=J r):aA b o=(bL b o.key r,⟨0,0,⟨#[]⟩⟩):=by
 simp[aA,a,d,c]
theorem Sim.dropSome(S:Sim s R nx)(m:i<R.length){o:ByteArray}(t:R[i].key=o)(hr:r<R[i].h.length)(v:Wx)(d:R[i].h.take r++R[i].h.drop (r+1)≠[]):Sim (bL s o r) (R.set i ⟨R[i].key,R[i].h.take r++R[i].h.drop (r+1),v⟩) nx:=by
 subst t;have D:=xX R i m ⟨R[i].key,R[i].h.take r++R[i].h.drop (r+1),v⟩;have B:(R[i].h.take r++R[i].h.drop (r+1)).length=R[i].h.length-1:=by rw[lP,tL,lD];omega
 simp only[B]at D;have hcnt:=S.count;have hlim:=S.lim;refine⟨S.next,?_,?_,?_,?_,?_,by omega⟩
 .intro e p;rcases mq p with rfl|⟨j,n,-,rfl⟩
  .exact d
  .exact S.full _ (List.getElem_mem n)
 .rw [List.pairwise_iff_getElem];intro a b z y u;rw[List.length_set]at z y;rw[List.getElem_set,List.getElem_set];by_cases q:i=a
  .have l:¬i=b:=by omega
   rw[if_pos q,if_neg l];exactλe=>S.other m y (by omega) e.symm
  .rw [if_neg q];by_cases l:i=b
   .rw [if_pos l];exact S.other m z (by omega)
   .rw [if_neg l];have A:=S.keys;rw[List.pairwise_iff_getElem]at A;exact A a b z y u
 .intro e p;rcases mq p with rfl|⟨j,n,c,rfl⟩
  .simp [bL,upd,S.here _ (List.getElem_mem m)]
  .have d:R[j].key.data.toList≠R[i].key.data.toList:=λe=>S.other m n c (jc e)
   simp[bL,upd,d,S.here _ (List.getElem_mem n)]
 .intro k t;have q:=t _ (qm (x:=⟨R[i].key,R[i].h.take r++R[i].h.drop (r+1),v⟩) m);have l:s.f k=[]:=S.gone k (λe p=>by
   obtain⟨j,n,rfl⟩:=gM p;by_cases c:j=i
   .subst c;exact q
   .exact t _ (qn n c))
  simp only[bL,upd];rw[if_neg (λe=>q e.symm)];exact l
 .show s.count-1=_;omega
theorem Sim.dropLast(S:Sim u R nx)(B:i<R.length){n:ByteArray}(m:R[i].key=n)(hr:r<R[i].h.length)(o:R[i].h.take r++R[i].h.drop (r+1)=[]):Sim (bL u n r) (R.take i++R.drop (i+1)) nx:=by
 subst m;have v:R=R.take i++([R[i]]++R.drop (i+1)):=by simp
 have y:(R[i].h.take r++R[i].h.drop (r+1)).length=R[i].h.length-1:=by rw[lP,tL,lD];omega
 rw[o]at y;have ht:totR R=totR (R.take i++R.drop (i+1))+1:=by
  have z:=congrArg totR v;rw[z,dz,dz,dz];have:totR [R[i]]=R[i].h.length:=by simp[totR]
  simp only[lN]at y;omega
 have hcnt:=S.count;have hlim:=S.lim;have f:∀e∈R.take i++R.drop (i+1),e∈R:=λe c=>by
  rcases List.mem_append.1 c with h|h
  .exact List.mem_of_mem_take h
  .exact List.mem_of_mem_drop h
 have p:=S.keys;rw[v,List.pairwise_append]at p;obtain⟨t,x,s⟩:=p;have d:=List.pairwise_append.1 x;have q:∀e∈R.take i++R.drop (i+1),e.key≠R[i].key:=λe c=>by
  rcases List.mem_append.1 c with h|h
  .exact s e h R[i] (List.mem_append_left _ (List.mem_singleton.2 rfl))
  .exact λl=>d.2.2 R[i] (List.mem_singleton.2 rfl) e h l.symm
 refine⟨S.next,λe c=>S.full e (f e c),?_,?_,?_,?_,by omega⟩
 .rw [List.pairwise_append];exact⟨t,d.2.1,λa D b A=>s a D b (List.mem_append_right _ A)⟩
 .intro e c;have m:e.key.data.toList≠R[i].key.data.toList:=λh=>q e c (jc h)
  simp[bL,upd,m,S.here _ (f e c)]
 .intro k m;simp only[bL,upd];by_cases j:k=R[i].key.data.toList
  .rw [if_pos j,S.here _ (List.getElem_mem B)];exact o
  .rw [if_neg j];refine S.gone k (λe c=>?_);rw[v]at c;rcases List.mem_append.1 c with h|h
   .exact m e (List.mem_append_left _ h)
   .rcases List.mem_append.1 h with l|l
    .simp only[List.mem_cons,List.not_mem_nil,or_false]at l;subst l;exactλe=>j e.symm
    .exact m e (List.mem_append_right _ l)
 .show u.count-1=_;omega
theorem ax.putNew{w j:Wj}{t c:Wx}{R':List bD}(H:ax B w k t R nx q)(s:Below w.heap.size w j)(m:j.ownsRow w.heap.size 140 2 c R'.length (aB R'))(u:B<=w.heap.size)(l:∀e∈R',e∈R)(n:R'.Pairwise (λa b=>a.v.ownBlock≠b.v.ownBlock))(f:∀e∈R',e.v.ownBlock≠N):
  ax B (j.setCell ⟨k,0,N⟩ c) k c R' nx q:=by
 have hk:=H.lt;have d:=cF j k 0 c;have i:c.ownBlock≠J k:=λe=>by have:=(m.lt k e).1;omega
 have H1:=H.below s;refine⟨H1.cells.set0 _,(gG m u).kept d (Or.inr i),λe h=>(H1.vers e (l e h)).kept d (Or.inr (H1.apartV e (l e h))),i,λe h=>H1.apartV e (l e h),?_,n⟩;intro e h p;cases o:e.v.ownBlock with
 |none=>exact f e h o
 |some b=>
  have h3:=((H.vers e (l e h)).lt b o).2;rw[o]at p;have:=(m.lt b p.symm).1;omega
theorem Hp{w d f:Wj}{c a j:Nat}{v':Wx}{h':List Ver}(z:j<R.length)(S:Sim y R q)(H:ax B w k (M (J ⟨c,0,N⟩) R.length a) R q nx)(Hq:ax B d k (M (J ⟨c,0,N⟩) R.length a) R q nx)
  (o:Below w.heap.size w d) (h:Below d.heap.size d f) (u:f.ownsRow d.heap.size 130 3 v' h'.length (aq h')) (RA:jG (w.heap.size+1) f) (hx:w.heap.size+1<d.heap.size) (D:B<=d.heap.size):
  ax B (f.setCell ⟨c,j*2+1,N⟩ v') k (M (J ⟨c,0,N⟩) R.length a) (R.set j ⟨R[j].key,h',v'⟩) q nx/\bu w (f.setCell ⟨c,j*2+1,N⟩ v') k (M (J ⟨c,0,N⟩) R.length a) R/\jG (w.heap.size+1) (f.setCell ⟨c,j*2+1,N⟩ v') /\
   (Value.slice (J ⟨c,0,N⟩) R.length a).ownBlock≠J (w.heap.size+1)/\(∀e∈R.set j ⟨R[j].key,h',v'⟩,e.v.ownBlock≠J (w.heap.size+1)):=by
 have hge:=(H.row.lt c rfl).2;have x:=H.lt;have n:=cF f c (j*2+1) v';have t:c≠k:=λe=>H.apart (by rw[<-e];rfl)
 have p:Below w.heap.size w f:=o.trans (h.mono o.size);have l:∀b,v'.ownBlock=J b->d.heap.size<=b:=λb e=>(u.lt b e).1
 refine⟨Hq.putV z (aS h N) (Or.inl rfl) (gG u D) ?_ (λi r _=>S.full _ (List.getElem_mem r)),?_,RA.grown n (by simp;omega),by simp[Value.ownBlock];omega,?_⟩
 .cases m:v'.ownBlock with
  |none=>exact Or.inl rfl
  |some b=>exact Or.inr (Or.inr ⟨b,rfl,l b m⟩)
 .exact (bI x p _ _).step n (λb _ e=>Or.inl e) (lL x p.size) (by simpa using t)
 .intro e A;rcases mq A with rfl|⟨i,r,-,rfl⟩
  .intro m;have:=l _ m;omega
  .intro m;have:=((H.vers _ (List.getElem_mem r)).lt _ m).2;omega
theorem Ff(R:List bD)(j:Nat)(a:j<R.length)(x:bD):(R.set j x).take j=R.take j:=by
 rw[List.set_eq_take_append_cons_drop,if_pos a];exact List.take_left' (by rw[tL];omega)
theorem Fg(R:List bD)(j:Nat)(a:j<R.length)(x:bD):(R.set j x).drop (j+1)=R.drop (j+1):=by
 rw[List.set_eq_take_append_cons_drop,if_pos a,show R.take j++x::R.drop (j+1)=(R.take j++[x])++R.drop (j+1)by simp];exact List.drop_left' (by rw[lP,tL];simp;omega)
theorem mU{w:Wj}{h:Wx}(H:ax B w r h R n nx)(L:List bD)(l:∀e∈L,e∈R):∀u∈aB L,u.oneCell'=true:=by
 intro u b;have⟨e,i,b⟩:=List.mem_flatMap.1 b;simp only[List.mem_cons,List.not_mem_nil,or_false]at b;rcases b with rfl|rfl
 .rfl
 .obtain ⟨a,c,j,-⟩:=az (H.vers e (l e i));rw[j];rfl
theorem zV(B k:Nat)(sl:Wx)(R:List bD)(nx tm:Int)(st:St)(o:OpD)(w:Wj)(H:ax B w k sl R nx tm)(S:Sim st R nx)(af:o.kind=5)(hk:aK o.key=Y)(i:Nat)(hi:i<R.length)(bl:R[i].key=o.key)(hB:B<=w.heap.size):
  Calls Yq.prog 57 #[O (J ⟨k,0,N⟩),aT o] w (bQ B k (aA st o).1 (aA st o).2 w sl R tm):=by
 have⟨i0,cb,bv,ch,b6⟩:=info_parts Yq.infoRver;have hlen:=gl R S.full;have hlim:=S.lim;have es:=H.lt;have a1:R[i]∈R:=List.getElem_mem hi;have bp:=List.length_pos_iff.2 (S.full _ a1);have hml:=uw R i hi;have cl:st.f o.key.data.toList=R[i].h:=by rw[<-bl];exact S.here _ a1
 obtain⟨gv,ab,hv,-,hgl,el⟩:=cW (H.vers _ a1) bp;obtain⟨T,y,rfl,-,hgel,x0,x1⟩:=H.ent i hi;rw[hv]at x1;have c0:=H.cells.c0;have HH:Hid (ax B w k (M (J ⟨T,0,N⟩) R.length y) R nx tm/\Sim st R nx/\R[i].v=M (J ⟨gv,0,N⟩) R[i].h.length ab):=⟨H,S,hv⟩;have bk:Hid (R[i].key=o.key):=bl;have cv:Hid (∀j (hj:j<R.length),R[j].key=o.key->j=i):=λj hj bi=>by
  by_cases h:j=i
  .exact h
  .exact absurd (bi.trans bl.symm) (S.other hi hj h)
 have a7:Hid ((∀j (hj:j<R[i].h.length),R[i].h[j].num≠o.n)->aA st o=(st,⟨5,0,⟨#[]⟩⟩)):=λh=>nj af hk (by rw[cl];exact mS h)
 have a3:Hid (∀r (hr:r<R[i].h.length),R[i].h[r].num=o.n->(∀j (hj:j<R[i].h.length),j<r->R[i].h[j].num≠o.n)->aA st o=(bL st o.key r,⟨0,0,⟨#[]⟩⟩)):=λr hr h1 h2=>rF af hk (by rw[cl];exact mT hr h1 h2)
 have ct:=af;clear H S bl hk hv a1 bp x0 cl;generalize aA st o=so at *;obtain⟨kind,z,d,c,l,V,D⟩:=o;simp only at ct bk cv a7 a3;subst ct;have hii:(i:Int)<(R.length:Int):=by omega
 unfold bQ aT;go_enter (Yq.nq func57),ntmps57;go_wp2_with fail
 refine(jb B k _ R nx tm z _ ((HH.out.1.alloc _).alloc _) (by omega)).mono ?_;rintro e w1 ⟨rfl,⟨j,hj,bi,rfl⟩|⟨be,-⟩⟩
 rotate_left
 .exact absurd bk.out (be _ (List.getElem_mem hi))
 have em:=cv.out j hj bi;subst em;clear bi;have hne1:¬T=w.heap.size:=by omega
 have hne2:¬T=w.heap.size+1:=by omega
 have hne3:¬gv=w.heap.size:=by omega
 have hne4:¬gv=w.heap.size+1:=by omega
 have hne5:¬k=w.heap.size:=by omega
 have hne6:¬k=w.heap.size+1:=by omega
 go_wp2_with fail
 have df:Below w.heap.size w ((w.alloc (E #[I K 5,U z,U d,U c,U l,I K V,I K D] 30)).alloc (E #[I K 0,I K 0,U ⟨#[]⟩,M N 0 0,U ⟨#[]⟩] 46)):=((bR _ w).alloc (lR _) _).alloc (by simp) _;have RA:=Fc (w.alloc (E #[I K 5,U z,U d,U c,U l,I K V,I K D] 30)) (w.heap.size+1) (by simp) 46;have b0:Below (w.alloc (E #[I K 5,U z,U d,U c,U l,I K V,I K D] 30)).heap.size (w.alloc (E #[I K 5,U z,U d,U c,U l,I K V,I K D] 30)) ((w.alloc (E #[I K 5,U z,U d,U c,U l,I K V,I K D] 30)).alloc (E #[I K 0,I K 0,U ⟨#[]⟩,M N 0 0,U ⟨#[]⟩] 46)):=(bR _ _).alloc (lR _) _;have o0:((w.alloc (E #[I K 5,U z,U d,U c,U l,I K V,I K D] 30)).alloc (E #[I K 0,I K 0,U ⟨#[]⟩,M N 0 0,U ⟨#[]⟩] 46)).cell? ⟨w.heap.size,0,N⟩=J (I K 5):=ah b0 (by rw[cA (w:=w) _ _ w.heap.size 0 rfl];rfl);have o5:((w.alloc (E #[I K 5,U z,U d,U c,U l,I K V,I K D] 30)).alloc (E #[I K 0,I K 0,U ⟨#[]⟩,M N 0 0,U ⟨#[]⟩] 46)).cell? ⟨w.heap.size,5,N⟩=J (I K V):=ah b0 (by rw[cA (w:=w) _ _ w.heap.size 5 rfl];rfl);have HW:Hid (Below w.heap.size w ((w.alloc (E #[I K 5,U z,U d,U c,U l,I K V,I K D] 30)).alloc (E #[I K 0,I K 0,U ⟨#[]⟩,M N 0 0,U ⟨#[]⟩] 46))/\jG (w.heap.size+1) ((w.alloc (E #[I K 5,U z,U d,U c,U l,I K V,I K D] 30)).alloc (E #[I K 0,I K 0,U ⟨#[]⟩,M N 0 0,U ⟨#[]⟩] 46))/\((w.alloc (E #[I K 5,U z,U d,U c,U l,I K V,I K D] 30)).alloc (E #[I K 0,I K 0,U ⟨#[]⟩,M N 0 0,U ⟨#[]⟩] 46)).cell? ⟨w.heap.size,0,N⟩=J (I K 5)/\((w.alloc (E #[I K 5,U z,U d,U c,U l,I K V,I K D] 30)).alloc (E #[I K 0,I K 0,U ⟨#[]⟩,M N 0 0,U ⟨#[]⟩] 46)).cell? ⟨w.heap.size,5,N⟩=J (I K V)):=⟨df,RA,o0,o5⟩;clear df RA b0 o0 o5;generalize((w.alloc (E #[I K 5,U z,U d,U c,U l,I K V,I K D] 30)).alloc (E #[I K 0,I K 0,U ⟨#[]⟩,M N 0 0,U ⟨#[]⟩] 46))=Wz at *
 go_loopw [8] (λs8 wr=>∃r:Nat,r<=R[j].h.length/\s8=I K r/\(∀t (A:t<R[j].h.length),t<r->R[j].h[t].num≠V)/\Below Wz.heap.size Wz wr) (λs8 _=>R[j].h.length-(intOf s8).toNat)
 case atStart=>exact⟨0,Nat.zero_le _,rfl,λt A h=>absurd h (by omega),bR _ _⟩
 case round=>
  obtain⟨r,hrm,rfl,be,hb⟩:=hrel;have bx:Hid (∀t (A:t<R[j].h.length),t<r->R[j].h[t].num≠V):=be;have HB:Hid (Below w.heap.size w wr/\jG (w.heap.size+1) wr):=⟨HW.out.1.trans (hb.mono HW.out.1.size),HW.out.2.1.on hb⟩;have o0:=ah hb HW.out.2.2.1;have o5:=ah hb HW.out.2.2.2;have ef:Hid (Below Wz.heap.size Wz wr):=hb;clear be hb;by_cases bd:r<R[j].h.length
  .skip
   obtain⟨gv',vcap',dc,-,z0,z1,z2⟩:=HH.out.1.ver j hj r bd;rw[HH.out.2.2]at dc;cases dc;replace z0:=ah HB.out.1 z0;replace z1:=ah HB.out.1 z1;replace z2:=ah HB.out.1 z2;have hri:(r:Int)<(R[j].h.length:Int):=by omega
   by_cases F:R[j].h[r].num=V
   .have HS:=a3.out r bd F bx.out;have a0:Hid (so=(bL st z r,⟨0,0,⟨#[]⟩⟩)):=HS;have cm:(R[j].h[r].num != V)=false:=by simp[F]
    clear HS F z1 z2;generalize R[j].h[r].num=vn at z0 cm;have hml2:R[j].h.length<=200:=by omega
    go_wp2_with fail
    go_quiet (fail)
    have hq:Below wr.heap.size wr (wr.drewN nq):=below_drewN (bR _ _) _;have o0':=ah hq o0;have ad:Hid (Below w.heap.size w (wr.drewN nq)/\jG (w.heap.size+1) (wr.drewN nq)):=⟨HB.out.1.trans (hq.mono HB.out.1.size),HB.out.2.on hq⟩;clear z0 o0 o5 hq;generalize wr.drewN nq=X at *;have cp:Hid (ax B X k (M (J ⟨T,0,N⟩) R.length y) R nx tm):=HH.out.1.below ad.out.1;have d8:Hid (∀t u,(aq (R[j].h.take r))[t]?=J u->X.cell? ((⟨gv,0,N⟩:Addr).add t)=J u):=λt u A=>by
     have ho:=cp.out.vers _ (List.getElem_mem hj);refine ho.cells (g:=gv) (by rw[HH.out.2.2];rfl) t u ?_;have h3:aq (R[j].h.take r)=(aq R[j].h).take (r*3):=(gC 3 _ (λ_=>rfl) R[j].h r).symm;rw[h3]at A;rw[List.getElem?_take]at A;split at A
     .exact A
     .cases A
    have bt:(aq (R[j].h.take r)).length=r*3:=by rw[aq,fO 3 _ (λ_=>rfl),tL];omega
    go_upto_region 20 with(at_builtin;go_loud (refine wpList_append_own _ rfl _ _ 138 rfl X.heap.size 130 i0 _ 3 32 (Yq.u underlying138) cb bv ch b6 rfl (by decide) _ 0 [] rfl (World.ownsRow_nil _ _ _ _) ⟨gv,0,N⟩ r ab (aq (R[j].h.take r)) rfl bt d8.out (eK _) (by simp only[maxLen];omega) (by omega) (lR _) ?_);intro v1 w1 b7 c6 _;obtain⟨dt,d5,rfl,-⟩:=az b7)
    have ac:Hid (Below X.heap.size X w1/\w1.ownsRow X.heap.size 130 3 (M dt r d5) r (aq (R[j].h.take r))):=⟨(bR _ X).grown (row:=N) c6 (lR _) (λk e=>by cases e),by simpa using b7⟩;clear b7 c6;obtain⟨q,hq⟩:∃q,R[j].h.length=r+1+q:=⟨R[j].h.length-(r+1),by omega⟩;have c7:(aq (R[j].h.drop (r+1))).length=q*3:=by rw[aq,fO 3 _ (λ_=>rfl),lD];omega
    have c4:Hid (∀a:Addr,(a=⟨gv,(r+1)*3,N⟩\/q=0)->∀t u,(aq (R[j].h.drop (r+1)))[t]?=J u->w1.cell? (a.add t)=J u):=λa ha t u A=>by
     rcases ha with rfl|h0
     .have ho:=cp.out.vers _ (List.getElem_mem hj);have h3:aq (R[j].h.drop (r+1))=(aq R[j].h).drop ((r+1)*3):=(gE 3 _ (λ_=>rfl) R[j].h (r+1)).symm;rw[h3,List.getElem?_drop]at A;have:=ah ac.out.1 (ho.cells (g:=gv) (by rw[HH.out.2.2];rfl) _ u A);rw[Addr.add_lit]at this ⊢;simpa using this
     .have:aq (R[j].h.drop (r+1))=[]:=List.eq_nil_of_length_eq_zero (by omega);rw[this]at A;simp at A
    have h200:r+1+q<=200:=by omega
    have eo:r+1+q<=ab:=by have:=el;omega
    have dy:(R[j].h.take r++R[j].h.drop (r+1)).length=r+q:=by rw[lP,tL,lD];omega
    have b8:Hid ((R[j].h.take r++R[j].h.drop (r+1)).length=r+q):=dy;have c1:Hid ((R[j].h)[r]?≠N):=show(R[j].h)[r]?≠N by rw[eL bd];simp
    clear dy;rw[hq]at *;clear hq;have da:Hid (∀ (v2:Wx) (w2:Wj),w2.ownsRow X.heap.size 130 3 v2 (r+q) (aq (R[j].h.take r)++aq (R[j].h.drop (r+1)))->w1.grownBy w2 (Value.slice dt r d5).ownBlock->Below X.heap.size X w2/\w2.ownsRow X.heap.size 130 3 v2 (r+q) (aq (R[j].h.take r++R[j].h.drop (r+1)))):=λv2 w2 ap a9=>⟨ac.out.1.grown a9 ac.out.1.size (λk e=>(ac.out.2.lt k e).1),by
     have:aq (R[j].h.take r++R[j].h.drop (r+1))=aq (R[j].h.take r)++aq (R[j].h.drop (r+1)):=by simp[aq]
     rw[this];exact ap⟩
    go_cut [9] (λs9 wx=>∃s m,s9=M s (r+q) m/\Below X.heap.size X wx/\wx.ownsRow X.heap.size 130 3 (M s (r+q) m) (r+q) (aq (R[j].h.take r++R[j].h.drop (r+1))))
    case first=>
     by_cases b1:ab=r+1
     .have ej:q=0:=by have:=eo;omega
      subst ej;subst b1;go_wp2_with (at_builtin;go_loud (refine wpList_append_own _ rfl _ _ 138 rfl X.heap.size 130 i0 _ 3 32 (Yq.u underlying138) cb bv ch b6 rfl (by decide) _ r _ rfl ac.out.2 ⟨gv,0,N⟩ 0 0 (aq (R[j].h.drop (r+1))) rfl c7 (c4.out _ (Or.inr rfl)) (eK _) (by simp only[maxLen];omega) (by omega) ac.out.1.size ?_);intro v2 w2 ap a9 _;obtain⟨s,m,rfl,-⟩:=az ap)
      go_meet
      case rel=>exact⟨s,m,rfl,da.out _ _ ap a9⟩
     .go_wp2_with (at_builtin;refine wpList_append_own _ rfl _ _ 138 rfl X.heap.size 130 i0 _ 3 32 (Yq.u underlying138) cb bv ch b6 rfl (by decide) _ r _ rfl ac.out.2 ⟨gv,(r+1)*3,N⟩ q (ab-(r+1)) (aq (R[j].h.drop (r+1))) rfl c7 (c4.out _ (Or.inl rfl)) (eK _) (by simp only[maxLen];omega) (by omega) ac.out.1.size ?_;intro v2 w2 ap a9 _;obtain⟨s,m,rfl,-⟩:=az ap)
      go_meet
      case rel=>exact⟨s,m,rfl,da.out _ _ ap a9⟩
    case rest=>
    obtain⟨s,m,rfl,a2,cc⟩:=hcut;have a5:Below w.heap.size w wc:=ad.out.1.trans (a2.mono ad.out.1.size);have HC:Hid (Below w.heap.size w wc/\Below X.heap.size X wc/\wc.ownsRow X.heap.size 130 3 (M s (r+q) m) (r+q) (aq (R[j].h.take r++R[j].h.drop (r+1)))/\ax B wc k (M (J ⟨T,0,N⟩) R.length y) R nx tm/\jG (w.heap.size+1) wc):=⟨a5,a2,cc,HH.out.1.below a5,ad.out.2.on a2⟩;have c0':=ah a5 c0;have x1':=ah a5 x1;have f1':=HC.out.2.2.2.1.row.frozenAt (j*2+1);have c2:=Hp (v':=M s (r+q) m) (h':=R[j].h.take r++R[j].h.drop (r+1)) hj HH.out.2.1 HH.out.1 cp.out ad.out.1 a2 (by rw[b8.out];exact cc) (ad.out.2.on a2) ad.out.2.lt (lT hB ad.out.1.size);have HD:Hid (ax B (wc.setCell ⟨T,j*2+1,N⟩ (M s (r+q) m)) k (M (J ⟨T,0,N⟩) R.length y) (R.set j ⟨R[j].key,R[j].h.take r++R[j].h.drop (r+1),M s (r+q) m⟩) nx tm/\bu w (wc.setCell ⟨T,j*2+1,N⟩ (M s (r+q) m)) k (M (J ⟨T,0,N⟩) R.length y) R/\jG (w.heap.size+1) (wc.setCell ⟨T,j*2+1,N⟩ (M s (r+q) m)) /\
     (Value.slice (J ⟨T,0,N⟩) R.length y).ownBlock≠J (w.heap.size+1)/\(∀e∈R.set j ⟨R[j].key,R[j].h.take r++R[j].h.drop (r+1),M s (r+q) m⟩,e.v.ownBlock≠J (w.heap.size+1))):=c2
    clear a5 a2 cc c2
    go_upto_region 22 with fail
    generalize wc.setCell ⟨T,j*2+1,N⟩ (M s (r+q) m)=P at *;have⟨d0,d1,d2,d3,d4,Q⟩:=HD.out.2.2.1;have g0:=Q 0;have g1:=Q 1;have g2:=Q 2;have g3:=Q 3;have g4:=Q 4;clear Q;by_cases hz:r+q=0
    .have en:((r:Int)+(q:Int)==0)=true:=by simp;omega
     have e0:=HD.out.1.cells.c0;have e1:=HD.out.1.cells.fz 0;have b4:=HD.out.1.lt;have al:Hid (ax B P k (M (J ⟨T,0,N⟩) R.length y) (R.set j ⟨R[j].key,R[j].h.take r++R[j].h.drop (r+1),M s (r+q) m⟩) nx tm):=HD.out.1;obtain⟨R1,bn⟩:∃R1,R1=R.set j ⟨R[j].key,R[j].h.take r++R[j].h.drop (r+1),M s (r+q) m⟩:=⟨_,rfl⟩;rw[<-bn]at al;have bo:Hid (R1=R.set j ⟨R[j].key,R[j].h.take r++R[j].h.drop (r+1),M s (r+q) m⟩):=bn;have bt:(aB (R1.take j)).length=j*2:=by rw[ja,tL,bn,List.length_set];omega
     clear bn;have er:Hid (∀t u,(aB (R1.take j))[t]?=J u->P.cell? ((⟨T,0,N⟩:Addr).add t)=J u):=λt u A=>by
      refine al.out.row.cells (g:=T) rfl t u ?_;have h3:aB (R1.take j)=(aB R1).take (j*2):=(gC 2 _ (λ_=>rfl) R1 j).symm;rw[h3,List.getElem?_take]at A;split at A
      .exact A
      .cases A
     have ea:Hid (∀u∈aB (R1.take j),u.oneCell'=Y):=mU al.out _ (λe he=>List.mem_of_mem_take he);have⟨t0,ca,bw,ck,b9⟩:=info_parts Yq.infoREnt;have hec:R.length<=y:=by obtain⟨_,_,he,-,-,h⟩:=cW HH.out.1.row (by omega);cases he;exact h
     go_upto_region 25 with(at_builtin;go_loud (refine wpList_append_own _ rfl _ _ 49 rfl P.heap.size 140 t0 _ 2 40 (Yq.u underlying49) ca bw ck b9 rfl (by decide) _ 0 [] rfl (World.ownsRow_nil _ _ _ _) ⟨T,0,N⟩ j y (aB (R1.take j)) rfl bt er.out ea.out (by simp only[maxLen];omega) (by omega) (lR _) ?_);intro v3 w3 cd c3 _;obtain⟨c8,cr,rfl,-⟩:=az cd)
     have aa:Hid (Below P.heap.size P w3/\w3.ownsRow P.heap.size 140 2 (M c8 j cr) j (aB (R1.take j))):=⟨(bR _ P).grown (row:=N) c3 (lR _) (λk e=>by cases e),by simpa using cd⟩;clear cd c3;have a6:(aB (R1.drop (j+1))).length=(R.length-(j+1))*2:=by rw[ja,lD,bo.out,List.length_set]
     have ds:Hid (∀a:Addr,(a=⟨T,(j+1)*2,N⟩\/R.length-(j+1)=0)->∀t u,(aB (R1.drop (j+1)))[t]?=J u->w3.cell? (a.add t)=J u):=λa ha t u A=>by
      rcases ha with rfl|h0
      .have h3:aB (R1.drop (j+1))=(aB R1).drop ((j+1)*2):=(gE 2 _ (λ_=>rfl) R1 (j+1)).symm;rw[h3,List.getElem?_drop]at A;have:=ah aa.out.1 (al.out.row.cells (g:=T) rfl _ u A);rw[Addr.add_lit]at this ⊢;simpa using this
      .have:aB (R1.drop (j+1))=[]:=List.eq_nil_of_length_eq_zero (by rw[a6,h0]);rw[this]at A;simp at A
     have c5:Hid (∀u∈aB (R1.drop (j+1)),u.oneCell'=Y):=mU al.out _ (λe he=>List.mem_of_mem_drop he);have e0c:=ah aa.out.1 e0;have bq:Hid (∀ (v4:Wx) (w4:Wj),w4.ownsRow P.heap.size 140 2 v4 (j+(R.length-(j+1))) (aB (R1.take j)++aB (R1.drop (j+1)))->w3.grownBy w4 (Value.slice c8 j cr).ownBlock->Below P.heap.size P w4/\w4.ownsRow P.heap.size 140 2 v4 (j+(R.length-(j+1))) (aB (R1.take j++R1.drop (j+1)))):=λv4 w4 av a8=>⟨aa.out.1.grown a8 aa.out.1.size (λk e=>(aa.out.2.lt k e).1),by
      have:aB (R1.take j++R1.drop (j+1))=aB (R1.take j)++aB (R1.drop (j+1)):=by simp[aB]
      rw[this];exact av⟩
     go_cut [10] (λs10 wx=>∃G L,s10=M G (j+(R.length-(j+1))) L/\Below P.heap.size P wx/\wx.ownsRow P.heap.size 140 2 (M G (j+(R.length-(j+1))) L) (j+(R.length-(j+1))) (aB (R1.take j++R1.drop (j+1))))
     case first=>
      have hjl:j+1<=R.length:=hj;by_cases b1:y=j+1
      .have b3:Hid (R.length-(j+1)=0):=show R.length-(j+1)=0 by omega
       subst b1;have d6:(aB (R1.drop (j+1))).length=0*2:=by rw[a6,b3.out]
       go_wp2_with (at_builtin;go_loud (refine wpList_append_own _ rfl _ _ 49 rfl P.heap.size 140 t0 _ 2 40 (Yq.u underlying49) ca bw ck b9 rfl (by decide) _ j _ rfl aa.out.2 ⟨T,0,N⟩ 0 0 (aB (R1.drop (j+1))) rfl d6 (ds.out _ (Or.inr b3.out)) c5.out (by simp only[maxLen];omega) (by omega) aa.out.1.size ?_);intro v4 w4 av a8 _;obtain⟨G,L,rfl,-⟩:=az av)
       go_meet
       case rel=>
        have cj:j+(R.length-(j+1))=j:=by rw[b3.out];rfl
        have h4:=bq.out (M G j L) _ (by rw[cj];exact av) a8;rw[cj]at h4;rw[cj];exact⟨G,L,rfl,h4⟩
      .go_wp2_with (at_builtin;go_loud (refine wpList_append_own _ rfl _ _ 49 rfl P.heap.size 140 t0 _ 2 40 (Yq.u underlying49) ca bw ck b9 rfl (by decide) _ j _ rfl aa.out.2 ⟨T,(j+1)*2,N⟩ (R.length-(j+1)) (y-(j+1)) (aB (R1.drop (j+1))) rfl a6 (ds.out _ (Or.inl rfl)) c5.out (by simp only[maxLen];omega) (by omega) aa.out.1.size ?_);intro v4 w4 av a8 _;obtain⟨G,L,rfl,-⟩:=az av)
       go_meet
       case rel=>exact⟨G,L,rfl,bq.out _ _ av a8⟩
     case rest=>
     obtain⟨G,L,rfl,a4,dd⟩:=hcut;have e0x:=ah a4 e0;have e1x:=(a4.frozen (p:=⟨k,0,N⟩) b4).trans e1;have⟨d0,d1,d2,d3,d4,Q⟩:=HD.out.2.2.1.on a4;have g0:=Q 0;have g1:=Q 1;have g2:=Q 2;have g3:=Q 3;have g4:=Q 4;have hk1:¬k=w.heap.size+1:=by omega
     have hk2:¬w.heap.size+1=k:=by omega
     have HZ:Hid (Below P.heap.size P wc/\wc.ownsRow P.heap.size 140 2 (M G (j+(R.length-(j+1))) L) (j+(R.length-(j+1))) (aB (R1.take j++R1.drop (j+1)))):=⟨a4,dd⟩;clear Q a4 dd;go_wp2;refine bodyPost_ret (v:=aD ⟨0,0,⟨#[]⟩⟩) (by simp[results,results57,go_sem,aD,d0,d1,d2,d3,d4]) rfl ⟨by rw[a0.out],?_⟩;have⟨P1,P3,P4,P7,P8⟩:=HD.out;have hlt4:=P4.lt;have hwd:=P3.size;have b5:R1.take j++R1.drop (j+1)=R.take j++R.drop (j+1):=by rw[bo.out,Ff R j hj,Fg R j hj]
     have c9:∀e∈R1.take j++R1.drop (j+1),e∈R1:=λe he=>by
      rcases List.mem_append.1 he with h|h
      .exact List.mem_of_mem_take h
      .exact List.mem_of_mem_drop h
     have ar:∀e∈R1.take j++R1.drop (j+1),e∈R:=λe he=>by
      rw[b5]at he;rcases List.mem_append.1 he with h|h
      .exact List.mem_of_mem_take h
      .exact List.mem_of_mem_drop h
     have bs:=al.out.putNew (R':=R1.take j++R1.drop (j+1)) HZ.out.1 (by
       have hl:(R1.take j++R1.drop (j+1)).length=j+(R.length-(j+1)):=by rw[b5,lP,tL,lD];omega
       rw[hl];exact HZ.out.2) (by omega) c9 (by rw[<-List.eraseIdx_eq_take_drop_succ];exact al.out.pw.sublist (List.eraseIdx_sublist _ _))
      (λe he=>rE (HH.out.1.vers e (ar e he)) (List.length_pos_iff.2 (HH.out.2.1.full e (ar e he))))
     have bb:=jw (wc.setCell ⟨k,0,N⟩ (M G (j+(R.length-(j+1))) L)) (w.heap.size+1) (I K 0) (I K 0) (U ⟨#[]⟩) (M N 0 0) (U ⟨#[]⟩);have ei:k<wc.heap.size:=lL b4 HZ.out.1.size;refine⟨_,_,nx,bs.grown bb (by simp;omega) (Or.inr (λe=>by have:=(HZ.out.2.lt _ e).1;omega)) (λe he=>Or.inr (λh=>by have:=((HH.out.1.vers e (ar e he)).lt _ h).2;omega)),?_,(qo (P3.below HZ.out.1 b4) _ ei).step bb (λb hb e=>by cases e;omega) bs.lt (by simp;omega)⟩;rw[a0.out,b5];exact HH.out.2.1.dropLast hj bk.out (Nat.lt_of_not_le (λh=>c1.out (List.getElem?_eq_none h))) (List.eq_nil_of_length_eq_zero (by rw[b8.out];exact hz))
    .have en:((r:Int)+(q:Int)==0)=false:=by simp;omega
     go_wp2;refine bodyPost_ret (v:=aD ⟨0,0,⟨#[]⟩⟩) (by simp[results,results57,go_sem,aD,d0,d1,d2,d3,d4]) rfl ⟨by rw[a0.out],?_⟩;have bb:=jw P (w.heap.size+1) (I K 0) (I K 0) (U ⟨#[]⟩) (M N 0 0) (U ⟨#[]⟩);obtain⟨P1,P3,-,P7,P8⟩:=HD.out;refine⟨_,_,nx,P1.grown bb (by simp;omega) (Or.inr P7) (λe he=>Or.inr (P8 e he)),?_,P3.step bb (λb hb e=>by cases e;omega) P1.lt (by simp;omega)⟩;rw[a0.out];exact HH.out.2.1.dropSome hj bk.out (Nat.lt_of_not_le (λh=>c1.out (List.getElem?_eq_none h))) _ (λe=>by have:=b8.out;rw[e]at this;simp at this;omega)
   .have cm:(R[j].h[r].num != V)=true:=by simp[F]
    have eg:Hid (R[j].h[r].num≠V):=F;generalize R[j].h[r].num=vn at z0 cm F;clear z1 z2 F;go_wp2_with fail
    go_quiet (fail)
    go_wp2_with fail
    refine⟨⟨r+1,bd,by go_num,λt A hlt=>?_,below_drewN ef.out _⟩,by simp[intOf];omega⟩;rcases Nat.lt_or_ge t r with h1|h1
    .exact bx.out t A h1
    .have:t=r:=by omega
     subst this;exact eg.out
  .have et:r=R[j].h.length:=by omega
   subst et;have a0:Hid (so=(st,⟨5,0,⟨#[]⟩⟩)):=a7.out (λt A=>bx.out t A A);go_wp2_with fail
   refine(eF 5 _).mono ?_;rintro e w2 ⟨rfl,b2⟩;have ek:Hid (Below w.heap.size w w2):=HB.out.1.trans (b2.mono HB.out.1.size);have⟨d0,d1,d2,d3,d4,Q⟩:=HB.out.2.on b2;have g0:=Q 0;have g1:=Q 1;have g2:=Q 2;have g3:=Q 3;have g4:=Q 4;clear b2 Q;unfold aD;go_wp2;refine bodyPost_ret (v:=aD ⟨5,0,⟨#[]⟩⟩) (by simp[results,results57,go_sem,aD,d0,d1,d2,d3,d4]) rfl ⟨by rw[a0.out],?_⟩;have hb:=dH ek.out (x:=w.heap.size+1) (by omega) (I K 5) (I K 0) (U ⟨#[]⟩) (M N 0 0) (U ⟨#[]⟩);exact⟨_,R,nx,HH.out.1.below hb,by rw[a0.out];exact HH.out.2.1,bI es hb _ _⟩
end
