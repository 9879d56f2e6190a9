/- A part. -/
import Derived.Test.YtenhoolepfelcaaGreatDoorQP12
import Derived.Test.YtenhoolepfelcaaGreatDoorQP13
set_option maxHeartbeats 4000000
set_option maxRecDepth 100000
open _root_ renaming of_decide_eq_true->dT,ByteArray->ey
open Or renaming inr->eV,inl->eW
open Go renaming World->Wj,Value->Wx
namespace Go.Proofs.Qw
open _root_ renaming rfl->Q
open _root_ renaming Nat->H,List->S
open Option renaming none->N,some->J
open Bool renaming true->Y,false->Z
open Value renaming int->I,string->U,slice->M,pointer->O,bool->C,agg->Qa
open IntKind renaming i64->K
open Obj renaming cells->E
variable {a b:St}{o:OpD}
open Tryz
section
open Go.RowKit
theorem Ib B k i R l f c s(d:ey)m(e:ey)j w(b:aA B w k i R l f)(a:Sim c R l)(n:Low c s)(p:s<2199023255552)(o:B<=w.heap.size):
  Calls Yq.prog 56 #[O (J ⟨k,0,N⟩),U d,Qa #[I K m,U e,C j]] w (cy B k (if 200<=c.count then c else bM c d e j) (if 200<=c.count then⟨4,0,⟨#[]⟩⟩else⟨0,c.last+1,⟨#[]⟩⟩) w i R f):=by
 by_cases h:200<=c.count
 .rw [if_pos h,if_pos h];exact EQ B k i R l f c d m e j w b a h
 .rw [if_neg h,if_neg h];exact ER B k i R l f c s d m e j w b a n p o h
theorem Ic B k l R m j f o w(b:aA B w k l R m j)(a:Sim f R m)(c:o.kind=2\/o.kind=3\/o.kind=5)(p:aS o.key=Y)(r:B<=w.heap.size):
  Calls Yq.prog 57 #[O (J ⟨k,0,N⟩),aJ o] w (cy B k (aE f o).1 (aE f o).2 w l R j):=by
 by_cases d:∀x∈R,x.key≠o.key
 .exact ET B k l R m j f o w b a c p d
 .have:∃ (i:H) (h:i<R.length),R[i].key=o.key:=by
   rw[Classical.not_forall]at d;obtain⟨x,q⟩:=d;rw[Classical.not_imp,Classical.not_not]at q;obtain⟨i,n,rfl⟩:=gM q.1;exact⟨i,n,q.2⟩
  obtain⟨i,n,e⟩:=this;rcases c with h|h|h
  .exact H8 B k l R m j f o w b a h p i n e
  .exact EU B k l R m j f o w b a h p i n e
  .exact B5 B k l R m j f o w b a h p i n e r
theorem IV(w:Wj)(cs:Array Wx)(b c e d f:Wx):∃a z,((w.alloc (E cs 30)).alloc (E #[b,c,e,d,f] 46)).heap[w.heap.size+1]?=J (E a 46 z):=
 ⟨#[b,c,e,d,f],(0,0),by have:=heap_alloc_new (w.alloc (E cs 30)) (E #[b,c,e,d,f] 46);rwa [show(w.alloc (E cs 30)).heap.size=w.heap.size+1 by simp]at this⟩
theorem B6 B k s R y u t o w(a:aA B w k s R y u)(b:Sim t R y)(hB:B<=w.heap.size)(d:o.kind=2\/o.kind=3\/o.kind=5)(G:aS o.key=Y):
  Calls Yq.prog 27 #[O (J ⟨k,0,N⟩),aJ o] w (cy B k (aE t o).1 (aE t o).2 w s R u):=by
 have L:=dT G;obtain⟨A,z⟩:=L;have T:¬o.kind=1:=by omega
 have P:¬o.kind=4:=by omega
 have R0:=IT (w.alloc (E #[I K o.kind,U o.key,U o.body,U o.eQ,U o.past,I K o.n,I K o.src] 30)) (w.heap.size+1) (by simp) 46;have HC:=Ic B k s R y u t o ((w.alloc (E #[I K o.kind,U o.key,U o.body,U o.eQ,U o.past,I K o.n,I K o.src] 30)).alloc (E #[I K 0,I K 0,U ⟨#[]⟩,M N 0 0,U ⟨#[]⟩] 46)) ((a.alloc _).alloc _) b d G (by simp;omega);obtain⟨c,i,f,D,h,V,l⟩:=o;simp only at T P A z HC R0;have b1:(c==1)=false:=by simp[T]
 have b4:(c==4)=false:=by simp[P]
 have HH:Hid (aA B w k s R y u):=a;have r:Hid (kz (w.heap.size+1) ((w.alloc (E #[I K c,U i,U f,U D,U h,I K V,I K l] 30)).alloc (E #[I K 0,I K 0,U ⟨#[]⟩,M N 0 0,U ⟨#[]⟩] 46))):=R0;clear a b d G R0 T P;generalize aE t ⟨c,i,f,D,h,V,l⟩=sr at *;obtain⟨X,ac,av,ab⟩:=sr;simp only at HC ⊢;unfold cy;unfold cy at HC;simp only[aJ,aG]at HC ⊢;go_enter (Yq.nq func27),ntmps27;go_wp2_with fail
 refine HC.m ?_;rintro e w2 ⟨rfl,p,R',j,H',S',F⟩;have⟨d0,d1,d2,d3,d4,q⟩:=r.o.frame F (HH.o.old (by omega));have g0:=q 0;have g1:=q 1;have g2:=q 2;have g3:=q 3;have g4:=q 4;have HE:Hid (aA B w2 k p R' j u/\Sim X R' j/\bm ((w.alloc (E #[I K c,U i,U f,U D,U h,I K V,I K l] 30)).alloc (E #[I K 0,I K 0,U ⟨#[]⟩,M N 0 0,U ⟨#[]⟩] 46)) w2 k s R p R'):=⟨H',S',F⟩;clear HC H' S' F q;go_wp2;refine bodyPost_ret (v:=aG ⟨ac,av,ab⟩) (by simp[results,results27,go_sem,aG,d0,d1,d2,d3,d4]) Q ⟨Q,?_⟩;obtain⟨e1,e2⟩:=IU HH.o (x:=w.heap.size+1) (((bR _ w).alloc (lR _) _).alloc (by simp) _) (by omega) r.o.lt (IV w _ _ _ _ _ _) HE.o.1 HE.o.2.2 (I K ac) (I K av) (U ab) (M N 0 0) (U ⟨#[]⟩);exact⟨p,R',j,e1,HE.o.2.1,e2⟩
theorem B7(hkind:1<=o.kind/\o.kind<=5)(b:aS o.key=Z):aE a o=(a,⟨2,0,⟨#[]⟩⟩):=by
 have h:o.kind=1\/o.kind=2\/o.kind=3\/o.kind=4\/o.kind=5:=by omega
 rcases h with h|h|h|h|h<;>simp[aE,h,b]
theorem yQ(a:o.kind=1)(c:aS o.key=Y)(d:100<o.body.size):aE b o=(b,⟨3,0,⟨#[]⟩⟩):=by
 simp[aE,a,c,d]
theorem wN(b:o.kind=1)(c:aS o.key=Y)(d:¬100<o.body.size)(e:¬a.last=9223372036854775807):aE a o=(if 200<=a.count then a else bM a o.key o.body Z,if 200<=a.count then⟨4,0,⟨#[]⟩⟩else⟨0,a.last+1,⟨#[]⟩⟩):=by
 by_cases h:200<=a.count<;>simp[aE,b,c,d,h,e]
theorem tX(b:o.kind=4)(d:aS o.key=Y)(c:¬a.last=9223372036854775807):aE a o=(if 200<=a.count then a else bM a o.key ⟨#[]⟩ Y,if 200<=a.count then⟨4,0,⟨#[]⟩⟩else⟨0,a.last+1,⟨#[]⟩⟩):=by
 by_cases h:200<=a.count<;>simp[aE,b,d,h,c]
theorem wO B k s R r D z o c w(a:aA B w k s R r D)(b:Sim z R r)(G:(c=2/\aS o.key=Z)\/(c=3/\o.kind=1/\aS o.key=Y/\100<o.body.size)):
  Calls Yq.prog 27 #[O (J ⟨k,0,N⟩),aJ o] w (cy B k z ⟨c,0,⟨#[]⟩⟩ w s R D):=by
 have R0:=IT (w.alloc (E #[I K o.kind,U o.key,U o.body,U o.eQ,U o.past,I K o.n,I K o.src] 30)) (w.heap.size+1) (by simp) 46;obtain⟨i,d,f,X,q,nn,F⟩:=o;simp only at G R0;have A:(c=2/\d.size<1)\/(c=2/\¬d.size<1/\40<d.size)\/(c=3/\i=1/\¬d.size<1/\¬40<d.size/\100<f.size):=by
  rcases G with⟨j,p⟩|⟨j,p,L,h4⟩
  .have:=of_decide_eq_false p;by_cases h:d.size<1
   .exact eW ⟨j,h⟩
   .exact eV (eW ⟨j,h,by omega⟩)
  .have:=dT L;exact eV (eV ⟨j,p,by omega,by omega,h4⟩)
 have HH:Hid (aA B w k s R r D/\Sim z R r):=⟨a,b⟩;have y:Hid (kz (w.heap.size+1) ((w.alloc (E #[I K i,U d,U f,U X,U q,I K nn,I K F] 30)).alloc (E #[I K 0,I K 0,U ⟨#[]⟩,M N 0 0,U ⟨#[]⟩] 46))):=R0;have u:=a.lt;clear a b R0 G;unfold cy;simp only[aJ,aG];rcases A with⟨rfl,j⟩|⟨rfl,j,p⟩|⟨rfl,rfl,j,p,L⟩;all_goals
  first|have h0:d.size=0:=by omega|skip
  go_enter (Yq.nq func27),ntmps27;go_wp2_with fail
  refine(fk _ _).m ?_;rintro e w2 ⟨rfl,x⟩;have HB:Hid (Below w.heap.size w w2):=(((bR _ w).alloc (lR _) _).alloc (by simp) _).t (x.m (by simp;omega));have⟨T,d1,P,V,d4,l⟩:=y.o.on x;have g0:=l 0;have g1:=l 1;have g2:=l 2;have g3:=l 3;have g4:=l 4;clear x l;unfold aG;go_wp2;refine bodyPost_ret (v:=aG ⟨_,0,⟨#[]⟩⟩) (by simp[results,results27,go_sem,aG,T,d1,P,V,d4]) Q ⟨Q,?_⟩;exact⟨s,R,r,HH.o.1.below (dS HB.o (by omega) _ _ _ _ _),HH.o.2,bX u (dS HB.o (by omega) _ _ _ _ _) _ _⟩
theorem rX B k r R V u f s o(G:ey)D w(a:aA B w k r R V u)(b:Sim f R V)(hI:Low f s)(hs:s<2199023255552)(hB:B<=w.heap.size)(hk:aS o.key=Y)
  (hc:(o.kind=1/\¬100<o.body.size/\G=o.body/\D=Z)\/(o.kind=4/\G=⟨#[]⟩/\D=Y)):
  Calls Yq.prog 27 #[O (J ⟨k,0,N⟩),aJ o] w (cy B k (if 200<=f.count then f else bM f o.key G D) (if 200<=f.count then⟨4,0,⟨#[]⟩⟩else⟨0,f.last+1,⟨#[]⟩⟩) w r R u):=by
 have ad:=dT hk;obtain⟨aa,X⟩:=ad;have R0:=IT (w.alloc (E #[I K o.kind,U o.key,U o.body,U o.eQ,U o.past,I K o.n,I K o.src] 30)) (w.heap.size+1) (by simp) 46;have HC:=Ib B k r R V u f s o.key 0 G D ((w.alloc (E #[I K o.kind,U o.key,U o.body,U o.eQ,U o.past,I K o.n,I K o.src] 30)).alloc (E #[I K 0,I K 0,U ⟨#[]⟩,M N 0 0,U ⟨#[]⟩] 46)) ((a.alloc _).alloc _) b hI hs (by simp;omega);obtain⟨j,p,h,eQ,i,nn,y⟩:=o;simp only at aa X HC R0 hc;have HH:Hid (aA B w k r R V u):=a;have A:Hid (kz (w.heap.size+1) ((w.alloc (E #[I K j,U p,U h,U eQ,U i,I K nn,I K y] 30)).alloc (E #[I K 0,I K 0,U ⟨#[]⟩,M N 0 0,U ⟨#[]⟩] 46))):=R0;clear a b hk R0 hI hs;generalize(if 200<=f.count then f else bM f p G D)=t at *;generalize(if 200<=f.count then(⟨4,0,⟨#[]⟩⟩:Cu)else⟨0,f.last+1,⟨#[]⟩⟩)=sr at *;obtain⟨L,T,P⟩:=sr;unfold cy;unfold cy at HC;simp only[aJ,aG]at HC ⊢;have q:∀l,Hid (∃d R' c,aA B l k d R' c u/\Sim t R' c/\bm ((w.alloc (E #[I K j,U p,U h,U eQ,U i,I K nn,I K y] 30)).alloc (E #[I K 0,I K 0,U ⟨#[]⟩,M N 0 0,U ⟨#[]⟩] 46)) l k r R d R') ->
   ∃d R' c,aA B (((((l.setCell ⟨w.heap.size+1,0,N⟩ (I K L)).setCell ⟨w.heap.size+1,1,N⟩ (I K T)).setCell ⟨w.heap.size+1,2,N⟩ (U P)).setCell ⟨w.heap.size+1,3,N⟩ (M N 0 0)).setCell ⟨w.heap.size+1,4,N⟩ (U ⟨#[]⟩)) k d R' c u/\Sim t R' c /\
    bm w (((((l.setCell ⟨w.heap.size+1,0,N⟩ (I K L)).setCell ⟨w.heap.size+1,1,N⟩ (I K T)).setCell ⟨w.heap.size+1,2,N⟩ (U P)).setCell ⟨w.heap.size+1,3,N⟩ (M N 0 0)).setCell ⟨w.heap.size+1,4,N⟩ (U ⟨#[]⟩)) k r R d R':=λl hX=>by
  have⟨d,R',c,H',S',F⟩:=hX.o;obtain⟨e1,e2⟩:=IU HH.o (x:=w.heap.size+1) (((bR _ w).alloc (lR _) _).alloc (by simp) _) (by omega) A.o.lt (IV w _ _ _ _ _ _) H' F (I K L) (I K T) (U P) (M N 0 0) (U ⟨#[]⟩);exact⟨d,R',c,e1,S',e2⟩
 have KEY2:Hid (∀l,Hid (∃d R' c,aA B l k d R' c u/\Sim t R' c/\bm ((w.alloc (E #[I K j,U p,U h,U eQ,U i,I K nn,I K y] 30)).alloc (E #[I K 0,I K 0,U ⟨#[]⟩,M N 0 0,U ⟨#[]⟩] 46)) l k r R d R')->_):=q;clear q;rcases hc with⟨rfl,hbd,rfl,rfl⟩|⟨rfl,rfl,rfl⟩ <;>
 .go_enter (Yq.nq func27),ntmps27;go_wp2_with fail
  refine HC.m ?_;rintro e l ⟨rfl,d,R',c,H',S',F⟩;have⟨d0,d1,d2,d3,d4,z⟩:=A.o.frame F (HH.o.old (by omega));have g0:=z 0;have g1:=z 1;have g2:=z 2;have g3:=z 3;have g4:=z 4;have HE:=KEY2.o l ⟨d,R',c,H',S',F⟩;have af:Hid _:=HE;clear HC H' S' F z HE KEY2;go_wp2;exact bodyPost_ret (v:=aG ⟨L,T,P⟩) (by simp[results,results27,go_sem,aG,d0,d1,d2,d3,d4]) Q ⟨Q,af.o⟩
theorem B8 B k f R j e d s o w(b:aA B w k f R j e)(a:Sim d R j)(l:Low d s)(p:s<2199023255552)(n:B<=w.heap.size)(i:1<=o.kind/\o.kind<=5):
  Calls Yq.prog 27 #[O (J ⟨k,0,N⟩),aJ o] w (cy B k (aE d o).1 (aE d o).2 w f R e):=by
 cases c:aS o.key with
 |false=>rw[B7 i c];exact wO B k f R j e d o 2 w b a (eW ⟨Q,c⟩)
 |true=>
  have h:o.kind=1\/o.kind=4\/o.kind=2\/o.kind=3\/o.kind=5:=by omega
  rcases h with h|h|h
  .by_cases m:100<o.body.size
   .rw [yQ h c m];exact wO B k f R j e d o 3 w b a (eV ⟨Q,h,c,m⟩)
   .rw [wN h c m (by have:=l.MQ;omega)];exact rX B k f R j e d s o o.body Z w b a l p n c (eW ⟨h,m,Q,Q⟩)
  .rw [tX h c (by have:=l.MQ;omega)];exact rX B k f R j e d s o ⟨#[]⟩ Y w b a l p n c (eV ⟨h,Q,Q⟩)
  .exact B6 B k f R j e d o w b a n h c
end
