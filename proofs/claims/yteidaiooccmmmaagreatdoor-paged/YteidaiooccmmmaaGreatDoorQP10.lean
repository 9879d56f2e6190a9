/- A part. -/
import Derived.Test.YteidaiooccmmmaaGreatDoorQP08
set_option maxHeartbeats 16000000
set_option maxRecDepth 100000
open Go renaming World->Wj
namespace Go.Proofs.Qw
open Option renaming none->N,some->J
open Bool renaming true->Y
open Value renaming int->I,string->U,slice->M,pointer->O,bool->C
open IntKind renaming i64->K
open Obj renaming cells->E
open Tryz
section
open Go.Conc Go.ConcX Go.ConcX.Gen Go.RowKit
section
variable {A:Nat->Prop} {B k0:Nat} {w:Wj} {st:St} {L:Lg}
theorem ui(kd:Int)(H:Bool)(a9:kd=7/\H=Y)(Qok:Qy->Prop)(hQ:∀q,Qok q->ig q/\ii q)(h:br A B w k0 st L)(hB:B<=w.heap.size)(bn:L.opened.length<=3)(k l c i:ByteArray)(n s:Int)(hq:Qok ⟨H,k,c,i⟩)(ap:fH (cz st.f k.data.toList)<=1000)(hp:k.size<=maxLen)(be:0<=L.begun/\L.begun<2199023255552)(G:Wj->Prop)(bk:∀j,G j->dn j)(hG:∀j,aV A B k0 w j->G j)(hT:kQ G (L.begun+1) 2):
  Calls Yq.prog 8 #[O (J ⟨k0,0,N⟩),aT ⟨kd,k,l,c,i,n,s⟩] w λe j=>cQ A B k0 w st (eQ L st.f ⟨H,k,c,i⟩ n).1 ⟨(eQ L st.f ⟨H,k,c,i⟩ n).2.2.2,0,⟨#[]⟩,(eQ L st.f ⟨H,k,c,i⟩ n).2.1,(eQ L st.f ⟨H,k,c,i⟩ n).2.2.1⟩ e j\/Stop Qok e j:=by
 obtain⟨R,hR⟩:∃R,R=eQ L st.f ⟨H,k,c,i⟩ n:=⟨_,rfl⟩;obtain⟨o,ho⟩:∃o:OpD,o=⟨kd,k,l,c,i,n,s⟩:=⟨_,rfl⟩;have⟨p,cp,hN⟩:=h.store.tree;have al:Hid (∀W,au (dP w o) W->Calls Yq.prog 16 #[O (J ⟨k0,0,N⟩)] W λe j=>∃v,e=.returned v/\(v=.agg #[O p]/\au (dP w o) j/\au W j)):=λW u=>by
  refine(xP k0 p W (((ba o).trans u).cell cp)).mono ?_;rintro e j ⟨rfl,rfl⟩;exact⟨_,rfl,rfl,u.alloc _,au.refl.alloc _⟩
 have P:Hid (∀W,au (dP w o) W->Calls Yq.prog 17 #[aT ⟨kd,k,l,c,i,n,s⟩] W λe j=>∃v,e=.returned v/\(v=.agg #[C H,U k,U c,U i]/\au (dP w o) j/\au W j)):=λW u=>by
  refine(xQ ⟨kd,k,l,c,i,n,s⟩ W).mono ?_;rintro e j ⟨rfl,hb⟩;have hv:((OpD.mk kd k l c i n s).kind==7)=H:=by rcases a9 with⟨rfl,rfl⟩;rfl
  exact⟨_,rfl,by rw[hv];rfl,u.trans (.below hb),.below hb⟩
 have D:Hid (∀W,au (dP w o) W->Calls Yq.prog 15 #[O (J ⟨k0,4,N⟩),.agg #[O p],.agg #[C H,U k,U c,U i],I K n] W λe j=>(∃v,e=.returned v/\∃y sn z,v=.tuple #[.agg #[M y sn z,U R.2.2.1],I K R.2.2.2]/\bE A B k0 W R.1 R.2.1 (M y sn z) j)\/∃F,e=.panicked F/\Stop Qok (.panicked F) j):=λW u=>by
  have ad:=(ba o).trans u;have hd:=h.left ad;have hs:=ad.size;have a5:am A 41 W p st.f:=by
   have⟨p',bd,a5⟩:=hd.store.tree;rw[ad.cell cp]at bd;cases bd;exact a5
  refine(xR Qok hQ W hd.ls (by omega) p st.f ⟨H,k,c,i⟩ n a5 hq ap hp be bn G bk (λj bp=>hG j (aV.left h.ls.lt (ad.trans bp))) hT).mono ?_;rw[<-hR];rintro e j (⟨sv,rfl,hp⟩|a0)
  .obtain ⟨A',a1,a2,a3,a4,⟨y,z,rfl,a6⟩,a7⟩:=hp;exact .inl ⟨_,rfl,y,_,z,rfl,A',a1,a2,a3,a4,⟨y,z,rfl,a6⟩,a7⟩
  .obtain ⟨a,b,r,rfl,a0⟩:=a0;exact .inr ⟨_,rfl,a,b,r,rfl,a0⟩
 rw[<-hR];have m:Hid (∀ (f:Nat) (Q:Array Value) (wx:Wj),(f=15\/f=16\/f=17)->(callFunc f Q).run Yq.prog wx=.ok (.enter f Q) wx):=λf Q wx hf=>by rcases hf with rfl|rfl|rfl<;>go_simp
 have x:Hid (∀W,au (dP w o) W->(W.cell? ⟨w.heap.size,0,N⟩=J (I K kd)/\W.cell? ⟨w.heap.size,1,N⟩=J (U k)/\W.cell? ⟨w.heap.size,2,N⟩=J (U l)/\W.cell? ⟨w.heap.size,3,N⟩=J (U c)/\W.cell? ⟨w.heap.size,4,N⟩=J (U i)/\W.cell? ⟨w.heap.size,5,N⟩=J (I K n)/\W.cell? ⟨w.heap.size,6,N⟩=J (I K s))/\w.heap.size+2<=W.heap.size):=λW u=>by
  have e:W.heap[w.heap.size]?=J (E #[I K kd,U k,U l,U c,U i,I K n,I K s] 30):=by
   rw[u.block _ (by rw[bc];omega)];subst ho;rw[dP,bA _ _ _ (by simp),aN]
  have hs:=u.size;rw[bc]at hs;refine⟨⟨?_,?_,?_,?_,?_,?_,?_⟩,hs⟩<;>simp[World.cell?,e]
 have aa:=B9 h hB o R (by rw[hR];exact B7 _ _ _ _);have ab:Hid _:=aa.bx;have a8:Hid (∀w1,au ((dP w o).alloc (E #[M N 0 0,U ⟨#[]⟩] 69)).drew w1->w1.heap[w.heap.size+1+1]?=J (E #[M N 0 0,U ⟨#[]⟩] 69)):=λw1 hb=>by
  have:=aN (dP w o) (E #[M N 0 0,U ⟨#[]⟩] 69);rw[bc]at this;exact(hb.block _ (by simp[bc])).trans this
 have bi:Hid (∀ (W j:Wj),au (W.alloc (E #[M N 0 0,U ⟨#[]⟩] 69)) j->j.heap[W.heap.size]?=J (E #[M N 0 0,U ⟨#[]⟩] 69)):=λW j u=>(u.block _ (by simp)).trans (aN W _)
 have bl:Hid (∀ (W j:Wj) (bb:Nat),au W j->W.heap[bb]?=J (E #[M N 0 0,U ⟨#[]⟩] 69)->j.heap[bb]?=J (E #[M N 0 0,U ⟨#[]⟩] 69)):=λW j bb u hx=>(u.block _ (eS hx).1).trans hx
 have T:Hid _:=aa.b5;have av:Hid _:=aa.la;have ac:Hid _:=aa.lb;have hb3:=mj;have hlt0:=h.ls.lt;clear aa hR hN cp h ap hp hq be hT hG bk hQ bn hB;subst ho;unfold dP at al P D x ab a8 T av ac;unfold aT at P ⊢;rcases a9 with⟨rfl,rfl⟩;go_enter (Yq.nq func8),ntmps8;go_wp2_with fail
 go_region_law (first
  |(refine dG rfl 16 #[.tmp 103] #[36] rfl #[O (J ⟨k0,0,N⟩)] (by first|(simp[Act.eval];done)|(simp[Act.eval,Act.put];done)|go_simp) (m.out _ _ _ (Or.inr (Or.inl rfl))) _ (al.out _ au.refl.drew) ?_;rintro v w1 ⟨rfl,h1,af⟩;obtain⟨⟨c0,c1,c2,c3,c4,c5,c6⟩,bq⟩:=x.out _ h1;clear af;have e0:=aw c0;have e1:=aw c1;have e2:=aw c2;have e3:=aw c3;have e4:=aw c4;have e5:=aw c5;have e6:=aw c6)
  |(refine dG rfl 16 #[.tmp 103] #[36] rfl #[O (J ⟨k0,0,N⟩)] (by first|(simp[Act.eval];done)|(simp[Act.eval,Act.put];done)|go_simp) (m.out _ _ _ (Or.inr (Or.inl rfl))) _ (al.out _ (au.refl.alloc _).drew) ?_;rintro v w1 ⟨rfl,h1,af⟩;obtain⟨⟨c0,c1,c2,c3,c4,c5,c6⟩,bq⟩:=x.out _ h1;have hx:=a8.out _ af;clear af)
  |(refine dG rfl 17 #[.tmp 105] #[30] rfl _ (by first|(simp[Act.eval];done)|go_simp) (m.out _ _ _ (Or.inr (Or.inr rfl))) _ (P.out w1 h1) ?_;rintro v w2 ⟨rfl,t,V⟩;obtain⟨⟨d0,d1,d2,d3,d4,d5,d6⟩,ar⟩:=x.out _ t;have f5:=aw d5;try(replace hx:=bl.out _ _ _ V hx);clear V d0 d1 d2 d3 d4 d6)
  |(refine dG rfl 17 #[.tmp 105] #[30] rfl _ (by first|(simp[Act.eval];done)|go_simp) (m.out _ _ _ (Or.inr (Or.inr rfl))) _ (P.out (w1.alloc _) (h1.alloc _)) ?_;rintro v w2 ⟨rfl,t,V⟩;obtain⟨⟨d0,d1,d2,d3,d4,d5,d6⟩,ar⟩:=x.out _ t;have hx:=bi.out _ _ V;clear V d0 d1 d2 d3 d4 d6)
  |(refine cE rfl 15 #[.tmp 100,.tmp 104,.tmp 106,.tmp 108] #[40,33,74,3] rfl _ (by first|(simp[Act.eval];done)|go_simp) (m.out _ _ _ (Or.inl rfl)) _ (λF j=>Stop Qok (.panicked F) j) (D.out w2 t) (λF j hs=>⟨rfl,Or.inr hs⟩) ?_;rintro v w3 ⟨y,sn,z,rfl,d⟩;obtain⟨v0,v1,o0,o1⟩:=ab.out _ w3 _ t d (by omega) hx;obtain⟨⟨t0,t1,t2,t3,t4⟩,u0,u1,u2,u3,u4⟩:=T.out _ w3 t d;have S:=ac.out _ w3 y sn z t d _ (by omega) hx;have X:w.heap.size+1≠w1.heap.size:=(by omega);have bo:w1.heap.size≠w.heap.size+1:=X.symm;clear d hx)
  |(refine cE rfl 15 #[.tmp 100,.tmp 104,.tmp 106,.tmp 108] #[40,33,74,3] rfl _ (by first|(simp[Act.eval];done)|go_simp) (m.out _ _ _ (Or.inl rfl)) _ (λF j=>Stop Qok (.panicked F) j) (D.out w2 t) (λF j hs=>⟨rfl,Or.inr hs⟩) ?_;rintro v w3 ⟨y,sn,z,rfl,d⟩;obtain⟨⟨t0,t1,t2,t3,t4⟩,u0,u1,u2,u3,u4⟩:=T.out _ w3 t d;have S:=av.out _ w3 y sn z t d;have q0:=aw t0;have q1:=aw t1;have q2:=aw t2;have q3:=aw t3;have q4:=aw t4;have p0:=aH t0 u0;have p1:=aH t1 u1;have p2:=aH t2 u2;have p3:=aH t3 u3;have p4:=aH t4 u4;clear d)
  |(refine cE rfl 15 #[.tmp 100,.tmp 104,.tmp 106,.tmp 108] #[40,33,74,3] rfl _ (by first|(simp[Act.eval];done)|(simp[Act.eval,Act.put];done)|go_simp) (m.out _ _ _ (Or.inl rfl)) _ (λF j=>Stop Qok (.panicked F) j) (D.out (w2.alloc _) (t.alloc _)) (λF j hs=>⟨rfl,Or.inr hs⟩) ?_;rintro v w3 ⟨y,sn,z,rfl,d⟩;obtain⟨v0,v1,o0,o1⟩:=ab.out _ w3 w2.heap.size (t.alloc _) d ar (aN w2 _);obtain⟨⟨t0,t1,t2,t3,t4⟩,u0,u1,u2,u3,u4⟩:=T.out _ w3 (t.alloc _) d;have S:=ac.out _ w3 y sn z (t.alloc _) d w2.heap.size ar (aN w2 _);have X:w.heap.size+1≠w2.heap.size:=(by omega);have bo:w2.heap.size≠w.heap.size+1:=X.symm;clear d))
 all_goals go_wp2
 all_goals clear al P D x ab a8 bi T bl av ac m
 all_goals
  refine bodyPost_ret (v:=ll ⟨R.2.2.2,0,⟨#[]⟩,R.2.1,R.2.2.1⟩ (M y sn z)) ?_ rfl (.inl ?_)
  .clear S;first
    |simp[results,results8,go_sem,ll,q0,q1,q2,q3,q4]
    |simp[results,results8,go_sem,ll,t0,t1,t2,t3,t4]
  .unfold put5 at S;refine S ..
end
end
