/- A part. -/
import Derived.Test.YtenhoolepfelcaaGreatDoorQP08
set_option maxHeartbeats 16000000
set_option maxRecDepth 100000
open Go.Act renaming eval->dT,put->ey
open Or renaming inr->eV,inl->eW
open Go renaming World->Wj
namespace Go.Proofs.Qw
open _root_ renaming rfl->Q
open _root_ renaming Nat->H
open Option renaming none->N,some->J
open Bool renaming false->Z
open Value renaming int->I,string->U,slice->M,pointer->O,bool->C,agg->Qa,tuple->Qb
open IntKind renaming i64->K
open Obj renaming cells->E
open Ending renaming returned->Nm
open Or renaming inl->Qc,inr->Qd
open Operand renaming tmp->Qe
open Tryz
section
open Go.Conc Go.ConcX Go.ConcX.Gen Go.RowKit
section
variable {A:Nat->Prop} {B k0:Nat} {w:Wj} {st:St} {L:Lg}
theorem ws kd X(bk:kd=6/\X=Z)(Qok:Qy->Prop)(hQ:∀q,Qok q->jc q/\jd q)(h:aW A B w k0 st L)(hB:B<=w.heap.size)(bs:L.opened.length<=3)j k u d n x(hq:Qok ⟨X,j,u,d⟩)(a5:fG (bL st.f j.data.toList)<=1000)(hp:j.size<=maxLen)(bn:0<=L.begun/\L.begun<2199023255552)(G:Wj->Prop)(bp:∀i,G i->dE i)(hG:∀i,aX A B k0 w i->G i)(hT:mq G (L.begun+1) 2):
  Calls Yq.prog 8 #[O (J ⟨k0,0,N⟩),aJ ⟨kd,j,k,u,d,n,x⟩] w λe i=>bQ A B k0 w st (fw L st.f ⟨X,j,u,d⟩ n).1 ⟨(fw L st.f ⟨X,j,u,d⟩ n).2.2.2,0,⟨#[]⟩,(fw L st.f ⟨X,j,u,d⟩ n).2.1,(fw L st.f ⟨X,j,u,d⟩ n).2.2.1⟩ e i\/Stop Qok e i:=by
 obtain⟨R,hR⟩:∃R,R=fw L st.f ⟨X,j,u,d⟩ n:=⟨_,Q⟩;obtain⟨o,ho⟩:∃o:OpD,o=⟨kd,j,k,u,d,n,x⟩:=⟨_,Q⟩;have⟨p,cp,hN⟩:=h.store.tree;have a0:Hid (∀W,ay (dA w o) W->Calls Yq.prog 16 #[O (J ⟨k0,0,N⟩)] W λe i=>∃v,e=Nm v/\(v=Qa #[O p]/\ay (dA w o) i/\ay W i)):=λW z=>by
  refine(zV k0 p W (((aZ o).t z).cell cp)).m ?_;rintro e i ⟨rfl,rfl⟩;exact⟨_,Q,Q,z.alloc _,ay.refl.alloc _⟩
 have aa:Hid (∀W,ay (dA w o) W->Calls Yq.prog 17 #[aJ ⟨kd,j,k,u,d,n,x⟩] W λe i=>∃v,e=Nm v/\(v=Qa #[C X,U j,U u,U d]/\ay (dA w o) i/\ay W i)):=λW z=>by
  refine(zW ⟨kd,j,k,u,d,n,x⟩ W).m ?_;rintro e i ⟨rfl,hb⟩;have hv:((OpD.mk kd j k u d n x).kind==7)=X:=by rcases bk with⟨rfl,rfl⟩;rfl
  exact⟨_,Q,by rw[hv];rfl,z.t (.below hb),.below hb⟩
 have T:Hid (∀W,ay (dA w o) W->Calls Yq.prog 15 #[O (J ⟨k0,4,N⟩),Qa #[O p],Qa #[C X,U j,U u,U d],I K n] W λe i=>(∃v,e=Nm v/\∃F sn P,v=Qb #[Qa #[M F sn P,U R.2.2.1],I K R.2.2.2]/\bK A B k0 W R.1 R.2.1 (M F sn P) i)\/∃V,e=.panicked V/\Stop Qok (.panicked V) i):=λW z=>by
  have ar:=(aZ o).t z;have hd:=h.left ar;have hs:=ar.size;have be:ao A 41 W p st.f:=by
   have⟨p',bl,be⟩:=hd.store.tree;rw[ar.cell cp]at bl;cases bl;exact be
  refine(zY Qok hQ W hd.ls (by omega) p st.f ⟨X,j,u,d⟩ n be hq a5 hp bn bs G bp (λi bv=>hG i (aX.left h.ls.lt (ar.t bv))) hT).m ?_;rw[<-hR];rintro e i (⟨sv,rfl,hp⟩|bd)
  .obtain ⟨A',a1,a2,a3,a4,⟨F,P,rfl,a6⟩,a7⟩:=hp;exact Qc ⟨_,Q,F,_,P,Q,A',a1,a2,a3,a4,⟨F,P,Q,a6⟩,a7⟩
  .obtain ⟨a,b,r,rfl,bd⟩:=bd;exact Qd ⟨_,Q,a,b,r,Q,bd⟩
 rw[<-hR];have l:Hid (∀ (f:H) (ab:Array Value) (wx:Wj),(f=15\/f=16\/f=17)->(callFunc f ab).run Yq.prog wx=.ok (.enter f ab) wx):=λf ab wx hf=>by rcases hf with rfl|rfl|rfl<;>go_simp
 have D:Hid (∀W,ay (dA w o) W->(W.cell? ⟨w.heap.size,0,N⟩=J (I K kd)/\W.cell? ⟨w.heap.size,1,N⟩=J (U j)/\W.cell? ⟨w.heap.size,2,N⟩=J (U k)/\W.cell? ⟨w.heap.size,3,N⟩=J (U u)/\W.cell? ⟨w.heap.size,4,N⟩=J (U d)/\W.cell? ⟨w.heap.size,5,N⟩=J (I K n)/\W.cell? ⟨w.heap.size,6,N⟩=J (I K x))/\w.heap.size+2<=W.heap.size):=λW z=>by
  have e:W.heap[w.heap.size]?=J (E #[I K kd,U j,U k,U u,U d,I K n,I K x] 30):=by
   rw[z.block _ (by rw[ba];omega)];subst ho;rw[dA,bA _ _ _ (by simp),aN]
  have hs:=z.size;rw[ba]at hs;refine⟨⟨?_,?_,?_,?_,?_,?_,?_⟩,hs⟩<;>simp[World.cell?,e]
 have aj:=D7 h hB o R (by rw[hR];exact tJ _ _ _ _);have al:Hid _:=aj.bx;have bi:Hid (∀w1,ay ((dA w o).alloc (E #[M N 0 0,U ⟨#[]⟩] 69)).drew w1->w1.heap[w.heap.size+1+1]?=J (E #[M N 0 0,U ⟨#[]⟩] 69)):=λw1 hb=>by
  have:=aN (dA w o) (E #[M N 0 0,U ⟨#[]⟩] 69);rw[ba]at this;exact(hb.block _ (by simp[ba])).t this
 have bo:Hid (∀ (W i:Wj),ay (W.alloc (E #[M N 0 0,U ⟨#[]⟩] 69)) i->i.heap[W.heap.size]?=J (E #[M N 0 0,U ⟨#[]⟩] 69)):=λW i z=>(z.block _ (by simp)).t (aN W _)
 have bq:Hid (∀ (W i:Wj) (bb:H),ay W i->W.heap[bb]?=J (E #[M N 0 0,U ⟨#[]⟩] 69)->i.heap[bb]?=J (E #[M N 0 0,U ⟨#[]⟩] 69)):=λW i bb z hx=>(z.block _ (eS hx).1).t hx
 have ad:Hid _:=aj.b5;have a9:Hid _:=aj.la;have ap:Hid _:=aj.lb;have hb3:=nj;have hlt0:=h.ls.lt;clear aj hR hN cp h a5 hp hq bn hT hG bp hQ bs hB;subst ho;unfold dA at a0 aa T D al bi ad a9 ap;unfold aJ at aa ⊢;rcases bk with⟨rfl,rfl⟩;go_enter (Yq.nq func8),ntmps8;go_wp2_with fail
 go_region_law (first
  |(refine bJ Q 16 #[Qe 103] #[36] Q #[O (J ⟨k0,0,N⟩)] (by first|(simp[dT];done)|(simp[dT,ey];done)|go_simp) (l.o _ _ _ (eV (eW Q))) _ (a0.o _ ay.refl.drew) ?_;rintro v w1 ⟨rfl,h1,av⟩;obtain⟨⟨c0,c1,c2,c3,c4,c5,c6⟩,bw⟩:=D.o _ h1;clear av;have e0:=au c0;have e1:=au c1;have e2:=au c2;have e3:=au c3;have e4:=au c4;have e5:=au c5;have e6:=au c6)
  |(refine bJ Q 16 #[Qe 103] #[36] Q #[O (J ⟨k0,0,N⟩)] (by first|(simp[dT];done)|(simp[dT,ey];done)|go_simp) (l.o _ _ _ (eV (eW Q))) _ (a0.o _ (ay.refl.alloc _).drew) ?_;rintro v w1 ⟨rfl,h1,av⟩;obtain⟨⟨c0,c1,c2,c3,c4,c5,c6⟩,bw⟩:=D.o _ h1;have hx:=bi.o _ av;clear av)
  |(refine bJ Q 17 #[Qe 105] #[30] Q _ (by first|(simp[dT];done)|go_simp) (l.o _ _ _ (eV (eV Q))) _ (aa.o w1 h1) ?_;rintro v w2 ⟨rfl,y,af⟩;obtain⟨⟨d0,d1,d2,d3,d4,d5,d6⟩,a8⟩:=D.o _ y;have f5:=au d5;try(replace hx:=bq.o _ _ _ af hx);clear af d0 d1 d2 d3 d4 d6)
  |(refine bJ Q 17 #[Qe 105] #[30] Q _ (by first|(simp[dT];done)|go_simp) (l.o _ _ _ (eV (eV Q))) _ (aa.o (w1.alloc _) (h1.alloc _)) ?_;rintro v w2 ⟨rfl,y,af⟩;obtain⟨⟨d0,d1,d2,d3,d4,d5,d6⟩,a8⟩:=D.o _ y;have hx:=bo.o _ _ af;clear af d0 d1 d2 d3 d4 d6)
  |(refine cP Q 15 #[Qe 100,Qe 104,Qe 106,Qe 108] #[40,33,74,3] Q _ (by first|(simp[dT];done)|go_simp) (l.o _ _ _ (eW rfl)) _ (λV i=>Stop Qok (.panicked V) i) (T.o w2 y) (λV i hs=>⟨Q,eV hs⟩) ?_;rintro v w3 ⟨F,sn,P,rfl,c⟩;obtain⟨v0,v1,o0,o1⟩:=al.o _ w3 _ y c (by omega) hx;obtain⟨⟨t0,t1,t2,t3,t4⟩,u0,u1,u2,u3,u4⟩:=ad.o _ w3 y c;have ac:=ap.o _ w3 F sn P y c _ (by omega) hx;have ai:w.heap.size+1≠w1.heap.size:=(by omega);have bt:w1.heap.size≠w.heap.size+1:=ai.s;clear c hx)
  |(refine cP Q 15 #[Qe 100,Qe 104,Qe 106,Qe 108] #[40,33,74,3] Q _ (by first|(simp[dT];done)|go_simp) (l.o _ _ _ (eW rfl)) _ (λV i=>Stop Qok (.panicked V) i) (T.o w2 y) (λV i hs=>⟨Q,eV hs⟩) ?_;rintro v w3 ⟨F,sn,P,rfl,c⟩;obtain⟨⟨t0,t1,t2,t3,t4⟩,u0,u1,u2,u3,u4⟩:=ad.o _ w3 y c;have ac:=a9.o _ w3 F sn P y c;have q0:=au t0;have q1:=au t1;have q2:=au t2;have q3:=au t3;have q4:=au t4;have p0:=aF t0 u0;have p1:=aF t1 u1;have p2:=aF t2 u2;have p3:=aF t3 u3;have p4:=aF t4 u4;clear c)
  |(refine cP Q 15 #[Qe 100,Qe 104,Qe 106,Qe 108] #[40,33,74,3] Q _ (by first|(simp[dT];done)|(simp[dT,ey];done)|go_simp) (l.o _ _ _ (eW rfl)) _ (λV i=>Stop Qok (.panicked V) i) (T.o (w2.alloc _) (y.alloc _)) (λV i hs=>⟨Q,eV hs⟩) ?_;rintro v w3 ⟨F,sn,P,rfl,c⟩;obtain⟨v0,v1,o0,o1⟩:=al.o _ w3 w2.heap.size (y.alloc _) c a8 (aN w2 _);obtain⟨⟨t0,t1,t2,t3,t4⟩,u0,u1,u2,u3,u4⟩:=ad.o _ w3 (y.alloc _) c;have ac:=ap.o _ w3 F sn P (y.alloc _) c w2.heap.size a8 (aN w2 _);have ai:w.heap.size+1≠w2.heap.size:=(by omega);have bt:w2.heap.size≠w.heap.size+1:=ai.s;clear c))
 all_goals go_wp2
 all_goals clear a0 aa T D al bi bo ad bq a9 ap l
 all_goals
  refine bodyPost_ret (v:=j6 ⟨R.2.2.2,0,⟨#[]⟩,R.2.1,R.2.2.1⟩ (M F sn P)) ?_ Q (Qc ?_)
  .clear ac;first
    |simp[results,results8,go_sem,j6,q0,q1,q2,q3,q4]
    |simp[results,results8,go_sem,j6,t0,t1,t2,t3,t4]
  .unfold put5 at ac;refine ac ..
end
end
