/- A part. -/
import Derived.Test.YthnlbojplkflaaaGreatDoorQP08
set_option maxHeartbeats 16000000
set_option maxRecDepth 100000
open Go.Act renaming eval->dT,put->ey
open Or renaming inr->eV,inl->eW
open Go renaming World->Wj
namespace Go.Proofs.Qw
open _root_ renaming rfl->Q
open _root_ renaming Nat->H
open Option renaming none->N,some->J
open Bool renaming false->Z
open Value renaming int->I,string->U,slice->M,pointer->O,bool->C,agg->Rd,tuple->Re
open IntKind renaming i64->K
open Obj renaming cells->E
open Ending renaming returned->Rc
open Or renaming inl->Rf,inr->Rg
open Operand renaming tmp->Rh
open Tryz
section
open Go.Conc Go.ConcX Go.ConcX.Gen Go.RowKit
section
variable {A:Nat->Prop} {B k0:Nat} {w:Wj} {st:St} {L:Lg}
theorem xj kd V(bi:kd=6/\V=Z)(Qok:Qy->Prop)(hQ:∀q,Qok q->jB q/\jC q)(h:bh A B w k0 st L)(hB:B<=w.heap.size)(bq:L.opened.length<=3)j k u d n x(hq:Qok ⟨V,j,u,d⟩)(a0:fU (bV st.f j.data.toList)<=1000)(hp:j.size<=maxLen)(bl:0<=L.begun/\L.begun<2199023255552)(G:Wj->Prop)(bo:∀i,G i->dH i)(hG:∀i,bf A B k0 w i->G i)(hT:mO G (L.begun+1) 2):
  Calls Yq.prog 11 #[O (J ⟨k0,0,N⟩),aL ⟨kd,j,k,u,d,n,x⟩] w λe i=>cf A B k0 w st (fN L st.f ⟨V,j,u,d⟩ n).1 ⟨(fN L st.f ⟨V,j,u,d⟩ n).2.2.2,0,⟨#[]⟩,(fN L st.f ⟨V,j,u,d⟩ n).2.1,(fN L st.f ⟨V,j,u,d⟩ n).2.2.1⟩ e i\/Stop Qok e i:=by
 obtain⟨R,hR⟩:∃R,R=fN L st.f ⟨V,j,u,d⟩ n:=⟨_,Q⟩;obtain⟨o,ho⟩:∃o:OpD,o=⟨kd,j,k,u,d,n,x⟩:=⟨_,Q⟩;have⟨p,cp,hN⟩:=h.store.tree;have av:Hid (∀W,ax (dI w o) W->Calls Yq.prog 20 #[O (J ⟨k0,0,N⟩)] W λe i=>∃v,e=Rc v/\(v=Rd #[O p]/\ax (dI w o) i/\ax W i)):=λW z=>by
  refine(AN k0 p W (((bg o).t z).cell cp)).m ?_;rintro e i ⟨rfl,rfl⟩;exact⟨_,Q,Q,z.alloc _,ax.refl.alloc _⟩
 have X:Hid (∀W,ax (dI w o) W->Calls Yq.prog 21 #[aL ⟨kd,j,k,u,d,n,x⟩] W λe i=>∃v,e=Rc v/\(v=Rd #[C V,U j,U u,U d]/\ax (dI w o) i/\ax W i)):=λW z=>by
  refine(AO ⟨kd,j,k,u,d,n,x⟩ W).m ?_;rintro e i ⟨rfl,hb⟩;have hv:((OpD.mk kd j k u d n x).kind==7)=V:=by rcases bi with⟨rfl,rfl⟩;rfl
  exact⟨_,Q,by rw[hv];rfl,z.t (.below hb),.below hb⟩
 have F:Hid (∀W,ax (dI w o) W->Calls Yq.prog 19 #[O (J ⟨k0,4,N⟩),Rd #[O p],Rd #[C V,U j,U u,U d],I K n] W λe i=>(∃v,e=Rc v/\∃P sn sc,v=Re #[Rd #[M P sn sc,U R.2.2.1],I K R.2.2.2]/\bZ A B k0 W R.1 R.2.1 (M P sn sc) i)\/∃T,e=.panicked T/\Stop Qok (.panicked T) i):=λW z=>by
  have ap:=(bg o).t z;have hd:=h.left ap;have hs:=ap.size;have bd:au A 41 W p st.f:=by
   have⟨p',bk,bd⟩:=hd.store.tree;rw[ap.cell cp]at bk;cases bk;exact bd
  refine(AQ Qok hQ W hd.ls (by omega) p st.f ⟨V,j,u,d⟩ n bd hq a0 hp bl bq G bo (λi bt=>hG i (bf.left h.ls.lt (ap.t bt))) hT).m ?_;rw[<-hR];rintro e i (⟨sv,rfl,hp⟩|a9)
  .obtain ⟨A',a1,a2,a3,a4,a5,a7⟩:=hp;obtain⟨P,sc,rfl,-⟩:=ao a5.1;exact Rf ⟨_,Q,P,_,sc,Q,A',a1,a2,a3,a4,a5,a7⟩
  .obtain ⟨a,b,r,rfl,a9⟩:=a9;exact Rg ⟨_,Q,a,b,r,Q,a9⟩
 rw[<-hR];have l:Hid (∀ (f:H) (aa:Array Value) (wx:Wj),(f=19\/f=20\/f=21)->(callFunc f aa).run Yq.prog wx=.ok (.enter f aa) wx):=λf aa wx hf=>by rcases hf with rfl|rfl|rfl<;>go_simp
 have D:Hid (∀W,ax (dI w o) W->(W.cell? ⟨w.heap.size,0,N⟩=J (I K kd)/\W.cell? ⟨w.heap.size,1,N⟩=J (U j)/\W.cell? ⟨w.heap.size,2,N⟩=J (U k)/\W.cell? ⟨w.heap.size,3,N⟩=J (U u)/\W.cell? ⟨w.heap.size,4,N⟩=J (U d)/\W.cell? ⟨w.heap.size,5,N⟩=J (I K n)/\W.cell? ⟨w.heap.size,6,N⟩=J (I K x))/\w.heap.size+2<=W.heap.size):=λW z=>by
  have e:W.heap[w.heap.size]?=J (E #[I K kd,U j,U k,U u,U d,I K n,I K x] 37):=by
   rw[z.block _ (by rw[aW];omega)];subst ho;rw[dI,Rb (by simp),aN]
  have hs:=z.size;rw[aW]at hs;refine⟨⟨?_,?_,?_,?_,?_,?_,?_⟩,hs⟩<;>simp[World.cell?,e]
 have ai:=EX h hB o R (by rw[hR];exact us _ _ _ _);have aj:Hid _:=ai.bx;have be:Hid (∀w1,ax ((dI w o).alloc (E #[M N 0 0,U ⟨#[]⟩] 79)).drew w1->w1.heap[w.heap.size+1+1]?=J (E #[M N 0 0,U ⟨#[]⟩] 79)):=λw1 hb=>by
  have:=aN (dI w o) (E #[M N 0 0,U ⟨#[]⟩] 79);rw[aW]at this;exact(hb.block _ (by simp[aW])).t this
 have bn:Hid (∀ (W i:Wj),ax (W.alloc (E #[M N 0 0,U ⟨#[]⟩] 79)) i->i.heap[W.heap.size]?=J (E #[M N 0 0,U ⟨#[]⟩] 79)):=λW i z=>(z.block _ (by simp)).t (aN W _)
 have bp:Hid (∀ (W i:Wj) (bb:H),ax W i->W.heap[bb]?=J (E #[M N 0 0,U ⟨#[]⟩] 79)->i.heap[bb]?=J (E #[M N 0 0,U ⟨#[]⟩] 79)):=λW i bb z hx=>(z.block _ (eS hx).1).t hx
 have ac:Hid _:=ai.b5;have a8:Hid _:=ai.la;have al:Hid _:=ai.lb;have hb3:=nN;have hlt0:=h.ls.lt;clear ai hR hN cp h a0 hp hq bl hT hG bo hQ bq hB;subst ho;unfold dI at av X F D aj be ac a8 al;unfold aL at X ⊢;rcases bi with⟨rfl,rfl⟩;go_enter (Yq.nq func11),ntmps11;go_wp2_with fail
 go_region_law (first
  |(refine bQ Q 20 #[Rh 103] #[43] Q #[O (J ⟨k0,0,N⟩)] (by first|(simp[dT];done)|(simp[dT,ey];done)|go_simp) (l.o _ _ _ (eV (eW Q))) _ (av.o _ ax.refl.drew) ?_;rintro v w1 ⟨rfl,h1,ar⟩;obtain⟨⟨c0,c1,c2,c3,c4,c5,c6⟩,bv⟩:=D.o _ h1;clear ar;have e0:=aw c0;have e1:=aw c1;have e2:=aw c2;have e3:=aw c3;have e4:=aw c4;have e5:=aw c5;have e6:=aw c6)
  |(refine bQ Q 20 #[Rh 103] #[43] Q #[O (J ⟨k0,0,N⟩)] (by first|(simp[dT];done)|(simp[dT,ey];done)|go_simp) (l.o _ _ _ (eV (eW Q))) _ (av.o _ (ax.refl.alloc _).drew) ?_;rintro v w1 ⟨rfl,h1,ar⟩;obtain⟨⟨c0,c1,c2,c3,c4,c5,c6⟩,bv⟩:=D.o _ h1;have hx:=be.o _ ar;clear ar)
  |(refine bQ Q 21 #[Rh 105] #[37] Q _ (by first|(simp[dT];done)|go_simp) (l.o _ _ _ (eV (eV Q))) _ (X.o w1 h1) ?_;rintro v w2 ⟨rfl,y,ad⟩;obtain⟨⟨d0,d1,d2,d3,d4,d5,d6⟩,a6⟩:=D.o _ y;have f5:=aw d5;try(replace hx:=bp.o _ _ _ ad hx);clear ad d0 d1 d2 d3 d4 d6)
  |(refine bQ Q 21 #[Rh 105] #[37] Q _ (by first|(simp[dT];done)|go_simp) (l.o _ _ _ (eV (eV Q))) _ (X.o (w1.alloc _) (h1.alloc _)) ?_;rintro v w2 ⟨rfl,y,ad⟩;obtain⟨⟨d0,d1,d2,d3,d4,d5,d6⟩,a6⟩:=D.o _ y;have hx:=bn.o _ _ ad;clear ad d0 d1 d2 d3 d4 d6)
  |(refine cX Q 19 #[Rh 100,Rh 104,Rh 106,Rh 108] #[47,40,84,3] Q _ (by first|(simp[dT];done)|go_simp) (l.o _ _ _ (eW rfl)) _ (λT i=>Stop Qok (.panicked T) i) (F.o w2 y) (λT i hs=>⟨Q,eV hs⟩) ?_;rintro v w3 ⟨P,sn,sc,rfl,c⟩;obtain⟨v0,v1,o0,o1⟩:=aj.o _ w3 _ y c (by omega) hx;obtain⟨⟨t0,t1,t2,t3,t4⟩,u0,u1,u2,u3,u4⟩:=ac.o _ w3 y c;have ab:=al.o _ w3 P sn sc y c _ (by omega) hx;have af:w.heap.size+1≠w1.heap.size:=(by omega);have bs:w1.heap.size≠w.heap.size+1:=af.s;clear c hx)
  |(refine cX Q 19 #[Rh 100,Rh 104,Rh 106,Rh 108] #[47,40,84,3] Q _ (by first|(simp[dT];done)|go_simp) (l.o _ _ _ (eW rfl)) _ (λT i=>Stop Qok (.panicked T) i) (F.o w2 y) (λT i hs=>⟨Q,eV hs⟩) ?_;rintro v w3 ⟨P,sn,sc,rfl,c⟩;obtain⟨⟨t0,t1,t2,t3,t4⟩,u0,u1,u2,u3,u4⟩:=ac.o _ w3 y c;have ab:=a8.o _ w3 P sn sc y c;have q0:=aw t0;have q1:=aw t1;have q2:=aw t2;have q3:=aw t3;have q4:=aw t4;have p0:=aF t0 u0;have p1:=aF t1 u1;have p2:=aF t2 u2;have p3:=aF t3 u3;have p4:=aF t4 u4;clear c)
  |(refine cX Q 19 #[Rh 100,Rh 104,Rh 106,Rh 108] #[47,40,84,3] Q _ (by first|(simp[dT];done)|(simp[dT,ey];done)|go_simp) (l.o _ _ _ (eW rfl)) _ (λT i=>Stop Qok (.panicked T) i) (F.o (w2.alloc _) (y.alloc _)) (λT i hs=>⟨Q,eV hs⟩) ?_;rintro v w3 ⟨P,sn,sc,rfl,c⟩;obtain⟨v0,v1,o0,o1⟩:=aj.o _ w3 w2.heap.size (y.alloc _) c a6 (aN w2 _);obtain⟨⟨t0,t1,t2,t3,t4⟩,u0,u1,u2,u3,u4⟩:=ac.o _ w3 (y.alloc _) c;have ab:=al.o _ w3 P sn sc (y.alloc _) c w2.heap.size a6 (aN w2 _);have af:w.heap.size+1≠w2.heap.size:=(by omega);have bs:w2.heap.size≠w.heap.size+1:=af.s;clear c))
 all_goals go_wp2
 all_goals clear av X F D aj be bn ac bp a8 al l
 all_goals
  refine bodyPost_ret (v:=kJ ⟨R.2.2.2,0,⟨#[]⟩,R.2.1,R.2.2.1⟩ (M P sn sc)) ?_ Q (Rf ?_)
  .clear ab;first
    |simp[results,results11,go_sem,kJ,q0,q1,q2,q3,q4]
    |simp[results,results11,go_sem,kJ,t0,t1,t2,t3,t4]
  .unfold put5 at ab;refine ab ..
end
end
