/- A part. -/
import Derived.Test.YtenhoolepfelcaaGreatDoorQP11
set_option maxHeartbeats 4000000
set_option maxRecDepth 100000
open _root_ renaming ByteArray->dT,Int->ey
open List.range renaming loop->eV
open Nat renaming zero_le->eW
open List renaming mem_of_getElem?->gI,mem_of_mem_take->gL,range->g6
open Go renaming World->Wj
namespace Go.Proofs.Qw
open _root_ renaming rfl->Q
open _root_ renaming Nat->H,List->S
open Option renaming none->N,some->J
open Bool renaming false->Z
open Value renaming int->I,string->U,slice->M,pointer->O,tuple->Qb
open IntKind renaming i64->K
open Obj renaming cells->E
open Ending renaming returned->Nm
open Or renaming inl->Qc,inr->Qd
variable {Qok:Qy->Prop}
open Tryz
section
open Go.Conc Go.ConcX Go.ConcX.Gen Go.RowKit
theorem Io k0 g0 c B k o w(hn:k.length<=2199023255552)(c8:w.cell? ⟨k0,8,N⟩=J (M (J ⟨g0,0,N⟩) k.length c))(hb:IM w k0 g0 k.length B k):
  Calls Yq.prog 25 #[O (J ⟨k0,0,N⟩),aJ o] w λe w'=>e=Nm (U (dM B k o.src o.body))/\Below w.heap.size w w':=by
 obtain⟨z,V,f,eQ,u,n,d⟩:=o;have⟨sb,P,sn,sc,c7,hsn,T⟩:=hb.NQ;have X:=hb.OF;have hkl:=hb.kl;have hlt:=bC w _ c8;obtain⟨W,hW⟩:∃W,W=w.alloc (E #[I K z,U V,U f,U eQ,U u,I K n,I K d] 30):=⟨_,Q⟩;have h:Below w.heap.size w W:=by rw[hW];exact(bR _ _).alloc (lR _) _
 have F:Below w.heap.size w {W with drawn:=W.drawn+1}:=⟨h.os,h.tape,h.output,h.size,h.block⟩;have d8:=ag h c8;have d7:=ag h c7;have HA:=zX k0 (J ⟨g0,0,N⟩) k.length c d {W with drawn:=W.drawn+1} hn (ag F c8);have y:W.heap[w.heap.size]?=J (E #[I K z,U V,U f,U eQ,U u,I K n,I K d] 30):=by rw[hW];exact aN _ _
 have d6:W.cell? ⟨w.heap.size,6,N⟩=J (I K d):=by simp[World.cell?,y]
 have HB:Hid (Below w.heap.size w W/\W.cell? ⟨k0,7,N⟩=J (M (J ⟨sb,P,N⟩) sn sc)/\W.cell? ⟨w.heap.size,6,N⟩=J (I K d)):=⟨h,d7,d6⟩;have HW:Hid (W=w.alloc (E #[I K z,U V,U f,U eQ,U u,I K n,I K d] 30)):=hW;have ad:({W with drawn:=W.drawn+1}:Wj).cell? ⟨w.heap.size,2,N⟩=J (U f):=by
  show W.cell? _=_
  simp_all
 have af:({W with drawn:=W.drawn+1}:Wj).cell? ⟨w.heap.size,6,N⟩=J (I K d):=d6;have ai:({W with drawn:=W.drawn+1}:Wj).cell? ⟨k0,8,N⟩=J (M (J ⟨g0,0,N⟩) k.length c):=d8;obtain⟨D,hD⟩:∃D:Wj,D={W with drawn:=W.drawn+1}:=⟨_,Q⟩;have i:Hid (D={W with drawn:=W.drawn+1}/\Below w.heap.size w D):=⟨hD,by rw[hD];exact F⟩;rw[<-hD]at ad af ai HA;unfold aJ;simp only;by_cases r:0<=d/\d<k.length
 .have hd:decide (0<=d/\d<k.length)=true:=by simp[r]
  rw[hd]at HA;obtain⟨s,rfl⟩:∃s:H,d=s:=⟨d.toNat,by omega⟩;have hs:s<k.length:=by omega
  have ab:s<B.length:=by omega
  have ck:=ag h (T s ab);have cbD:D.cell? ⟨g0,s*5+2,N⟩=J (U k[s]):=by rw[hD];exact ag h (X s hs)
  have e0:B[(s:ey).toNat]?.getD 0=B[s]:=by simp[ab]
  have e1:k[(s:ey).toNat]?.getD ⟨#[]⟩=k[s]:=by simp[hs]
  have hR:dM B k s f=if B[s]=11 then k[s]else f:=by rw[dM,if_pos r,e0,e1]
  rw[hR];have aa:s<sn:=by omega
  generalize B[s]=t at *;generalize k[s]=bb at *;clear hW h F d8 d7 d6 y T X c8 c7 hb hD;by_cases A:t=11
  .have R:(t==11)=true:=by simp[A]
   rw[if_pos A];go_enter (Yq.nq func25),ntmps25
   go_upto_region 1 with fail
   rename_i K1 ac K2 l;rw[<-HW.o];refine wpIn_wide.1 (show Code.wpIn (wf N) 0 _ _ _ _ _ from Aa (id:=1) (m:=0) (s:=s) (so:=P) (j:=7) (i1:=P+s*7) (i2:=P+s*7) (lv:=I K t) (b:=t==11) (ops:=yA) Q Q Q HB.o.2.2 (Qd ⟨Q,Q,Q,Q,t,Q,Q⟩) HB.o.2.1 Q aa ck (by rw[<-i.o.1];exact HA) (λa L p v q=>?_));rw[<-i.o.1];have p:=p;have r:=jv a 32 L;rw[R]at q;have G:=v 0 (by decide);have x:=v 3 (by decide);refine l _ _ ?_;rw[r,p];clear r L p v;generalize a.eval=ρ at G x q ⊢;simp[g6,eV,G,x,q];clear G x q l K2 HA ck;have h1i:¬((s:ey)<0):=by omega
   go_wp2_with fail
   go_region
   all_goals
    go_wp2;go_ret;exact⟨Q,i.o.2.drew⟩
  .have R:(t==11)=false:=by simp[A]
   rw[if_neg A];go_enter (Yq.nq func25),ntmps25
   go_upto_region 1 with fail
   rename_i K1 ac K2 l;rw[<-HW.o];refine wpIn_wide.1 (show Code.wpIn (wf N) 0 _ _ _ _ _ from Aa (id:=1) (m:=0) (s:=s) (so:=P) (j:=7) (i1:=P+s*7) (i2:=P+s*7) (lv:=I K t) (b:=t==11) (ops:=yA) Q Q Q HB.o.2.2 (Qd ⟨Q,Q,Q,Q,t,Q,Q⟩) HB.o.2.1 Q aa ck (by rw[<-i.o.1];exact HA) (λa L p v q=>?_));rw[<-i.o.1];have p:=p;have r:=jv a 32 L;rw[R]at q;have G:=v 0 (by decide);have x:=v 3 (by decide);refine l _ _ ?_;rw[r,p];clear r L p v;generalize a.eval=ρ at G x q ⊢;simp[g6,eV,x,q];clear G x q l K2 HA ck;go_wp2_with fail
   go_ret;exact⟨Q,i.o.2⟩
 .have hd:decide (0<=d/\d<k.length)=false:=by simpa using r
  rw[hd]at HA;have hR:dM B k d f=f:=by rw[dM,if_neg r]
  rw[hR];clear hW h F d8 d7 d6 y T X c8 c7 hb hD;go_enter (Yq.nq func25),ntmps25
  go_upto_region 1 with fail
  rename_i K1 ac K2 l;rw[<-HW.o];refine wpIn_wide.1 (show Code.wpIn (wf N) 0 _ _ _ _ _ from Lj (id:=1) (m:=0) (ops:=yA) Q Q Q HB.o.2.2 (Qd Q) (by rw[<-i.o.1];exact HA) (λa L p v q=>?_));rw[<-i.o.1];have p:=p;have r:=jv a 32 L;have G:=v 0 (by decide);have x:=v 3 (by decide);refine l _ _ ?_;rw[r,p];clear r L p v;generalize a.eval=ρ at G x q ⊢;simp[g6,eV,x,q];clear G x q l K2 HA;go_wp2_with fail
  go_ret;exact⟨Q,i.o.2⟩
theorem Fk k0(v:Value)w(c4:w.cell? ⟨k0,4,N⟩=J v)(f4:w.frozen? ⟨k0,4,N⟩=Z):
  Calls Yq.prog 55 #[O (J ⟨k0,4,N⟩)] w λe a=>e=Nm (Qb #[])/\a=w.setCell ⟨k0,4,N⟩ (M N 0 0):=by
 go_enter (Yq.nq func55),ntmps55;go_wp2;go_end0
 grind
section
variable {A:Nat->Prop} {B k0:Nat} {w w2:Wj} {st:St} {L:Lg}
theorem Fm(h:aW A B w k0 st L)(n:ay w w2){A1:H->Prop}{p}{d}{tm:ey}(hN:ao A1 41 w2 p d.f)(k:∀b,A1 b->w.heap.size<=b)(_hB:B<=w.heap.size):
  ∃A':H->Prop,(∀b,A b->A' b)/\(∀b,A' b->A b\/w.heap.size<=b)/\aW A' B (put5 w2 k0 (O p) (I K d.count) (I K d.last) (I .u64 tm) (M N 0 0)) k0 d {L with opened:=[],tm:=tm}/\fi A B k0 w (put5 w2 k0 (O p) (I K d.count) (I K d.last) (I .u64 tm) (M N 0 0))/\FrC k0 w (put5 w2 k0 (O p) (I K d.count) (I K d.last) (I .u64 tm) (M N 0 0)):=by
 have q:=h.left n;obtain⟨p0,c0,-⟩:=q.store.tree;obtain⟨v,c4,-⟩:=q.ls.opened;have⟨mv,V,R⟩:=h.ls.told;replace V:=n.cell V;have c1:=q.store.count;have c2:=q.store.last;have c3:=q.time;have u:=h.ls.lt;have s:=h.ls.low;obtain⟨W,l⟩:∃W,W=put5 w2 k0 (O p) (I K d.count) (I K d.last) (I .u64 tm) (M N 0 0):=⟨_,Q⟩;have i:∀b,b≠k0->W.heap[b]?=w2.heap[b]?:=λb c=>by
  rw[l,put5,bS _ _ _ _ c,bS _ _ _ _ c,bS _ _ _ _ c,bS _ _ _ _ c,bS _ _ _ _ c]
 have d0:W.cell? ⟨k0,0,N⟩=J (O p):=by rw[l];exact co (by simp) (co (by simp) (co (by simp) (co (by simp) (cs c0))))
 have d1:W.cell? ⟨k0,1,N⟩=J (I K d.count):=by rw[l];exact co (by simp) (co (by simp) (co (by simp) (cs (co (by simp) c1))))
 have d2:W.cell? ⟨k0,2,N⟩=J (I K d.last):=by rw[l];exact co (by simp) (co (by simp) (cs (co (by simp) (co (by simp) c2))))
 have d3:W.cell? ⟨k0,3,N⟩=J (I .u64 tm):=by rw[l];exact co (by simp) (cs (co (by simp) (co (by simp) (co (by simp) c3))))
 have d4:W.cell? ⟨k0,4,N⟩=J (M N 0 0):=by rw[l];exact cs (co (by simp) (co (by simp) (co (by simp) (co (by simp) c4))))
 have T:∀j,4<j->W.cell? ⟨k0,j,N⟩=w2.cell? ⟨k0,j,N⟩:=λj hj=>by
  rw[l,put5,cO _ _ _ _ (bB (by omega)),cO _ _ _ _ (bB (by omega)),cO _ _ _ _ (bB (by omega)),cO _ _ _ _ (bB (by omega)),cO _ _ _ _ (bB (by omega))]
 have hf:∀j,W.frozen? ⟨k0,j,N⟩=w2.frozen? ⟨k0,j,N⟩:=λj=>by
  rw[l,put5];simp only[World.frozen?_setCell]
 have hsz:W.heap.size=w2.heap.size:=by rw[l];simp[put5]
 have hs2:=n.size;rw[<-l];have y:∀j,W.frozen? ⟨k0,j,N⟩=false:=λj=>(hf j).t (q.ls.frozen j)
 refine⟨λb=>A b\/(A1 b/\b<w2.heap.size),λb c=>Qc c,λb c=>c.imp id λh=>k b h.1,⟨⟨λb c e=>?_,⟨p,d0,ao.Mr (λb D o=>⟨Qd ⟨D,o⟩,i b (λe=>by have:=k b D;omega)⟩) 41 _ _ hN⟩,d1,d2,y⟩,⟨⟨_,d4,[],Q,⟨by simp[bW],Qc ⟨Q,Q⟩⟩,λg hg=>by simp[Value.ownBlock]at hg,λz hz=>by simp at hz⟩,(T 5 (by omega)).t q.ls.begun,⟨mv,(T 6 (by omega)).t V,?_⟩,y,λc=>?_,s,λb c=>?_⟩,d3⟩,⟨?_,by omega,λb _ o F=>(i b F).t (n.block b o),λb o F=>(i b (λe=>h.ls.Mv (e▸o))).t (n.block b F),λj hj=>(T j (by omega)).t (cB (a:=⟨k0,j,N⟩) (n.block k0 u)),λj=>(hf j).t (fB (a:=⟨k0,j,N⟩) (n.block k0 u))⟩,⟨by omega,λb c o _=>(i b o).t (n.block b c.lt),λb ho=>?_⟩⟩
 .subst e;rcases c with c|c
  .exact h.ls.Mv c
  .have:=k _ c.1;omega
 .rcases R with R|⟨m,es,r,m1,X,m3,m4,m5⟩
  .exact Qc R
  .have G:=(eS X).1;exact Qd ⟨m,es,r,m1,(i m (by omega)).t ((n.block m G).t X),m3,λP=>P.elim m4 λP=>by have:=k _ P.1;omega,m5⟩
 .rcases c with c|c
  .exact h.ls.Mv c
  .have:=k _ c.1;omega
 .rcases c with c|c
  .have:=q.ls.Ng b c;omega
  .omega
 .rw [l];show w2.os=w.os;exact n.os
 .obtain ⟨x,D,o⟩:=ho;rw[d4]at D;cases D;simp[Value.ownBlock]at o
theorem Ip(h:aW A B w k0 st L)(V:B<=w.heap.size)(c:dT)(P:c.size<=maxLen):
  Calls Yq.prog 24 #[O (J ⟨k0,0,N⟩),U c] w λe x=>e=Nm (I K (dx st L c).2.2.code)/\∃A':H->Prop,(∀b,A b->A' b)/\(∀b,A' b->A b\/w.heap.size<=b)/\aW A' B x k0 (dx st L c).1 (dx st L c).2.1/\fi A B k0 w x/\FrC k0 w x:=by
 have HD:Hid (aW A B w k0 st L/\B<=w.heap.size):=⟨h,V⟩;have HL:=Kr c w P;clear h P V;go_enter (Yq.nq func24),ntmps24;go_wp2_with fail
 refine HL.m ?_;clear HL;rintro e l ⟨r,⟨k,rfl⟩|⟨i,u,p,A1,k,rfl,R,n,hI,hT⟩⟩
 .have HR:Hid (dx st L c=(st,L,⟨12,0,⟨#[]⟩,[],⟨#[]⟩⟩)):=by show dx st L c=_;rw[dx,k]
  have z:Hid (ay w l):=r;clear k r;go_wp2;go_ret;rw[HR.o];have j:=z.o.alloc (E #[O N,I K 0,I K 0,I .u64 0] 36);exact⟨Q,A,λ_ h=>h,λ_ h=>Qc h,HD.o.1.left j,fi.left HD.o.1.ls.lt j,FrC.left HD.o.1.ls.lt j⟩
 .have HR:Hid (dx st L c=(i,{L with opened:=[],tm:=u},⟨0,0,⟨#[]⟩,[],⟨#[]⟩⟩)):=by show dx st L c=_;rw[dx,k]
  obtain⟨W,t⟩:∃W,W=l.alloc (E #[O p,I K i.count,I K i.last,I .u64 u] 36):=⟨_,Q⟩;have j:ay w W:=by rw[t];exact r.alloc _
  have s:ao A1 41 W p i.f:=by rw[t];exact ao.Mr (λb h1 d=>⟨h1,bA _ _ _ d⟩) 41 _ _ R
  have HF:Hid (_/\ay w W):=⟨Fm (tm:=u) HD.o.1 j s n HD.o.2,j⟩;have d:=HD.o.1.left r;obtain⟨p0,F,-⟩:=d.store.tree;obtain⟨v,D,-⟩:=d.ls.opened;have k:=au F;have e1:=au d.store.count;have e2:=au d.store.last;have e3:=au d.time;have T:=au D;have g0:=aF F (d.ls.frozen 0);have g1:=aF d.store.count (d.ls.frozen 1);have g2:=aF d.store.last (d.ls.frozen 2);have g3:=aF d.time (d.ls.frozen 3);have G:=aF D (d.ls.frozen 4);have y:Hid (W=l.alloc (E #[O p,I K i.count,I K i.last,I .u64 u] 36)):=t;have q:Hid ((∀a,(l.alloc a).cell? ⟨k0,4,N⟩=J v)/\∀a,(l.alloc a).frozen? ⟨k0,4,N⟩=Z):=⟨T,G⟩;clear j s R n hI hT r d t F D T G;go_wp2_with (go_at_call 55;refine(Fk k0 v _ (co (by simp) (co (by simp) (co (by simp) (co (by simp) (q.o.1 _))))) (fs (fs (fs (fs (q.o.2 _)))))).m ?_;rintro e w3 ⟨rfl,rfl⟩)
  go_ret;rw[HR.o,<-y.o];have⟨A',a1,a2,a3,X,a5⟩:=HF.o.1;exact⟨Q,A',a1,a2,a3,X,a5⟩
theorem ze(h:aW A B w k0 st L)(hB:B<=w.heap.size)o(hk:o.kind=12)(k:o.body.size<=maxLen)s g0 cp(hs:s<2199023255340)(c8:w.cell? ⟨k0,8,N⟩=J (M (J ⟨g0,0,N⟩) s cp))l j(f:IM w k0 g0 s l j):
  Calls Yq.prog 8 #[O (J ⟨k0,0,N⟩),aJ o] w (bQ A B k0 w (dx st L (dM l j o.src o.body)).1 (dx st L (dM l j o.src o.body)).2.1 (dx st L (dM l j o.src o.body)).2.2):=by
 obtain⟨a,i⟩:∃a,a=dM l j o.src o.body:=⟨_,Q⟩;have u:a.size<=maxLen:=by
  rw[i,dM];split
  .split
   .rename_i h1 h2;obtain⟨x,hx⟩:∃x,j[o.src.toNat]?=J x:=⟨_,eL (by omega)⟩;rw[hx];exact f.small x (gI hx)
   .exact k
  .exact k
 have d:ay w (dA w o):=aZ o;have ab:=f.bl;subst ab;have HS:=Io k0 g0 cp l j o (dA w o) (by omega) (d.cell c8) (f.left d);rw[<-i]at HS ⊢;have aa:=h.ls.lt;have HL:Hid (∀c,ay (dA w o) c->Calls Yq.prog 24 #[O (J ⟨k0,0,N⟩),U a] c λe D=>e=Nm (I K (dx st L a).2.2.code)/\∃A':H->Prop,(∀b,A b->A' b)/\(∀b,A' b->A b\/(dA w o).heap.size<=b)/\aW A' B D k0 (dx st L a).1 (dx st L a).2.1/\fi A B k0 (dA w o) D/\FrC k0 (dA w o) D):=λc P=>by
  have hs1:=P.size;have hs0:=d.size;refine(Ip (h.left (d.t P)) (by omega) a u).m ?_;rintro e D ⟨rfl,A',p,y,a3,a4,a5⟩;exact⟨Q,A',p,λb f=>(y b f).imp id λh=>by omega,a3,(fi.left (by omega) P).t a4,(FrC.left (by omega) P).t a5⟩
 have HB:Hid (∀c,FrC k0 (dA w o) c->_):=λc hf=>box5 (mw o h.ls hf)
 have q:(dx st L a).2.2=⟨(dx st L a).2.2.code,0,⟨#[]⟩,[],⟨#[]⟩⟩:=by
  unfold dx;split<;>rfl
 have HF:Hid (∀c X V T G F (A':H->Prop),(∀b,A b->A' b)->(∀b,A' b->A b\/(dA w o).heap.size<=b)->aW A' B c k0 (dx st L a).1 (dx st L a).2.1->fi A B k0 (dA w o) c->FrC k0 (dA w o) c->bQ A B k0 w (dx st L a).1 (dx st L a).2.1 ⟨(dx st L a).2.2.code,0,⟨#[]⟩,[],⟨#[]⟩⟩ (Nm (j6 ⟨(dx st L a).2.2.code,0,⟨#[]⟩,[],⟨#[]⟩⟩ (M N 0 0))) (put5 c (w.heap.size+1) X V T G F)):=λc X V T G F A' p y d1 d2 z=>by
  have⟨e1,e2,e3,e4⟩:=ni (A':=A') (sv:=M N 0 0) (Mt:=[]) (r:=w.heap.size+1) d aa hB (by omega) (by rw[ba];omega) ⟨_,gU o,Q⟩ p y h.ls.Ng d1 d2 z (gw o h.ls) ⟨N,0,Q,λ_=>Q,λh=>absurd Q h⟩ X V T G F;exact⟨_,Q,A',p,e1,e2,e3,e4⟩
 have hb1:=BK;rw[q];clear q i;generalize dx st L a=R at HL HF ⊢;obtain⟨st',L',ca⟩:=R;obtain⟨cd,V,T,G,F⟩:=ca;simp only at HL HF ⊢;obtain⟨kind,key,body,eQ,past,n,src⟩:=o;simp only at hk;subst hk;unfold dA at HS HL HF HB;clear h f u d hB k c8;unfold aJ at HS ⊢;go_enter (Yq.nq func8),ntmps8;go_wp2_with (first
  |(go_at_call 25;refine HS.m ?_;clear HS;rintro e c ⟨rfl,f⟩)
  |(go_at_call 24;refine(HL.o c (.below f)).m ?_;clear HL;rintro e w2 ⟨rfl,A',p,y,d1,d2,z⟩;have⟨⟨b0,b1,b2,b3,b4⟩,f0,f1,f2,f3,f4⟩:=HB.o w2 z))
 exact bodyPost_ret (v:=j6 ⟨cd,0,⟨#[]⟩,[],⟨#[]⟩⟩ (M N 0 0)) (by simp[results,results8,go_sem,j6,b0,b1,b2,b3,b4]) Q (HF.o w2 _ _ _ _ _ A' p y d1 d2 z)
end
def LK(G:Wj->Prop)(N:H):Prop:=wo Cx LJ G N
theorem Fo o:qJ Cx o:=⟨λ_=>trivial,λ_=>trivial⟩
end
section
open Go.RowKit
theorem nz l(a:ey):∀ (Mt:S ItD)(k:H),(dV l a k Mt).length<=Mt.length
 | [],_=>by simp[dV]
 |i::r,k=>by
  have:=nz l a r (k+1);rw[dV];split<;>simp only[lP,lC,lN]<;>omega
theorem AA{L}{s}(h:qA Qok L s)(a:dT):(dR L a).2.1.length<=1000:=by
 unfold dR;split
 .simp
 .split
  .simp
  .split
   .simp
   .rename_i x b;have hm:=h.ok x (gI b);have h2:=ml x.q (bL x.f x.q.p.data.toList) (fg _ _ _);exact lT (nz _ _ _ _) (by omega)
end
section
open Go.Conc Go.ConcX Go.ConcX.Gen Go.RowKit
theorem Cp{st}{b:ey}{s:dT}{x:St×ey×dT}(d:Inv st 0)(f:lx st)(c:0<=b/\b<18446744073709551616)(h:dg st b s=J x):lx x.1/\0<=x.2.1/\x.2.1<18446744073709551616:=by
 have a:∀l,mz st.last (nm8 (rsB s 1))=J l->Inv (Ms st l) 0/\lx (Ms st l):=λl e=>⟨d.Ms (fo e).1 (fo e).2,f.Ms l⟩
 unfold dg at h;split at h
 .split at h
  .grind
  .rename_i l e;split at h
   .rw [<-oJ h];dsimp only;exact⟨(a l e).2.put (a l e).1 _ _,c⟩
   .grind
 .split at h
  .split at h
   .grind
   .rename_i l e;split at h
    .rw [<-oJ h];dsimp only;exact⟨(a l e).2.MA (a l e).1 _,c⟩
    .grind
  .split at h
   .grind
   .split at h
    .rw [<-oJ h];have:=IL (rsB s 1)
     grind
    .grind
theorem r8:∀ (n:H)(st:St)(a:ey)(s:dT)(x:St×ey),Inv st 0->eH st->lx st->(0<=a/\a<18446744073709551616)->fP n st a s=J x->lx x.1/\0<=x.2/\x.2<18446744073709551616
 | 0,_,_,_,_,_,_,_,_,h=>by simp[fP]at h
 |n+1,st,a,s,x,hI,hT,hS,ht,h=>by
  unfold fP at h;split at h
  .cases h;exact⟨hS,ht⟩
  .split at h
   .exact absurd h (by simp)
   .rename_i y e;have b:=wk hI hT e;have c:=Cp hI hS ht e;exact r8 n _ _ _ x b.1 b.2 c.1 c.2 h
theorem r9{b:dT}{x:St×ey}(h:iC b=J x):lx x.1/\0<=x.2/\x.2<18446744073709551616:=
 r8 _ _ _ _ x inv0 GQ Ln (by decide) (rK h).1
structure I0 (d:Dk):Prop where
 s:lx d.st
 tm:0<=d.L.tm/\d.L.tm<18446744073709551616
 Mt:∀a∈d.al,a.items.length<=1000
theorem ue{st}(a:eH st)L q(n:ey):(fw L st.f q n).2.1.length<=1000:=by
 have h1:((iW L st.f q n).Mz 1).length<=1000:=by
  have h2:=ml q (bL st.f q.p.data.toList) (fg _ _ _);have h3:=a.sum q.p.data.toList;exact lT (nz _ _ _ _) (by show(bV q (bL st.f q.p.data.toList)).length<=1000;omega)
 unfold fw
 grind
theorem Fq{st}{L}{s}(b:eH st)(a:qA Qok L s)Mq o:(Mu st L Mq o).2.2.items.length<=1000:=by
 have hl:=a.len;unfold Mu;split
 .exact ue b _ _ _
 .split
  .exact ue b _ _ _
  .split
   .exact AA a _
   .grind
theorem L5 c(e:∀o∈c,qJ Qok o/\o.key.size<=maxLen):∀a∈(cW c).al,a.items.length<=1000:=by
 have:∀n,n<=c.length->∀a∈(cW (c.take n)).al,a.items.length<=1000:=λn=>by
  induction n with
  |zero=>intro _ a d;simp[cW,je,dk0]at d
  |succ n ih=>
   intro hn a d;rw[tS (by omega),mA]at d;simp[gy]at d;rcases d with d|rfl
   .grind
   .have hE:=oM (Qok:=Qok) (c.take n) λo f=>e o (gL f)
    unfold iH nk;split
    .generalize dM _ _ _ _=b;unfold dx
     grind
    .exact Fq hE.t hE.l _ _
 have:=this c.length (lR _)
 grind
theorem I0.Mu{st}{L}{s}(e:Inv st s)(d:eH st)(c:qA Qok L s)(b:lx st)(a:0<=L.tm/\L.tm<18446744073709551616)Mq o:lx (Mu st L Mq o).1/\(0<=(Mu st L Mq o).2.1.tm/\(Mu st L Mq o).2.1.tm<18446744073709551616)/\(Mu st L Mq o).2.2.items.length<=1000:=by
 have hl:=c.len;unfold Go.Proofs.Qw.Mu;split
 .exact ⟨b,by rw[tJ];exact a,ue d _ _ _⟩
 .split
  .exact ⟨b,by rw[tJ];exact a,ue d _ _ _⟩
  .split
   .exact ⟨b,by rw[zZ];exact a,AA c _⟩
   .split
    .refine ⟨b,?_,eW _⟩;unfold fx;split
     .exact a
     .simp only[mt,IntKind.wrap,IntKind.bits,IntKind.signed];simp;omega
    .split
     .grind
     .split
      .grind
      .exact ⟨b.step e o,a,eW _⟩
theorem I0.step{Qok:Qy->Prop}{d}{s}{a}(h:I0 d)(hE:HU Qok d s)o:I0 (gy a d o):=by
 have f:lx (iH a d o).1/\(0<=(iH a d o).2.1.tm/\(iH a d o).2.1.tm<18446744073709551616)/\(iH a d o).2.2.items.length<=1000:=by
  unfold iH nk;split
  .generalize dM _ _ _ _=b;unfold dx;cases e:iC b with
   |none=>exact⟨h.s,h.tm,eW _⟩
   |some x=>exact⟨(r9 e).1,(r9 e).2,eW _⟩
  .exact I0.Mu hE.i hE.t hE.l h.s h.tm _ o
 refine⟨f.1,f.2.1,λx c=>?_⟩;simp[gy]at c;rcases c with c|rfl
 .exact h.Mt x c
 .exact f.2.2
theorem Iq b(d:∀o∈b,qJ Qok o/\o.key.size<=maxLen):I0 (cW b):=by
 have:∀n,n<=b.length->I0 (cW (b.take n)):=λn=>by
  induction n with
  |zero=>intro _;exact⟨Ln,show(0:ey)<=0/\(0:ey)<18446744073709551616 by decide,λa c=>by simp[cW,je,dk0]at c⟩
  |succ n ih=>
   intro hn;rw[tS (by omega),mA];exact(ih (by omega)).step (oM (Qok:=Qok) (b.take n) λo e=>d o (gL e)) _
 have:=this b.length (lR _)
 grind
theorem qu a b:∃r,(cW (a++b)).al=(cW a).al++r:=by
 have:∀ (b:S OpD) (x:S OpD×Dk),∃r,(je b x).2.al=x.2.al++r:=λb=>by
  induction b with
  |nil=>intro x;exact⟨[],by simp[je]⟩
  |cons o r ih=>
   intro x;have⟨l,c⟩:=ih (x.1++[o],gy x.1 x.2 o);refine⟨[(iH x.1 x.2 o).2.2]++l,?_⟩;show(je r (x.1++[o],gy x.1 x.2 o)).2.al=_;rw[c];simp[gy]
 rw[cW,nS];exact this b _
theorem wU a k i(hi:i<k)(hk:k<=a.length):(cW a).al[i]?=(cW (a.take k)).al[i]?:=by
 have⟨r,b⟩:=qu (a.take k) (a.drop k);rw[List.take_append_drop]at b;rw[b,List.getElem?_append_left (by rw[j9,tL];omega)]
end
