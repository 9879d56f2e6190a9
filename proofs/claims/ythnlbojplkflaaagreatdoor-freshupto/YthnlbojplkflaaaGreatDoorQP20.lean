/- A part. -/
import Derived.Test.YthnlbojplkflaaaGreatDoorQP17
set_option maxHeartbeats 4000000
set_option maxRecDepth 100000
open _root_ renaming ByteArray->dT,Int->ey,congrArg->eV,absurd->eW,Option->gI
open Go.Value renaming ownBlock->gL,slice->kr
open List renaming mem_append->lj,mem_singleton->lk,length_pos_iff->nF,not_mem_nil->n8,map_append->pt,mem_of_getElem?->sq,mem_of_mem_take->sT,getElem_mem->tb,take_length->tn,range->uc,mem_map->vf,length->vx
open Or renaming inr->wz
open Go renaming maxLen->xb,step_append_lies->xc,info_parts->xt,wpIn_wide->xv,bodyPost_ret->yz,TypeId->Rj
open Go.Act renaming eval->Rk
open List.range renaming loop->Rl
open Go.World renaming frozen?_alloc_at->Rm,ownsRow_nil->Rn
open Go renaming World->Wj,Value->Wx,Addr->Wu
namespace Go.Proofs.Qw
open _root_ renaming rfl->Q
open Go.Proofs.Yq renaming prog->Vp
open _root_ renaming Nat->H,List->S
open Option renaming none->N,some->J
open Bool renaming true->Y,false->Z
open Value renaming int->I,string->U,slice->M,pointer->O,bool->C,agg->Rd,tuple->Re
open IntKind renaming i64->K
open Obj renaming cells->E
open Ending renaming returned->Rc
open Or renaming inl->Rf,inr->Rg
open Operand renaming tmp->Rh
variable {Qok f:Qy->Prop}{L:Lg}{B b g k n s:H}{w w':Wj}{R:S bz}{P:S PlL}{T:S PlT}{Zq:S SvE->Prop}
open Tryz
section
open Go.Conc Go.ConcX Go.ConcX.Gen Go.RowKit
theorem Jk k0 g0 c z k o w(hn:k.length<=2199023255552)(c8:w.cell? ⟨k0,8,N⟩=J (M (J ⟨g0,0,N⟩) k.length c))(hb:JH w k0 g0 k.length z k):
  Calls Vp 29 #[O (J ⟨k0,0,N⟩),aL o] w λe w'=>e=Rc (U (dQ z k o.src o.body))/\Below w.heap.size w w':=by
 obtain⟨L,ab,h,fe,F,n,d⟩:=o;have⟨sb,V,sn,sc,c7,hsn,R⟩:=hb.Pz;have T:=hb.PK;have hkl:=hb.kl;have hlt:=bC w _ c8;obtain⟨W,hW⟩:∃W,W=w.alloc (E #[I K L,U ab,U h,U fe,U F,I K n,I K d] 37):=⟨_,Q⟩;have f:Below w.heap.size w W:=by rw[hW];exact(Q9).alloc Q0 _
 have A:Below w.heap.size w {W with drawn:=W.drawn+1}:=⟨f.os,f.tape,f.output,f.size,f.block⟩;have d8:=ag f c8;have d7:=ag f c7;have HA:=AP k0 (J ⟨g0,0,N⟩) k.length c d {W with drawn:=W.drawn+1} hn (ag A c8);have x:W.heap[w.heap.size]?=J (E #[I K L,U ab,U h,U fe,U F,I K n,I K d] 37):=by rw[hW];exact aN _ _
 have d6:W.cell? ⟨w.heap.size,6,N⟩=J (I K d):=by simp[World.cell?,x]
 have HB:=eM f d7 d6;have HW:=aq hW;have af:({W with drawn:=W.drawn+1}:Wj).cell? ⟨w.heap.size,2,N⟩=J (U h):=by
  show W.cell? _=_
  simp_all
 have ai:({W with drawn:=W.drawn+1}:Wj).cell? ⟨w.heap.size,6,N⟩=J (I K d):=d6;have aj:({W with drawn:=W.drawn+1}:Wj).cell? ⟨k0,8,N⟩=J (M (J ⟨g0,0,N⟩) k.length c):=d8;obtain⟨D,X⟩:∃D:Wj,D={W with drawn:=W.drawn+1}:=⟨_,Q⟩;have i:Hid (D={W with drawn:=W.drawn+1}/\Below w.heap.size w D):=⟨X,by rw[X];exact A⟩;rw[<-X]at af ai aj HA;unfold aL;simp only;by_cases r:0<=d/\d<k.length
 have hd:decide (0<=d/\d<k.length)=true:=by simp[r]
 rw[hd]at HA;obtain⟨s,rfl⟩:∃s:H,d=s:=⟨d.toNat,by omega⟩;have hs:s<k.length:=by omega
 have ac:s<z.length:=by omega
 have ck:=ag f (R s ac);have cbD:D.cell? ⟨g0,s*5+2,N⟩=J (U k[s]):=by rw[X];exact ag f (T s hs)
 have e0:z[(s:ey).toNat]?.getD 0=z[s]:=by simp[ac]
 have e1:k[(s:ey).toNat]?.getD ⟨#[]⟩=k[s]:=by simp[hs]
 have hR:dQ z k s h=if z[s]=11 then k[s]else h:=by rw[dQ,if_pos r,e0,e1]
 rw[hR];have aa:s<sn:=by omega
 generalize z[s]=t at *;generalize k[s]=bb at *;clear hW f A d8 d7 d6 x R T c8 c7 hb X;by_cases y:t=11
 .have P:(t==11)=true:=by simp[y]
  rw[if_pos y];go_enter (Yq.nq func29),ntmps29
  go_upto_region 1 with fail
  rename_i K1 ad K2 l;rw[<-HW.o];refine xv.1 (show Code.wpIn (wf N) 0 _ _ _ _ _ from AS (id:=1) (m:=0) (s:=s) (so:=V) (j:=7) (i1:=V+s*7) (i2:=V+s*7) (lv:=I K t) (b:=t==11) (ops:=zm) Q Q Q HB.o.2.2 (Rg ⟨Q,Q,Q,Q,t,Q,Q⟩) HB.o.2.1 Q aa ck (by rw[<-i.o.1];exact HA) (λa G p u q=>?_));rw[<-i.o.1];have p:=p;have r:=jS a 32 G;rw[P]at q;have B:=u 0 (by decide);have v:=u 3 (by decide);refine l _ _ ?_;rw[r,p];clear r G p u;generalize a.eval=ρ at B v q ⊢;simp[uc,Rl,B,v,q];clear B v q l K2 HA ck;have h1i:¬((s:ey)<0):=by omega
  go_wp2_with fail
  go_region
  all_goals
   go_wp2;go_ret;exact⟨Q,i.o.2.drew⟩
 have P:(t==11)=false:=by simp[y]
 rw[if_neg y];go_enter (Yq.nq func29),ntmps29
 go_upto_region 1 with fail
 rename_i K1 ad K2 l;rw[<-HW.o];refine xv.1 (show Code.wpIn (wf N) 0 _ _ _ _ _ from AS (id:=1) (m:=0) (s:=s) (so:=V) (j:=7) (i1:=V+s*7) (i2:=V+s*7) (lv:=I K t) (b:=t==11) (ops:=zm) Q Q Q HB.o.2.2 (Rg ⟨Q,Q,Q,Q,t,Q,Q⟩) HB.o.2.1 Q aa ck (by rw[<-i.o.1];exact HA) (λa G p u q=>?_));rw[<-i.o.1];have p:=p;have r:=jS a 32 G;rw[P]at q;have B:=u 0 (by decide);have v:=u 3 (by decide);refine l _ _ ?_;rw[r,p];clear r G p u;generalize a.eval=ρ at B v q ⊢;simp[uc,Rl,v,q];clear B v q l K2 HA ck;go_wp2_with fail
 go_ret;exact⟨Q,i.o.2⟩;have hd:decide (0<=d/\d<k.length)=false:=by simpa using r
 rw[hd]at HA;have hR:dQ z k d h=h:=by rw[dQ,if_neg r]
 rw[hR];clear hW f A d8 d7 d6 x R T c8 c7 hb X;go_enter (Yq.nq func29),ntmps29
 go_upto_region 1 with fail
 rename_i K1 ad K2 l;rw[<-HW.o];refine xv.1 (show Code.wpIn (wf N) 0 _ _ _ _ _ from Mh (id:=1) (m:=0) (ops:=zm) Q Q Q HB.o.2.2 (Rg Q) (by rw[<-i.o.1];exact HA) (λa G p u q=>?_));rw[<-i.o.1];have p:=p;have r:=jS a 32 G;have B:=u 0 (by decide);have v:=u 3 (by decide);refine l _ _ ?_;rw[r,p];clear r G p u;generalize a.eval=ρ at B v q ⊢;simp[uc,Rl,v,q];clear B v q l K2 HA;go_wp2_with fail
 go_ret;exact⟨Q,i.o.2⟩
theorem Ge k0 v w(c4:w.cell? ⟨k0,4,N⟩=J v)(f4:w.frozen? ⟨k0,4,N⟩=Z):
  Calls Vp 59 #[O (J ⟨k0,4,N⟩)] w λe a=>e=Rc (Re #[])/\a=w.setCell ⟨k0,4,N⟩ (M N 0 0):=by
 go_enter (Yq.nq func59),ntmps59;go_wp2;go_end0
 grind
section
variable {A:Nat->Prop} {B k0:Nat} {w w2:Wj} {st:St} {L:Lg}
theorem Gg(h:bh A B w k0 st L)(n:ax w w2){A1:H->Prop}{p:gI Wu}{d}{tm:ey}(hN:au A1 41 w2 p d.f)(k:∀b,A1 b->w.heap.size<=b)(_hB:B<=w.heap.size):
  ∃A':H->Prop,(∀b,A b->A' b)/\(∀b,A' b->A b\/w.heap.size<=b)/\bh A' B (put5 w2 k0 (O p) (I K d.count) (I K d.last) (I .u64 tm) (M N 0 0)) k0 d {L with opened:=[],tm:=tm}/\fS A B k0 w (put5 w2 k0 (O p) (I K d.count) (I K d.last) (I .u64 tm) (M N 0 0))/\FrC k0 w (put5 w2 k0 (O p) (I K d.count) (I K d.last) (I .u64 tm) (M N 0 0)):=by
 have q:=h.left n;obtain⟨p0,c0,-⟩:=q.store.tree;obtain⟨v,c4,-⟩:=q.ls.opened;have⟨mv,V,R⟩:=h.ls.told;replace V:=n.cell V;have u:=h.ls.lt;have s:=h.ls.low;obtain⟨W,l⟩:∃W,W=put5 w2 k0 (O p) (I K d.count) (I K d.last) (I .u64 tm) (M N 0 0):=⟨_,Q⟩;have i:∀b,b≠k0->W.heap[b]?=w2.heap[b]?:=λb c=>by
  rw[l,put5,Ra c,Ra c,Ra c,Ra c,Ra c]
 have d4:W.cell? ⟨k0,4,N⟩=J (M N 0 0):=by rw[l];exact cs (co (by simp) (co (by simp) (co (by simp) (co (by simp) c4))))
 have T:∀j,4<j->W.cell? ⟨k0,j,N⟩=w2.cell? ⟨k0,j,N⟩:=λj hj=>by
  rw[l,put5,cO _ _ _ _ (bI (by omega)),cO _ _ _ _ (bI (by omega)),cO _ _ _ _ (bI (by omega)),cO _ _ _ _ (bI (by omega)),cO _ _ _ _ (bI (by omega))]
 have hf:∀j,W.frozen? ⟨k0,j,N⟩=w2.frozen? ⟨k0,j,N⟩:=λj=>by
  rw[l,put5];simp only[World.frozen?_setCell]
 have hsz:W.heap.size=w2.heap.size:=by rw[l];simp[put5]
 have hs2:=n.size;rw[<-l];have y:∀j,W.frozen? ⟨k0,j,N⟩=false:=λj=>(hf j).t (q.ls.frozen j)
 refine⟨λb=>A b\/(A1 b/\b<w2.heap.size),λb c=>Rf c,λb c=>c.imp id λh=>k b h.1,⟨⟨λb c e=>?_,⟨p,by rw[l];exact co (by simp) (co (by simp) (co (by simp) (co (by simp) (cs c0)))),au.Nx (λb D o=>⟨Rg ⟨D,o⟩,i b (λe=>by have:=k b D;omega)⟩) 41 _ _ hN⟩,by rw[l];exact co (by simp) (co (by simp) (co (by simp) (cs (co (by simp) q.store.count)))),by rw[l];exact co (by simp) (co (by simp) (cs (co (by simp) (co (by simp) q.store.last)))),y⟩,⟨⟨_,d4,[],Q,⟨by simp[cy],Rf ⟨Q,Q⟩⟩,λg hg=>by simp[gL]at hg,λz hz=>by simp at hz⟩,(T 5 (by omega)).t q.ls.begun,⟨mv,(T 6 (by omega)).t V,?_⟩,y,λc=>?_,s,λb c=>?_⟩,by rw[l];exact co (by simp) (cs (co (by simp) (co (by simp) (co (by simp) q.time))))⟩,⟨?_,by omega,λb _ o F=>(i b F).t (n.block b o),λb o F=>(i b (λe=>h.ls.ND (e▸o))).t (n.block b F),λj hj=>(T j (by omega)).t (cB (a:=⟨k0,j,N⟩) (n.block k0 u)),λj=>(hf j).t (fB (a:=⟨k0,j,N⟩) (n.block k0 u))⟩,⟨by omega,λb c o _=>(i b o).t (n.block b c.lt),λb ho=>?_⟩⟩
 .subst e;rcases c with c|c
  .exact h.ls.ND c
  .have:=k _ c.1;omega
 .rcases R with R|⟨m,es,r,m1,X,m3,m4,m5⟩
  .exact Rf R
  .have G:=(eS X).1;exact Rg ⟨m,es,r,m1,(i m (by omega)).t ((n.block m G).t X),m3,λP=>P.elim m4 λP=>by have:=k _ P.1;omega,m5⟩
 .rcases c with c|c
  .exact h.ls.ND c
  .have:=k _ c.1;omega
 .rcases c with c|c
  .have:=q.ls.Of b c;omega
  .omega
 .rw [l];show w2.os=w.os;exact n.os
 .obtain ⟨x,D,o⟩:=ho;rw[d4]at D;cases D;simp[gL]at o
theorem Jl(h:bh A B w k0 st L)(P:B<=w.heap.size)(a:dT)(D:a.size<=xb):
  Calls Vp 28 #[O (J ⟨k0,0,N⟩),U a] w λe s=>e=Rc (I K (dD st L a).2.2.code)/\∃A':H->Prop,(∀b,A b->A' b)/\(∀b,A' b->A b\/w.heap.size<=b)/\bh A' B s k0 (dD st L a).1 (dD st L a).2.1/\fS A B k0 w s/\FrC k0 w s:=by
 have HD:=bJ h P;have HL:=Ll a w D;clear h D P;go_enter (Yq.nq func28),ntmps28;go_wp2_with fail
 refine HL.m ?_;clear HL;rintro e w1 ⟨n,⟨j,rfl⟩|⟨d,tm,p,A1,j,rfl,F,k,T,hT⟩⟩
 .have HR:Hid (dD st L a=(st,L,⟨12,0,⟨#[]⟩,[],⟨#[]⟩⟩)):=by show dD st L a=_;rw[dD,j]
  have u:=aq n;clear j n;go_wp2;go_ret;rw[HR.o];have i:=u.o.alloc (E #[O N,I K 0,I K 0,I .u64 0] 43);exact⟨Q,A,λ_ h=>h,λ_ h=>Rf h,HD.o.1.left i,fS.left HD.o.1.ls.lt i,FrC.left HD.o.1.ls.lt i⟩
 have HR:Hid (dD st L a=(d,{L with opened:=[],tm:=tm},⟨0,0,⟨#[]⟩,[],⟨#[]⟩⟩)):=by show dD st L a=_;rw[dD,j]
 obtain⟨W,r⟩:∃W,W=w1.alloc (E #[O p,I K d.count,I K d.last,I .u64 tm] 43):=⟨_,Q⟩;have i:ax w W:=by rw[r];exact n.alloc _
 have q:au A1 41 W p d.f:=by rw[r];exact au.Nx (λb h1 c=>⟨h1,Rb c⟩) 41 _ _ F
 have HF:=bJ (Gg (tm:=tm) HD.o.1 i q k HD.o.2) i;have c:=HD.o.1.left n;obtain⟨p0,y,-⟩:=c.store.tree;obtain⟨v,x,-⟩:=c.ls.opened;have j:=aw y;have e1:=aw c.store.count;have e2:=aw c.store.last;have e3:=aw c.time;have G:=aw x;have g0:=aF y (c.ls.frozen 0);have g1:=aF c.store.count (c.ls.frozen 1);have g2:=aF c.store.last (c.ls.frozen 2);have g3:=aF c.time (c.ls.frozen 3);have z:=aF x (c.ls.frozen 4);have t:=aq r;have l:=bJ G z;clear i q F k T hT n c r y x G z;go_wp2_with (go_at_call 59;refine(Ge k0 v _ (co (by simp) (co (by simp) (co (by simp) (co (by simp) (l.o.1 _))))) (fs (fs (fs (fs (l.o.2 _)))))).m ?_;rintro e w3 ⟨rfl,rfl⟩)
 go_ret;rw[HR.o,<-t.o];have⟨A',V,X,a3,R,a5⟩:=HF.o.1;exact⟨Q,A',V,X,a3,R,a5⟩
theorem zR(h:bh A B w k0 st L)(hB:B<=w.heap.size)o(hk:o.kind=12)(j:o.body.size<=xb)s g0 cp(hs:s<2199023255340)(c8:w.cell? ⟨k0,8,N⟩=J (M (J ⟨g0,0,N⟩) s cp))k i(d:JH w k0 g0 s k i):
  Calls Vp 11 #[O (J ⟨k0,0,N⟩),aL o] w (cf A B k0 w (dD st L (dQ k i o.src o.body)).1 (dD st L (dQ k i o.src o.body)).2.1 (dD st L (dQ k i o.src o.body)).2.2):=by
 obtain⟨a,f⟩:∃a,a=dQ k i o.src o.body:=⟨_,Q⟩;have q:a.size<=xb:=by
  rw[f,dQ];split
  split
  rename_i h1 h2;obtain⟨x,hx⟩:∃x,i[o.src.toNat]?=J x:=⟨_,eL (by omega)⟩;rw[hx];exact d.small x (sq hx);exact j;exact j
 have c:ax w (dI w o):=bg o;have ab:=d.bl;subst ab;have HS:=Jk k0 g0 cp k i o (dI w o) (by omega) (c.cell c8) (d.left c);rw[<-f]at HS ⊢;have aa:=h.ls.lt;have HL:Hid (∀w1,ax (dI w o) w1->Calls Vp 28 #[O (J ⟨k0,0,N⟩),U a] w1 λe z=>e=Rc (I K (dD st L a).2.2.code)/\∃A':H->Prop,(∀b,A b->A' b)/\(∀b,A' b->A b\/(dI w o).heap.size<=b)/\bh A' B z k0 (dD st L a).1 (dD st L a).2.1/\fS A B k0 (dI w o) z/\FrC k0 (dI w o) z):=λw1 G=>by
  have hs1:=G.size;have hs0:=c.size;refine(Jl (h.left (c.t G)) (by omega) a q).m ?_;rintro e z ⟨rfl,A',l,u,a3,a4,a5⟩;exact⟨Q,A',l,λb d=>(u b d).imp id λh=>by omega,a3,(fS.left (by omega) G).t a4,(FrC.left (by omega) G).t a5⟩
 have HB:Hid (∀w1,FrC k0 (dI w o) w1->_):=λw1 hf=>box5 (mS o h.ls hf)
 have p:(dD st L a).2.2=⟨(dD st L a).2.2.code,0,⟨#[]⟩,[],⟨#[]⟩⟩:=by
  unfold dD;split<;>rfl
 have HF:Hid (∀w1 V T P F D (A':H->Prop),(∀b,A b->A' b)->(∀b,A' b->A b\/(dI w o).heap.size<=b)->bh A' B w1 k0 (dD st L a).1 (dD st L a).2.1->fS A B k0 (dI w o) w1->FrC k0 (dI w o) w1->cf A B k0 w (dD st L a).1 (dD st L a).2.1 ⟨(dD st L a).2.2.code,0,⟨#[]⟩,[],⟨#[]⟩⟩ (Rc (kJ ⟨(dD st L a).2.2.code,0,⟨#[]⟩,[],⟨#[]⟩⟩ (M N 0 0))) (put5 w1 (w.heap.size+1) V T P F D)):=λw1 V T P F D A' l u d1 X y=>by
  have⟨e1,e2,e3,e4⟩:=nM (A':=A') (sv:=M N 0 0) (NA:=[]) (r:=w.heap.size+1) c aa hB (by omega) (by rw[aW];omega) ⟨_,iw o,Q⟩ l u h.ls.Of d1 X y (gX o h.ls) .nil V T P F D;exact⟨_,Q,A',l,e1,e2,e3,e4⟩
 have hb1:=Cz;rw[p];clear p f;generalize dD st L a=R at HL HF ⊢;obtain⟨st',L',ca⟩:=R;obtain⟨cd,T,P,F,D⟩:=ca;simp only at HL HF ⊢;obtain⟨kind,key,body,fe,past,n,src⟩:=o;simp only at hk;subst hk;unfold dI at HS HL HF HB;clear h d q c hB j c8;unfold aL at HS ⊢;go_enter (Yq.nq func11),ntmps11;go_wp2_with (first
  |(go_at_call 29;refine HS.m ?_;clear HS;rintro e w1 ⟨rfl,d⟩)
  |(go_at_call 28;refine(HL.o w1 (.below d)).m ?_;clear HL;rintro e w2 ⟨rfl,A',l,u,d1,X,y⟩;have⟨⟨b0,b1,b2,b3,b4⟩,f0,f1,f2,f3,f4⟩:=HB.o w2 y))
 exact yz (v:=kJ ⟨cd,0,⟨#[]⟩,[],⟨#[]⟩⟩ (M N 0 0)) (by simp[results,results11,go_sem,kJ,b0,b1,b2,b3,b4]) Q (HF.o w2 _ _ _ _ _ A' l u d1 X y)
end
def MH(G:Wj->Prop)(N:H):Prop:=xi AY MG G N
theorem xN o:uz AY o:=⟨λ_=>trivial,λ_=>trivial⟩
end
section
open Go.RowKit
theorem nW l(a:ey):∀ (NA:S ItD)(k:H),(ed l a k NA).length<=NA.length
 | [],_=>by simp[ed]
 |i::r,k=>by
  have:=nW l a r (k+1);rw[ed];split<;>simp only[lP,lC,lN]<;>omega
theorem Bj(h:qZ Qok L n)(a:dT):(dY L a).2.1.length<=1000:=by
 unfold dY;split
 simp;split
 simp;split
 simp;rename_i x b;have hm:=h.ok x (sq b);have h2:=mK x.q (bV x.f x.q.p.data.toList) (ft _ _ _);exact lT (nW _ _ _ _) (by omega)
end
section
open Go.Conc Go.ConcX Go.ConcX.Gen Go.RowKit
theorem De{st}{tm:ey}{j:dT}{x:St×ey×dT}(d:Inv st 0)(c:mg st)(b:0<=tm/\tm<18446744073709551616)(h:dq st tm j=J x):mg x.1/\0<=x.2.1/\x.2.1<18446744073709551616:=by
 have a:∀l,mU st.last (nm8 (rsB j 1))=J l->Inv (Nz st l) 0/\mg (Nz st l):=λl e=>⟨d.Nz (fD e).1 (fD e).2,c.Nz l⟩
 unfold dq at h;split at h
 split at h
 grind
 rename_i l e;split at h
 rw[<-oJ h];dsimp only;exact⟨(a l e).2.put (a l e).1 _ _,b⟩
 grind
 split at h
 split at h
 grind
 rename_i l e;split at h
 rw[<-oJ h];dsimp only;exact⟨(a l e).2.NJ (a l e).1 _,b⟩
 grind
 split at h
 grind
 split at h
 rw[<-oJ h];have:=JG (rsB j 1)
 grind
 grind
theorem sX:∀ (n:H)(st:St)(tm:ey)(s:dT)(x:St×ey),Inv st 0->eR st->mg st->(0<=tm/\tm<18446744073709551616)->gg n st tm s=J x->mg x.1/\0<=x.2/\x.2<18446744073709551616
 | 0,_,_,_,_,_,_,_,_,h=>by simp[gg]at h
 |n+1,st,tm,s,x,hI,hT,hS,ht,h=>by
  unfold gg at h;split at h
  .cases h;exact⟨hS,ht⟩
  .split at h
   .exact eW h (by simp)
   .rename_i y e;have a:=wY hI hT e;have b:=De hI hS ht e;exact sX n _ _ _ x a.1 a.2 b.1 b.2 h
theorem sY{j:dT}{x:St×ey}(h:iY j=J x):mg x.1/\0<=x.2/\x.2<18446744073709551616:=
 sX _ _ _ _ x inv0 Ih Mm (by decide) (sC h).1
structure JT (d:Dk):Prop where
 s:mg d.st
 tm:0<=d.L.tm/\d.L.tm<18446744073709551616
 NA:∀a∈d.al,a.items.length<=1000
theorem uI{st}(a:eR st)L q(n:ey):(fN L st.f q n).2.1.length<=1000:=by
 have h1:((js L st.f q n).NI 1).length<=1000:=by
  have h2:=mK q (bV st.f q.p.data.toList) (ft _ _ _);have h3:=a.sum q.p.data.toList;exact lT (nW _ _ _ _) (by show(cq q (bV st.f q.p.data.toList)).length<=1000;omega)
 unfold fN
 grind
theorem Gh{st}(b:eR st)(a:qZ f L s)Ny o:(NC st L Ny o).2.2.items.length<=1000:=by
 have hl:=a.len;unfold NC;split
 exact uI b _ _ _;split
 exact uI b _ _ _;split
 exact Bj a _
 grind
theorem Gi c(e:∀o∈c,uz Qok o/\o.key.size<=xb):∀a∈(cZ c).al,a.items.length<=1000:=by
 have:∀n,n<=c.length->∀a∈(cZ (c.take n)).al,a.items.length<=1000:=λn=>by
  induction n with
  |zero=>intro _ a d;simp[cZ,jE,dk0]at d
  |succ n ih=>
   intro hn a d;rw[tS (by omega),mV]at d;simp[g8]at d;rcases d with d|rfl
   grind
   have hE:=pm (Qok:=Qok) (c.take n) λo f=>e o (sT f)
   unfold ja nP;split
   generalize dQ _ _ _ _=b;unfold dD
   grind
   exact Gh hE.t hE.l _ _
 have:=this c.length Q0
 grind
theorem JT.NC{st}(e:Inv st s)(d:eR st)(c:qZ f L s)(b:mg st)(a:0<=L.tm/\L.tm<18446744073709551616)Ny o:mg (NC st L Ny o).1/\(0<=(NC st L Ny o).2.1.tm/\(NC st L Ny o).2.1.tm<18446744073709551616)/\(NC st L Ny o).2.2.items.length<=1000:=by
 have hl:=c.len;unfold Go.Proofs.Qw.NC;split
 exact⟨b,by rw[us];exact a,uI d _ _ _⟩;split
 exact⟨b,by rw[us];exact a,uI d _ _ _⟩;split
 exact⟨b,by rw[AR];exact a,Bj c _⟩;split
 refine⟨b,?_,Q8⟩;unfold fI;split
 exact a;simp only[nL,IntKind.wrap,IntKind.bits,IntKind.signed];simp;omega;split
 grind
 split
 grind
 exact⟨b.step e o,a,Q8⟩
theorem JT.step{Qok:Qy->Prop}{d}{s}{a}(h:JT d)(hE:IW Qok d s)o:JT (g8 a d o):=by
 have f:mg (ja a d o).1/\(0<=(ja a d o).2.1.tm/\(ja a d o).2.1.tm<18446744073709551616)/\(ja a d o).2.2.items.length<=1000:=by
  unfold ja nP;split
  generalize dQ _ _ _ _=b;unfold dD;cases e:iY b with
  |none=>exact⟨h.s,h.tm,Q8⟩
  |some x=>exact⟨(sY e).1,(sY e).2,Q8⟩
  exact JT.NC hE.i hE.t hE.l h.s h.tm _ o
 refine⟨f.1,f.2.1,λx c=>?_⟩;simp[g8]at c;rcases c with c|rfl;exact h.NA x c;exact f.2.2
theorem Jm b(d:∀o∈b,uz Qok o/\o.key.size<=xb):JT (cZ b):=by
 have:∀n,n<=b.length->JT (cZ (b.take n)):=λn=>by
  induction n with
  |zero=>intro _;exact⟨Mm,show(0:ey)<=0/\(0:ey)<18446744073709551616 by decide,λa c=>by simp[cZ,jE,dk0]at c⟩
  |succ n ih=>
   intro hn;rw[tS (by omega),mV];exact(ih (by omega)).step (pm (Qok:=Qok) (b.take n) λo e=>d o (sT e)) _
 have:=this b.length Q0
 grind
theorem qR a b:∃r,(cZ (a++b)).al=(cZ a).al++r:=by
 have:∀ (b:S OpD) (x:S OpD×Dk),∃r,(jE b x).2.al=x.2.al++r:=λb=>by
  induction b with
  |nil=>intro x;exact⟨[],by simp[jE]⟩
  |cons o r ih=>
   intro x;have⟨l,c⟩:=ih (x.1++[o],g8 x.1 x.2 o);refine⟨[(ja x.1 x.2 o).2.2]++l,?_⟩;show(jE r (x.1++[o],g8 x.1 x.2 o)).2.al=_;rw[c];simp[g8]
 rw[cZ,ov];exact this b _
theorem xO a k i(hi:i<k)(hk:k<=a.length):(cZ a).al[i]?=(cZ (a.take k)).al[i]?:=by
 have⟨r,b⟩:=qR (a.take k) (a.drop k);rw[List.take_append_drop]at b;rw[b,List.getElem?_append_left (by rw[fE,tL];omega)]
end
section
open Go.RowKit
structure Gj (B:H)(w:Wj)(sl:Wx)(R:S bz):Prop where
 row:w.ownsRow B 147 2 sl R.length (aB R)
 NL:∀e∈R,w.ownsRow B 137 3 e.v e.h.length (aA e.h)
 NN:∀e∈R,e.v.ownBlock≠sl.ownBlock
 pw:R.Pairwise (λa b=>a.v.ownBlock≠b.v.ownBlock)
def lm(R R':S bz):Prop:=R'.map (λe=>(e.key,e.h))=R.map (λe=>(e.key,e.h))
theorem aD.push{w1 w2}{i}{sl v}{nx tm:ey}{key:dT}{h}(c:aD B w k sl R nx tm)(u:Below w.heap.size w w1)(D:w1.ownsRow B 137 3 v h.length (aA h))(j:∀b,v.ownBlock=J b->w.heap.size<=b)(T:h≠[])
  (z:w1.grownBy w2 sl.ownBlock) (L:w2.ownsRow B 147 2 (M (J ⟨g,0,N⟩) (R.length+1) i) (R.length+1) (aB R++[U key,v])) (l:sl.ownBlock=J g\/w1.heap.size<=g):
  aD B (w2.setCell ⟨k,0,N⟩ (M (J ⟨g,0,N⟩) (R.length+1) i)) k (M (J ⟨g,0,N⟩) (R.length+1) i) (R++[⟨key,h,v⟩]) nx tm:=by
 have hk:=c.lt;have H1:=c.below u;have hk1:=H1.lt;have n:=pu D (nF.2 T);have p:g≠k:=by
  rcases l with h|h;intro e;subst e;exact c.apart h;omega
 have hE:∀e∈R,e.v.ownBlock≠J g:=λe q=>by
  rcases l with h|h;rw[<-h];exact c.NN e q;intro u;have:=(H1.NL e q).lt g u;omega
 have hvg:v.ownBlock≠J g:=λe=>by
  have G:=j g e;have h2:=(D.lt g e).2;rcases l with h|h;have:=(c.row.lt g h).2;omega;omega
 have r:v.ownBlock≠J k:=λe=>by have:=j k e;omega
 have F:v.ownBlock≠sl.ownBlock:=λe=>by
  cases y:sl.ownBlock with
  |none=>exact n (e.t y)
  |some b=>have G:=j b (e.t y);have:=(c.row.lt b y).2;omega
 have f:=bH w2 k 0 (M (J ⟨g,0,N⟩) (R.length+1) i);have o:(kr (J ⟨g,0,N⟩) (R.length+1) i).ownBlock=J g:=rfl;have P:(R++[⟨key,h,v⟩]:S bz).length=R.length+1:=by simp
 have q:aB (R++[⟨key,h,v⟩])=aB R++[U key,v]:=by unfold aB;rw[List.flatMap_append];rfl
 refine⟨(H1.cells.grown z (λe=>c.apart e)).OS _,?_,λe d=>?_,by rw[o];simpa using p,λe d=>?_,λe d=>?_,?_⟩;rw[P,q];exact L.kept f (wz (by rw[o];simpa using p));rcases lj.1 d with d|d;exact((H1.NL e d).kept z (wz (c.NN e d))).kept f (wz (c.NM e d));rw[lk.1 d];exact(D.kept z (wz F)).kept f (wz r);rcases lj.1 d with d|d;exact c.NM e d
 grind
 grind
 refine List.pairwise_append.2 ⟨c.pw,List.pairwise_singleton _ _,λa V b A=>?_⟩;rw[lk.1 A];intro e;cases m:a.v.ownBlock with
 |none=>exact n (e.s.t m)
 |some x=>have G:=j x (e.s.t m);have:=((c.NL a V).lt x m).2;omega
theorem sZ(w:Wj)(a b x2:Wx)(T:Rj):bB (w.alloc (E #[a,b,x2] T)) w.heap.size a b x2:=
 ⟨by rw[cA (w:=w) _ _ w.heap.size 0 Q];rfl,by rw[cA (w:=w) _ _ w.heap.size 1 Q];rfl,by rw[cA (w:=w) _ _ w.heap.size 2 Q];rfl,λj=>Rm (w:=w) _ _ w.heap.size j Q⟩
theorem LB{sl:Wx}(h:w.ownsRow B 147 2 sl R.length (aB R))(i:H)(b:i<R.length):
  ∃g a,sl=M (J ⟨g,0,N⟩) R.length a/\g<w.heap.size/\R.length<=a/\w.cell? ⟨g,i*2,N⟩=J (U R[i].key)/\w.cell? ⟨g,i*2+1,N⟩=J R[i].v:=by
 obtain⟨g,a,rfl,h1,c,d⟩:=bm h (by omega);refine⟨g,a,Q,c,d,?_,?_⟩;have:=h.cellAt (i*2+0) (by omega);rw[aB,bL 2 _ (λ_=>Q) R i 0 b (by omega)]at this
 grind
 have:=h.cellAt (i*2+1) (by omega);rw[aB,bL 2 _ (λ_=>Q) R i 1 b (by omega)]at this
 grind
theorem qS a o sl R(nx tm:ey)w(c0:w.cell? ⟨a,o,N⟩=J sl)(c1:w.cell? ⟨a,o+1,N⟩=J (I K nx))(c2:w.cell? ⟨a,o+2,N⟩=J (I K tm))(hr:w.ownsRow B 147 2 sl R.length (aB R))(V:∀e∈R,w.ownsRow B 137 3 e.v e.h.length (aA e.h))(L:∀e∈R,e.h≠[])(hn:totR R<=200):
  Calls Vp 36 #[O (J ⟨a,o,N⟩)] w λe w'=>∃sl' R',e=Rc (Rd #[sl',I K nx,I K tm])/\Below w.heap.size w w'/\Gj w.heap.size w' sl' R'/\lm R R':=by
 have HH:=ig hr V L hn;have hR200:R.length<=200:=lT (ie R L) hn;have hal:a<w.heap.size:=bC w _ c0;obtain⟨sa,sc,rfl,-⟩:=ao hr;clear hr V L hn;go_enter (Yq.nq func36),ntmps36
 go_upto_region 1 with fail
 go_region
 all_goals
  go_wp2_with fail
 obtain⟨Wz,ac⟩:∃W,W=((w.alloc (E #[M N 0 0,I K 0,I K 0] 58)).alloc (E #[M N 0 0,I K nx,I K tm] 58)).drew:=⟨_,Q⟩;rw[<-ac];have HO:Hid (Below w.heap.size w Wz/\bB Wz w.heap.size (M N 0 0) (I K 0) (I K 0)/\bB Wz (w.heap.size+1) (M N 0 0) (I K nx) (I K tm)):=by
  subst ac;refine⟨(((bR _ w).alloc Q0 _).alloc (by simp) _).drew,(sZ w _ _ _ _).on ((Q9).alloc Q0 _).drew,?_⟩;have:=sZ (w.alloc (E #[M N 0 0,I K 0,I K 0] 58)) (M N 0 0) (I K nx) (I K tm) 58;rw[show∀o,(w.alloc o).heap.size=w.heap.size+1 fromλo=>by simp]at this;exact this.on (Q9).drew
 clear ac
 go_loopw [4] (λs4 wr=>∃ (i:H) (sl':Wx) (R':S bz),i<=R.length/\s4=I K i/\aD (w.heap.size+2) wr (w.heap.size+1) sl' R' nx tm/\lm (R.take i) R'/\bB wr w.heap.size (M N 0 0) (I K 0) (I K 0)/\Below w.heap.size w wr) (λs4 _=>R.length-(intOf s4).toNat)
 case atStart=>
  exact⟨0,M N 0 0,[],Q8,Q,⟨HO.o.2.2,Rn _ _ _ _,λe z=>eW z n8,by simp[gL],λe z=>eW z n8,λe z=>eW z n8,List.Pairwise.nil⟩,Q,HO.o.2.1,HO.o.1⟩
 case round=>
  obtain⟨i,sl',R',be,rfl,c,r,hc,F⟩:=hrel;have a4:R'.length=i:=by
   have:=eV vx r;simpa[lm,Nat.min_eq_left be]using this
  subst a4;obtain⟨so,x,rfl,-⟩:=ao c.row;have aa:=ag F c0;have HB:=ig F hc c r;by_cases y:R'.length<R.length
  .have hii:(R'.length:ey)<R.length:=by omega
   have hm:=tb y;have⟨ge,ecap,z,hgl,hec,e0,e1⟩:=LB HH.o.1 R'.length y;cases z;replace e0:=ag F e0;replace e1:=ag F e1;have V:=HH.o.2.1 _ hm;have A:=HH.o.2.2.1 _ hm;have hs200:R[R'.length].h.length<=200:=lT (sP R R'.length y) HH.o.2.2.2;obtain⟨gv,af,av,-,-,hvc⟩:=bm V (nF.2 A);rw[av]at e1 V;have HV:=aq (V.kept (aQ F N) (eh _));have a0:Hid (R[R'.length].h≠[]/\lm (R.take (R'.length+1)) (R'++[⟨R[R'.length].key,R[R'.length].h,M N 0 0⟩])):=⟨A,by unfold lm at r ⊢;rw[tS y,pt,pt,r];rfl⟩;have a3:=nF.2 A;clear V av A r c hc;generalize R[R'.length].h=l at *;generalize R[R'.length].key=q at *
   go_upto_region 6 with fail
   have hW:Below wr.heap.size wr (wr.alloc (E #[U q,M N 0 0] 147)):=(bR _ wr).alloc Q0 _;have q0:(wr.alloc (E #[U q,M N 0 0] 147)).cell? ⟨wr.heap.size,0,N⟩=J (U q):=by rw[cA (w:=wr) _ _ wr.heap.size 0 Q];rfl
   have q1:(wr.alloc (E #[U q,M N 0 0] 147)).cell? ⟨wr.heap.size,1,N⟩=J (M N 0 0):=by rw[cA (w:=wr) _ _ wr.heap.size 1 Q];rfl
   have qf:(wr.alloc (E #[U q,M N 0 0] 147)).frozen? ⟨wr.heap.size,1,N⟩=false:=Rm (w:=wr) _ _ wr.heap.size 1 Q;have al:(wr.alloc (E #[U q,M N 0 0] 147)).heap.size=wr.heap.size+1:=by simp
   replace aa:=ag hW aa;replace e1:=ag hW e1;clear e0;generalize wr.alloc (E #[U q,M N 0 0] 147)=W5 at *;have HW:=eM hW q0 al;have ad:Hid (∀W',Below W5.heap.size W5 W'->(∀j u,(aA l)[j]?=J u->W'.cell? ((⟨gv,0,N⟩:Wu).add j)=J u)):=λW' bl j u hu=>(HV.o.kept (aQ (hW.t (bl.m hW.size)) N) (eh _)).cells (g:=gv) Q j u hu
   have HF:Hid (∀w3:Wj,W5.grownBy w3 N->w3.cell? ⟨wr.heap.size,1,N⟩=J (M N 0 0)/\w3.frozen? ⟨wr.heap.size,1,N⟩=Z):=λw3 hg=>⟨hg.cell q1 (by simp),(bD hg ⟨wr.heap.size,1,N⟩ (by simp only;omega) (by simp)).t qf⟩
   have⟨i0,a8,a9,bd,a5⟩:=xt Yq.Oo;have a1:W5.drew.heap.size=wr.heap.size+1:=al
   go_cut [5] (λs5 wx=>∃g f,s5=O (J ⟨wr.heap.size,0,N⟩)/\Below wr.heap.size wr wx/\wx.cell? ⟨wr.heap.size,0,N⟩=J (U q)/\wx.cell? ⟨wr.heap.size,1,N⟩=J (M (J ⟨g,0,N⟩) l.length f)/\wx.ownsRow wr.heap.size 137 3 (M (J ⟨g,0,N⟩) l.length f) l.length (aA l))
   case first=>
    go_region_law (refine xc _ Q _ _ 145 Q wr.heap.size 137 i0 _ 3 32 (Yq.u underlying145) a8 a9 bd a5 Q (by decide) (M N 0 0) 0 [] (by simp[Rk]) (Rn _ _ _ _) ⟨gv,0,N⟩ l.length af (aA l) (by simp[Rk]) (fG l) (ad.o _ (Q9).drew) (eJ _) a3 (by simp only[xb];omega) (by omega) (by omega) (wr.heap.size+1) a1 ?_;intro g G w3 ab n P ar;have d:W5.grownBy w3 none:=⟨n.os,n.tape,n.output,n.size,n.block⟩;have⟨y0,y1⟩:=HF.o w3 d)
    all_goals
     go_wp2_with fail
     go_meet
     case rel=>
      have hgx:g=wr.heap.size+1:=P.resolve_left (by simp[gL]);have ho:w3.ownsRow wr.heap.size 137 3 (M (J ⟨g,0,N⟩) l.length G) l.length (aA l):=by simpa using ab
      exact⟨g,G,Q,(HW.o.1.grown (row:=N) d HW.o.1.size (λk e=>by cases e)).setCell (p:=⟨wr.heap.size,1,N⟩) Q0 _,(cO w3 ⟨wr.heap.size,1,N⟩ ⟨wr.heap.size,0,N⟩ _ (by simp)).t (d.cell HW.o.2.1 (by simp)),cs y0,ho.kept (bH w3 wr.heap.size 1 _) (wz (by simp[gL];omega))⟩
   case rest=>
   obtain⟨g,f,rfl,D,x0,x1,a2⟩:=hcut;have c:=HB.o.2.2.1.below D;have hk1:=HB.o.2.2.1.lt;have hs1:=D.size;have f0:=c.cells.fz 0;have s0:=c.cells.c0;have⟨t0,a7,bb,bi,a6⟩:=xt Yq.Ov;have hx1:wr.heap.size<wc.heap.size:=bC wc _ x0;have HX:=eM D c a2;have ai:Hid (∀X:Obj,(wc.alloc X).ownsRow (w.heap.size+2) 147 2 (M so R'.length x) R'.length (aB R')):=λX=>c.row.alloc X
   have aj:Hid (∀T,∀j u,[Value.string q,M (J ⟨g,0,N⟩) l.length f][j]?=J u->(wc.alloc (E #[U q,M (J ⟨g,0,N⟩) l.length f] T)).cell? ((⟨wc.heap.size,0,N⟩:Wu).add j)=J u):=λT j u hu=>by
    rw[Addr.add_lit,cA (w:=wc) _ _ wc.heap.size (0+j) Q];simpa using hu
   have bk:Hid (∀w3:Wj,(wc.alloc (E #[U q,M (J ⟨g,0,N⟩) l.length f] 147)).grownBy w3 (kr so R'.length x).ownBlock->w3.cell? ⟨w.heap.size+1,0,N⟩=J (M so R'.length x)/\w3.frozen? ⟨w.heap.size+1,0,N⟩=Z):=λw3 d=>by
    have Ha:=c.alloc (E #[U q,M (J ⟨g,0,N⟩) l.length f] 147);exact⟨d.cell Ha.cells.c0 (λe=>Ha.apart e.s),(bD d ⟨w.heap.size+1,0,N⟩ Ha.lt (λe=>Ha.apart e.s)).t (Ha.cells.fz 0)⟩
   clear D c a2 HV ad HF aa e1 q0 q1 qf hW;go_wp2_with (at_builtin;go_loud (refine wpList_append_lies _ Q _ _ 56 Q (w.heap.size+2) 147 t0 _ 2 40 (Yq.u underlying56) a7 bb bi a6 Q (by decide) (M so R'.length x) R'.length (aB R') Q (ai.o _) ⟨wc.heap.size,0,N⟩ 1 1 [U q,M (J ⟨g,0,N⟩) l.length f] Q Q (aj.o _) (by intro u hu;simp at hu;rcases hu with rfl|rfl<;>rfl) (by omega) (by simp only[xb];omega) (by omega) (by simp;omega) (wc.heap.size+1) (by simp) ?_);intro g2 cap2 w3 ab d P ar;have⟨y0,y1⟩:=bk.o w3 d)
   have HP:=HB.o.2.2.1.push (key:=q) (h:=l) (v:=M (J ⟨g,0,N⟩) l.length f) (HX.o.1.t (((bR _ wc).alloc Q0 (E #[U q,M (J ⟨g,0,N⟩) l.length f] 147)).m HX.o.1.size)) ((ba HX.o.2.2 (show w.heap.size+2<=wr.heap.size by omega)).alloc _) (λb F=>(HX.o.2.2.lt b F).1) a0.o.1 d ab (P.imp id λh=>by simp;omega);have bn:Below w.heap.size w w3:=(((HB.o.1.t (HX.o.1.m HB.o.1.size)).alloc (by omega) _).grown d (by simp;omega) (λb e=>by have:=(HX.o.2.1.row.lt b e).1;omega));refine⟨⟨R'.length+1,_,_,y,by simp,HP,?_,?_,bn.setCell (p:=⟨w.heap.size+1,0,N⟩) (by simp) _⟩,by simp[intOf];omega⟩
   .have:=a0.o.2;unfold lm at this ⊢;simpa using this
   .refine (((HB.o.2.1.on HX.o.1).on ((bR _ wc).alloc Q0 _)).grown d (λe=>by have:=(HX.o.2.1.row.lt _ e).1;omega)).grown (bH w3 (w.heap.size+1) 0 _) (by simp)
  .have ap:R'.length=R.length:=by omega
   have⟨s0,s1,s2,sf⟩:=HB.o.2.2.1.cells;have⟨r0,r1,r2,rf⟩:=HB.o.2.1;have rf0:=rf 0;have rf1:=rf 1;have rf2:=rf 2;have HE:=aq ap;clear rf sf ap F hc c r;go_wp2_with fail
   refine yz (v:=Rd #[M so R'.length x,I K nx,I K tm]) (by simp[results,results36,go_sem,r0,r1,r2]) Q ?_;have hg:=cn (cn (bH wr w.heap.size 0 (M so R'.length x)) 1 (I K nx)) 2 (I K tm);obtain⟨-,h2,h3,-,-,h6,h7⟩:=HB.o.2.2.1;refine⟨_,R',Q,((HB.o.1.setCell (p:=⟨w.heap.size,0,N⟩) Q0 _).setCell (p:=⟨w.heap.size,1,N⟩) Q0 _).setCell (p:=⟨w.heap.size,2,N⟩) Q0 _,⟨ba (h2.kept hg (wz λe=>by have:=(h2.lt _ e).1;omega)) (by omega),λe z=>ba ((h3 e z).kept hg (wz λe'=>by have:=((h3 e z).lt _ e').1;omega)) (by omega),h6,h7⟩,?_⟩;have:=HB.o.2.2.2;rw[HE.o,tn]at this;exact this
theorem Yq.P0:(Yq.prog.info? 98).map (λi=>(i.zero,i.size,i.bytes))=J (J (Rd #[I K 0,M N 0 0,I K 0,I K 0]),4,48):=by kernel_rfl
theorem aD.QY{sl}{nx tm:ey}(a:aD B w k sl R nx tm)(h:RwB sl R b):b<w.heap.size:=by
 rcases h with h|⟨e,c,h⟩;exact(a.row.lt b h).2;exact((a.NL e c).lt b h).2
theorem Gj.QY{sl}(a:Gj B w sl R)(h:RwB sl R b):B<=b:=by
 rcases h with h|⟨e,c,h⟩;exact(a.row.lt b h).1;exact((a.NL e c).lt b h).1
theorem PFw.t{w''}(h:PFw B k w w')(a:PFw B k w' w''):PFw B k w w'':=
 ⟨a.os.t h.os,a.tape.t h.tape,a.output.t h.output,lT h.size a.size,λb c d=>(a.low b c (lL d h.size)).t (h.low b c d),λg c d=>(a.PU g c (d.same (h.PU g c d))).t (h.PU g c d),λj e=>(a.cells j e).t (h.cells j e),λj=>(a.frozen j).t (h.frozen j)⟩
section
variable {B k:Nat} {w w1 w3:Wj} {P:List PlL} {T:List PlT} {sl vL vT vS:Wx} {R:List bz} {nx tm:ey} {Z:List SvE}
theorem ec.push{z}{y}(F:ec B w k Z (RwB sl R))(d:aD B w k sl R nx tm)(hP:aH B w k P T vL vT)(hBk:B<=k)(c5:w.cell? ⟨k,5,N⟩=J vS)(m:Below w.heap.size w w1)(hS:Gj w.heap.size w1 z.sl z.R)
  (ho:w3.ownsRow B 98 4 (M (J ⟨g,0,N⟩) (Z.length+1) y) (Z.length+1) (gl Z++[I K z.at_,z.sl,I K z.nx,I K z.tm])) (q:w1.grownBy w3 vS.ownBlock) (hgg:vS.ownBlock=J g\/w.heap.size<=g)  (hW:w'=w3.setCell ⟨k,5,N⟩ (M (J ⟨g,0,N⟩) (Z.length+1) y)):
  aD B w' k sl R nx tm/\aH B w' k P T vL vT/\ec B w' k (Z++[z]) (RwB sl R)/\PFw B k w w':=by
 have hk:=hP.lt;have⟨v,h1,h2,h3⟩:=F.row;have e:=c5.s.t h1;cases e;have af:g≠k:=by
  grind
 have X:∀b,vS.ownBlock=J b->TyB w1 b 98:=λb f=>fK (bP h2 λb f=>m.block b (h2.lt b f).2) f
 have hs1:=m.size;have L:(kr (J ⟨g,0,N⟩) (Z.length+1) y).ownBlock≠J k:=by simpa[gL]using af
 have aa:=q.block k (by omega) (λe=>h3 e.s);have D:∀j,j≠5->w'.cell? ⟨k,j,N⟩=w1.cell? ⟨k,j,N⟩:=λj hj=>by subst hW;exact(cO w3 ⟨k,5,N⟩ ⟨k,j,N⟩ _ (λe=>by have:=eV Addr.off e;simp only at this;omega)).t (cB (a:=⟨k,j,N⟩) aa)
 have ab:∀j,w'.frozen? ⟨k,j,N⟩=w1.frozen? ⟨k,j,N⟩:=λj=>by subst hW;simpa using fB (a:=⟨k,j,N⟩) aa
 have p:∀b c,b≠k->TyB w1 b c->c≠98->w'.heap[b]?=w1.heap[b]?:=λb c f r hU=>by subst hW;exact(Ra f).t (q.block b r.lt λe=>hU (((X b e.s).ne r).s))
 have G:∀b,RwB z.sl z.R b->b≠k/\¬RwB sl R b:=λb f=>by
  have:=hS.QY f;exact⟨by omega,λh=>by have:=d.QY h;omega⟩
 have o:∀ {n l:H} {e:Rj} {v:Wx} {V:S Wx},w1.ownsRow B e l v n V->v.ownBlock≠J k->e≠98->w'.ownsRow B e l v n V:=λh ad A=>bP h λb f=>p b _ (λe=>ad (e▸f)) (fK h f) A
 have u:∀ {n l:H} {e:Rj} {v:Wx} {V:S Wx},w.ownsRow B e l v n V->w1.ownsRow B e l v n V:=λh=>bP h λb f=>m.block b (h.lt b f).2
 subst hW;refine⟨((d.below m).other q h3 X (by decide) (by decide)).N3 5 _ (by omega),(hP.below m).Nx (D 3 (by omega)) (D 4 (by omega)) ab λb c f r hU=>p b c f r (by rcases hU with rfl|rfl|rfl<;>decide),⟨⟨_,cs (q.cell (ag m c5) (λe=>h3 e.s)),?_,L⟩,λx i=>?_,λx i e A=>?_,λx i b f=>?_⟩,⟨q.os.t m.os,q.tape.t m.tape,q.output.t m.output,?_,λb f ac=>?_,λb f r=>?_,λj hj=>(D j (by omega)).t (cB (m.block k hk)),λj=>(ab j).t (fB (m.block k hk))⟩⟩;rw[lP,lS,show gl (Z++[z])=gl Z++[I K z.at_,z.sl,I K z.nx,I K z.tm]by simp[gl]];exact ju ho L 5 _;rcases lj.1 i with i|i;exact o (u (F.Pc x i)) (λe=>(F.N3 x i k (Rf e)).1 Q) (by decide);rw[lk.1 i];exact o (ba hS.row (by omega)) (λe=>(G k (Rf e)).1 Q) (by decide);rcases lj.1 i with i|i;exact o (u (F.NP x i e A)) (λe'=>(F.N3 x i k (Rg ⟨e,A,e'⟩)).1 Q) (by decide);rw[lk.1 i]at A;exact o (ba (hS.NL e A) (by omega)) (λe'=>(G k (Rg ⟨e,A,e'⟩)).1 Q) (by decide);rcases lj.1 i with i|i;exact F.N3 x i b f
 grind
 have:=q.size;simp;omega;refine((Ra (show b≠k by omega)).t (q.block b (by omega) λe=>?_)).t (m.block b ac);have:=(h2.lt b e.s).1;omega;exact(p b _ f (r.same (m.block b r.lt)) (by decide)).t (m.block b r.lt)
end
theorem Df{sl vL vT vA}{nx tm:ey}{st}{Ny}w(c:aD B w k sl R nx tm)(hP:aH B w k P T vL vT)(hK:rx w k vA Ny)(a3:B<=k)(a:Sim st R nx)(SL:gh L P T tm s){Z}(hz:ec B w k Z (RwB sl R))(hq:∀sl' R',lm R R'->Zq (Z++[⟨Ny.length,sl',R',nx,tm⟩]))(hs:s<2199023255300)(hZl:Z.length<=s)o(hk:o.kind=11)(bd:dT)(ia:gI Wu)ic:
  Calls Vp 12 #[O (J ⟨k,0,N⟩),aL o,ii ⟨0,0,bd⟩ ia ic] w (cQ B k st L Zq s w):=by
 obtain⟨kind,bo,ad,fe,af,nn,bs⟩:=o;simp only at hk;subst hk;have bb:=hP.lt;have⟨i0,a8,be,bl,a4⟩:=xt Yq.P0;have⟨vS,c5,D,ar⟩:=hz.row;obtain⟨sa,sc,rfl,-⟩:=ao D;obtain⟨aa,ac,rfl,-⟩:=hK.form;have c7:=hK.c7;have HH:=gB c hP a3 a SL;have f:=ig hz hq D ar;have ab:=a.full;have y:=a.NW;have a0:Hid (∀W,Below w.heap.size w W->Calls Vp 36 #[O (J ⟨k,0,N⟩)] W λe G=>∃sl' R',e=Rc (Rd #[sl',I K nx,I K tm])/\Below W.heap.size W G/\Gj W.heap.size G sl' R'/\lm R R'):=λW hb=>by
  have H':=c.below hb;exact qS k 0 sl R nx tm W H'.cells.c0 H'.cells.c1 H'.cells.c2 H'.row H'.NL ab y
 have ap:=hP.fz 5;clear c hP hK a SL hz hq D ar ab y;have HS:=eB ⟨0,0,bd⟩ ia ic;unfold aG ii at HS;unfold aL ii;simp only at HS ⊢;go_enter (Yq.nq func12),ntmps12
 go_upto_region 21 with fail
 have⟨W,hW,aj⟩:=kn w 11 bo ad fe af nn bs (I K 0) (I K 0) (U bd) (M ia 0 ic) (U ⟨#[]⟩);rw[hW];have HW:=aq aj;clear hW aj;have av:=ag HW.o.1 c5;have ai:=ag HW.o.1 c7;have hd:Below W.heap.size W W.drew:=(Q9).drew;have j:Below w.heap.size w W.drew:=HW.o.1.t (hd.m HW.o.1.size);have bn:Hid (∀ (l:Array Wx) (x:Wj),(callFunc 36 l).run Vp x=.ok (.enter 36 l) x):=λl x=>by go_simp
 have a1:Hid (Calls Vp 36 #[O (J ⟨k,0,N⟩)] W.drew λe G=>∃v,e=Rc v/\∃q n R',v=Rd #[M q R'.length n,I K nx,I K tm]/\(Below w.heap.size w G/\Gj w.heap.size G (M q R'.length n) R'/\lm R R'/\Below W.heap.size W G)):=(a0.o _ j).m (by
  rintro e G ⟨sl',R',rfl,h1,h2,h3⟩;obtain⟨q,n,rfl,-⟩:=ao h2.row;exact⟨_,Q,q,n,R',Q,j.t (h1.m j.size),⟨ba h2.row j.size,λe he=>ba (h2.NL e he) j.size,h2.NN,h2.pw⟩,h3,hd.t (h1.m hd.size)⟩)
 have HC:Hid (∀w1,Below w.heap.size w w1->w1.cell? ⟨k,5,N⟩=J (M sa Z.length sc)/\w1.cell? ⟨k,7,N⟩=J (M aa Ny.length ac)/\(∀X,(w1.alloc X).ownsRow B 98 4 (M sa Z.length sc) Z.length (gl Z))/\∀X w3,(w1.alloc X).grownBy w3 (kr sa Z.length sc).ownBlock->w3.cell? ⟨k,5,N⟩=J (M sa Z.length sc)/\w3.frozen? ⟨k,5,N⟩=false):=λw1 hb=>by
  have r:∀X,Below w.heap.size w (w1.alloc X):=λX=>hb.alloc hb.size X
  refine⟨ag hb c5,ag hb c7,λX=>bP f.o.2.2.1 λb bp=>(r X).block b (f.o.2.2.1.lt b bp).2,λX w3 hg=>⟨hg.cell (ag (r X) c5) (λe=>f.o.2.2.2 e.s),?_⟩⟩;have a5:=(r X).size;exact((bD hg ⟨k,5,N⟩ (by simp only;omega) (λe=>f.o.2.2.2 e.s)).t ((r X).frozen (p:=⟨k,5,N⟩) bb)).t ap
 have a7:W.drew.cell? ⟨k,5,N⟩=J (M sa Z.length sc):=av;have a9:W.drew.cell? ⟨k,7,N⟩=J (M aa Ny.length ac):=ai;clear hd j
 go_cut [86] (λ_ x=>∃Z',Zq Z'/\aD B x k sl R nx tm/\aH B x k P T vL vT/\ec B x k Z' (RwB sl R)/\PFw B k w x/\cW x (w.heap.size+1) (I K 0) (I K 0) (U bd) (M ia 0 ic) (U ⟨#[]⟩))
 case first=>
  go_region_law (first
   |(refine bQ Q 36 #[Rh 82] #[58] Q #[O (J ⟨k,0,N⟩)] (by first|(simp[Rk];done)|(simp[Rk,Act.put];done)|go_simp) (bn.o _ _) _ a1.o ?_;rintro v w1 ⟨q,n,R',rfl,i⟩;obtain⟨d5,d7,-,-⟩:=HC.o w1 i.1;have e5:=aw d5;have e7:=aw d7;have d:Hid (Below w.heap.size w w1/\Gj w.heap.size w1 (M q R'.length n) R'/\lm R R'/\Below W.heap.size W w1):=i;clear i)
   |(refine xc _ Q _ _ 61 Q B 98 i0 _ 4 48 (Yq.u underlying61) a8 be bl a4 Q (by decide) (M sa Z.length sc) Z.length (gl Z) (by simp[Rk]) ((HC.o w1 d.o.1).2.2.1 _) ⟨w1.heap.size,0,N⟩ 1 1 [I K Ny.length,M q R'.length n,I K nx,I K tm] (by simp[Rk]) Q (sU w1 _ _ _ _ _) (by simp[Value.oneCell']) (by omega) (by simp only[xb];omega) (by omega) (by have:=d.o.1.size;simp;omega) (w1.heap.size+1) (by simp) ?_;intro g cap' w3 bi V a6 hlt3;obtain⟨y0,y1⟩:=(HC.o w1 d.o.1).2.2.2 _ w3 V))
  all_goals
   go_wp2_with fail
  all_goals
   go_meet
   case rel=>
    have bq:=d.o.1.alloc d.o.1.size (E #[I K Ny.length,M q R'.length n,I K nx,I K tm] 98);have a5:=d.o.1.size;obtain⟨X1,X2,X3,X4⟩:=f.o.1.push (z:=⟨Ny.length,M q R'.length n,R',nx,tm⟩) HH.o.1 HH.o.2.1 HH.o.2.2.1 c5 bq ⟨d.o.2.1.row.alloc _,λe he=>(d.o.2.1.NL e he).alloc _,d.o.2.1.NN,d.o.2.1.pw⟩ bi V (a6.imp id λh=>by omega) Q;refine⟨_,f.o.2.1 _ _ d.o.2.2.1,X1,X2,X3,X4,((HW.o.2.2.on d.o.2.2.2).on ((bR _ w1).alloc Q0 (E #[I K Ny.length,M q R'.length n,I K nx,I K tm] 98))).block ?_⟩;have a2:=bC W _ HW.o.2.2.c0;have hW3:=d.o.2.2.2.size;simp only at a2;refine(Ra (show w.heap.size+1≠k by omega)).t (V.block (w.heap.size+1) (by simp;omega) λe=>?_);have:=(f.o.2.2.1.lt _ e.s).2;omega
 case rest=>
 obtain⟨Z',al,X1,X2,X3,X4,⟨d0,d1,d2,d3,d4⟩⟩:=hcut;have HX:=gB al X1 X2 X3 X4;clear al X1 X2 X3 X4 HW av ai a7 a9 a1 a0 HC c5 c7 ap;go_wp2_with fail
 refine(HS _).m ?_;rintro e w3 ⟨rfl,b3⟩;have A:=aq b3;clear b3 HS;go_wp2_with fail
 go_ret;have bk:=HX.o.2.1.lt;have F:=PFr.below (B:=B) (k:=k) (Lv:=RwB sl R) bk A.o;exact⟨Q,sl,R,nx,tm,P,T,vL,vT,Z',HX.o.2.1.below A.o,HX.o.2.2.1.below A.o,HH.o.2.2.2.1,HH.o.2.2.2.2.m (by omega),HX.o.2.2.2.2.t F.toPFw,HX.o.1,HX.o.2.2.2.1.Nx F (λ_ _ h=>h)⟩
section
variable {B k:Nat} {w w1:Wj} {P:List PlL} {T:List PlT} {sl sl' vL vT:Wx} {R R':List bz} {nx tm:ey}
theorem aH.Qs(h:aH B w k P T vL vT)j(hj:j<3)v:aH B (w.setCell ⟨k,j,N⟩ v) k P T vL vT:=
 h.Nx (cO w ⟨k,j,N⟩ ⟨k,3,N⟩ v (λe=>by have:=eV Addr.off e;simp only at this;omega)) (cO w ⟨k,j,N⟩ ⟨k,4,N⟩ v (λe=>by have:=eV Addr.off e;simp only at this;omega)) (λj=>by simp) λg _ a _ _=>Ra a
theorem Gj.ref{nx' tm':ey}(a:aD B w k sl R nx tm)(i:aH B w k P T vL vT)(c:B<=k)(h:Below w.heap.size w w1)(d:Gj w.heap.size w1 sl' R'):
  aD B (((w1.setCell ⟨k,0,N⟩ sl').setCell ⟨k,1,N⟩ (I K nx')).setCell ⟨k,2,N⟩ (I K tm')) k sl' R' nx' tm'/\aH B (((w1.setCell ⟨k,0,N⟩ sl').setCell ⟨k,1,N⟩ (I K nx')).setCell ⟨k,2,N⟩ (I K tm')) k P T vL vT/\PFr B k (RwB sl R) w (((w1.setCell ⟨k,0,N⟩ sl').setCell ⟨k,1,N⟩ (I K nx')).setCell ⟨k,2,N⟩ (I K tm')):=by
 have o:=i.lt;have m:=cn (cn (bH w1 k 0 sl') 1 (I K nx')) 2 (I K tm');have n:∀b,RwB sl' R' b->b≠k:=λb p=>by have:=d.QY p;omega
 have l:=λe=>n k (Rf e) Q
 have j:=λe f q=>n k (Rg ⟨e,f,q⟩) Q
 refine⟨⟨(((a.below h).cells.OS sl').OW _).OL _,ba (d.row.kept m (wz l)) (by omega),λe f=>ba ((d.NL e f).kept m (wz (j e f))) (by omega),l,j,d.NN,d.pw⟩,(((i.below h).Qs 0 (by omega) _).Qs 1 (by omega) _).Qs 2 (by omega) _,(((PFr.below o h).t (PFr.set c 0 (by omega) _)).t (PFr.set c 1 (by omega) _)).t (PFr.set c 2 (by omega) _)⟩
end
def jv(l:PlL):PlL:={l with gone:=Y}
theorem Gk(P:S PlL)(i:H)(a:i<P.length):((P.take i).map jv++P.drop i).set i (jv P[i])=(P.take (i+1)).map jv++P.drop (i+1):=by
 have b:((P.take i).map jv).length=i:=by grind
 rw[List.set_append_right _ _ (by omega),b,Nat.sub_self,tS a,pt,pA,List.drop_eq_getElem_cons a];rfl
theorem MA{vS:Wx}{Z:S SvE}(h:w.ownsRow B 98 4 vS Z.length (gl Z))(i:H)(c:i<Z.length):∃g a,vS=M (J ⟨g,0,N⟩) Z.length a/\w.cell? ⟨g,i*4,N⟩=J (I K Z[i].at_)/\w.cell? ⟨g,i*4+1,N⟩=J Z[i].sl/\w.cell? ⟨g,i*4+1+1,N⟩=J (I K Z[i].nx)/\w.cell? ⟨g,i*4+1+2,N⟩=J (I K Z[i].tm):=by
 obtain⟨g,a,rfl,h1,h2,h3⟩:=bm h (by omega);have hx:∀j,j<4->w.cell? ⟨g,i*4+j,N⟩=[I K Z[i].at_,Z[i].sl,I K Z[i].nx,I K Z[i].tm][j]?:=λj b=>by
  have:=h.cellAt (i*4+j) (by omega);rw[gl,bL 4 _ (λ_=>Q) Z i j c b]at this;exact this
 simp_all
theorem Gl{sl vL vT:Wx}{nx tm:ey}(w:Wj)(a:aD B w k sl R nx tm)(d:aH B w k P T vL vT)(ad:B<=k){Z:S SvE}(n:ec B w k Z (RwB sl R))(hZ:∀z∈Z,(∀e∈z.R,e.h≠[])/\totR z.R<=200)(hZl:Z.length<=2199023255340)(hPl:P.length<=2199023255340)(j:H)(hj:j<Z.length)(hu:∀i (hi:i<Z.length),Z[i].at_=Z[j].at_->i=j):
  Calls Vp 37 #[O (J ⟨k,0,N⟩),I K Z[j].at_] w λe w'=>e=Rc (Re #[])/\∃sl' R',aD B w' k sl' R' Z[j].nx Z[j].tm/\aH B w' k (P.map jv) T vL vT/\ec B w' k Z (RwB sl' R')/\lm Z[j].R R'/\PFw B k w w':=by
 have HH:=gB a d n hZ hu;have hkw:=d.lt;clear a d n hZ hu;obtain⟨aj,D⟩:∃aj,Z[j].at_=aj:=⟨_,Q⟩;have aa:=aq D;rw[D];clear D;go_enter (Yq.nq func37),ntmps37;go_wp2_with fail
 go_loopw [4] (λs4 wr=>∃ (i:H) (sl':Wx) (R':S bz) (q l:ey),i<=Z.length/\s4=I K i/\aD B wr k sl' R' q l/\aH B wr k P T vL vT/\ec B wr k Z (RwB sl' R')/\PFw B k w wr/\(j<i->lm Z[j].R R'/\q=Z[j].nx/\l=Z[j].tm)) (λs4 _=>Z.length-(intOf s4).toNat)
 case atStart=>exact⟨0,sl,R,nx,tm,Q8,Q,HH.o.1,HH.o.2.1,HH.o.2.2.1,(PFr.refl (Lv:=λ_=>True)).toPFw,λh=>eW h (by omega)⟩
 case round=>
  obtain⟨i,sl',R',q,l,X,rfl,a,d,n,F,hd⟩:=hrel;have⟨vS,c5,u,L⟩:=n.row;obtain⟨sa,sc,rfl,-⟩:=ao u;have HX:=gB a d n F hd;by_cases c:i<Z.length
  have al:(i:ey)<Z.length:=by omega
  have⟨g,af,he,a0,a1,a2,a3⟩:=MA u i c;cases he;have hm:=tb c;have A:=qS g (i*4+1) Z[i].sl Z[i].R Z[i].nx Z[i].tm wr a1 a2 a3 (n.Pc _ hm) (n.NP _ hm) (HH.o.2.2.2.1 _ hm).1 (HH.o.2.2.2.1 _ hm).2;have k0:=a.cells.c0;have k1:=a.cells.c1;have k2:=a.cells.c2;have f0:=a.cells.fz 0;have f1:=a.cells.fz 1;have f2:=a.cells.fz 2;clear a d n F hd u L;by_cases r:Z[i].at_=aj
  have V:i=j:=HH.o.2.2.2.2 i c (r.t aa.o.s);rw[r]at a0;have y:=aq V;clear V r a1 a2 a3;go_wp2_with (go_at_call 36;refine A.m ?_;clear A;rintro e w1 ⟨s2,R2,rfl,v,hS,ac⟩;have HN:Hid (Below wr.heap.size wr w1/\Gj wr.heap.size w1 s2 R2/\lm Z[i].R R2):=⟨v,hS,ac⟩;obtain⟨sx,sy,rfl,-⟩:=ao hS.row;replace k0:=ag v k0;replace k1:=ag v k1;replace k2:=ag v k2;replace f0:=(v.frozen (p:=⟨k,0,N⟩) HX.o.2.1.lt).t f0;replace f1:=(v.frozen (p:=⟨k,1,N⟩) HX.o.2.1.lt).t f1;replace f2:=(v.frozen (p:=⟨k,2,N⟩) HX.o.2.1.lt).t f2;clear v hS ac)
  have⟨X1,X2,X3⟩:=Gj.ref (nx':=Z[i].nx) (tm':=Z[i].tm) HX.o.1 HX.o.2.1 ad HN.o.1 HN.o.2.1;refine⟨⟨i+1,_,_,_,_,c,by simp,X1,X2,HX.o.2.2.1.Nx X3 (λb hb h=>by have:=HN.o.2.1.QY h;omega),HX.o.2.2.2.1.t X3.toPFw,λ_=>?_⟩,by simp[intOf];omega⟩;have e:=y.o;subst e;exact⟨HN.o.2.2,Q,Q⟩;have hne:¬(Z[i].at_:ey)=(aj:ey):=by omega
  have y:Hid (i≠j):=λe=>r (by subst e;exact aa.o)
  clear r a1 a2 a3 A k0 k1 k2 f0 f1 f2;generalize Z[i].at_=ai at *;go_wp2_with fail
  exact⟨⟨i+1,_,_,_,_,c,by simp,HX.o.1,HX.o.2.1,HX.o.2.2.1,HX.o.2.2.2.1,λh=>HX.o.2.2.2.2 (by have:=y.o;omega)⟩,by simp[intOf];omega⟩;have G:i=Z.length:=by omega
  subst G;have HJ:Hid (lm Z[j].R R'/\q=Z[j].nx/\l=Z[j].tm):=hd hj;clear a d n F hd u L;go_wp2_with fail
  go_loopw [5] (λs5 wx=>∃i:H,i<=P.length/\s5=I K i/\aD B wx k sl' R' q l/\aH B wx k ((P.take i).map jv++P.drop i) T vL vT/\ec B wx k Z (RwB sl' R')/\PFw B k w wx) (λs5 _=>P.length-(intOf s5).toNat)
  case atStart=>exact⟨0,Q8,Q,HX.o.1,HX.o.2.1,HX.o.2.2.1,HX.o.2.2.2.1⟩
  case round=>
   rename_i wv _;clear c5;obtain⟨i,X,rfl,a,d,n,F⟩:=hrel;have f:((P.take i).map jv++P.drop i).length=P.length:=by rw[lP,lM,tL,lD];omega
   have c3:=d.c3;have HY:=ig a d n F;obtain⟨la,lc,ab,-⟩:=ao d.NZ;rw[f]at ab;subst ab;by_cases c:i<P.length
   have al:(i:ey)<P.length:=by omega
   obtain⟨g,af,he,-,-,-,-,-,l3⟩:=Be d.NZ i (by omega);rw[f]at he;cases he;have hr:wr.ownsRow B 141 4 (M (J ⟨g,0,N⟩) P.length lc) P.length (d9 ((P.take i).map jv++P.drop i)):=by
    have:=d.NZ
    rwa [f]at this
   have fz:=hr.frozenAt (i*4+3);clear hr;have x:∀h,((P.take i).map jv++P.drop i)[i]'h=P[i]:=λh=>by
    rw[List.getElem_append_right (by rw[lM,tL];omega)];simp[Nat.min_eq_left X]
   clear a d n F;go_wp2_with fail
   have hS:∀vL,vL=kr (J ⟨g,0,N⟩) ((P.take i).map jv++P.drop i).length lc->aH B wr k ((P.take i).map jv++P.drop i) T vL vT->aD B (wr.setCell ⟨g,i*4+3,N⟩ (C Y)) k sl' R' q l/\aH B (wr.setCell ⟨g,i*4+3,N⟩ (C Y)) k ((P.take (i+1)).map jv++P.drop (i+1)) T vL vT/\PFr B k (RwB sl' R') wr (wr.setCell ⟨g,i*4+3,N⟩ (C Y)):=λvL e h=>by
    subst e;rw[<-Gk P i c];exact h.QS HY.o.1 (by omega) (by omega) ⟨by rw[x];rfl,by rw[x];rfl⟩ (by rw[x];rfl)
   obtain⟨X1,X2,X3⟩:=hS _ (by rw[f]) HY.o.2.1;exact⟨⟨i+1,c,by simp,X1,X2,HY.o.2.2.1.Nx X3 (λ_ _ h=>h),HY.o.2.2.2.t X3.toPFw⟩,by simp[intOf];omega⟩;have G:i=P.length:=by omega
   subst G;clear a d n F;go_wp2_with fail
   go_end0;refine⟨Q,sl',R',?_,?_,HY.o.2.2.1,HJ.o.1,HY.o.2.2.2⟩;rw[<-HJ.o.2.1,<-HJ.o.2.2];exact HY.o.1;have:=HY.o.2.1
   rwa [tn,List.drop_length,List.append_nil]at this
theorem Sim.same{st}{R'}{nx:ey}(c:Sim st R nx)(h:lm R R'):Sim st R' nx:=by
 have hl:R'.length=R.length:=by simpa using eV vx h
 have hget:∀i (m:i<R.length) (o:i<R'.length),R'[i].key=R[i].key/\R'[i].h=R[i].h:=λi m o=>by
  have:=eV (λl=>l[i]?) h
  grind
 have n:∀e∈R',∃j∈R,e.key=j.key/\e.h=j.h:=λe d=>by
  obtain⟨i,q,rfl⟩:=gM d
  grind
 have hfrom:∀e∈R,∃j∈R',j.key=e.key:=λe d=>by
  obtain⟨i,q,rfl⟩:=gM d
  grind
 have f:totR R'=totR R:=by
  have:=eV (λl:S (dT×S Ver)=>(l.map λx=>x.2.length).sum) h;simpa[totR,List.map_map,Function.comp_def]using this
 refine⟨c.next,λe d=>?_,?_,λe d=>?_,λk hk=>c.gone k λe d=>?_,by rw[f];exact c.count,by rw[f];exact c.NW⟩;obtain⟨j,m,-,p⟩:=n e d;rw[p];exact c.full j m;have m:(R.map λe=>(e.key,e.h)).Pairwise (λa b=>a.1≠b.1):=List.pairwise_map.2 c.keys;rw[<-h]at m
 grind
 have⟨j,m,o,p⟩:=n e d;rw[o,p];exact c.here j m
 grind
theorem Dg(tm:ey)(P:S PlL):opens tm (P.map jv)=[]:=by
 unfold opens;rw[List.filter_eq_nil_iff];intro x hx;have a:x.1∈P.map jv:=by
  grind
 obtain⟨l,-,h⟩:=vf.1 a;rw[<-h];simp[PlL.NF,jv]
theorem gh.load{L}{P}{T}{tm a:ey}{s}(h:gh L P T tm s)(b:0<=a/\a<=1000*s):gh {L with opened:=[],tm:=a} (P.map jv) T a (s+1):=by
 refine⟨⟨Q,b.1,by have:=b.2;omega⟩,by rw[lM];exact h.begun,by rw[lM];have:=h.PN;omega,by rw[Dg];rfl,λl e=>?_,λt b=>?_,h.told,h.here⟩;obtain⟨i,c,rfl⟩:=vf.1 e;have:=h.lists i c;simp[jv];omega;have⟨c,l,f,d⟩:=h.Ny t b;exact⟨c,jv l,by rw[List.getElem?_map,f];rfl,d⟩
theorem Dh{sl vL vT:Wx}{nx tm:ey}{st2:St}(w:Wj)(a:aD B w k sl R nx tm)(hP:aH B w k P T vL vT)(A:B<=k)(SL:gh L P T tm s){Z:S SvE}(hz:ec B w k Z (RwB sl R))(hq:Zq Z)(hs:s<2199023255300)(hZl:Z.length<=s)(o:OpD)(hk:o.kind=12)(hZ:∀z∈Z,(∀e∈z.R,e.h≠[])/\totR z.R<=200)(j:H)(hj:j<Z.length)(l:o.src=Z[j].at_)(hu:∀i (hi:i<Z.length),Z[i].at_=Z[j].at_->i=j)(hS:Sim st2 Z[j].R Z[j].nx)(ht:0<=Z[j].tm/\Z[j].tm<=1000*s)(V:gI Wu)(G:H):
  Calls Vp 12 #[O (J ⟨k,0,N⟩),aL o,ii ⟨0,0,⟨#[]⟩⟩ V G] w (cQ B k st2 {L with opened:=[],tm:=Z[j].tm} Zq s w):=by
 obtain⟨kind,u,c,fe,d,nn,src⟩:=o;simp only at hk l;subst hk l;have p:=hP.lt;have hfew:=SL.PN;have r:=SL.load ht;have HQ:=eM hS hq r;have HL:Hid (∀W,Below w.heap.size w W->Calls Vp 37 #[O (J ⟨k,0,N⟩),I K Z[j].at_] W λe v=>e=Rc (Re #[])/\∃sl' R',aD B v k sl' R' Z[j].nx Z[j].tm/\aH B v k (P.map jv) T vL vT/\ec B v k Z (RwB sl' R')/\lm Z[j].R R'/\PFw B k W v):=λW x=>Gl W (a.below x) (hP.below x) A (hz.Nx (PFr.below p x) (λ_ _ h=>h)) hZ (by omega) (by omega) j hj hu
 have HS:=eB ⟨0,0,⟨#[]⟩⟩ V G;unfold aG ii at HS;unfold aL ii;simp only at HS ⊢;clear a hP SL hz hq hZ hu hS r;go_enter (Yq.nq func12),ntmps12
 go_upto_region 24 with fail
 have⟨W,y,b⟩:=kn w 12 u c fe d nn Z[j].at_ (I K 0) (I K 0) (U ⟨#[]⟩) (M V 0 G) (U ⟨#[]⟩);rw[y];have HW:=aq b;have q:=HL.o W b.1;have n6:=b.2.1 6;have f:TyB W (w.heap.size+1) 53:=by
  rw[<-y];exact⟨_,_,by rw[show w.heap.size+1=(w.alloc (E #[I K 12,U u,U c,U fe,U d,I K nn,I K Z[j].at_] 37)).heap.size by simp];exact aN _ _⟩
 have X:=aq f;clear HL y b f;go_wp2_with fail
 refine q.m ?_;clear q;rintro e w1 ⟨rfl,sl',R',h1,h2,h3,h4,D⟩;obtain⟨d0,d1,d2,d3,d4⟩:=HW.o.2.2.block (D.PU _ (by omega) X.o);have HX:=gB h1 h2 h3 h4 ((PFr.below (Lv:=λ_=>True) p HW.o.1).toPFw.t D);clear h1 h2 h3 h4 D HW n6;go_wp2_with fail
 refine(HS _).m ?_;rintro e w3 ⟨rfl,b3⟩;have n:=aq b3;clear b3 HS;go_wp2_with fail
 go_ret;have F:=PFr.below (B:=B) (k:=k) (Lv:=RwB sl' R') HX.o.1.lt n.o;exact⟨Q,sl',R',_,_,_,T,vL,vT,Z,HX.o.1.below n.o,HX.o.2.1.below n.o,HQ.o.1.same HX.o.2.2.2.1,HQ.o.2.2,HX.o.2.2.2.2.t F.toPFw,HQ.o.2.1,HX.o.2.2.1.Nx F (λ_ _ h=>h)⟩
end
