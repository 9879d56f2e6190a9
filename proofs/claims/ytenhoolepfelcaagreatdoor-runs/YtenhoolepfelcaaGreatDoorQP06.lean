/- A part. -/
import Derived.Test.YtenhoolepfelcaaGreatDoorQP05
import Derived.Lib.Strings
import Derived.Lib.BufferWrite
import Derived.Lib.UnsafeStr
import Derived.Laws.MakeOwn
import Derived.RangeFuncBox
import Derived.Sort.CutIn
import Derived.Lib.ItoaNum
import Derived.Shelf.LaysM
import Derived.Shelf.Strconv.Itoa3
import Derived.Conc.LeavingOf
import Derived.Lib.LaidTab
set_option maxHeartbeats 4000000
set_option maxRecDepth 100000
open _root_ renaming ByteArray->dT,UInt8->ey,Int->eV,congrArg->eW,Option->gI,Bool->gL,Array->g6,of_decide_eq_true->jp,if_true->kr,if_neg->lj,absurd->lk,decide_eq_true_eq->nF
open Go.World renaming cell?->n8,frozen?_alloc_at->pt,frozen?->sq,cell?_setCell_same->sT,setCell->ta,setChan->tb,alloc->tn,drewN->uc
open Go renaming bodyPost_ret->vf,maxLen->vx,callsIn_wide->wd,step_region_end->xb,step_region->xc,info_parts->xt,execOp->xv,heap_alloc_new->yz,wp_mono->NE,wpIn_wide->Pi,bodyPost->PA
open Go.CallsIn renaming inRound->PB
open Or renaming inr->PI,inl->PJ
open List renaming length_pos_iff->PK,findIdx?_eq_some_iff_getElem->PL,mem_flatMap->PM,mem_append->PN,getLast?_eq_some_getLast->PO,map_congr_left->PP,range->PQ,nil_append->PR,mem_cons->PS,sum->PT
open Go.Lib renaming itoa->PU,size_eq->PV,decDigits->PW,byteCells->PX,TabIs->PY,pow10Tab->PZ
open Go.Proofs.Tryz renaming prog->P0,results11->P9,results12->Qg,underlying118->Qh,results8->Qi,ntmps10->Qj,func10->Qk,ntmps8->Ql,func8->Qm,ntmps34->Qn,ntmps13->Qo,underlying96->Qp,func34->Qq,func13->Qr,underlying3->Qs,results44->Qt,ntmps113->Qu,ntmps67->Qv,ntmps65->Qx,ntmps35->Qz,ntmps40->QB,ntmps11->QC,f44->QD,func113->QG,f95->QH,func67->QI,func65->QJ,func35->QK,func40->QM,func11->QQ,f115->QR
open Go.Steps renaming head->QS
open Go.Region renaming schedule->QT,binds->QW,linearise->QX,wanted->QY,ready->QZ
open Array renaming getElem?_setIfInBounds->Q0,size_push->Q8,getElem?_eq_none->Q9,replicate->Ra
open Option renaming getD->Rb,getD_some->Rc
open Go.Act renaming eval->Rd,put->Re
open Go.Code renaming region->Rf,wpIn->Rg,rounds->Rh,wp->Ri
open ByteArray renaming size_append->Rj,size->Rk,ext->Rl
open Go.Addr renaming block->Rm,add_lit->Rn
open Nat renaming zero_le->Ro,not_lt_zero->Rp,reduceAdd->Rq,mod_one->Rr
open Go renaming World->Wj,Value->Wx,Program->Wv,TypeId->Ww,Frame->Wy,Addr->Wu,undef->Wo
namespace Go.Proofs.Qw
open _root_ renaming rfl->Q
open _root_ renaming Nat->H,List->S
open Option renaming none->N,some->J
open Bool renaming true->Y,false->Z
open Value renaming int->I,string->U,slice->M,pointer->O,bool->C,agg->Qa,tuple->Qb
open IntKind renaming i64->K
open Obj renaming cells->E
open Ending renaming returned->Nm
open Or renaming inl->Qc,inr->Qd
open Operand renaming tmp->Qe
variable {A A' X:H->Prop}{V W W' W0 a e w w1:Wj}{b c i k k0 n s:H}{p:gI Wu}{F f:S ey->S Ver}{h:S Ver}{P:Wv}{x:S ey×S Ver}{B v y:Wx}{xs:S Wx}{u:g6 gL}{Q:Exit->Act->Wj->Prop}{t:g6 Wx}
section
open Go.RowKit
theorem vy{d}(_hw2:w.heap.size<=d.heap.size)(h:ao (Grow (λb=>A b/\b<w.heap.size) d) n e p F)a o v(h1:w.heap.size<=a)(h2:a<d.heap.size):
  ao (Grow A w) n (e.setCell ⟨a,o,N⟩ v) p F:=by
 refine ao.Mr (λb f _=>?_) n p F h;rcases f with⟨⟨i,c⟩,_⟩|hge;exact⟨PJ ⟨i,c⟩,bS _ _ _ _ (by show b≠a;omega)⟩;exact⟨PI (by omega),bS _ _ _ _ (by show b≠a;omega)⟩
theorem vz(A:H->Prop)n(p:gI Wu)(f:S ey->S Ver)(a:dT)r h w(R:ao A n w p f)(L:a.size<n)(u:a.size<=1000)(G:bO A w r h)(x:h≠[]):
  Calls Yq.prog 42 #[Qa #[O p],U a,r] w λe k=>∃q,e=Nm (Qa #[O q])/\Below w.heap.size w k/\ao (Grow A w) n k q (upd f a.data.toList h):=by
 have j:∀d:Wj,Below w.heap.size w d->Calls Yq.prog 69 #[O p,U a,r] d λe k=>∃g,e=Nm (O (J ⟨g,0,N⟩))/\Below d.heap.size d k/\ao (Grow (λb=>A b/\b<w.heap.size) d) n k (J ⟨g,0,N⟩) (upd f a.data.toList h):=λd B=>
  DC n _ p f a r h d (ao.Mr (λb y l=>⟨⟨y,l⟩,B.block b l⟩) n p f R) L u (cw.Mr G (λb y l=>⟨⟨y,l⟩,B.block b l⟩)) x
 go_enter (Yq.nq Tryz.func42),Tryz.ntmps42;go_wp2_with fail
 have c:Below w.heap.size w ((w.alloc (E #[O p] 33)).alloc (E #[O N] 33)):=((bR _ w).alloc (lR _) _).alloc (by simp) _;have F:((w.alloc (E #[O p] 33)).alloc (E #[O N] 33)).cell? ⟨w.heap.size+1,0,N⟩=J (O N):=by simp_all
 have D:w.heap.size+1<((w.alloc (E #[O p] 33)).alloc (E #[O N] 33)).heap.size:=by simp
 refine((aI j).o _ c).m ?_;rintro e z ⟨g,rfl,i,s⟩;have P:=ag i F;have q4:=(i.frozen (p:=⟨w.heap.size+1,0,N⟩) D).t (pt (w:=w.alloc (E #[O p] 33)) _ _ (w.heap.size+1) 0 (by simp));have HF:Hid (Below w.heap.size w (z.setCell ⟨w.heap.size+1,0,N⟩ (O (J ⟨g,0,N⟩)))/\ao (Grow A w) n (z.setCell ⟨w.heap.size+1,0,N⟩ (O (J ⟨g,0,N⟩))) (J ⟨g,0,N⟩) (upd f a.data.toList h)):=
  ⟨(c.t (i.m c.size)).setCell (by show w.heap.size<=w.heap.size+1;omega) _,vy c.size s (w.heap.size+1) 0 _ (by omega) D⟩
 go_wp2;exact vf (v:=Qa #[O (J ⟨g,0,N⟩)]) (by simp[results,Tryz.results42,go_sem,P]) Q ⟨_,Q,HF.o⟩
theorem vB(A:H->Prop)n(p:gI Wu)(f:S ey->S Ver)(a:dT)w(L:ao A n w p f)(F:a.size<n)(x:a.size<=1000)(R:f a.data.toList≠[]):
  Calls Yq.prog 41 #[Qa #[O p],U a] w λe j=>∃q,e=Nm (Qa #[O q])/\Below w.heap.size w j/\ao (Grow A w) n j q (upd f a.data.toList []):=by
 have l:∀c:Wj,Below w.heap.size w c->Calls Yq.prog 68 #[O p,U a] c λe j=>∃q,e=Nm (O q)/\Below c.heap.size c j/\ao (Grow (λb=>A b/\b<w.heap.size) c) n j q (upd f a.data.toList []):=λc y=>
  vw n _ p f a c (ao.Mr (λb z s=>⟨⟨z,s⟩,y.block b s⟩) n p f L) F x R
 have r:∀c:Wj,Below w.heap.size w c->Calls Yq.prog 38 #[Qa #[O p],U a] c λe j=>∃G,e=Nm (Qb #[G,C Y])/\Below c.heap.size c j:=λc y=>by
  refine(oG A n p f a c F (by simp[vx];omega) (ao.Mr (λb z s=>⟨z,y.block b s⟩) n p f L)).m ?_
  grind
 go_enter (Yq.nq Tryz.func41),Tryz.ntmps41;go_wp2_with fail
 have i:Below w.heap.size w ((w.alloc (E #[O p] 33)).alloc (E #[O N] 33)):=((bR _ w).alloc (lR _) _).alloc (by simp) _;have T:((w.alloc (E #[O p] 33)).alloc (E #[O N] 33)).cell? ⟨w.heap.size+1,0,N⟩=J (O N):=by simp_all
 have P:w.heap.size+1<((w.alloc (E #[O p] 33)).alloc (E #[O N] 33)).heap.size:=by simp
 have X:((w.alloc (E #[O p] 33)).alloc (E #[O N] 33)).cell? ⟨w.heap.size,0,N⟩=J (O p):=by
  simp_all
 refine((aI r).o _ i).m ?_;rintro e W2 ⟨G,rfl,d⟩;have D:=lL P d.size;have r5:=ag d X;have h:=aI (i.t (d.m i.size));go_wp2_with fail
 refine((aI l).o W2 h.o).m ?_;rintro e B ⟨q,rfl,k,u⟩;have V:=ag k (ag d T);have q4:=(k.frozen (p:=⟨w.heap.size+1,0,N⟩) D).t ((d.frozen (p:=⟨w.heap.size+1,0,N⟩) P).t (pt (w:=w.alloc (E #[O p] 33)) _ _ (w.heap.size+1) 0 (by simp)));have HF:Hid (Below w.heap.size w (B.setCell ⟨w.heap.size+1,0,N⟩ (O q))/\ao (Grow A w) n (B.setCell ⟨w.heap.size+1,0,N⟩ (O q)) q (upd f a.data.toList [])):=
  ⟨(h.o.t (k.m h.o.size)).setCell (by show w.heap.size<=w.heap.size+1;omega) _,vy h.o.size u (w.heap.size+1) 0 _ (by omega) D⟩
 go_wp2;exact vf (v:=Qa #[O q]) (by simp[results,Tryz.results41,go_sem,V]) Q ⟨_,Q,HF.o⟩
def MJ(h:S Ver)(i:H):eV:=((h[i]?).map (·.num)).getD 0
def MT(h:S Ver)(i:H):dT:=((h[i]?).map (·.body)).getD ⟨#[]⟩
def mrks(h:S Ver)(i:H):gL:=((h[i]?).map (·.mark)).getD Z
theorem gX(a:i<h.length):MJ h i=h[i].num:=by simp[MJ,a]
theorem JS(a:i<h.length):MT h i=h[i].body:=by simp[MT,a]
theorem JT(a:i<h.length):mrks h i=h[i].mark:=by simp[mrks,a]
structure DD (h:S Ver)(n:eV)(r:H):Prop where
 le:r<=h.length
 lo:∀j,j<h.length->j<r->MJ h j<n
 hi:∀j,j<h.length->r<=j->n<=MJ h j
def Bv(h:S Ver)(n:eV)(r:H):gL:=decide (r<h.length/\MJ h r=n)
theorem DE(A:H->Prop)t h(n:eV)w(q:bO A w t h)(y:∀i j,i<j->j<h.length->MJ h i<MJ h j)(v:h.length<=2199023255552):
  Calls Yq.prog 67 #[t,I K n] w λe c=>∃r:H,DD h n r/\e=Nm (Qb #[I K r,C (Bv h n r)])/\Below w.heap.size w c:=by
 by_cases d:h=[]
 subst d;obtain⟨a,b,rfl,-,-⟩:=q;go_enter (Yq.nq QI),Qv;go_wp2_with (go_at_call 87;refine(Gw _ _ _ _).m ?_;rintro e c ⟨rfl,rfl⟩)
 go_ret2
 exact⟨0,⟨lR _,λj h=>lk h (Rp _),λj h=>lk h (Rp _)⟩,by simp[Bv],bR _ _⟩;obtain⟨s,b,rfl,-,-,z,-⟩:=q.cells d;have k:Calls Yq.prog 87 #[M (J ⟨s,0,N⟩) h.length b,I K n,.func (.func 88) #[] #[]] w λe c=>∃r:H,DD h n r /\
   e=Nm (Qb #[I K r,C (Bv h n r)])/\Below w.heap.size w c:=by
  refine(JM s h.length b (MJ h) (MT h) (mrks h) n w v (λi f=>by rw[gX f,JS f,JT f];exact z i f) y).m ?_;rintro e c ⟨r,o,u,x,rfl,p⟩;exact⟨r,⟨o,λj _ l=>u j l,λj h l=>x j l h⟩,Q,p⟩
 go_enter (Yq.nq QI),Qv;go_wp2_with (go_at_call 87;refine k.m ?_;rintro e c ⟨r,o,rfl,p⟩)
 go_ret2
 exact⟨r,o,Q,p⟩
def cH(v:Ver):Wx:=Qa #[I K v.num,U v.body,C v.mark]
theorem Bw g k a(c:eV)(b:dT)(d:gL)w(hk:k<=2199023255552)(h:w.cell? ⟨g,k*3,N⟩=J (I K c))(c1:w.cell? ⟨g,k*3+1,N⟩=J (U b))(c2:w.cell? ⟨g,k*3+2,N⟩=J (C d)):
  Calls Yq.prog 39 #[M (J ⟨g,0,N⟩) (k+1) a] w λe f=>e=Nm (Qa #[I K c,U b,C d])/\Below w.heap.size w f:=by
 have hg:=bC w _ h;go_enter (Yq.nq Tryz.func39),Tryz.ntmps39;go_wp2;exact vf (v:=Qa #[I K c,U b,C d]) (by simp[results,Tryz.results39,go_sem]) Q ⟨Q,(bR _ _).alloc (lR _) _⟩
theorem m9(A:H->Prop)c h w(j:bO A w c h)(a:h≠[])(hl:h.length<=2199023255552):
  Calls Yq.prog 39 #[c] w λe i=>e=Nm (cH (h.getLast a))/\Below w.heap.size w i:=by
 obtain⟨g,b,rfl,-,-,m,-⟩:=j.cells a;have hlen:=PK.2 a;obtain⟨k,f⟩:∃k,h.length=k+1:=⟨h.length-1,by omega⟩;have⟨l,n,d⟩:=m k (by omega);have e:h.getLast a=h[k]:=by grind
 rw[e];generalize h[k]=v at *;rw[f];exact Bw g k b _ _ _ w (by omega) l n d
theorem vC(A:H->Prop)f h r w(s:bO A w f h)(hr:r<h.length)(y:h.length<=2199023255552):
  Calls Yq.prog 43 #[f,I K r] w λe q=>∃t u p,e=Nm (M t u p)/\bO (λb=>w.heap.size<=b) q (M t u p) (h.take r++h.drop (r+1))/\Below w.heap.size w q:=by
 have d:=rr A f h w s y;obtain⟨k,n⟩:∃k,h.length=k+1:=⟨h.length-1,by omega⟩;obtain⟨ha,hc,rfl,-⟩:=s;have HK:=aI n;rw[n]at d ⊢;go_enter (Yq.nq Tryz.func43),Tryz.ntmps43;go_wp2_with fail
 refine d.m ?_;rintro e x ⟨v',rfl,a,v⟩;obtain⟨g,i,rfl,-,-,-⟩:=cq a (Nat.succ_pos _);go_wp2_with (go_at_call 70;refine(GA w.heap.size g k i r (aw h) x a (by have:=HK.o;omega) (by have:=HK.o;omega) (eC h)).m ?_;rintro e w2 ⟨rfl,c,l⟩)
 go_ret;refine⟨_,_,_,Q,?_,v.grown l v.size (λj e=>by cases e;exact(a.lt g Q).1)⟩;rw[vq]at c;exact nM (by have:=HK.o;rw[lP,tL,lD];omega) c (λj e=>(c.lt j e).1)
theorem jz{ops:g6 Oper}{o:Oper}{a0:Act}{b:Act->Wj->Prop}{f:Exit->Act->Wj->Prop}{d:Prop}
  (hg:o.guard=N) (s x:Operand) (t:Ww) (V:o.op=Op.call {callee:=Callee.builtin Builtin.append,args:=#[s,x],argTypes:=#[t,t]})
  (q:H) (e:Ww) (i:TypeInfo) (z:Wx) (k p:H) (ht:P.underlying t=J (.slice e)) (hi:P.info? e=J i) (hz:i.zero=J z)
  (y:i.size=k) (L:i.bytes=p) (X:z.cells.size=k) (ab:0<k)
  (v:Wx) (n:H) (R:S Wx) (hs:a0.eval s=v) (D:w.ownsRow q e k v n R)
  (T:Wu) (m c:H) (l:S Wx) (hx:a0.eval x=.slice (J T) m c) (hl:l.length=m*k) (A:∀j u,l[j]?=J u->w.cell? (T.add j)=J u) (h1:∀u∈l,u.oneCell'=Y)
  (aa:n+m<=vx) (r:(n+m)*p<=140737488355328) (B:q<=w.heap.size)
  (h:∀G F,F.ownsRow q e k G (n+m) (R++l)->w.grownBy F v.ownBlock->b (a0.put o.dst G) F):
  if QY o (yielded ops a0.tmps)=Y then Oper.wp P o a0 w b f else d:=by
 have⟨G,F,hr,h2,h3,_⟩:=run_append_own (P:=P) w q t o.type e i z k p ht hi hz y L X ab v n R D T m c l hl A h1 aa r B;exact eO hg s x t t V v _ hs hx hr (h G F h2 h3)
theorem mh h v:aw (h++[v])=aw h++[I K v.num,U v.body,C v.mark]:=by simp[aw]
theorem GF{d}(e:Below W.heap.size W d){q r c}{x z}(h:W.cell? q=J x/\W.cell? r=J y/\W.cell? c=J z):d.cell? q=J x/\d.cell? r=J y/\d.cell? c=J z:=
 ⟨ag e h.1,ag e h.2.1,ag e h.2.2⟩
theorem pQ{d}{c:gI H}(f:w.grownBy d c){x z}(a:c≠J b)(h:w.cell? ⟨b,k,N⟩=J x/\w.cell? ⟨b,n,N⟩=J y/\w.cell? ⟨b,i,N⟩=J z):d.cell? ⟨b,k,N⟩=J x/\d.cell? ⟨b,n,N⟩=J y/\d.cell? ⟨b,i,N⟩=J z:=
 ⟨f.cell h.1 (λe=>a e.s),f.cell h.2.1 (λe=>a e.s),f.cell h.2.2 (λe=>a e.s)⟩
theorem cI{base'}{G}(h:w.ownsRow k G b v n xs)(i:base'<=k):w.ownsRow base' G b v n xs:=by
 refine⟨h.1,?_⟩;rcases h.2 with h2|⟨g,d,c,j,f,r⟩
 grind
 exact PI ⟨g,d,c,j,lT i f,r⟩
theorem news3(W:Wj)(x y z:Wx)(T:Ww):∀j u,[x,y,z][j]?=J u->(W.alloc (E #[x,y,z] T)).cell? ((⟨W.heap.size,0,N⟩:Wu).add j)=J u:=by
 intro j u hj;rw[Rn,cA (w:=W) _ _ W.heap.size _ Q]
 grind
theorem one3(d:eV)(c:dT)(b:gL):∀u∈[Value.int K d,U c,C b],u.oneCell'=true:=by
 intro u a;simp at a;rcases a with rfl|rfl|rfl<;>rfl
theorem DF(A:H->Prop)hv h(d:eV)(i:dT)(f:gL)w(hh:bO A w hv h)(hl:h.length<=2199023255552):
  Calls Yq.prog 64 #[hv,Qa #[I K d,U i,C f]] w λe p=>∃B vl D,e=Nm (M B vl D)/\bO (λb=>w.heap.size<=b) p (M B vl D) (h++[⟨d,i,f⟩])/\Below w.heap.size w p:=by
 have⟨i0,T,F,G,L⟩:=xt Yq.NO;have ac:Hid (∀y:Wj,Below w.heap.size w y->Calls Yq.prog 71 #[hv] y λe p=>∃v',e=Nm v'/\p.ownsRow y.heap.size 62 3 v' h.length (aw h)/\Below y.heap.size y p):=λy hq=>
  rr A _ h y (cw.Mr hh (λb v X=>⟨v,hq.block b X⟩)) hl
 obtain⟨ha,hc,rfl,-⟩:=hh;have b1:Below w.heap.size w (w.alloc (E #[I K d,U i,C f] 62)):=(bR _ w).alloc (lR _) _;have l:=aI b1;have B0:(w.alloc (E #[I K d,U i,C f] 62)).cell? ⟨w.heap.size,0,N⟩=J (I K d):=by rw[cA (w:=w) _ _ w.heap.size 0 Q];rfl
 have B1:(w.alloc (E #[I K d,U i,C f] 62)).cell? ⟨w.heap.size,1,N⟩=J (U i):=by rw[cA (w:=w) _ _ w.heap.size 1 Q];rfl
 have B2:(w.alloc (E #[I K d,U i,C f] 62)).cell? ⟨w.heap.size,2,N⟩=J (C f):=by rw[cA (w:=w) _ _ w.heap.size 2 Q];rfl
 clear b1;go_enter (Yq.nq Tryz.func64),Tryz.ntmps64;go_wp2_with fail
 go_region_held3 (λp=>p.cell? ⟨w.heap.size,0,N⟩=J (I K d)/\p.cell? ⟨w.heap.size,1,N⟩=J (U i)/\p.cell? ⟨w.heap.size,2,N⟩=J (C f)) (first|assumption|go_keep)
  (first
   |(refine jz rfl _ _ 96 rfl w.heap.size 62 i0 _ 3 32 (Yq.u Qp) T F G L rfl (by decide) (M B h.length D) h.length (aw h) (by simp[Rd]) (c.alloc _) ⟨w2.heap.size,0,N⟩ 1 1 [I K d,U i,C f] (by simp[Rd]) rfl (news3 _ _ _ _ _) (one3 _ _ _) (by simp[vx];omega) (by omega) (lT r (by simp)) ?_;intro v2 w3 x n;have R:=(q.alloc q.size _).grown n (lT r (by simp)) (λk e=>(c.lt k e).1);have ab:=pQ n P (by assumption))
   |(refine jz rfl _ _ 96 rfl w.heap.size 62 i0 _ 3 32 (Yq.u Qp) T F G L rfl (by decide) (M B h.length D) h.length (aw h) (by simp[Rd]) c ⟨w.heap.size+1,0,N⟩ 1 1 [I K d,U i,C f] (by simp[Rd]) rfl (λj u hj=>ag v (by have:=news3 (w.alloc (E #[I K d,U i,C f] 62)) _ _ _ 62 j u hj;simpa using this)) (one3 _ _ _) (by simp[vx];omega) (by omega) r ?_;intro v2 w3 x n;have R:=q.grown n q.size (λk e=>(c.lt k e).1);have ab:=pQ n P (by assumption))
   |(go_at_call 71;go_loud (refine(ac.o _ ?_).m ?_);go_loud (first|exact l.o|exact l.o.drew|exact(l.o.alloc (by simp) _).drew);rintro e w2 ⟨v',rfl,a,v⟩;obtain⟨B,D,rfl,-⟩:=az a;have c:=cI (base':=w.heap.size) a (by simp<;>omega);have P:(Value.slice B h.length D).ownBlock≠J w.heap.size:=λe=>lk (a.lt _ e).1 (by simp<;>omega);have r:w.heap.size<=w2.heap.size:=lT (by simp<;>omega) v.size;have q:=(by first|exact l.o.drew.t (v.m l.o.size)|exact((l.o.alloc (by simp) _).drew).t (v.m (by simp<;>omega)));have kS:=GF v (by assumption)))
 all_goals
  obtain⟨V,aa,rfl,-⟩:=az x;go_wp2;go_ret;have z:=x;rw[show aw h++[I K d,U i,C f]=aw (h++[⟨d,i,f⟩])from(mh h ⟨d,i,f⟩).s]at z;exact⟨V,h.length+1,aa,Q,nM (by simp) z (λj e=>(z.lt j e).1),R⟩
theorem Yq.Pd:(Yq.prog.info? 5).map (λi=>(i.zero,i.size,i.bytes))=J (J (I .u8 0),1,1):=by kernel_rfl
theorem yh(s:dT)w(hlim:s.size<=281474976710656):
  Calls Yq.prog 65 #[U s] w λe z=>e=Nm (U s)/\Below w.heap.size w z:=by
 by_cases A:s.size=0
 have B:s=⟨#[]⟩:=by
  apply Rl
  simp_all
 subst B;go_enter (Yq.nq QJ),Qx;go_wp2;go_ret;exact⟨Q,bR _ _⟩;have⟨r,v,o,f,l⟩:=xt Yq.Pd;obtain⟨a,n⟩:∃a,a=madeCells (Value.int .u8 0).cells (((s.size:H):eV).toNat*r.size):=⟨_,Q⟩;have hMs:a.size=s.size:=by rw[n,size_madeCells,f];simp
 have hmk:=λW=>by
  have h:=run_make (P:=Yq.prog) W 118 5 r (I .u8 0) (Yq.u Qh) v o K K (s.size:eV) (s.size:eV) (by omega) (by omega) (by rw[l];omega) (by omega);rw[<-n]at h;simpa using h
 clear n;have m:=Lib.run_copy_row_string (P:=Yq.prog) (w.alloc (E a 5)) 118 9 3 5 w.heap.size 0 s.size s.size s a 5 (Yq.u Qh) (by grind) (yz w _) (lR _) (by omega);obtain⟨b,y⟩:∃b,b=(a.toList.take 0++PX s.data.toList++a.toList.drop (0+s.size)).toArray:=⟨_,Q⟩;rw[<-y]at m;have c:b.toList=PX s.data.toList:=by
  simp_all
 have hYs:b.size=s.size:=by rw[<-lY,c,Lib.byteCells_length,<-PV]
 have d:((w.alloc (E a 5)).setRow w.heap.size b).heap[w.heap.size]?=J (E b 5 (0,0)):=setRow_heap _ _ a _ 5 (0,0) (yz w _);have i:=Lib.run_unsafeString_row (P:=Yq.prog) ((w.alloc (E a 5)).setRow w.heap.size b) 170 3 9 5 (Yq.u Tryz.underlying170) (by simp[Program.cellsOf,v,f]) w.heap.size b.size (by unfold World.shape?;rw[d]) s.data.toList (λe=>A (by rw[PV,e];rfl)) (by rw[<-PV];omega) (by rw[<-PV];omega)
  (λj x D=>Lib.cells_of_row d b.size j _ (by rw[tO (by rw[lY];exact lR _),c];simp[PX,D]))
 rw[<-PV]at i;clear y;go_enter (Yq.nq QJ),Qx;go_wp2;go_ret;have q:Below w.heap.size (w.alloc (E a 5)) ((w.alloc (E a 5)).setRow w.heap.size b):=⟨Q,Q,Q,by simp,λk hk=>setRow_other _ _ _ _ (by omega)⟩;exact⟨Q,Lib.below_freeze (((bR _ w).alloc (lR _) _).t q) (p:=⟨w.heap.size,0,N⟩) (lR _) _⟩
theorem Bx(s:dT)w(a:s.size<=281474976710656):
  Calls Yq.prog 37 #[U s] w λe b=>e=Nm (U s)/\Below w.heap.size w b:=by
 go_enter (Yq.nq Tryz.func37),Tryz.ntmps37;go_wp2_with (go_at_call 65;refine(yh _ _ a).m ?_;rintro e b ⟨rfl,hb⟩)
 go_ret
 simp_all
structure St where
 f:S ey->S Ver
 count:eV
 last:eV
structure OpD where
 kind:eV
 key:dT
 body:dT
 eQ:dT
 past:dT
 n:eV
 src:eV
structure Cu where
 code:eV
 MG:eV
 body:dT
def aJ(o:OpD):Wx:=Qa #[I K o.kind,U o.key,U o.body,U o.eQ,U o.past,I K o.n,I K o.src]
def aG(a:Cu):Wx:=Qa #[I K a.code,I K a.MG,U a.body,M N 0 0,U ⟨#[]⟩]
def aS(k:dT):gL:=decide (1<=k.size/\k.size<=40)
def bM(st:St)(key body:dT)(mark:gL):St:=
 ⟨upd st.f key.data.toList (st.f key.data.toList++[⟨st.last+1,body,mark⟩]),st.count+1,st.last+1⟩
def db(h:S Ver)(n:eV):gI Nat:=h.findIdx? (λv=>v.num==n)
def bP(st:St)(key:dT)(r:H):St:=
 ⟨upd st.f key.data.toList ((st.f key.data.toList).take r++(st.f key.data.toList).drop (r+1)),st.count-1,st.last⟩
def aE(st:St)(o:OpD):St×Cu:=
 let N:Cu:=⟨0,0,⟨#[]⟩⟩
 if o.kind=1 then
  if aS o.key=Z then(st,{N with code:=2})
  else if 100<o.body.size then(st,{N with code:=3})
  else if 200<=st.count\/st.last=9223372036854775807 then(st,{N with code:=4})
  else(bM st o.key o.body Z,{N with MG:=st.last+1})
 else if o.kind=2 then
  if aS o.key=Z then(st,{N with code:=2})
  else match(st.f o.key.data.toList).getLast? with
   | .none=>(st,{N with code:=5})
   |some v=>if v.mark then(st,{N with code:=5})else(st,⟨0,v.num,v.body⟩)
 else if o.kind=3 then
  if aS o.key=Z then(st,{N with code:=2})
  else match db (st.f o.key.data.toList) o.n with
   | .none=>(st,{N with code:=5})
   |some r=>match(st.f o.key.data.toList)[r]? with
    | .none=>(st,{N with code:=5})
    |some v=>if v.mark then(st,{N with code:=6})else(st,⟨0,0,v.body⟩)
 else if o.kind=4 then
  if aS o.key=Z then(st,{N with code:=2})
  else if 200<=st.count\/st.last=9223372036854775807 then(st,{N with code:=4})
  else(bM st o.key ⟨#[]⟩ Y,{N with MG:=st.last+1})
 else if o.kind=5 then
  if aS o.key=Z then(st,{N with code:=2})
  else match db (st.f o.key.data.toList) o.n with
   | .none=>(st,{N with code:=5})
   |some r=>(bP st o.key r,N)
 else(st,{N with code:=1})
structure Inv (st:St)(s:H):Prop where
 MN:0<=st.last
 MQ:st.last<=9223372036854775807
 Ni:-(s:eV)<=st.count
 Nj:st.count<=s+200
 len:∀k,(st.f k).length<=s+200
 sorted:∀k i j,i<j->j<(st.f k).length->MJ (st.f k) i<MJ (st.f k) j
 bounds:∀k i,i<(st.f k).length->1<=MJ (st.f k) i/\MJ (st.f k) i<=st.last
theorem eu{v}(a:i<h.length):MJ (h++[v]) i=MJ h i:=by
 simp[MJ,List.getElem?_append_left a]
theorem ja{v}:MJ (h++[v]) h.length=v.num:=by simp[MJ]
theorem Inv.m{st}{s'}(h:Inv st s)(hs:s<=s'):Inv st s':=
 ⟨h.MN,h.MQ,by have:=h.Ni;omega,by have:=h.Nj;omega,λk=>by have:=h.len k;omega,h.sorted,h.bounds⟩
theorem Inv.add{c}(h:Inv c s)(a l:dT)(m:gL)(hl:¬c.last=9223372036854775807):Inv (bM c a l m) (s+1):=by
 refine⟨by have:=h.MN;simp[bM];omega,by have:=h.MQ;simp[bM];omega,by have:=h.Ni;simp[bM];omega,by have:=h.Nj;simp[bM];omega,λk=>?_,?_,?_⟩;have h1:=h.len k;unfold bM upd
 grind
 intro k i j b o;by_cases d:k=a.data.toList
 subst d;simp only[bM,upd,kr]at o ⊢;rw[lP,lS]at o;by_cases e:j<(c.f a.data.toList).length
 rw[eu e,eu (by omega)];exact h.sorted _ i j b e;have r:j=(c.f a.data.toList).length:=by omega
 subst r;rw[ja,eu b];have:=(h.bounds a.data.toList i b).2
 grind
 simp[bM,upd,lj d]at o ⊢;exact h.sorted k i j b o;intro k i p;by_cases d:k=a.data.toList
 subst d;simp only[bM,upd,kr]at p ⊢;rw[lP,lS]at p;by_cases n:i<(c.f a.data.toList).length
 rw[eu n];have:=h.bounds _ i n;omega;have q:i=(c.f a.data.toList).length:=by omega
 subst q;rw[ja];have:=h.MN;simp only;omega;simp[bM,upd,lj d]at p ⊢;have:=h.bounds k i p;omega
theorem tq(hr:b<h.length):MJ (h.take b++h.drop (b+1)) i=MJ h (if i<b then i else i+1):=by
 unfold MJ
 grind
theorem Inv.drop{l}(h:Inv l s)(a:dT)r(m:r<(l.f a.data.toList).length):Inv (bP l a r) (s+1):=by
 refine⟨h.MN,by have:=h.MQ;simp[bP];omega,by have:=h.Ni;simp[bP];omega,by have:=h.Nj;simp[bP];omega,λk=>?_,?_,?_⟩;have h1:=h.len k;unfold bP upd
 grind
 intro k i j e c;by_cases b:k=a.data.toList
 subst b;simp only[bP,upd,kr]at c ⊢;rw[lP,tL,lD]at c;rw[tq m,tq m];exact h.sorted _ _ _ (by split<;>split<;>omega) (by split<;>omega);simp[bP,upd,lj b]at c ⊢;exact h.sorted k i j e c;intro k i d;by_cases b:k=a.data.toList
 subst b;simp only[bP,upd,kr]at d ⊢;rw[lP,tL,lD]at d;rw[tq m];exact h.bounds _ _ (by split<;>omega);simp[bP,upd,lj b]at d ⊢;exact h.bounds k i d
theorem GG{n:eV}(c:DD h n s)(m:∀i j,i<j->j<h.length->MJ h i<MJ h j):db h n=if Bv h n s then J s else none:=by
 unfold db;cases b:Bv h n s with
 |true=>
  have:=jp b;obtain⟨f,k⟩:=this;simp;rw[PL];refine⟨f,?_,λj a=>?_⟩;rw[gX f]at k;simp[k];have:=c.lo j (by omega) a;rw[gX (by omega)]at this;simp;omega
 |false=>
  simp only[Bool.false_eq_true,if_false];rw[List.findIdx?_eq_none_iff];intro v l;have⟨j,a,e⟩:=gM l;have hne:=of_decide_eq_false b;have hj':MJ h j=v.num:=by rw[gX a,e]
  by_cases d:j<s
  have:=c.lo j a d;simp;omega;have h1:=c.hi s (by omega) (lR _);by_cases hjr2:j=s
  grind
  have h2:=m s j (by omega) a;simp;omega
structure aP (A:H->Prop)(w:Wj)(k0:H)(st:St):Prop where
 Mv:∀b,A b->b≠k0
 tree:∃p,w.cell? ⟨k0,0,N⟩=J (O p)/\ao A 41 w p st.f
 count:w.cell? ⟨k0,1,N⟩=J (I K st.count)
 last:w.cell? ⟨k0,2,N⟩=J (I K st.last)
 frozen:∀j,w.frozen? ⟨k0,j,N⟩=Z
theorem bU(h:w.grownBy W0 (J n))o v:w.grownBy (W0.setCell ⟨n,o,N⟩ v) (J n):=
 ⟨h.os,h.tape,h.output,by have:=h.size;simp[ta];omega,λk d c=>(bS _ _ _ _ (λe=>c (by rw[e]))).t (h.block k d c)⟩
theorem tu{r:gI H}(h:w.grownBy a r)(hb:w.heap.size<=b)o v:w.grownBy (a.setCell ⟨b,o,N⟩ v) r:=
 ⟨h.os,h.tape,h.output,by have:=h.size;simp[ta];omega,λk c d=>(bS _ _ _ _ (by show k≠b;omega)).t (h.block k c d)⟩
theorem aP.lt{c}(a:aP A w b c):b<w.heap.size:=bC w _ a.count
theorem JU{d}(f:w.grownBy d (J n))(h:∀b,A b->b≠n):∀b,A b->b<w.heap.size->A b/\d.heap[b]?=w.heap[b]?:=
 λb c i=>⟨c,f.block b i (by intro e;cases e;exact h n c Q)⟩
theorem aP.on{w'}{st}(a:aP A w c st)(b:Below w.heap.size w w'):aP A w' c st:=by
 have⟨p,d,e⟩:=a.tree;exact⟨a.Mv,⟨p,ag b d,e.on b⟩,ag b a.count,ag b a.last,λj=>(b.frozen (p:=⟨c,j,N⟩) a.lt).t (a.frozen j)⟩
theorem aP.grow{st}(a:aP A w c st):aP (Grow A w) w c st:=by
 have⟨p,f,i⟩:=a.tree;refine⟨?_,⟨p,f,ao.Mr (λb e d=>⟨PJ ⟨e,d⟩,Q⟩) _ _ _ i⟩,a.count,a.last,a.frozen⟩;rintro b (⟨h,_⟩|h);exact a.Mv b h;have:=a.lt;omega
def eF:Ver:=⟨0,⟨#[]⟩,Z⟩
theorem mi(a:dT)w(h:a.size<=vx):Calls Yq.prog 34 #[U a] w λe c=>e=Nm (C (aS a))/\w=c:=by
 unfold vx at h;by_cases d:1<=a.size
 by_cases b:a.size<=40
 have e:aS a=true:=by simp[aS,d,b]
 go_enter (Yq.nq Qq),Qn;go_wp2;go_ret;exact⟨by simp[e]<;>omega,Q⟩;have e:aS a=false:=by simp[aS,b]
 go_enter (Yq.nq Qq),Qn;go_wp2;go_ret;exact⟨by simp[e]<;>omega,Q⟩;go_enter (Yq.nq Qq),Qn;go_wp2;go_ret;exact⟨by simp[aS]<;>omega,Q⟩
def kx(st:St):gL:=decide (200<=st.count\/st.last=9223372036854775807)
theorem rx c a w(hc:w.cell? ⟨c,1,N⟩=J (I K a.count))(hl:w.cell? ⟨c,2,N⟩=J (I K a.last)):Calls Yq.prog 35 #[O (J ⟨c,0,N⟩)] w λe d=>e=Nm (C (kx a))/\w=d:=by
 by_cases b:200<=a.count
 .have e:kx a=true:=by simp[kx,b]
  go_enter (Yq.nq QK),Qz;go_wp2;go_ret
  simp_all
 have hd:decide (200<=a.count)=false:=by simp[b]
 have e:kx a=(a.last==9223372036854775807):=by rw[kx,Bool.eq_iff_iff];simp[b]
 go_enter (Yq.nq QK),Qz;go_wp2;go_ret
 simp_all
theorem iw{z:dT}(h:aS z=Y):z.size<41/\z.size<=1000:=by
 have:=jp h;omega
def GH(A:H->Prop)(st:St)(key:dT)(n:eV)(w:Wj)(e:Ending)(w':Wj):Prop:=
  Below w.heap.size w w' /\
  ((aS key=Z/\e=Nm (Qb #[M N 0 0,I K 0,I K 2])) \/
   (aS key=Y/\db (st.f key.data.toList) n=N/\e=Nm (Qb #[M N 0 0,I K 0,I K 5])) \/
   (aS key=Y/\∃ (r:H) (a:gI Wu) (b:H),db (st.f key.data.toList) n=J r/\r<(st.f key.data.toList).length/\bO A w' (M a (st.f key.data.toList).length b) (st.f key.data.toList) /\
      e=Nm (Qb #[M a (st.f key.data.toList).length b,I K r,I K 0])))
theorem vD(A:H->Prop)B i s(b:dT)(n:eV)w(z:b.size<=vx)(a:aP A w B i)(y:Inv i s)(hs:s<=2199023255340):
  Calls Yq.prog 40 #[O (J ⟨B,0,N⟩),U b,I K n] w (GH A i b n w):=by
 have⟨p,c0,D⟩:=a.tree;have j:=mi b w z;cases c:aS b with
 |false=>
  rw[c]at j;go_enter (Yq.nq QM),QB;go_wp2_with (go_at_call 34;refine j.m ?_;rintro e G ⟨rfl,rfl⟩)
  go_ret3
  exact⟨bR _ _,PJ ⟨(aI c).o,Q⟩⟩
 |true=>
  rw[c]at j;have HK:Hid (aS b=Y):=c;have x:=iw c;clear c;have HG:=oG A 41 p i.f b w x.1 z D;have hle:=y.len b.data.toList;have k:=y.sorted b.data.toList;clear D;go_enter (Yq.nq QM),QB;go_wp2_with (go_at_call 34;refine j.m ?_;rintro e G ⟨rfl,rfl⟩)
  refine HG.m ?_;rintro e F ⟨L,rfl,u,q⟩;have HF:=DE A L (i.f b.data.toList) n F u k (by omega);obtain⟨P,R,rfl,-⟩:=id u;have HH:=jf u k;clear u k HG;go_wp2_with fail
  refine HF.m ?_;rintro e w2 ⟨r,v,rfl,l⟩;have d:=GG v HH.o.2;have HB:=aI (q.t (l.m q.size));cases h:Bv (i.f b.data.toList) n r with
  |true=>
   rw[h]at d;have HP:Hid (db (i.f b.data.toList) n=J r/\r<(i.f b.data.toList).length):=⟨by simpa using d,(jp h).1⟩;clear d v HF h;go_wp2
   go_ret3
   exact⟨HB.o,PI (PI ⟨HK.o,r,P,R,HP.o.1,HP.o.2,HH.o.1.on l,Q⟩)⟩
  |false=>
   rw[h]at d;have HP:Hid (db (i.f b.data.toList) n=N):=show db (i.f b.data.toList) n=N by simpa using d
   clear d v HF h;go_wp2
   go_ret3
   exact⟨HB.o,PI (PJ ⟨HK.o,HP.o,Q⟩)⟩
theorem ry(c:eV)(b:dT)(a:gL)w:(Instr.field 62 (Qa #[I K c,U b,C a]) 2).run Yq.prog w=.ok (C a) w:=by kernel_rfl
def mj(st:St)(key:dT):Ver×eV:=
 if aS key=Z then(eF,2)
 else match(st.f key.data.toList).getLast? with
  |none=>(eF,5)
  |some v=>if v.mark then(eF,5)else(v,0)
theorem GI(A:H->Prop)k0 h s(b:dT)w(hk:b.size<=vx)(a:aP A w k0 h)(hI:Inv h s)(hs:s<=2199023255340):
  Calls Yq.prog 11 #[O (J ⟨k0,0,N⟩),U b] w λe B=>e=Nm (Qb #[cH (mj h b).1,I K (mj h b).2])/\Below w.heap.size w B:=by
 have B0:Below w.heap.size w (w.alloc (E #[I K 0,U ⟨#[]⟩,C Z] 62)):=(bR _ w).alloc (lR _) _;have S1:=a.on B0;have⟨p,c0,hN⟩:=S1.tree;have r:=mi b (w.alloc (E #[I K 0,U ⟨#[]⟩,C Z] 62)) hk;have a0:(w.alloc (E #[I K 0,U ⟨#[]⟩,C Z] 62)).cell? ⟨w.heap.size,0,N⟩=J (I K 0):=by rw[cA (w:=w) _ _ w.heap.size 0 Q];rfl
 have a1:(w.alloc (E #[I K 0,U ⟨#[]⟩,C Z] 62)).cell? ⟨w.heap.size,1,N⟩=J (U ⟨#[]⟩):=by rw[cA (w:=w) _ _ w.heap.size 1 Q];rfl
 have a2:(w.alloc (E #[I K 0,U ⟨#[]⟩,C Z] 62)).cell? ⟨w.heap.size,2,N⟩=J (C Z):=by rw[cA (w:=w) _ _ w.heap.size 2 Q];rfl
 have R:∀j,(w.alloc (E #[I K 0,U ⟨#[]⟩,C Z] 62)).frozen? ⟨w.heap.size,j,N⟩=false:=λj=>pt (w:=w) _ _ w.heap.size j Q
 have u:=aI B0;have q:w.heap.size<(w.alloc (E #[I K 0,U ⟨#[]⟩,C Z] 62)).heap.size:=by simp
 clear B0 a S1;cases i:aS b with
 |false=>
  rw[i]at r;have HR:Hid (mj h b=(eF,2)):=show mj h b=(eF,2)by simp[mj,i]
  clear i;go_enter (Yq.nq QQ),QC;go_wp2_with (go_at_call 34;refine r.m ?_;rintro e B ⟨rfl,rfl⟩)
  refine vf (v:=Qb #[cH (mj h b).1,I K (mj h b).2]) (by rw[HR.o];simp[results,P9,go_sem,cH,eF]) Q ⟨Q,?_⟩;exact u.o
 |true=>
  rw[i]at r;have aa:=iw i;have HK:=aI i;clear i;have HG:=oG A 41 p h.f b _ aa.1 hk hN;have hle:=hI.len b.data.toList;clear hN;go_enter (Yq.nq QQ),QC;go_wp2_with (go_at_call 34;refine r.m ?_;rintro e B ⟨rfl,rfl⟩)
  refine HG.m ?_;generalize w.alloc (E #[I K 0,U ⟨#[]⟩,C Z] 62)=W0 at *;rintro e x ⟨hv,rfl,hh,l⟩;have P:=ag l a0;have L:=ag l a1;have G:=ag l a2;have X:=(l.frozen (p:=⟨w.heap.size,0,N⟩) q).t (R 0);have g1:=(l.frozen (p:=⟨w.heap.size,1,N⟩) q).t (R 1);have V:=(l.frozen (p:=⟨w.heap.size,2,N⟩) q).t (R 2);have hb:Below w.heap.size w x:=u.o.t (l.m u.o.size);have k:w.heap.size<x.heap.size:=lL q l.size;have HB:=aI hb;clear hb l a0 a1 a2 R q u r HG c0;by_cases c:h.f b.data.toList=[]
  .have HR:Hid (mj h b=(eF,5)):=show mj h b=(eF,5)by simp[mj,HK.o,c]
   have he:(h.f b.data.toList).isEmpty=true:=by rw[c];rfl
   clear hh c;go_wp2;refine vf (v:=Qb #[cH (mj h b).1,I K (mj h b).2]) (by rw[HR.o];simp[results,P9,go_sem,cH,eF,P,L,G]) Q ⟨Q,?_⟩;exact((HB.o.setCell (lR _) _).setCell (lR _) _).setCell (lR _) _
  .have HN:Hid (∀z:Wj,Below x.heap.size x z->Calls Yq.prog 39 #[hv] z λe B=>e=Nm (cH ((h.f b.data.toList).getLast c))/\Below z.heap.size z B):=λz hq=>
    m9 A hv _ z (hh.on hq) c (by omega)
   have he:(h.f b.data.toList).isEmpty=false:=by simp[c]
   obtain⟨v,y⟩:∃v,v=(h.f b.data.toList).getLast c:=⟨_,Q⟩;have F:(h.f b.data.toList).getLast?=J v:=by rw[y,PO c]
   have HR:Hid (mj h b=if v.mark then(eF,5)else(v,0)):=show mj h b=_ by simp[mj,HK.o,F]
   rw[<-y]at HN;obtain⟨nm,bd,mk⟩:=v;obtain⟨ha,hc,rfl,-⟩:=hh;clear c y F;have hfm:=ry nm bd;cases mk with
   |true=>
    go_wp2_with fail
    refine(HN.o x (bR _ _)).m ?_;rintro e w2 ⟨rfl,d⟩;have T:=ag d P;have e1:=ag d L;have e2:=ag d G;have f0:=(d.frozen (p:=⟨w.heap.size,0,N⟩) k).t X;have f1:=(d.frozen (p:=⟨w.heap.size,1,N⟩) k).t g1;have f2:=(d.frozen (p:=⟨w.heap.size,2,N⟩) k).t V;simp only[cH];go_wp2;refine vf (v:=Qb #[cH (mj h b).1,I K (mj h b).2]) (by rw[HR.o];simp[results,P9,go_sem,cH,eF,T,e1,e2]) Q ⟨Q,?_⟩;exact(((HB.o.t (d.m HB.o.size)).setCell (lR _) _).setCell (lR _) _).setCell (lR _) _
   |false=>
    go_wp2_with fail
    refine(HN.o x (bR _ _)).m ?_;rintro e w2 ⟨rfl,d⟩;simp only[cH];go_wp2_with fail
    refine(HN.o w2 d).m ?_;rintro e w3 ⟨rfl,D⟩;have n:Below x.heap.size x w3:=d.t (D.m d.size);have T:=ag n P;have e1:=ag n L;have e2:=ag n G;have f0:=(n.frozen (p:=⟨w.heap.size,0,N⟩) k).t X;have f1:=(n.frozen (p:=⟨w.heap.size,1,N⟩) k).t g1;have f2:=(n.frozen (p:=⟨w.heap.size,2,N⟩) k).t V;have ab:=aI n;clear d D n P L G X g1 V;simp only[cH];go_wp2;refine vf (v:=Qb #[cH (mj h b).1,I K (mj h b).2]) (by rw[HR.o];simp[results,P9,go_sem,cH,T,e1,e2]) Q ⟨Q,?_⟩;exact(((HB.o.t (ab.o.m HB.o.size)).setCell (lR _) _).setCell (lR _) _).setCell (lR _) _
theorem cs{q}{u}(h:w.cell? q=J u):(w.setCell q v).cell? q=J v:=by first|exact sT w q v h|exact sT _ _ _ h
theorem co{q r}{u}(c:q≠r)(h:w.cell? r=J u):(w.setCell q v).cell? r=J u:=(cO w q r v c).t h
theorem fs{q r}(h:w.frozen? r=Z):(w.setCell q v).frozen? r=false:=by simp_all
structure aY (w:Wj)(b:H)(x y z:Wx):Prop where
 c0:w.cell? ⟨b,0,N⟩=J x
 c1:w.cell? ⟨b,1,N⟩=J y
 c2:w.cell? ⟨b,2,N⟩=J z
 fz:∀j,w.frozen? ⟨b,j,N⟩=Z
theorem aY.on{w'}{x z}(h:aY w b x y z)(a:Below w.heap.size w w'):aY w' b x y z:=
 ⟨ag a h.c0,ag a h.c1,ag a h.c2,λj=>(a.frozen (p:=⟨b,j,N⟩) (show b<w.heap.size from bC w ⟨b,0,N⟩ h.c0)).t (h.fz j)⟩
theorem aY.lt{x}(h:aY w b x y v):b<w.heap.size:=bC w ⟨b,0,N⟩ h.c0
theorem aY.NY{x z}(h:aY w b x y z)v:aY (w.setCell ⟨b,0,N⟩ v) b v y z:=
 ⟨cs h.c0,co (by simp) h.c1,co (by simp) h.c2,λj=>fs (h.fz j)⟩
theorem aY.N2{x z}(h:aY w b x y z)v:aY (w.setCell ⟨b,1,N⟩ v) b x v z:=
 ⟨co (by simp) h.c0,cs h.c1,co (by simp) h.c2,λj=>fs (h.fz j)⟩
theorem aY.NP{x z}(h:aY w b x y z)v:aY (w.setCell ⟨b,2,N⟩ v) b x y v:=
 ⟨co (by simp) h.c0,co (by simp) h.c1,cs h.c2,λj=>fs (h.fz j)⟩
theorem aY.MV{x z}(h:aY w b x y z)c o v(a:c≠b):aY (w.setCell ⟨c,o,N⟩ v) b x y z:=
 ⟨co (λe=>a (eW Rm e)) h.c0,co (λe=>a (eW Rm e)) h.c1,co (λe=>a (eW Rm e)) h.c2,λj=>fs (h.fz j)⟩
theorem ix(w:Wj)(x y z:Wx)(T:Ww):aY (w.alloc (E #[x,y,z] T)) w.heap.size x y z:=
 ⟨by rw[cA (w:=w) _ _ w.heap.size 0 Q];rfl,by rw[cA (w:=w) _ _ w.heap.size 1 Q];rfl,by rw[cA (w:=w) _ _ w.heap.size 2 Q];rfl,λj=>pt (w:=w) _ _ w.heap.size j Q⟩
theorem aP.cells{A:H->Prop}{w}{c}{b}(a:aP A w c b):∃p,aY w c (O p) (I K b.count) (I K b.last)/\ao A 41 w p b.f:=by
 have⟨p,d,e⟩:=a.tree;exact⟨p,⟨d,a.count,a.last,a.frozen⟩,e⟩
theorem eD{st}(h:aY w n (O p) (I K st.count) (I K st.last))(c:ao A 41 w p st.f)(d:∀b,A b->b≠n):aP A w n st:=
 ⟨d,⟨p,h.c0,c⟩,h.c1,h.c2,h.fz⟩
structure dq (w w':Wj)(k0:H):Prop where
 g:w.grownBy w' (J k0)
 lt:k0<w.heap.size
 t:∀j,3<=j->w'.cell? ⟨k0,j,N⟩=w.cell? ⟨k0,j,N⟩
theorem fe(c:k0<w.heap.size)(d:Below w.heap.size w W0):dq w W0 k0:=
 ⟨aO d _,c,λj _=>cB (w:=w) (w':=W0) (a:=⟨k0,j,N⟩) (d.block k0 c)⟩
theorem JV(a:k0<w.heap.size):dq w w k0:=fe a (bR _ _)
theorem tw{c}(h:dq a W0 k0)(e:dq W0 c k0):dq a c k0:=⟨cG h.g e.g,h.lt,λj d=>(e.t j d).t (h.t j d)⟩
theorem gO(h:dq w a k0)(c:Below a.heap.size a W0):dq w W0 k0:=tw h (fe (by have:=h.g.size;have:=h.lt;omega) c)
theorem GJ(h:dq w a k0)o:dq w (a.alloc o) k0:=gO h ((bR _ _).alloc (lR _) _)
theorem rz(h:dq w a k0)o v(ho:o<3:=by decide):dq w (a.setCell ⟨k0,o,N⟩ v) k0:=
 ⟨bU h.g _ _,h.lt,λj b=>(cO a ⟨k0,o,N⟩ ⟨k0,j,N⟩ v (λe=>by have:=eW Addr.off e;simp at this;omega)).t (h.t j b)⟩
theorem vE(h:dq w a k0)(f:w.heap.size<=b)o v:dq w (a.setCell ⟨b,o,N⟩ v) k0:=
 ⟨tu h.g f _ _,h.lt,λj d=>(cO a ⟨b,o,N⟩ ⟨k0,j,N⟩ v (λe=>by have c:=eW Rm e;have h2:=h.lt;simp at c;omega)).t (h.t j d)⟩
theorem pR(hw3:w.heap.size<=W0.heap.size)(j:∀b,A b->b≠c)(hk:c<w.heap.size)(h:ao (Grow (λb=>(A b/\b<w.heap.size)\/w.heap.size<=b) W0) 41 e p F)o v:
  ao (Grow A w) 41 (e.setCell ⟨c,o,N⟩ v) p F:=by
 refine ao.Mr (λb k _=>?_) 41 p F h;rcases k with⟨⟨i,d⟩|a,_⟩|a;exact⟨PJ ⟨i,d⟩,bS _ _ _ _ (j b i)⟩;exact⟨PI a,bS _ _ _ _ (by show b≠c;omega)⟩;exact⟨PI (by omega),bS _ _ _ _ (by show b≠c;omega)⟩
theorem iy(c:∀b,A b->b≠n)(hk:n<w.heap.size):∀b,Grow A w b->b≠n:=by
 rintro b (⟨h,_⟩|h);exact c b h;omega
theorem zK(A:H->Prop)i d s(h:dT)(af:eV)(D:dT)(z:gL)w(hk:h.size<41)(c:aP A w i d)(hI:Inv d s)(hs:s<2199023255340)(hlx:¬d.last=9223372036854775807):
  Calls Yq.prog 36 #[O (J ⟨i,0,N⟩),U h,Qa #[I K af,U D,C z]] w λe x=>e=Nm (I K (d.last+1))/\aP (Grow A w) x i (bM d h D z)/\dq w x i:=by
 have⟨p,a,V⟩:=c.cells;have c0:=a.c0;have c1:=a.c1;have c2:=a.c2;have f0:=a.fz 0;have f1:=a.fz 1;have f2:=a.fz 2;have P:=c.lt;have l0:=hI.MN;have l1:=hI.MQ;have l2:=hI.Ni;have l3:=hI.Nj;have hle:=hI.len h.data.toList;have hne:¬w.heap.size=i:=by omega
 have hne':¬i=w.heap.size:=by omega
 obtain⟨W1,l⟩:∃W1,W1=((w.setCell ⟨i,2,N⟩ (I K (d.last+1))).setCell ⟨i,1,N⟩ (I K (d.count+1))).alloc (E #[I K (d.last+1),U D,C z] 62):=⟨_,Q⟩;have ab:dq w ((w.setCell ⟨i,2,N⟩ (I K (d.last+1))).setCell ⟨i,1,N⟩ (I K (d.count+1))) i:=rz (rz (JV P) _ _) _ _;have X:((w.setCell ⟨i,2,N⟩ (I K (d.last+1))).setCell ⟨i,1,N⟩ (I K (d.count+1))).heap.size=w.heap.size:=by simp[ta]
 have k:dq w W1 i:=by rw[l];exact GJ ab _
 have C1:aY W1 i (O p) (I K (d.count+1)) (I K (d.last+1)):=by
  rw[l];exact((a.NP _).N2 _).on ((bR _ _).alloc (lR _) _)
 have X1:aY W1 w.heap.size (I K (d.last+1)) (U D) (C z):=by
  rw[l,<-X];exact ix _ _ _ _ _
 have aa:ao A 41 W1 p d.f:=ao.Mr (JU k.g c.Mv) 41 p d.f V;have HG:=oG A 41 p d.f h W1 hk (by simp only[vx];omega) aa;have HS:=AB c V k C1 X1;have ac:=aI l;clear V c a ab X k C1 X1 aa l;go_enter (Yq.nq Tryz.func36),Tryz.ntmps36;go_wp2_with fail
 rw[<-ac.o];refine HG.m ?_;rintro e v ⟨hv,rfl,hh,F⟩;obtain⟨ha,hc,rfl,-⟩:=id hh;have⟨c,V,k,C1,X1⟩:=HS.o;have C2:=C1.on F;have X2:=X1.on F;have B:dq w v i:=gO k F;have a0:=C2.c0;have q0:=X2.c0;have q1:=X2.c1;have q2:=X2.c2;have HW:Hid (Calls Yq.prog 64 #[M ha (d.f h.data.toList).length hc,Qa #[I K (d.last+1),U D,C z]] v.drew λe x=>∃n r u,e=Nm (M n r u)/\bO (λb=>v.heap.size<=b) x (M n r u) (d.f h.data.toList++[⟨d.last+1,D,z⟩])/\Below v.heap.size v x):=by
  exact(DF A _ _ (d.last+1) D z v.drew (cw.Mr hh (λb R T=>⟨R,Q⟩)) (by omega)).m (λe x ⟨n,r,u,R,T,h3⟩=>⟨n,r,u,R,T,(bR _ v).drew.t h3⟩)
 have HT:Hid (∀ (y:Wj) (n:gI Wu) (r u:H),Below v.heap.size v y->bO (λb=>v.heap.size<=b) y (M n r u) (d.f h.data.toList++[⟨d.last+1,D,z⟩]) ->
   Calls Yq.prog 42 #[Qa #[O p],U h,M n r u] y λe x=>∃q,e=Nm (Qa #[O q])/\Below y.heap.size y x/\ao (Grow (λb=>(A b/\b<w.heap.size)\/w.heap.size<=b) y) 41 x q (upd d.f h.data.toList (d.f h.data.toList++[⟨d.last+1,D,z⟩]))):=λy n r u j L=>by
  refine vz _ 41 p d.f h _ _ y (ao.Mr (λb R T=>⟨PJ ⟨R,T⟩,(gO B j).g.block b T (by intro e;cases e;exact c.Mv i R Q)⟩) 41 p d.f V) hk (by omega) (cw.Mr L (λb R T=>⟨PI ?_,Q⟩)) (by simp);have:=B.g.size;omega
 have HC:=xh C2 X2 B;clear c V k C1 X1 C2 X2 B hh F HG;go_wp2_with fail
 go_region_with (first
  |(go_at_call 64;refine HW.o.m ?_;rintro e y ⟨n,r,u,rfl,L,j⟩;have b0:=ag j a0)
  |(go_at_call 42;refine(HT.o _ n r u j L).m ?_;rintro e w4 ⟨q,rfl,G,ad⟩;have d0:=ag G b0;have D4:=(HC.o.2.1.on j).on G;have E4:=(HC.o.1.on j).on G;have r0:=D4.c0;have r1:=E4.c0;have r2:=E4.fz 0))
 all_goals
  go_wp2;go_ret;exact⟨Q,eD (p:=q) (E4.NY _) (pR (by have:=HC.o.2.2.g.size;have:=j.size;omega) HS.o.1.Mv P ad _ _) (iy HS.o.1.Mv P),rz (gO (gO HC.o.2.2 j) G) _ _⟩
end
section
open Go.Conc Go.ConcX Go.ConcX.Gen Go.RowKit
structure ItD where
 kind:eV
 text:dT
 MG:eV
def itVal(i:ItD):Wx:=Qa #[I K i.kind,U i.text,I K i.MG]
def aq(l:S ItD):S Wx:=l.flatMap λi=>[I K i.kind,U i.text,I K i.MG]
theorem ff l:(aq l).length=l.length*3:=by
 induction l with
 |nil=>rfl
 |cons i l ih=>simp[aq]at ih ⊢;omega
theorem nN l i:aq (l++[i])=aq l++[I K i.kind,U i.text,I K i.MG]:=by simp[aq]
theorem Yq.Nu:(Yq.prog.info? 117).map (λi=>(i.zero,i.size,i.bytes))=J (J (Qa #[I K 0,U ⟨#[]⟩,I K 0]),3,32):=by kernel_rfl
def dJ(n:H)(l:Lst)(a:eV)(c:H)(b:eV)(u:H->Wx):g6 Wx:=
 #[lV l,I K a,ptr n,Wo,ptr (n+1),ptr (n+2),I K (IntKind.i64.wrap (a*l.size)),I K b,u 8,I K a,O (J ⟨n,6,N⟩),I K l.size,I K (IntKind.i64.wrap (a*l.size)),O (J ⟨n,2,N⟩),qV l.vs l.p l.d l.af,O (J ⟨n,1,N⟩),sV l.root,.chan (J c),u 18,u 19,u 20,u 21,u 22,u 23,u 24,u 25,u 26,u 27,u 28,u 29,u 30,u 31,u 32,u 33,u 34,u 35,u 36,u 37,u 38,u 39,Wo,Wo,Wo,Wo,Wo,Wo,Wo,Wo,Wo]
theorem kH{b:Wy}{a0:Act}{k:S Item}{cs:S Wy}{f:gL}{ops:g6 Oper}{e:S H}{o:Oper}{cases:g6 CommCase}{c:gL}{d:CommShape}(l:ops[i]?=J o)(j:QY o (yielded ops a0.tmps)=Y)
  (hr:(xv a0.eval o).run P w=.ok (.comm cases c d) W0):
  ∃m,stepG P f (G (b.at a0 (.inRegion ops (i::e)::k)) cs) w=.comm (G (b.at a0 (.inRegion ops (i::e)::k)) cs) cases c d W0 m:=by
 rw[stepG_oper l j];simp only[stepG.apply,G,Frame.at,GStep.after,kr]
 simp_all
theorem JW{a}{q}{rest}(h17:a.eval (Qe 17)=.chan (J c))(hsz:a.tmps.size=49)(hrow:w.heap[c]?=J (.chan k (v::rest).toArray Y s q Z))
  (h:Q .normal ((a.put (J 18) (Qb #[v,C Y])).put (J 19) (C Y)) (w.setChan c k rest.toArray Y s (q+1) Z)):(Rf 5 gr Z).wp Yq.prog Q a w:=by
 refineλb kk cs=>⟨.normal,_,_,h,QS xc ?_⟩
 have hr:PQ gr.size=[0,1]:=rfl;obtain⟨es,hcomm⟩:∃es,stepG Yq.prog Y (G (b.at a (.inRegion gr [0,1]::kk)) cs) w=.comm (G (b.at a (.inRegion gr [0,1]::kk)) cs) #[rcase c (Qa #[I K 0,U ⟨#[]⟩,I K 0])] Y (.recv Y) w es:=by
  refine kH (o := { dst := J 18, op := .recv 151 (Qe 17) Y, type := 0, pos := "listing.go:108", after := #[], guard := N }) rfl rfl ?_
  have e : xv a.eval { dst := J 18, op := .recv 151 (Qe 17) Y, type := 0, pos := "listing.go:108", after := #[], guard := N } = (do
   let .chan _ elem ← underlying 151 | stuck "receive: channel type expected"
   pure (.comm #[{chan:=a.eval (Qe 17),send:=N,zero:=<-zeroValue elem}] Y (.recv Y))):=rfl
  rw[e,h17];simp[go_sem,rcase]
 have st1:=step_lone_recv_buf Y hcomm hrow (by simp);have e1:(v::rest).toArray.extract 1 (v::rest).toArray.size=rest.toArray:=by simp
 have e2:(v::rest).toArray.getD 0 Wo=v:=rfl;rw[e1,e2,Frame.finish_at]at st1;refine QS st1 ?_;have hput:(a.put ((gr[0]?).bind (·.dst)) (got Y v Y))=a.put (J 18) (Qb #[v,C Y]):=rfl;have h18:(a.put (J 18) (Qb #[v,C Y])).eval (Qe 18)=Qb #[v,C Y]:=by
  simp[Re,Rd,hsz]
 have st2 := xS (P := Yq.prog) (ops := gr) (a := a.put (J 18) (Qb #[v, C Y])) (i := 1) (rest := []) (b := b) (k := kk) (cs := cs) (w := w.setChan c k rest.toArray Y s (q + 1) Z) (w' := w.setChan c k rest.toArray Y s (q + 1) Z) (v := C Y) (o := { dst := J 19, op := .extract (Qe 18) 1, type := 4, pos := "listing.go:108", after := #[{ on := 0, ground := .data }], guard := N }) rfl rfl (by
  have e : xv (a.put (J 18) (Qb #[v, C Y])).eval { dst := J 19, op := .extract (Qe 18) 1, type := 4, pos := "listing.go:108", after := #[{ on := 0, ground := .data }], guard := N } = (do let v ← Instr.extract ((a.put (J 18) (Qb #[v, C Y])).eval (Qe 18)) 1; pure (.value v)) := rfl
  rw[e,h18];rfl)
 exact QS st2 (.one xb)
structure PgI (w0 w:Wj)(n c:H)(items:S ItD)(rest:S Wx):Prop where
 os:w.os=w0.os
 size:w0.heap.size<=w.heap.size
 block:∀b,b<w0.heap.size->b≠c->b≠n+2->w.heap[b]?=w0.heap[b]?
 ch:∃k s q,w.heap[c]?=J (.chan k rest.toArray Y s q Z)
 row:∃sv,w.cell? ⟨n+2,0,N⟩=J sv/\w.ownsRow w0.heap.size 117 3 sv items.length (aq items)
 tok:w.cell? ⟨n+2,1,N⟩=J (U ⟨#[]⟩)
 fz:∀j,w.frozen? ⟨n+2,j,N⟩=Z
def jA(l:Lst)(a k:eV):gL:=decide (IntKind.i64.wrap (IntKind.i64.wrap (a*l.size)-l.size)<k)&&decide (k<=IntKind.i64.wrap (a*l.size))
theorem PgI.setChan{q}{f}{rest}(d:PgI W0 w n c f (v::rest))(A:c<W0.heap.size)(hn:n+2<c):PgI W0 (w.setChan c k rest.toArray Y s q Z) n c f rest:=by
 have e:∀b,b≠c->(w.setChan c k rest.toArray Y s q Z).heap[b]?=w.heap[b]?:=λb m=>aR _ _ _ _ _ _ _ _ m
 have i:=λb j m=>cB (a:=⟨b,j,N⟩) (e b m)
 refine⟨d.os,by rw[size_setChan];exact d.size,λb p l y=>(e b l).t (d.block b p l y),⟨_,_,_,heap_setChan _ _ _ _ _ _ _ _ (lL A d.size)⟩,?_,(i _ _ (by omega)).t d.tok,λj=>(fB (a:=⟨n+2,j,N⟩) (e _ (by simp;omega))).t (d.fz j)⟩;have⟨x,p,l⟩:=d.row;refine⟨x,(i _ _ (by omega)).t p,l.1,?_⟩;rcases l.2 with h|⟨g,r,o,rfl,m,z,rest⟩;exact Qc h;exact Qd ⟨g,r,o,Q,m,(e g (by omega)).t z,rest⟩
theorem PgI.alloc{f}{rest}(d:PgI W0 w n c f rest)(v:c<W0.heap.size)(hn:n+2<c)o:PgI W0 (w.alloc o) n c f rest:=by
 have e:=λb u=>bA w o b (lL u d.size)
 have⟨k,s,q,h⟩:=d.ch;have⟨p,i,l⟩:=d.row;refine⟨d.os,lT d.size (by simp),λb i l r=>(e b i).t (d.block b i l r),⟨k,s,q,(e c v).t h⟩,⟨p,(cB (a:=⟨n+2,0,N⟩) (e _ (by simp;omega))).t i,l.alloc o⟩,(cB (a:=⟨n+2,1,N⟩) (e _ (by simp;omega))).t d.tok,λj=>(fB (a:=⟨n+2,j,N⟩) (e _ (by simp;omega))).t (d.fz j)⟩
theorem PgI.app{u:Wj}{f:S ItD}{rest:S Wx}{i:ItD}{G r:Wx}(d:PgI u w n c f rest)(P:c<u.heap.size)(hn:n+2<c)(v:w.grownBy W0 G.ownBlock)(z:∀k,G.ownBlock=J k->u.heap.size<=k)(D:W0.ownsRow u.heap.size 117 3 r (f.length+1) (aq f++[I K i.kind,U i.text,I K i.MG])):PgI u (W0.setCell ⟨n+2,0,N⟩ r) n c (f++[i]) rest:=by
 have l:=λb h=>v.block b (lL h d.size) (λe=>by have:=z b e.s;omega)
 have m:∀b,b≠n+2->(W0.setCell ⟨n+2,0,N⟩ r).heap[b]?=W0.heap[b]?:=λb h=>bS _ _ _ _ h
 have⟨k,s,q,h⟩:=d.ch;have⟨sv0,x,F⟩:=d.row;have B:(W0.setCell ⟨n+2,0,N⟩ r).heap.size=W0.heap.size:=by simp
 refine⟨((bR 0 W0).setCell (p:=⟨n+2,0,N⟩) (Ro _) r).os.t (v.os.t d.os),by rw[B];exact lT d.size v.size,λb x F L=>(m b L).t ((l b x).t (d.block b x F L)),⟨k,s,q,(m c (by omega)).t ((l c P).t h)⟩,⟨r,cs ((cB (a:=⟨n+2,0,N⟩) (l _ (by simp;omega))).t x),?_⟩,co (by simp) ((cB (a:=⟨n+2,1,N⟩) (l _ (by simp;omega))).t d.tok),λj=>fs ((fB (a:=⟨n+2,j,N⟩) (l _ (by simp;omega))).t (d.fz j))⟩;rw[nN,lP,lS];refine⟨D.1,?_⟩;rcases D.2 with h|⟨g,A,y,rfl,z,v,rest⟩;exact Qc h;exact Qd ⟨g,A,y,Q,z,(m g (by omega)).t v,rest⟩
theorem na(w:Wj)(a c b:Wx)(T:Ww):∀j u,[a,c,b][j]?=J u->(w.alloc (E #[a,c,b] T)).cell? ((⟨w.heap.size,0,N⟩:Wu).add j)=J u:=by
 intro j u hj;rw[Rn,cA (w:=w) _ _ w.heap.size _ Q]
 grind
theorem nb(n:eV):IntKind.i64.wrap n=wrap64 n:=by unfold wrap64;exact IntKind.wrap_i64 n
def JX(l:Lst)(f:eV)(n c d:H)(i:ItD)(rest:S Wx)(b:S ItD)(w0:Wj)(e:Exit)(a:Act)(w':Wj):Prop:=
 e=.normal/\a=⟨dJ n l f c ((d:eV)+1) (λi=>a.tmps.getD i Wo),[]⟩/\PgI w0 w' n c (if jA l f ((d:eV)+1)then b++[i]else b) rest
theorem vF l(pn:eV)n c G i j f(u:H->Wx)y w(hn:n+2<c)(hc:c<y.heap.size)(F:y.cell? ⟨n,6,N⟩=J (I K l.size))(b:PgI y w n c f (itVal i::j))(hlen:f.length<=1000)(hcnt:G<=1000):
  dB.wp Yq.prog (JX l pn n c G i j f y) ⟨dJ n l pn c G u,[]⟩ w:=by
 have⟨kc,A,qc,D⟩:=b.ch;show(Code.seq (.region 5 gr Z) (dm dB)).wp Yq.prog _ _ _;refine wp_seq (JW (c:=c) Q Q D ?_);have I1:=b.setChan (k:=kc) (s:=A) (q:=qc+1) hc hn;generalize w.setChan c kc j.toArray Y A (qc+1) Z=R at I1 ⊢;clear D b;have z:=aI I1;have⟨sv,ai,m⟩:=I1.row;have av:=I1.fz 0;have B:=(cB (a:=⟨n,6,N⟩) (I1.block n (by omega) (by omega) (by omega))).t F;clear I1;obtain⟨num,root,vs,p,d,af,ab,left⟩:=l;obtain⟨x,v,MG⟩:=i;simp only at B;have⟨i0,hi,ad,aj,al⟩:=xt Yq.Nu;obtain⟨T,V,A,rfl⟩:∃T V A,sv=M T V A:=by
  rcases m.2 with⟨rfl,-⟩|⟨g,cap,cur,rfl,-⟩;exact⟨_,_,_,Q⟩;exact⟨_,_,_,Q⟩
 have P:Hid (∀k,(Value.slice T V A).ownBlock=J k->y.heap.size<=k):=λk h=>(m.lt k h).1
 have hnl:=lL (by omega) z.o.size;have hnl2:=lL (by omega) z.o.size;obtain⟨O1,X⟩:∃O1,O1=Obj.cells #[I K x,U v,I K MG] 117:=⟨_,Q⟩;have r:=aI X;have L:Hid (PgI y (R.alloc O1) n c f j):=z.o.alloc hc hn _;have ac:Hid (PgI y ((R.alloc O1).alloc O1) n c f j):=L.o.alloc hc hn _;have kA:(R.alloc O1).cell? ⟨n,6,N⟩=J (I K ab):=ag ((bR _ _).alloc (lR _) _) B;have kB:(R.alloc O1).cell? ⟨n+2,0,N⟩=J (M T V A):=ag ((bR _ _).alloc (lR _) _) ai;have ap:Hid (((R.alloc O1).alloc O1).ownsRow y.heap.size 117 3 (M T V A) f.length (aq f)):=(m.alloc _).alloc _;clear m;rw[X]at kA kB;show Ri Yq.prog (dm dB) _ _ _;unfold dJ qV sV ptr lV aQ itVal;simp;dsimp only[dB,cIn,cn,cN,QD,iG,dm,pE,Rb];go_wp2_with (at_builtin;rw[<-r.o];refine wpList_append_own _ Q _ _ 44 Q y.heap.size 117 i0 _ 3 32 (Yq.u Tryz.underlying44) hi ad aj al Q (by decide) _ _ _ Q ap.o ⟨(R.alloc O1).heap.size,0,N⟩ 1 1 [I K x,U v,I K MG] ?qa Q ?qb ?qc ?qd ?qe ?qf ?_)
 case qc=>simp[Value.oneCell']
 case qd=>simp[vx];omega
 case qe=>omega
 case qf=>have:=z.o.size;omega
 intro v' w3 ho hg _;rw[<-r.o]at hg;obtain⟨g',aa,rfl⟩:=ownsRow_succ ho;have hcel:w3.cell? ⟨n+2,0,N⟩=J (M T V A):=by
  refine hg.cell (ag ((bR _ _).alloc (lR _) _) (by rw[r.o];exact kB)) (λe=>?_);have:=P.o _ e.s;simp at this;omega
 have hfr:w3.frozen? ⟨n+2,0,N⟩=false:=by
  rw[bj hg ⟨n+2,0,N⟩ (by simp;omega) (λe=>by have:=P.o _ e.s;simp at this;omega)];exact ac.o.fz 0
 have ar:Hid (PgI y (w3.setCell ⟨n+2,0,N⟩ (M (J ⟨g',0,N⟩) (f.length+1) aa)) n c (f++[⟨x,v,MG⟩]) j):=ac.o.app hc hn hg P.o ho;clear ho hg av;go_wp2_with fail
 refine⟨Q,by simp only[dJ,nb];rfl,?_⟩;rw[if_pos (by simp[jA,nb];exact⟨by assumption,by assumption⟩)];exact ar.o;refine⟨Q,by simp only[dJ,nb];rfl,?_⟩;rw[lj (by simp only[jA,nb,bT,nF];rintro⟨h1,h2⟩;omega),<-r.o];exact L.o;refine⟨Q,by simp only[dJ,nb];rfl,?_⟩;rw[lj (by simp only[jA,nb,bT,nF];rintro⟨h1,h2⟩;omega),<-r.o];exact L.o
def dV(l:Lst)(a:eV):H->S ItD->S ItD
 |_,[]=>[]
 |k,i::r=>(if jA l a ((k:eV)+1)then[i]else[])++dV l a (k+1) r
noncomputable def tz(a:Act):Wy:=(base 44).at a [.code dB,.inLoop dB,.inBlock 0,.code (dm cN)]
theorem La(n c:H)(l:Lst)(a:eV)(cs:S Wy)(w:Wj):Steps Yq.prog (lone (pF2 n l a c) cs w) (lone (tz ⟨dJ n l a c 0 (λ_=>Wo),[]⟩) cs w):=
 .head xb (.head (step_block (id:=0) (c:=.loop dB)) (.one step_loop))
theorem Lb a cs w:Steps Yq.prog (lone (tz a) cs w) (lone (mb a [0,1]) cs w):=
 .head (step_seq (x:=.region 5 gr Z) (y:=dm dB)) (.one xc)
theorem GK l(m:eV)n c k cs(A:n+2<c)(y:c<k.heap.size)(j:k.cell? ⟨n,6,N⟩=J (I K l.size)):
  ∀ (h:S ItD) (d:H) (f:S ItD) (u:H->Wx) (w:Wj),PgI k w n c f (h.map itVal)->f.length<=d->d+h.length<=1000 ->
   ∃p o,Steps Yq.prog (lone (tz ⟨dJ n l m c d u,[]⟩) cs w) (lone (tz ⟨dJ n l m c ((d+h.length:H):eV) p,[]⟩) cs o)/\PgI k o n c (f++dV l m d h) []:=by
 intro h;induction h with
 |nil=>exactλd f u w b _ _=>⟨u,w,by simpa using Steps.refl _ _,by simpa[dV]using b⟩
 |cons i r ih=>
  intro d f u w b hi q;have q:d+(r.length+1)<=1000:=q;obtain⟨e,a,v,⟨rfl,x,I1⟩,s⟩:=vF l m n c d i (r.map itVal) f u k w A y j b (by omega) (by omega) (base 44) [.inLoop dB,.inBlock 0,.code (dm cN)] cs;rw[x]at s;obtain⟨p,o,hs',I'⟩:=ih (d+1) _ _ v I1 (by split<;>(try simp)<;>omega) (by omega);refine⟨p,o,Steps.t s (.head step_inLoop ?_),?_⟩;have e:(((d+1:H):eV))=(d:eV)+1:=rfl;have z:d+(i::r).length=d+1+r.length:=by grind
  rwa [z]
  rw[dV]
  grind
theorem GL L(h:∀v∈L,∃ (a b:eV)(s:dT),v=Qa #[I K a,U s,I K b]):∃Mt:S ItD,L=Mt.map itVal:=by
 induction L with
 |nil=>exact⟨[],Q⟩
 |cons v L ih=>
  obtain⟨a,b,s,rfl⟩:=h v (by simp);obtain⟨Mt,rfl⟩:=ih (λv c=>h v (by simp[c]));exact⟨⟨a,s,b⟩::Mt,Q⟩
theorem vG{Mt:S ItD}(a:w.heap[n+2]?=J (E #[M N 0 0,U ⟨#[]⟩] 69))(b:∃k s q,w.heap[c]?=J (.chan k (Mt.map itVal).toArray Y s q Z)):PgI w w n c [] (Mt.map itVal):=
 ⟨Q,lR _,λ_ _ _ _=>Q,b,⟨_,by simp[n8,a],World.ownsRow_nil _ _ _ _⟩,by simp[n8,a],λj=>by simp[sq,a]⟩
theorem JY:zD:=by
 intro l e L n c w cs m b o i _ h d;obtain⟨Mt,rfl⟩:=GL L m;have j:c<w.heap.size:=by
  grind
 have b:Mt.length<=1000:=by grind
 have⟨u',f,k,a⟩:=GK l e n c w cs o j (by simp[n8,i,aQ]) Mt 0 [] (λ_=>Wo) w (vG h d) (by simp) (by omega);exact⟨_,f,Steps.t (La n c l e cs w) (Steps.t k (Lb _ cs f)),Q,a.ch⟩
structure Qy where
 vs:gL
 p:dT
 d:dT
 af:dT
def oo(h:S Ver):Ver:=h.getLast?.getD ⟨0,⟨#[]⟩,Z⟩
def jB(a key:dT):gL:=!Op.bytesLess key.toList a.toList && !decide (key.toList=a.toList)
def iT(q:Qy)(k:S ey)(h:S Ver):gL:=jB q.af ⟨k.toArray⟩&&(q.vs || !(oo h).mark)
def dK(d:S ey):S ey->gI H
 | []=>if d=[]then J 0 else N
 |b::r=>if d.isPrefixOf (b::r)then J 0 else(dK d r).map (·+1)
def aV(q:Qy)(k:S ey):gI (S ey):=if q.d.size=0 then N else(dK q.d.data.toList (k.drop q.p.size)).map λi=>k.take (q.p.size+i+q.d.size)
def fF(k:S ey)(v:Ver):ItD:=⟨if v.mark then 4 else 3,⟨k.toArray⟩,v.num⟩
def bF(a:gL)(k:S ey)(h:S Ver):S ItD:=if a then h.reverse.map (fF k)else[⟨1,⟨k.toArray⟩,(oo h).num⟩]
def cx(q:Qy)(s:S ItD×S ey)(kh:S ey×S Ver):S ItD×S ey:=
 if iT q kh.1 kh.2 then
  match aV q kh.1 with
  |none=>(s.1++bF q.vs kh.1 kh.2,s.2)
  |some c=>if c=s.2 then s else(s.1++[⟨2,⟨c.toArray⟩,0⟩],c)
 else s
def aL(q:Qy)(l:S (S ey×S Ver)):S ItD×S ey:=l.foldl (cx q) ([],[])
def bV(q:Qy)(l:S (S ey×S Ver)):S ItD:=(aL q l).1
theorem nO q l x:aL q (l++[x])=cx q (aL q l) x:=by simp[aL]
theorem tA q s x(a:x.2≠[]):s.1.length<=(cx q s x).1.length/\(cx q s x).1.length<=s.1.length+x.2.length:=by
 have h1:=PK.2 a;unfold cx;split
 split
 simp[bF]
 grind
 grind
 omega
def fG(l:S (S ey×S Ver)):Nat:=(l.map λx=>x.2.length).sum
theorem rB q l(a:∀x∈l,x.2≠[]):∀s,s.1.length<=(l.foldl (cx q) s).1.length/\(l.foldl (cx q) s).1.length<=s.1.length+fG l:=by
 induction l with
 |nil=>intro s;simp[fG]
 |cons x r ih=>
  intro s;have h1:=tA q s x (a x (by simp));have b:=ih (λy c=>a y (by simp[c])) (cx q s x);simp[fG]at b ⊢;omega
theorem ml q l(a:∀x∈l,x.2≠[]):(bV q l).length<=fG l:=by
 have:=(rB q l a ([],[])).2;simpa[bV,aL]using this
theorem By q l a(b:∀x∈l,x.2≠[])(h:a <+:l):(aL q a).1.length<=(bV q l).length:=by
 obtain⟨r,rfl⟩:=h;unfold bV aL;rw[List.foldl_append];exact(rB q r (λx c=>b x (by simp[c])) _).1
theorem fg n:∀ (f:S ey->S Ver)(b:S ey),∀x∈dC n f b,x.2≠[]:=by
 induction n with
 |zero=>intro f b x a;simp[dC]at a
 |succ n ih=>
  intro f b x a;simp only[dC,PN,PM]at a
  grind
theorem ll a b:fG (a++b)=fG a+fG b:=by simp[fG]
theorem vH{F:Type}(l:S F)(g:F->S (S ey×S Ver)):fG (l.flatMap g)=(l.map λa=>fG (g a)).sum:=by
 induction l with
 |nil=>rfl
 |cons a r ih=>simp[ll,ih]
def tot(n:H)(f:S ey->S Ver):Nat:=fG (dC n f [])
theorem pS n:∀ (f:S ey->S Ver)(a cs:S ey),fG (dC n f a)=fG (dC n f cs):=by
 induction n with
 |zero=>intro f a cs;rfl
 |succ n ih=>
  intro f a cs;simp[dC,ll,vH];refine congr (eW HAdd.hAdd ?_) (eW PT (PP λb _=>ih _ _ _));split<;>simp[fG]
theorem tB n(f:S ey->S Ver):tot (n+1) f=(f []).length+(Ct.map λb=>tot n (λk=>f (b::k))).sum:=by
 unfold tot;simp[dC,ll,vH];refine congr (eW HAdd.hAdd ?_) (eW PT (PP λb _=>pS _ _ _ _));split<;>simp_all[fG]
theorem Lc(l:S ey)(g:ey->H)(b:ey)(h:b∈l):g b<=(l.map g).sum:=by
 induction l with
 |nil=>simp at h
 |cons a r ih=>
  grind
theorem JZ(l:S ey)(g d:ey->H)(b:ey)(k:l.Nodup)(h:b∈l)(i:∀c,c≠b->d c=g c):(l.map d).sum+g b=(l.map g).sum+d b:=by
 induction l with
 |nil=>simp at h
 |cons a r ih=>
  have⟨f,h2⟩:=List.nodup_cons.1 k;rcases PS.1 h with rfl|h;have e:=PP λc j=>i c (λe=>f (e▸j))
  grind
  grind
theorem Bz:Ct.Nodup:=lh.imp (λh e=>by subst e;exact lk h (by simp))
theorem DG n:∀ (f:S ey->S Ver)(a:S ey)(h:S Ver),a.length<n->tot n (upd f a h)+(f a).length=tot n f+h.length:=by
 induction n with
 |zero=>intro f a h d;omega
 |succ n ih=>
  intro f a h d;rw[tB,tB];cases a with
  |nil=>
   have e:(Ct.map λb=>tot n λk=>upd f [] h (b::k))=Ct.map λb=>tot n λk=>f (b::k):=by simp[upd]
   simp[upd];omega
  |cons c r=>
   have e0:upd f (c::r) h []=f []:=by simp[upd]
   have e1:(λk=>upd f (c::r) h (c::k))=upd (λk=>f (c::k)) r h:=by funext k;simp[upd]
   have e3:=JZ Ct (λb=>tot n λk=>f (b::k)) (λb=>tot n λk=>upd f (c::r) h (b::k)) c Bz (oE c) (λb i=>by simp[upd,i])
   grind
theorem yi p:∀ (n:H)(f:S ey->S Ver),tot (n-p.length) (λk=>f (p++k))<=tot n f:=by
 induction p with
 |nil=>intro n f;exact lR _
 |cons b p ih=>
  intro n f;cases n with
  |zero=>simp[tot,dC,fG]
  |succ n=>
   have h1:=ih n (λk=>f (b::k));have a:=Lc Ct (λb=>tot n λk=>f (b::k)) b (oE b);have e:n+1-(b::p).length=n-p.length:=by simp
   rw[e,tB];simp at a ⊢;omega
theorem J0 n:tot n (λ_=>[])=0:=by rw[tot,pL _ _ _ (λ_=>Q)];rfl
theorem zL(hne:h≠[]):oo h=h.getLast hne:=by simp[oo,PO hne]
theorem DH(a:eV)(c:dT)(b:gL)w:(Instr.field 62 (Qa #[I K a,U c,C b]) 0).run Yq.prog w=.ok (I K a) w:=by kernel_rfl
theorem GM(A:H->Prop)q k j h w(B:bO A w j h)(c:h≠[])(z:h.length<=2199023255552):
  Calls Yq.prog 113 #[qV q.vs q.p q.d q.af,U ⟨k.toArray⟩,j] w λe y=>e=Nm (C (iT q k h))/\Below w.heap.size w y:=by
 obtain⟨f,p,d,l⟩:=q;have HB:Hid (Below w.heap.size w (w.alloc (E #[C f,U p,U d,U l] 74))):=(bR _ _).alloc (lR _) _;have HN:=m9 A j h _ (B.on HB.o) c z;have HW:Hid (∀b,b=iT ⟨f,p,d,l⟩ k h↔b=(jB l ⟨k.toArray⟩&&(f || !(h.getLast c).mark))):=λb=>by rw[iT,zL c]
 obtain⟨v,i⟩:∃v,h.getLast c=v:=⟨_,Q⟩;rw[i]at HN HW;obtain⟨x,s,D⟩:=v;simp only[cH]at HN;unfold qV;have hfm:=ry x s D;cases f;go_enter (Yq.nq QG),Qu;go_wp2_with (go_at_call 39;refine HN.m ?_;clear HN;rintro e u ⟨rfl,r⟩)
 go_ret;exact⟨by rw[(HW.o _).1 Q];simp_all[jB],HB.o.t (r.m HB.o.size)⟩;go_ret;exact⟨by rw[(HW.o _).1 Q];rename_i n;simp[jB];exactλa b=>lk ⟨a,b⟩ n,HB.o⟩;go_enter (Yq.nq QG),Qu;go_wp2_with (go_at_call 39;refine HN.m ?_;clear HN;rintro e u ⟨rfl,r⟩)
 go_ret;exact⟨by rw[(HW.o _).1 Q];simp_all[jB],HB.o⟩;go_ret;exact⟨by rw[(HW.o _).1 Q];rename_i n;simp[jB];exactλa=>Classical.byContradiction λb=>n ⟨a,b⟩,HB.o⟩
theorem yj(d:gL)(p c a:dT)w:
  Calls Yq.prog 114 #[qV d p ⟨#[]⟩ c,U a] w λe b=>e=Nm (Qb #[U ⟨#[]⟩,C Z])/\Below w.heap.size w b:=by
 unfold qV;go_enter (Yq.nq Tryz.func114),Tryz.ntmps114;go_wp2_with fail
 go_ret2
 exact⟨Q,(bR _ _).alloc (lR _) _⟩
theorem DI(a:gI Wu)(p:dT)w:
  Calls Yq.prog 76 #[sV a,U p] w λe b=>e=Nm (.func (.func 97) #[] #[ptr w.heap.size,ptr (w.heap.size+1)])/\b=(w.alloc (E #[O a] 33)).alloc (E #[U p] 9):=by
 unfold sV ptr;go_enter (Yq.nq Tryz.func76),Tryz.ntmps76;go_wp2_with fail
 go_ret
 simp_all
def pT(ops:g6 Oper)(listed:g6 gL):Prop:=∀ (j:H)(o:Oper),ops[j]?=J o->listed.getD j Z=Y->∀e∈o.after,QW .any e=Y->listed.getD e.on Z=Y
theorem zM(h:u.getD k Z=Y):(u.setIfInBounds i Y).getD k Z=true:=by
 rw[gD,Q0];rw[gD]at h
 grind
theorem pT.set{ops:g6 Oper}(h:pT ops u)(l:i∈QZ .any ops u):pT ops (u.setIfInBounds i Y):=by
 intro j o c k e f d;by_cases b:j=i
 subst b;exact zM (mZ l c e f d);have:u.getD j Z=true:=by
  rw[gD,Q0,lj (λe=>b e.s)]at k
  simp_all
 exact zM (h j o c this e f d)
def Mc(ops:g6 Oper)(j k:H):gL:=((ops[j]?).map λo=>o.after.toList.any λe=>e.on==k&&QW .any e).getD Z
theorem pT.dep{ops:g6 Oper}(h:pT ops u){j}(b:Mc ops j k=Y)(f:u.getD j Z=Y):u.getD k Z=true:=by
 unfold Mc at b;cases c:ops[j]? with
 |none=>simp[c]at b
 |some o=>
  simp only[c,Option.map_some,Rc,List.any_eq_true,bT,beq_iff_eq]at b;obtain⟨e,i,rfl,d⟩:=b;exact h j o c f e (Array.mem_toList_iff.1 i) d
section
variable {P:Wv} {ops:g6 Oper} {ro:gI Nat}
theorem gQ{id:H}{b:Exit->Act->Wj->Prop}{a0:Act}{w0:Wj}(R:P.follows .mixedOrders=Y)(f MO:H)(k:H->Wx)(Wd:(H->gL)->Wj->Prop)(y:f+MO<=a0.tmps.size)
  (l:JK ops f MO=Y) (u:Du ops=Y)
  (p:∀ (c:g6 gL) (a:Act) (w:Wj) (i:H) (o:Oper),i∈QZ .any ops c->ops[i]?=J o->Vals a0 f MO k Wd ops.size c a w->(∀e∈o.after,QW .any e=Y->c.getD e.on Z=Y)->pT ops c ->
   Bh P ops ro i a w (λA z=>∃v,A=a.put o.dst v/\(i<MO->v=k i)/\Wd (eX (λj=>c.getD j Z) i) z))
  (s:∀a w,a.tmps.size=a0.tmps.size->a.defers=a0.defers->(∀t,t<f->a.eval (Qe t)=a0.eval (Qe t))->(∀i,i<MO->i<ops.size->a.eval (Qe (f+i))=k i)->(∃d,(∀i,i<ops.size->d i=Y)/\Wd d w)->b .normal a w)
  (L:Wd (λ_=>Z) {w0 with drawn:=w0.drawn+1}):(Rf id ops Y).wpIn (wf ro) n P b a0 w0:=by
 have F:∀i,(Ra ops.size Z).getD i Z=false:=λi=>by
  rw[gD,Array.getElem?_replicate];split<;>rfl
 refine rm R (λc a w=>Vals a0 f MO k Wd ops.size c a w/\pT ops c) (λc a w i V q=>?_) (λc a w V G=>?_) ⟨⟨Q,Q,λ_ _=>Q,λi _ h=>?_,by rw[show(λi=>(Ra ops.size Z).getD i Z)=λ_=>Z from funext F];exact L,by simp⟩,λj o _ h=>?_⟩;have r:=eG ((di q).1);refine(p c a w i _ q r V.1 (mZ q r) V.2).m ?_;rintro A z ⟨v,rfl,T,D⟩;exact⟨V.1.step q r (zF l i _ r).1 (zF l i _ r).2 y T D,V.2.set q⟩;have B:=zE u V.1.len G;exact s a w V.1.size V.1.defers V.1.old (λi q x=>V.1.new i q (B i x)) ⟨_,B,V.1.world⟩
 grind
 grind
end
def Ld:Code->Code
 | .cond _ a _=>a
 |c=>c
noncomputable def Le:g6 Oper:=pE (iG (Ld (dm (iG (dm (cn QR))))))
structure WdS (W1:Wj)(c:H)(buf:S Wx)(it:Wx)(d:H->gL)(w:Wj):Prop where
 below:d 6=Z->Below W1.heap.size W1 w
 done:d 6=Y->∃w1,Below W1.heap.size W1 w1/\w=w1.setChan c 1000 (buf++[it]).toArray Z (buf.length+1) 0 Z
section
variable {W1:Wj} {c:Nat} {buf:List Wx} {it:Wx} {d:Nat->gL} {w:Wj}
theorem WdS.other(h:WdS W1 c buf it d w)(a:6≠i):WdS W1 c buf it (eX d i) w:=⟨λe=>h.below (by rwa [eB a]at e),λe=>h.done (by rwa [eB a]at e)⟩
theorem WdS.more(h:WdS W1 c buf it d w)(a:d 6=Z){X}(b:Below w.heap.size w X):WdS W1 c buf it (eX d 3) X:=⟨λ_=>(h.below a).t (b.m (h.below a).size),λe=>by rw[eB (by omega),a]at e;cases e⟩
theorem WdS.MH(h:WdS W1 c buf it d w)(a:d 6=Z):WdS W1 c buf it (eX d 6) (w.setChan c 1000 (buf.toArray.push it) Z (buf.length+1) 0 Z):=⟨λe=>by simp[eX]at e,λ_=>⟨w,h.below a,by simp⟩⟩
end
theorem DJ(A:H->Prop){id}{b:Exit->Act->Wj->Prop}{L}{b5 b7}{s:dT}{buf}(hs:L.tmps.size=27)(e2:L.eval (Qe 2)=B)(e5:L.eval (Qe 5)=ptr b5)(e7:L.eval (Qe 7)=ptr b7)
  (c5:W.cell? ⟨b5,0,N⟩=J (U s)) (c7:W.cell? ⟨b7,0,N⟩=J (.chan (J c))) (hh:bO A W B h) (l:h≠[]) (hl:h.length<=2199023255552) (hc:W.heap[c]?=J (.chan 1000 buf.toArray Z buf.length 0 Z)) (F:buf.length<1000)
  (T:∀a w1,a.tmps.size=27->a.defers=L.defers->Below W.heap.size W w1->b .normal a (w1.setChan c 1000 (buf++[itVal ⟨1,s,(h.getLast l).num⟩]).toArray Z (buf.length+1) 0 Z)):
  (Rf id Le Y).wpIn (wf N) n Yq.prog b L W:=by
 obtain⟨W1,x⟩:∃W1:Wj,W1={W with drawn:=W.drawn+1}:=⟨_,Q⟩;have y:Below W.heap.size W W1:=by rw[x];exact⟨Q,Q,Q,lR _,λ_ _=>Q⟩
 have ab:W1.heap.size=W.heap.size:=by rw[x]
 have ad:c<W1.heap.size:=by rw[ab];exact(eS hc).1
 have hc:W1.heap[c]?=J (.chan 1000 buf.toArray Z buf.length 0 Z):=by rw[x];exact hc
 refine gQ (ro:=N) (a0:=L) (w0:=W) mixed 13 6
   (λi=>match i with| 0=>.chan (J c)| 1=>U s| 2=>B| 3=>cH (h.getLast l)| 4=>I K (h.getLast l).num|_=>itVal ⟨1,s,(h.getLast l).num⟩)
   (WdS W1 c buf (itVal ⟨1,s,(h.getLast l).num⟩)) (by omega) (by rfl) (by rfl) (λq a w i o hi z V p u=>?_) (λa w h1 h2 h3 h4 h5=>?_) ⟨λ_=>by rw[<-x];exact bR _ _,λe=>by cases e⟩
 .have R:i<7:=(di hi).1;have D:q.getD 6 Z=false:=by
   cases h:q.getD 6 Z with
   |false=>rfl
   |true=>
    exfalso;have l5:=u.dep (j:=6) (k:=5) (by rfl) h;have l0:=u.dep (j:=6) (k:=0) (by rfl) h;have l4:=u.dep (j:=5) (k:=4) (by rfl) l5;have l1:=u.dep (j:=5) (k:=1) (by rfl) l5;have l3:=u.dep (j:=4) (k:=3) (by rfl) l4;have l2:=u.dep (j:=3) (k:=2) (by rfl) l3;have aa:=(di hi).2;have ac:∀j,j<7->q.getD j Z=true:=λj hj=>by
     rcases j with - | - | - | - | - | - | - |j;all_goals first|assumption|omega
    have h7:=ac i R;simp only[gD,eG (by rw[V.len];exact R),Rc]at aa h7;rw[aa]at h7;cases h7
  have P:Below W1.heap.size W1 w:=V.world.below D;rcases i with - | - | - | - | - | - | - |i;all_goals first|omega|(have G:=z;dsimp only[Le,Ld,cn,QR,iG,dm,pE,Rb]at G;simp only[gA,gS,gZ,oI,Rq,zA]at G;subst G)
  have r:a.eval (Qe 7)=ptr b7:=(V.old 7 (by omega)).t e7;refine ax z Q (λc h=>by cases h) (v:=.chan (J c)) (w':=w) (by generalize a.eval=ρ at r ⊢;simp[go_sem,r,ptr,ag P (ag y c7)]) ⟨_,Q,λ_=>Q,V.world.other (by omega)⟩;have r:a.eval (Qe 5)=ptr b5:=(V.old 5 (by omega)).t e5;refine ax z Q (λc h=>by cases h) (v:=U s) (w':=w) (by generalize a.eval=ρ at r ⊢;simp[go_sem,r,ptr,ag P (ag y c5)]) ⟨_,Q,λ_=>Q,V.world.other (by omega)⟩;have r:a.eval (Qe 2)=B:=(V.old 2 (by omega)).t e2;refine ax z Q (λc h=>by cases h) (v:=B) (w':=w) (by generalize a.eval=ρ at r ⊢;simp[go_sem,r]) ⟨_,Q,λ_=>Q,V.world.other (by omega)⟩;have r:a.eval (Qe 15)=B:=V.new 2 (by omega) (p ⟨2,.data⟩ (by simp) Q);refine jt (f:=39) (args:=#[B]) (w':=w) z Q (λc h=>by cases h) (by have qf:=hfun a Q 39;generalize a.eval=ρ at r qf ⊢;simp[go_sem,r,qf]) ((m9 A B h w ((hh.on y).on P) l hl).m ?_);rintro e X ⟨rfl,hX⟩;exact⟨_,Q,_,Q,λ_=>Q,V.world.more D hX⟩;have r:a.eval (Qe 16)=cH (h.getLast l):=V.new 3 (by omega) (p ⟨3,.data⟩ (by simp) Q);refine ax z Q (λc h=>by cases h) (v:=I K (h.getLast l).num) (w':=w) (by generalize a.eval=ρ at r ⊢;simp[go_sem,r,cH,DH]) ⟨_,Q,λ_=>Q,V.world.other (by omega)⟩;have r:a.eval (Qe 14)=U s:=V.new 1 (by omega) (p ⟨1,.data⟩ (by simp) Q);have q1:a.eval (Qe 17)=I K (h.getLast l).num:=V.new 4 (by omega) (p ⟨4,.data⟩ (by simp) Q);have q2:a.eval (.const (I K 1))=I K 1:=rfl;refine ax z Q (λc h=>by cases h) (v:=itVal ⟨1,s,(h.getLast l).num⟩) (w':=w) (by generalize a.eval=ρ at r q1 q2 ⊢;simp[go_sem,r,q1,q2,itVal]) ⟨_,Q,λ_=>Q,V.world.other (by omega)⟩;exact pK z Q Q (V.new 0 (by omega) (p ⟨0,.data⟩ (by simp) Q)) ((P.block c ad).t hc) (by simpa using F) ⟨_,Q,λh=>lk h (by omega),by rw[(V.new 5 (by omega) (p ⟨5,.data⟩ (by simp) Q))];exact V.world.MH D⟩
 obtain⟨d,hd,P⟩:=h5;obtain⟨w1,hb,rfl⟩:=P.done (hd 6 (by decide));exact T a w1 (h1.t hs) h2 (y.t (by rw[ab]at hb;exact hb))
end
section
open Go.RowKit
def dl(w:Wj)(b:H):Prop:=∃o:Obj,w.heap[b]?=J o/\o.isCells=Y
theorem dl.of_cell(h:w.cell? ⟨b,n,N⟩=J v):dl w b:=by
 unfold n8 at h;cases a:w.heap[b]? with
 |none=>simp[a]at h
 |some o=>
  cases o with
  |cells c e z=>exact⟨_,a,Q⟩
  |_=>simp[a]at h
theorem dl.lt(h:dl w b):b<w.heap.size:=by
 obtain⟨o,h,-⟩:=h;exact(eS h).1
theorem cw.Nn(h:cw A w v n xs):cw (λb=>A b/\dl w b) w v n xs:=by
 obtain⟨a,e,j,d,o⟩:=h;refine⟨a,e,j,d,λc=>?_⟩;have⟨g,k,m,l,i⟩:=o c;have f:0<xs.length:=PK.2 c;exact⟨g,k,⟨m,.of_cell ((i 0 f).t (eL f))⟩,l,i⟩
theorem ao.Nn:∀ (n:H)(p:gI Wu)(f:S ey->S Ver),ao A n w p f->ao (λb=>A b/\dl w b) n w p f:=by
 intro n;induction n with
 |zero=>intro p f h;exact h
 |succ n ih=>
  intro p f h;rcases h with h|⟨g,m,t,r,j,u,i,v,k,o,d,s,e,a⟩;exact PJ h;exact PI ⟨g,m,t,r,j,⟨u,.of_cell i⟩,i,v,k,cw.Nn o,cw.Nn d,s,λc q l=>ih q _ (e c q l),a⟩
theorem ao.ND(h:∀b,A b->A' b)(a:ao A n w p f):ao A' n w p f:=ao.Mr (λb c _=>⟨h b c,Q⟩) n p f a
def vI(w:Wj)(p:gI Wu)(f:S ey->S Ver):Prop:=ao (dl w) 41 w p f
theorem vI.of(h:ao A 41 w p f):vI w p f:=(ao.Nn 41 p f h).ND λ_ h=>h.2
end
section
open Go.Conc Go.ConcX Go.ConcX.Gen Go.RowKit
def dE(w:Wj):Prop:=∃m,w.cell? ⟨0,0,N⟩=J (I K m)
theorem dE.on{w'}(h:dE w)(d:∀b,b<w.heap.size->w'.heap[b]?=w.heap[b]?):dE w':=by
 obtain⟨m,c⟩:=h;exact⟨m,(cB (a:=⟨0,0,N⟩) (d 0 (bC w _ c))).t c⟩
def jc(q:Qy):Prop:=∀ (k:S ey)(w:Wj),dE w->k.length<=1000->q.p.data.toList <+:k->Calls Yq.prog 114 #[qV q.vs q.p q.d q.af,U ⟨k.toArray⟩] w λe a=>e=Nm (Qb #[U ⟨((aV q k).getD []).toArray⟩,C (aV q k).isSome])/\Below w.heap.size w a
def jd(q:Qy):Prop:=∀ (A:H->Prop)(k:S ey)(f:Wx)(h:S Ver)(c:H)(buf:S Wx)(w:Wj),bO A w f h->h≠[]->h.length<=1000->w.heap[c]?=J (.chan 1000 buf.toArray Z buf.length 0 Z)->buf.length+(bF q.vs k h).length<=1000 ->
 Calls Yq.prog 115 #[qV q.vs q.p q.d q.af,U ⟨k.toArray⟩,f,.chan (J c)] w λe a=>e=Nm (Qb #[])/\(∀b,b<w.heap.size->b≠c->a.heap[b]?=w.heap[b]?)/\w.heap.size<=a.heap.size/\a.os=w.os /\
  a.heap[c]?=J (.chan 1000 (buf++(bF q.vs k h).map itVal).toArray Z (buf.length+(bF q.vs k h).length) 0 Z)
structure wY (q:Qy)(w w6:Wj)(c:H)(pre:KVs)(W:Wj):Prop where
 os:W.os=w.os
 size:w6.heap.size<=W.heap.size
 block:∀b,b<w6.heap.size->b≠c->b≠w.heap.size+3->W.heap[b]?=w6.heap[b]?
 told:W.heap[w.heap.size+3]?=J (E #[U ⟨(aL q pre).2.toArray⟩] 9)
 ch:W.heap[c]?=J (.chan 1000 ((aL q pre).1.map itVal).toArray Z (aL q pre).1.length 0 Z)
theorem nc{l m:gL}(h:c<w.heap.size):(w.setChan c k t l s n m).heap[c]?=J (.chan k t l s n m):=by
 unfold tb
 grind
theorem jZ{l m:gL}(h:i≠c):(w.setChan c k t l s n m).heap[i]?=w.heap[i]?:=by
 unfold tb
 grind
theorem zN{l m:gL}:(w.setChan c k t l s n m).heap.size=w.heap.size:=by simp[tb]
theorem yl q(a:q.d=⟨#[]⟩):jc q:=by
 intro k w _ _ _;obtain⟨b,p,d,c⟩:=q;subst a;exact yj b p c ⟨k.toArray⟩ w
theorem vJ q(v:q.vs=Z):jd q:=by
 intro A k F h c buf w s j hl m i;obtain⟨vs,p,d,z⟩:=q;subst v;have x:=(eS m).1;simp[bF]at i ⊢;rw[zL j];obtain⟨W,l⟩:∃W,W=((w.alloc (E #[C Z,U p,U d,U z] 74)).alloc (E #[U ⟨k.toArray⟩] 9)).alloc (E #[.chan (J c)] 197):=⟨_,Q⟩;have e:Below w.heap.size w W:=by rw[l];exact(((bR _ _).alloc (lR _) _).alloc (by simp) _).alloc (by simp;omega) _
 have HX:Hid (Below w.heap.size w W/\W.cell? ⟨w.heap.size+1,0,N⟩=J (U ⟨k.toArray⟩)/\W.cell? ⟨w.heap.size+2,0,N⟩=J (.chan (J c))/\bO A W F h/\W.heap[c]?=J (.chan 1000 buf.toArray Z buf.length 0 Z)):=by
  refine⟨e,?_,?_,s.on e,(e.block c x).t m⟩;rw[l];refine ag ((bR _ _).alloc (lR _) _) ?_
  simp_all
  rw[l];have:=cA (w:=(w.alloc (E #[C Z,U p,U d,U z] 74)).alloc (E #[U ⟨k.toArray⟩] 9)) #[.chan (J c)] 197 (w.heap.size+2) 0 (by simp)
  grind
 unfold qV;go_enter (Yq.nq Tryz.func115),Tryz.ntmps115
 go_upto_region 2 with fail
 rename_i K1 hK1 K2 y;rw[<-(aI l).o];have⟨e,D,G,s,m⟩:=HX.o;refine Pi.1 (show Rg (wf N) 0 _ _ _ _ _ from DJ A (id:=2) (n:=0) (b5:=w.heap.size+1) (b7:=w.heap.size+2) Q Q Q Q D G s j (by omega) m (by omega) (λa w1 h1 B f=>(y _ _ (wp_ret ⟨B,Qb #[],by simp[results,Tryz.results115,go_sem],Q,λb u r=>?_,?_,?_,?_⟩))));rw[jZ r,f.block b (by have:=e.size;omega)];exact e.block b u;rw[zN];exact lT e.size f.size;exact f.os.t e.os;exact nc (by have:=e.size;have:=f.size;omega)
def BA:Code->Code
 | .rangeFunc _ _ _ b=>b
 |c=>c
noncomputable def DK:Code:=BA (cIn (dm (dm (dm (cn QH)))))
def mG(w:Wj)(q:Qy)(root:gI Wu)(c:H):Wj:=
 (((((w.alloc (E #[C q.vs,U q.p,U q.d,U q.af] 74)).alloc (E #[O root] 33)).alloc (E #[.chan (J c)] 197)).alloc (E #[U ⟨#[]⟩] 9)).alloc (E #[O root] 33)).alloc (E #[U q.p] 9)
theorem cT w q(a:gI Wu)c:(mG w q a c).heap.size=w.heap.size+6:=by simp only[mG,tn,Q8]
theorem mm w q(a:gI Wu)c(h:b<w.heap.size):(mG w q a c).heap[b]?=w.heap[b]?:=by
 simp only[mG,tn,gP,Q8]
 grind
theorem mn w q(a:gI Wu)c i(h:i<6):(mG w q a c).heap[w.heap.size+i]?=(#[E #[C q.vs,U q.p,U q.d,U q.af] 74,E #[O a] 33,E #[.chan (J c)] 197,E #[U ⟨#[]⟩] 9,E #[O a] 33,E #[U q.p] 9]:g6 Obj)[i]?:=by
 simp only[mG,tn,gP,Q8]
 grind
def gY(w:Wj)(q:Qy)(root:gI Wu)(c:H)(f e b a:Wx):g6 Wx:=
 #[Qa #[C q.vs,U q.p,U q.d,U q.af],Qa #[O root],.chan (J c),O (J ⟨w.heap.size,0,N⟩),O (J ⟨w.heap.size+1,0,N⟩),O (J ⟨w.heap.size+2,0,N⟩),O (J ⟨w.heap.size+3,0,N⟩),f,e,Wo,Wo,
  .agg #[O root],O (J ⟨w.heap.size,1,N⟩),U q.p,.func (.func 97) #[] #[ptr (w.heap.size+4),ptr (w.heap.size+5)],b,a,Wo,Wo,Wo,Wo,Wo,Wo,Wo,Wo,Wo,Wo,Wo,Wo,Wo,Wo,Wo,Wo,Wo,Wo,Wo,Wo,Wo,Wo,Wo,Wo,Wo,Wo,Wo]
theorem wY.below{q}{d:KVs}(a:wY q w W0 c d W)(l:c<W0.heap.size)(j:w.heap.size+3<W0.heap.size)(e:Below W.heap.size W W'):wY q w W0 c d W':=
 ⟨e.os.t a.os,lT a.size e.size,λb h i k=>(e.block b (lL h a.size)).t (a.block b h i k),(e.block _ (lL j a.size)).t a.told,(e.block _ (lL l a.size)).t a.ch⟩
theorem wY.items{q}{d D:KVs}(a:wY q w e c d W)(h:aL q D=aL q d):wY q w e c D W:=
 ⟨a.os,a.size,a.block,by rw[h];exact a.told,by rw[h];exact a.ch⟩
theorem mo l:(wf (J l)).round=J l:=rfl
section
attribute [local go_sem] Oper.semAt_some mo
theorem GN(q:Qy)(bb:jc q)(bn:jd q)(u:gI Wu)(c:H)(w:Wj)(bv:dE w)(bp:0≠c)(hcw:c<w.heap.size)(A:H->Prop)(hA:∀b,A b->b<w.heap.size/\b≠c)(l:H)(s:KVs)(k:S ey)(h:S Ver)(hv:Wx)(W:Wj)(hk:k.length<=1000)(bd:q.p.data.toList <+:k)(hh:bO A (mG w q u c) hv h)(a7:h≠[])(hl:h.length<=1000)(a2:(aL q (s++[(k,h)])).1.length<=1000)(f:wY q w (mG w q u c) c s W):
  DK.wpIn (wf (J l)) 0 Yq.prog (λe _ W'=>e=.normal/\om c (w.heap.size+3) W W'/\wY q w (mG w q u c) c (s++[(k,h)]) W') ⟨gY w q u c (U ⟨k.toArray⟩) hv (U ⟨k.toArray⟩) hv,[]⟩ W:=by
 obtain⟨n,hQ⟩:∃n:Exit->Act->Wj->Prop,n=λe _ W'=>e=.normal/\om c (w.heap.size+3) W W'/\wY q w (mG w q u c) c (s++[(k,h)]) W':=⟨_,Q⟩
 rw[<-hQ];have HQ:=aI hQ;clear hQ;have ab:∀i o,i<6->i≠3->(mG w q u c).heap[w.heap.size+i]?=J o->W.heap[w.heap.size+i]?=J o:=λi o h1 h2 h3=>(f.block _ (by rw[cT];omega) (by omega) (by omega)).t h3
 have r0:=ab 0 _ (by omega) (by omega) (mn w q u c 0 (by omega));have r2:=ab 2 _ (by omega) (by omega) (mn w q u c 2 (by omega));simp only[Nat.add_zero]at r0;have c0:W.cell? ⟨w.heap.size,0,N⟩=J (C q.vs):=by simp[n8,r0]
 have c1:W.cell? ⟨w.heap.size,1,N⟩=J (U q.p):=by simp[n8,r0]
 have c2:W.cell? ⟨w.heap.size,2,N⟩=J (U q.d):=by simp[n8,r0]
 have c3:W.cell? ⟨w.heap.size,3,N⟩=J (U q.af):=by simp[n8,r0]
 have d2:W.cell? ⟨w.heap.size+2,0,N⟩=J (.chan (J c)):=by simp[n8,r2]
 have d3:W.cell? ⟨w.heap.size+3,0,N⟩=J (U ⟨(aL q s).2.toArray⟩):=by simp[n8,f.told]
 have f3:W.frozen? ⟨w.heap.size+3,0,N⟩=false:=by simp[sq,f.told]
 have hszW:w.heap.size+6<=W.heap.size:=by have:=f.size;rwa [cT]at this
 have HhW:=aI (cw.Mr hh (λb hb bx=>⟨hb,f.block b bx (hA b hb).2 (by have:=(hA b hb).1;omega)⟩));have HI:=aI f;have bs:Hid (dE W):=by
  obtain⟨m,hm⟩:=bv;exact⟨m,(cB (a:=⟨0,0,N⟩) ((f.block 0 (by rw[cT];omega) bp (by omega)).t (mm w q u c (bC w _ hm)))).t hm⟩
 have y:=GM A q k hv h W HhW.o a7 (by omega);have bo:=aI bb;have bw:=aI bn;have b1:=aI hA;have a6:=jf a2 bd;have a1:=aI (nO q s (k,h));clear ab r0 r2 f bb bn hA a2 bd hh;generalize bk:iT q k h=wt at y;have av:=aI bk;clear bk;generalize a8:aV q k=cm;have al:=aI a8;clear a8;unfold gY;dsimp only[DK,BA,cn,QH,cIn,iG,dm,pE,Rb];unfold qV at y;have a0:c<(mG w q u c).heap.size:=by rw[cT];omega
 have aj:w.heap.size+3<(mG w q u c).heap.size:=by rw[cT];omega
 have T:Hid (∀X,Below W.heap.size W X->Calls Yq.prog 114 #[Qa #[C q.vs,U q.p,U q.d,U q.af],U ⟨k.toArray⟩] X λe w'=>e=Nm (Qb #[U ⟨(cm.getD []).toArray⟩,C cm.isSome])/\Below X.heap.size X w'):=λX hX=>by
  rw[<-al.o];exact bo.o k X (bs.o.on hX.block) hk a6.o.2
 cases wt
 .gi_wp2_with (refine⟨trivial,Q,?_⟩;gi_at_call 113;refine(PB l (wd.2 y)).m ?_;clear y;rintro e w1 ⟨rfl,r⟩)
  rw[HQ.o];exact⟨Q,om.below r,(HI.o.below a0 aj r).items (by rw[a1.o,cx,av.o];rfl)⟩
 .have aa:Hid (∀w1 F:Wj,Below W.heap.size W w1->Below w1.heap.size w1 F->Below W.heap.size W F):=λw1 F h1 h2=>h1.t (h2.m h1.size)
  cases cm with
  |none=>
   have e1:aL q (s++[(k,h)])=((aL q s).1++bF q.vs k h,(aL q s).2):=by
    rw[a1.o,cx,av.o];simp only[al.o,kr]
   have B:=aI e1;have be:Hid (∀X,Below W.heap.size W X->Calls Yq.prog 115 #[Qa #[C q.vs,U q.p,U q.d,U q.af],U ⟨k.toArray⟩,hv,.chan (J c)] X λe w'=>e=Nm (Qb #[])/\om c (w.heap.size+3) W w'/\wY q w (mG w q u c) c (s++[(k,h)]) w'):=λX hX=>by
    have IX:=HI.o.below a0 aj hX;have G:=a6.o.1;rw[B.o,lP]at G;have bi:=IX.ch;rw[show((aL q s).1.length:H)=((aL q s).1.map itVal).length by simp]at bi;refine(bw.o A k hv h c ((aL q s).1.map itVal) X (cw.on HhW.o hX) a7 hl bi (by simpa using G)).m ?_;rintro e w' ⟨rfl,h1,h2,h3,h4⟩;refine⟨Q,⟨lT hX.size h2,h3.t hX.os,λb hb z _=>(h1 b (by have:=hX.size;omega) z).t (hX.block b hb)⟩,h3.t IX.os,lT IX.size h2,λb hb z L=>(h1 b (by have:=IX.size;omega) z).t (IX.block b hb z L),?_,?_⟩
    .rw [B.o];exact(h1 _ (by have:=IX.size;omega) (by omega)).t IX.told
    .rw [B.o,h4];simp
   clear e1
   gi_wp2_with (first
    |(refine⟨trivial,Q,?_⟩;gi_at_call 113;refine(PB l (wd.2 y)).m ?_;clear y;rintro e w1 ⟨rfl,r⟩;replace c0:=ag r c0;replace c1:=ag r c1;replace c2:=ag r c2;replace c3:=ag r c3;replace d2:=ag r d2)
    |(refine⟨trivial,Q,?_⟩;gi_at_call 114;refine(PB l (wd.2 (T.o _ r))).m ?_;clear T;rintro e F ⟨rfl,x⟩;replace c0:=ag x c0;replace c1:=ag x c1;replace c2:=ag x c2;replace c3:=ag x c3;replace d2:=ag x d2)
    |(refine⟨trivial,Q,?_⟩;gi_at_call 115;refine(PB l (wd.2 (be.o _ (aa.o _ _ r x)))).m ?_;clear be;rintro e R ⟨rfl,bt,b0⟩))
   rw[HQ.o];exact⟨Q,bt,b0⟩
  |some P=>
   by_cases ar:P=(aL q s).2
   .have B:Hid (aL q (s++[(k,h)])=aL q s):=by
     show aL q (s++[(k,h)])=aL q s;rw[a1.o,cx,av.o];simp only[al.o,kr,ar]
    rw[<-ar]at d3
    gi_wp2_with (first
     |(refine⟨trivial,Q,?_⟩;gi_at_call 113;refine(PB l (wd.2 y)).m ?_;clear y;rintro e w1 ⟨rfl,r⟩;replace c0:=ag r c0;replace c1:=ag r c1;replace c2:=ag r c2;replace c3:=ag r c3;replace d3:=ag r d3)
     |(refine⟨trivial,Q,?_⟩;gi_at_call 114;refine(PB l (wd.2 (T.o _ r))).m ?_;clear T;rintro e F ⟨rfl,x⟩;replace d3:=ag x d3))
    rw[HQ.o];exact⟨Q,om.below (aa.o _ _ r x),(HI.o.below a0 aj (aa.o _ _ r x)).items B.o⟩
   .have e1:aL q (s++[(k,h)])=((aL q s).1++[⟨2,⟨P.toArray⟩,0⟩],P):=by
     rw[a1.o,cx,av.o];simp only[al.o,kr,ar,if_false]
    have B:=aI e1;clear e1
    gi_upto_region 10 with(first
     |(refine⟨trivial,Q,?_⟩;gi_at_call 113;refine(PB l (wd.2 y)).m ?_;clear y;rintro e w1 ⟨rfl,r⟩;replace c0:=ag r c0;replace c1:=ag r c1;replace c2:=ag r c2;replace c3:=ag r c3;replace d2:=ag r d2;replace d3:=ag r d3;replace f3:=(r.frozen (p:=⟨w.heap.size+3,0,N⟩) (by show w.heap.size+3<W.heap.size;omega)).t f3)
     |(refine⟨trivial,Q,?_⟩;gi_at_call 114;refine(PB l (wd.2 (T.o _ r))).m ?_;clear T;rintro e F ⟨rfl,x⟩;replace d2:=ag x d2;replace d3:=ag x d3;replace f3:=(x.frozen (p:=⟨w.heap.size+3,0,N⟩) (by show w.heap.size+3<w1.heap.size;have:=r.size;omega)).t f3))
    case refine_2=>rename_i hx;exact lk (by simpa using hx) ar
    rename_i K1 a9;have I2:=HI.o.below a0 aj (aa.o _ _ r x);have bl:=I2.ch;have G:=a6.o.1;rw[B.o,lP,lS]at G;have D:∀j,j≠c->(F.setChan c 1000 (((aL q s).1.map itVal).toArray.push (Qa #[I K 2,U ⟨P.toArray⟩,I K 0])) Z ((aL q s).1.length+1) 0 Z).heap[j]?=F.heap[j]?:=λj hj=>jZ hj
    have hsz2:w.heap.size+6<=F.heap.size:=by have:=r.size;have:=x.size;omega
    have ac:(F.setChan c 1000 (((aL q s).1.map itVal).toArray.push (Qa #[I K 2,U ⟨P.toArray⟩,I K 0])) Z ((aL q s).1.length+1) 0 Z).heap[c]?=J (.chan 1000 (((aL q s).1.map itVal).toArray.push (Qa #[I K 2,U ⟨P.toArray⟩,I K 0])) Z ((aL q s).1.length+1) 0 Z):=nc (by omega);refine Ds ?_;show Bi _ _ _ _ [0,1,2,3] _ _;refine ax (v:=.chan (J c)) (w':=F) Q Q (λc h=>by cases h) (by simp[go_sem,d2]) (ax (v:=U ⟨P.toArray⟩) (w':=F) Q Q (λc h=>by cases h) (by simp[go_sem]) (ax (v:=Qa #[I K 2,U ⟨P.toArray⟩,I K 0]) (w':=F) Q Q (λc h=>by cases h) (by simp[go_sem]) (pK (c:=c) Q Q Q Q bl (by simp;omega) (a9 _ _ ?_))));show Rg (wf (J l)) 0 Yq.prog _ _ _ (F.setChan c 1000 (((aL q s).1.map itVal).toArray.push (Qa #[I K 2,U ⟨P.toArray⟩,I K 0])) Z ((aL q s).1.length+1) 0 Z);obtain⟨R,ai⟩:∃R,F.setChan c 1000 (((aL q s).1.map itVal).toArray.push (Qa #[I K 2,U ⟨P.toArray⟩,I K 0])) Z ((aL q s).1.length+1) 0 Z=R:=⟨_,Q⟩;have ad:R.heap.size=F.heap.size:=by rw[<-ai];exact zN
    have ap:R.os=F.os:=by rw[<-ai];rfl
    rw[ai]at D ac ⊢;have d3':R.cell? ⟨w.heap.size+3,0,N⟩=J (U ⟨(aL q s).2.toArray⟩):=(cB (a:=⟨w.heap.size+3,0,N⟩) (D _ (show w.heap.size+3≠c by omega))).t d3;have f3':R.frozen? ⟨w.heap.size+3,0,N⟩=false:=(fB (a:=⟨w.heap.size+3,0,N⟩) (D _ (show w.heap.size+3≠c by omega))).t f3;have bq:=AB D ac I2 ad ap;clear D ac I2 ai bl ad ap a9 K1;gi_wp2;rw[HQ.o];have⟨D,ac,I2,ad,ap⟩:=bq.o;have a5:∀j,j≠w.heap.size+3->(R.setCell ⟨w.heap.size+3,0,N⟩ (U ⟨P.toArray⟩)).heap[j]?=R.heap[j]?:=λj hj=>bS _ _ _ _ hj
    have a3:(R.setCell ⟨w.heap.size+3,0,N⟩ (U ⟨P.toArray⟩)).heap.size=F.heap.size:=by simp[ad]
    have a4:(R.setCell ⟨w.heap.size+3,0,N⟩ (U ⟨P.toArray⟩)).os=F.os:=((bR 0 R).setCell (p:=⟨w.heap.size+3,0,N⟩) (Ro _) _).os.t ap;have V:=aa.o _ _ r x;refine⟨Q,⟨by rw[a3];exact V.size,a4.t V.os,λb hb z L=>?_⟩,a4.t I2.os,by rw[a3];exact I2.size,λb hb z L=>?_,?_,?_⟩
    .rw [a5 b L,D b z];exact V.block b hb
    .rw [a5 b L,D b z];exact I2.block b hb z L
    .rw [B.o];obtain⟨h1,h2⟩:=eS ((D _ (show w.heap.size+3≠c by omega)).t I2.told);show(R.heap.modify (w.heap.size+3) _)[w.heap.size+3]?=_;rw[eG (by rw[Array.size_modify];exact h1),Array.getElem_modify_self,h2];rfl
    .rw [a5 c (by omega),ac,B.o];simp[itVal]
end
theorem vK n:∀ (f:S ey->S Ver)(c:S ey),∀x∈dC n f c,c <+:x.1/\x.1.length<c.length+n:=by
 induction n with
 |zero=>intro f c x a;simp[dC]at a
 |succ n ih=>
  intro f c x a;simp only[dC,PN,PM]at a;rcases a with a|⟨b,-,a⟩
  grind
  obtain⟨d,e⟩:=ih _ _ x a;exact⟨(List.prefix_append _ _).t d,by simp at e;omega⟩
theorem vM{p}(h:x∈bL f p):p <+:x.1/\x.1.length<=40:=by
 obtain⟨h1,h2⟩:=vK _ _ _ x h
 grind
theorem GO{l:KVs}(h:x∈l):x.2.length<=fG l:=by
 induction l with
 |nil=>simp at h
 |cons a r ih=>
  rcases PS.1 h with rfl|h;simp[fG];have:=ih h;simp[fG]at this ⊢;omega
theorem wY.MS{q}{d:KVs}{Y}(a:wY q w e c d W0)(n:c<e.heap.size)(k:w.heap.size+3<e.heap.size)(h:∀b,b<e.heap.size->Y.heap[b]?=W0.heap[b]?)(m:W0.heap.size<=Y.heap.size)(i:Y.os=W0.os):wY q w e c d Y:=
 ⟨i.t a.os,lT a.size m,λb f j l=>(h b f).t (a.block b f j l),(h _ k).t a.told,(h _ n).t a.ch⟩
section
attribute [local go_sem] Oper.semAt_some mo
theorem J2 q(ad:jc q)(ai:jd q)(B:gI Wu)(f:S ey->S Ver)c w(ap:dE w)(hT:vI w B f)(av:fG (bL f q.p.data.toList)<=1000)(hp:q.p.size<=vx)(hc:w.heap[c]?=J (.chan 1000 #[] Z 0 0 Z)):
  Calls Yq.prog 95 #[qV q.vs q.p q.d q.af,sV B,.chan (J c)] w λe w'=>e=Nm (Qb #[])/\((∀b,b<w.heap.size->b≠c->w'.heap[b]?=w.heap[b]?)/\w.heap.size<=w'.heap.size/\w'.os=w.os) /\
   w'.heap[c]?=J (.chan 1000 ((bV q (bL f q.p.data.toList)).map itVal).toArray Z (bV q (bL f q.p.data.toList)).length 0 Z):=by
 have a0:=(eS hc).1;have a2:Hid (dE w/\0≠c):=⟨ap,λe=>by
  obtain⟨m,hm⟩:=ap;subst e;simp[n8,hc]at hm⟩
 clear ap;obtain⟨G,T⟩:∃G,bL f q.p.data.toList=G:=⟨_,Q⟩;have P:∀x∈G,x.2≠[]:=by rw[<-T];exact fg _ _ _
 have R:∀x∈G,q.p.data.toList <+:x.1/\x.1.length<=40:=by rw[<-T];exactλx hx=>vM hx
 obtain⟨A,aa⟩:∃A:H->Prop,A=dl w:=⟨_,Q⟩;have hA:∀b,A b->b<w.heap.size/\b≠c:=λb V=>by
  rw[aa]at V;refine⟨V.lt,λe=>?_⟩;subst e;obtain⟨o,h1,h2⟩:=V;rw[hc]at h1;cases h1;cases h2
 have ab:ao A 41 (mG w q B c) B f:=ao.Mr (λb V a4=>⟨by rw[aa];exact V,mm w q B c a4⟩) 41 B f hT;rw[T]at av ⊢;have al:c<(mG w q B c).heap.size:=by rw[cT];omega
 have a1:w.heap.size+3<(mG w q B c).heap.size:=by rw[cT];omega
 have ac:wY q w (mG w q B c) c [] (mG w q B c):=⟨Q,lR _,λ_ _ _ _=>Q,mn w q B c 3 (by omega),(mm w q B c a0).t hc⟩;refine(wd (n:=0)).1 (callsIn_of_wp_marks (F:=Fence.wide) (Yq.nq Tryz.func95) Q trivial ((Pi (n:=0)).2 ?_));generalize hQ:bodyPostM Fence.wide 0 Yq.prog QH _=r;simp only[Tryz.ntmps95,List.size_toArray,lC,lN,Rq,Nat.reduceSub,Array.replicate_succ,Array.replicate_zero,List.push_toArray,List.append_toArray,PR,List.cons_append];have HQ:=aI hQ;have HX:Hid (jc q/\jd q/\ao A 41 (mG w q B c) B f/\(∀b,A b->b<w.heap.size/\b≠c)/\wY q w (mG w q B c) c [] (mG w q B c)/\(∀x∈G,x.2≠[])/\(∀x∈G,q.p.data.toList <+:x.1/\x.1.length<=40)/\A=dl w):=⟨ad,ai,ab,hA,ac,P,R,aa⟩;clear hQ ad ai ab hA ac P R hT hc aa;unfold qV sV;go_wp2_with (go_at_call 76;refine(DI B q.p _).m ?_;rintro e w6 ⟨rfl,rfl⟩)
 refine Pi.1 (show Rg (wf N) 0 Yq.prog _ (Exit.inBlock 0 r) ⟨gY w q B c Wo Wo Wo Wo,[]⟩ (mG w q B c)from ?_);have⟨ad,ai,ab,hA,ac,P,R,aa⟩:=HX.o;have a3:∀ (L:KVs) x,L++[x] <+:G->x∈G:=λL x h=>h.subset (by simp)
 refine vh (α:=S ey×S Ver) (β:=S ey×S Ver×Wx) (encs:=λx=>#[U ⟨x.1.toArray⟩,x.2.2]) (gf:=97) (lb:=#[ptr (w.heap.size+4),ptr (w.heap.size+5)]) (λx=>(x.1,x.2.1)) Q (λargs wx=>by go_simp) (λ_=>Q) c (w.heap.size+3) a1 noO (λ_ _ _ _ h=>h)
  (wY q w (mG w q B c) c) (λL x=>L++[(x.1,x.2.1)] <+:G/\bO A (mG w q B c) x.2.2 x.2.1/\x.2.1≠[]) G (λ_ _ _ _ h=>h.elim) (λL X z i h1 _ h2 h3=>i.MS al a1 h1 h2 h3) (λL X i=>⟨Qd al,Qd ⟨_,i.ch,Q⟩⟩) ac
  (λx=>⟨gY w q B c (U ⟨x.1.toArray⟩) x.2.2 (U ⟨x.1.toArray⟩) x.2.2,[]⟩) ?call ?assign ?body ?done
 case call=>
  intro l j W hW1 aj a7 a6 a8 hy a9;have u:yc A (mG w q B c) ((mG w q B c).heap.size+2) (w.heap.size+3) l noO G j:=⟨λb V=>by
    have⟨h1,h2⟩:=hA b V;rw[aa]at V;obtain⟨o,h3,h4⟩:=V;exact⟨by rw[cT];omega,by omega,o,(mm w q B c h1).t h3,h4⟩,by omega,λ_ _ _ _ h=>h,a7,a6,a8,λL k h hv X h1 h2 h3 h4=>hy L (k,h,hv) X ⟨h1,h2,h3⟩ h4⟩
  exact zH u B f q.p W (w.heap.size+4) (w.heap.size+5) ab T.s (λb V=>aj b (by have:=(hA b V).1;rw[cT];omega))
   (by rw[cB (a:=⟨w.heap.size+4,0,N⟩) (aj _ (by rw[cT];show w.heap.size+4<_;omega))];simp[n8,mn w q B c 4 (by omega)])
   (by rw[cB (a:=⟨w.heap.size+5,0,N⟩) (aj _ (by rw[cT];show w.heap.size+5<_;omega))];simp[n8,mn w q B c 5 (by omega)]) hp a9
 case assign=>
  intro l x W y hK;obtain⟨k,h,hv⟩:=x;have e:(#[15,16].zip #[Value.string ⟨k.toArray⟩,hv]).foldl (λt x=>match x with|(p,v)=>t.setIfInBounds p v) (gY w q B c Wo Wo Wo Wo)=gY w q B c Wo Wo (U ⟨k.toArray⟩) hv:=by
   simp[gY]
  show Rg _ _ _ _ _ ⟨(#[15,16].zip #[Value.string ⟨k.toArray⟩,hv]).foldl (λt x=>match x with|(p,v)=>t.setIfInBounds p v) (gY w q B c Wo Wo Wo Wo),[]⟩ _;rw[e];unfold gY;unfold gY at hK;gi_wp2;exact hK
 case body=>
  rintro l L ⟨k,h,hv⟩ W ⟨h1,h2,h3⟩ i;have hm:=a3 L (k,h) h1;refine wpIn_mono (GN q ad ai B c w a2.o.1 a2.o.2 a0 A hA l L k h hv W (by have:=(R _ hm).2;simp only at this;omega) (R _ hm).1 h2 h3 (by have:=GO hm;simp only at this;omega) (by have h5:(aL q (L++[(k,h)])).1.length<=(bV q G).length:=By q G _ P h1;have:=ml q G P;omega) i) (λe a W' h=>⟨h.1,h.2.1.own,h.2.2⟩)
 case done=>
  intro D W hD i hK;have hQ:=HQ.o;subst hQ;refine⟨by simp,Qc ⟨_,_,Q,run_takeDeferred hK,?_⟩⟩;have ar:∀b,b<(mG w q B c).heap.size->(W.putObj D (.deferred N)).heap[b]?=W.heap[b]?:=λb V=>pO (by omega)
  refine⟨Qb #[],by simp[results,Tryz.results95,go_sem],Q,⟨λb V a5=>?_,?_,?_⟩,?_⟩;rw[ar b (by rw[cT];omega),i.block b (by rw[cT];omega) a5 (by omega),mm w q B c V];have:=i.size;rw[cT]at this;simp;omega;exact i.os;rw[ar c al];exact i.ch
end
end
section
open Go.RowKit
theorem GP{d}(h:w.heap.size<=d.heap.size):∀b,Grow A d b->Grow A w b:=by
 rintro b (⟨c,h2⟩|c);by_cases a:b<w.heap.size
 exact PJ ⟨c,a⟩;exact PI (by omega);exact PI (by omega)
theorem aP.m{st}(a:aP A w c st)(h:∀b,A b->A' b)(d:∀b,A' b->b≠c):aP A' w c st:=by
 have⟨p,f,i⟩:=a.tree;exact⟨d,⟨p,f,ao.Mr (λb e _=>⟨h b e,Q⟩) _ _ _ i⟩,a.count,a.last,a.frozen⟩
def dQ(A:H->Prop)(w:Wj)(k0:H)(a:St)(v:Wx)(e:Ending)(w':Wj):Prop:=
 e=Nm v/\aP (Grow A w) w' k0 a/\dq w w' k0
theorem bG{w'}{b}(a:aP A w c b)(d:Below w.heap.size w w'):dQ A w c b v (Nm v) w':=
 ⟨Q,a.grow.on d,fe a.lt d⟩
def ky(st:St)(key body:dT):St×eV×eV:=
 if aS key=Z then(st,0,2)else if 100<body.size then(st,0,3)else if kx st then(st,0,4)else(bM st key body Z,st.last+1,0)
def MA(st:St)(key:dT):St×eV×eV:=
 if aS key=Z then(st,0,2)else if kx st then(st,0,4)else(bM st key ⟨#[]⟩ Y,st.last+1,0)
theorem zO(A:H->Prop)q i s(f b:dT)w(B:f.size<=vx)(t:b.size<=vx)(a:aP A w q i)(y:Inv i s)(z:s<2199023255340):
  Calls Yq.prog 10 #[O (J ⟨q,0,N⟩),U f,U b] w (dQ A w q (ky i f b).1 (Qb #[I K (ky i f b).2.1,I K (ky i f b).2.2])):=by
 have j:=mi f w B;have HS:=aI a;unfold vx at t;cases c:aS f with
 |false=>
  rw[c]at j;have e:ky i f b=(i,0,2):=by simp[ky,c]
  rw[e];clear c a e;go_enter (Yq.nq Qk),Qj;go_wp2_with (go_at_call 34;refine j.m ?_;rintro e p ⟨rfl,rfl⟩)
  go_ret2
  exact bG HS.o (bR _ _)
 |true=>
  rw[c]at j;have v:=iw c;by_cases k:100<b.size
  have e:ky i f b=(i,0,3):=by simp[ky,c,k]
  rw[e];clear c a e;go_enter (Yq.nq Qk),Qj;go_wp2_with (go_at_call 34;refine j.m ?_;rintro e p ⟨rfl,rfl⟩)
  go_ret2
  exact bG HS.o (bR _ _);have l:=rx q i w a.count a.last;cases d:kx i with
  |true=>
   rw[d]at l;have e:ky i f b=(i,0,4):=by simp[ky,c,k,d]
   rw[e];clear c a e d;go_enter (Yq.nq Qk),Qj;go_wp2_with (first|(go_at_call 34;refine j.m ?_;rintro e p ⟨rfl,rfl⟩)|(go_at_call 35;refine l.m ?_;rintro e p ⟨rfl,rfl⟩))
   go_ret2
   exact bG HS.o (bR _ _)
  |false=>
   rw[d]at l;have e:ky i f b=(bM i f b Z,i.last+1,0):=by simp[ky,c,k,d]
   have r:¬i.last=9223372036854775807:=λh=>by simp[kx,h]at d
   rw[e];clear c a e d;go_enter (Yq.nq Qk),Qj;go_wp2_with (first|(go_at_call 34;refine j.m ?_;rintro e p ⟨rfl,rfl⟩)|(go_at_call 35;refine l.m ?_;rintro e p ⟨rfl,rfl⟩))
   refine(Bx b w (by omega)).m ?_;rintro e x ⟨rfl,n⟩;go_wp2_with (go_at_call 36;refine(zK A q i s f 0 b Z x v.1 (HS.o.on n) y z r).m ?_;rintro e w2 ⟨rfl,S2,u⟩)
   go_ret2
   exact⟨Q,S2.m (GP n.size) (iy HS.o.Mv HS.o.lt),tw (fe HS.o.lt n) u⟩
theorem vN(A:H->Prop)k f s(c:dT)w(r:c.size<=vx)(a:aP A w k f)(t:Inv f s)(u:s<2199023255340):
  Calls Yq.prog 13 #[O (J ⟨k,0,N⟩),U c] w (dQ A w k (MA f c).1 (Qb #[I K (MA f c).2.1,I K (MA f c).2.2])):=by
 have i:=mi c w r;have HS:=aI a;cases d:aS c with
 |false=>
  rw[d]at i;have e:MA f c=(f,0,2):=by simp[MA,d]
  rw[e];go_enter (Yq.nq Qr),Qo;go_wp2_with (go_at_call 34;refine i.m ?_;rintro e l ⟨rfl,rfl⟩)
  go_ret2
  exact bG HS.o (bR _ _)
 |true=>
  rw[d]at i;have q:=iw d;have j:=rx k f w a.count a.last;cases b:kx f with
  |true=>
   rw[b]at j;have e:MA f c=(f,0,4):=by simp[MA,d,b]
   rw[e];go_enter (Yq.nq Qr),Qo;go_wp2_with (first|(go_at_call 34;refine i.m ?_;rintro e l ⟨rfl,rfl⟩)|(go_at_call 35;refine j.m ?_;rintro e l ⟨rfl,rfl⟩))
   go_ret2
   exact bG HS.o (bR _ _)
  |false=>
   rw[b]at j;have e:MA f c=(bM f c ⟨#[]⟩ Y,f.last+1,0):=by simp[MA,d,b]
   have n:¬f.last=9223372036854775807:=λh=>by simp[kx,h]at b
   rw[e];clear d a e b;go_enter (Yq.nq Qr),Qo;go_wp2_with (first|(go_at_call 34;refine i.m ?_;rintro e l ⟨rfl,rfl⟩)|(go_at_call 35;refine j.m ?_;rintro e l ⟨rfl,rfl⟩)|(go_at_call 36;refine(zK A k f s c 0 ⟨#[]⟩ Y w q.1 HS.o t u n).m ?_;rintro e w2 ⟨rfl,S2,p⟩))
   go_ret2
   exact⟨Q,S2,p⟩
def fc(st:St)(key:dT)(n:eV):St×eV:=
 if aS key=Z then(st,2)
 else match db (st.f key.data.toList) n with
  |none=>(st,5)
  |some r=>(bP st key r,0)
theorem BB(A:H->Prop)k h s(d:dT)(n:eV)w(hk:d.size<=vx)(a:aP A w k h)(hI:Inv h s)(hs:s<2199023255340):
  Calls Yq.prog 14 #[O (J ⟨k,0,N⟩),U d,I K n] w (dQ A w k (fc h d n).1 (I K (fc h d n).2)):=by
 have HF:=vD A k h s d n w hk a hI (by omega);have HS:=aI a;have B:=a.lt;have l2:=hI.Ni;have l3:=hI.Nj;have ap:=hI.len d.data.toList;clear a;go_enter (Yq.nq Tryz.func14),Tryz.ntmps14;go_wp2_with fail
 refine HF.m ?_;rintro e w1 ⟨j,ac⟩;rcases ac with⟨i,rfl⟩|⟨i,z,rfl⟩|⟨i,r,ha,hc,z,hr,hh,rfl⟩
 .have HR:Hid (fc h d n=(h,2)):=show fc h d n=(h,2)by simp[fc,i]
  have HB:=aI j;clear i HF j;go_wp2;go_ret;rw[HR.o];exact bG HS.o HB.o
 .have HR:Hid (fc h d n=(h,5)):=show fc h d n=(h,5)by simp[fc,i,z]
  have HB:Hid (Below w.heap.size w w1):=j;clear i HF j z;go_wp2;go_ret;rw[HR.o];exact bG HS.o HB.o
 .have HR:Hid (fc h d n=(bP h d r,0)):=show fc h d n=(bP h d r,0)by simp[fc,i,z]
  have V:=iw i;have⟨p,c,hN⟩:=HS.o.cells;have C1:=c.on j;have c1:=C1.c1;have f1:=C1.fz 1;have c0:=C1.c0;obtain⟨W2,v⟩:∃W2,W2=w1.setCell ⟨k,1,N⟩ (I K (h.count-1)):=⟨_,Q⟩;have C2:aY W2 k (O p) (I K (h.count-1)) (I K h.last):=by rw[v];exact C1.N2 _
  have x:dq w W2 k:=by rw[v];exact rz (fe B j) _ _
  have af:bO (λb=>A b\/w.heap.size<=b) W2 (M ha (h.f d.data.toList).length hc) (h.f d.data.toList):=
   cw.Mr hh (λb F h2=>⟨PJ F,by rw[v];exact bS _ _ _ _ (HS.o.Mv b F)⟩)
  have T:∀u:Wj,W2.grownBy u (J k)->ao (λb=>(A b/\b<w.heap.size)\/w.heap.size<=b) 41 u p h.f:=λu al=>
   ao.Mr (λb F h2=>⟨PJ ⟨F,h2⟩,(cG x.g al).block b h2 (by intro e;cases e;exact HS.o.Mv k F Q)⟩) 41 p h.f hN
  have D:h.f d.data.toList≠[]:=by intro e;rw[e]at hr;simp at hr
  have ai:=aI v;clear i HF z c hN C1;by_cases aa:(h.f d.data.toList).length=1
  .have aj:r=0:=by omega
   have HD:Hid (bP h d r=⟨upd h.f d.data.toList [],h.count-1,h.last⟩):=show bP h d r=_ by
    unfold bP;rw[aj,List.take_zero,PR,List.drop_eq_nil_of_le (by omega)]
   have HT:Hid (Calls Yq.prog 41 #[Qa #[O p],U d] W2 λe R=>∃q,e=Nm (Qa #[O q])/\Below W2.heap.size W2 R/\ao (Grow (λb=>(A b/\b<w.heap.size)\/w.heap.size<=b) W2) 41 R q (upd h.f d.data.toList [])):=
    vB _ 41 p h.f d W2 (T W2 (World.grownBy.refl _ _)) V.1 V.2 D
   have HC:=jf C2 x;rw[aa];clear hh af T aa aj C2 x D v hr ap j;go_wp2_with fail
   rw[<-ai.o];refine HT.o.m ?_;rintro e w4 ⟨q,rfl,y,X⟩;have D4:=HC.o.1.on y;have r1:=D4.c0;have r2:=D4.fz 0;have HX:Hid (aP (Grow A w) (w4.setCell ⟨k,0,N⟩ (O q)) k (bP h d r)/\dq w (w4.setCell ⟨k,0,N⟩ (O q)) k):=by
    refine⟨?_,rz (gO HC.o.2 y) _ _⟩;rw[HD.o];exact eD (p:=q) (D4.NY _) (pR HC.o.2.g.size HS.o.Mv B X _ _) (iy HS.o.Mv B)
   clear D4 X y HT HC;go_wp2;go_ret;rw[HR.o];exact⟨Q,HX.o.1,HX.o.2⟩
  .have HD:Hid (bP h d r=⟨upd h.f d.data.toList ((h.f d.data.toList).take r++(h.f d.data.toList).drop (r+1)),h.count-1,h.last⟩):=rfl;have HW:Hid (Calls Yq.prog 43 #[M ha (h.f d.data.toList).length hc,I K r] W2.drew λe R=>∃G L P,e=Nm (M G L P)/\bO (λb=>W2.heap.size<=b) R (M G L P) ((h.f d.data.toList).take r++(h.f d.data.toList).drop (r+1))/\Below W2.heap.size W2 R):=by
    exact(vC _ _ _ r W2.drew (cw.Mr af (λb F h2=>⟨F,Q⟩)) hr (by omega)).m (λe R ⟨G,L,P,F,h2,h3⟩=>⟨G,L,P,F,h2,(bR _ W2).drew.t h3⟩)
   have ab:(h.f d.data.toList).take r++(h.f d.data.toList).drop (r+1)≠[]:=by
    intro e;have:=eW List.length e;rw[lP,tL,lD,lN]at this;omega
   have HT:Hid (∀ (u:Wj) (G:gI Wu) (L P:H),Below W2.heap.size W2 u->bO (λb=>W2.heap.size<=b) u (M G L P) ((h.f d.data.toList).take r++(h.f d.data.toList).drop (r+1)) ->
     Calls Yq.prog 42 #[Qa #[O p],U d,M G L P] u λe R=>∃q,e=Nm (Qa #[O q])/\Below u.heap.size u R/\ao (Grow (λb=>(A b/\b<w.heap.size)\/w.heap.size<=b) u) 41 R q (upd h.f d.data.toList ((h.f d.data.toList).take r++(h.f d.data.toList).drop (r+1)))):=λu G L P l ad=>by
    refine vz _ 41 p h.f d _ _ u (T u (aO l _)) V.1 V.2 (cw.Mr ad (λb F h2=>⟨PI ?_,Q⟩)) ab;have:=x.g.size;omega
   have HC:Hid (aY W2 k (O p) (I K (h.count-1)) (I K h.last)/\dq w W2 k):=⟨C2,x⟩;have a0:=C2.c0;have hone':(((h.f d.data.toList).length:eV)==1)=false:=by simp;omega
   generalize(h.f d.data.toList).take r++(h.f d.data.toList).drop (r+1)=hnew at *;clear hh af T C2 x D v j ab;generalize(h.f d.data.toList).length=m at *;go_wp2_with fail
   rw[<-ai.o]
   go_region_with (first
    |(go_at_call 43;refine HW.o.m ?_;rintro e u ⟨G,L,P,rfl,ad,l⟩;have b0:=ag l a0)
    |(go_at_call 42;refine(HT.o _ G L P l ad).m ?_;rintro e w4 ⟨q,rfl,y,X⟩;have E4:=(HC.o.1.on l).on y;have r1:=E4.c0;have r2:=E4.fz 0))
   all_goals
    go_wp2;go_ret;rw[HR.o,HD.o];exact⟨Q,eD (p:=q) (E4.NY _) (pR (by have:=HC.o.2.g.size;have:=l.size;omega) HS.o.Mv B X _ _) (iy HS.o.Mv B),rz (gO (gO HC.o.2 l) y) _ _⟩
structure eH (st:St):Prop where
 cnt:(tot 41 st.f:eV)=st.count
 le:st.count<=200
 long:∀k,40<k.length->st.f k=[]
 body:∀k,∀v∈st.f k,v.body.size<=100
theorem vO{z:dT}(h:aS z=Y):z.data.toList.length<=40:=by
 have:=jp h;have e:z.data.toList.length=z.size:=by simp
 omega
theorem eH.add{i}(h:eH i)(b a:dT)(d:gL)(j:aS b=Y)(hc:¬200<=i.count)(l:a.size<=100):eH (bM i b a d):=by
 have hl:=vO j;have e:=DG 41 i.f b.data.toList (i.f b.data.toList++[⟨i.last+1,a,d⟩]) (by omega);rw[lP,lS]at e;have:=h.cnt;refine⟨?_,?_,λk j=>?_,λk v c=>?_⟩;simp only[bM];omega;simp only[bM];omega;simp only[bM,upd];rw[lj (by intro e;subst e;omega)];exact h.long k j;simp only[bM,upd]at c;split at c
 rcases PN.1 c with c|c;exact h.body _ v c;simp only[List.mem_singleton]at c;subst c;exact l;exact h.body k v c
theorem eH.drop{c}(h:eH c)(a:dT)r(d:aS a=Y)(hr:r<(c.f a.data.toList).length):eH (bP c a r):=by
 have hl:=vO d;have e:=DG 41 c.f a.data.toList ((c.f a.data.toList).take r++(c.f a.data.toList).drop (r+1)) (by omega);rw[lP,tL,lD,Nat.min_eq_left (by omega)]at e;have:=h.cnt;have:=h.le;refine⟨?_,?_,λk d=>?_,λk v b=>?_⟩;simp only[bP];omega;simp only[bP];omega;simp only[bP,upd];rw[lj (by intro e;subst e;omega)];exact h.long k d;simp only[bP,upd]at b;split at b
 rcases PN.1 b with b|b;exact h.body _ v (List.mem_of_mem_take b);exact h.body _ v (List.mem_of_mem_drop b);exact h.body k v b
theorem eH.step{a}(h:eH a)o:eH (aE a o).1:=by
 unfold aE;simp only
 repeat' split
 all_goals first
  |exact h
  |exact h.add _ _ _ (by simpa using ‹¬aS o.key=Z›) (λh=>‹¬(200<=a.count\/a.last=9223372036854775807)› (Qc h)) (by first|exact Nat.le_of_not_lt ‹_› |exact Ro _)
  |(rename_i r b;exact h.drop _ _ (by simpa using ‹¬aS o.key=Z›) (PL.1 b).1)
theorem GQ:eH ⟨λ_=>[],0,0⟩:=⟨by rw[J0];rfl,by simp,λ_ _=>Q,λ_ _ h=>by simp at h⟩
end
section
open Go.Conc Go.ConcX Go.ConcX.Gen Go.RowKit
theorem tC(h:S Ver):∀v∈aw h,Good v:=λv a=>by
 simp only[aw,PM]at a;obtain⟨x,-,a⟩:=a;simp at a;rcases a with rfl|rfl|rfl
 .exact .int _ _
 .exact .string _
 .exact .bool _
theorem tD(b:S (ey×gI Wu)):∀v∈aH b,Good v:=λv a=>by
 simp only[aH,PM]at a;obtain⟨x,-,a⟩:=a;simp at a;rcases a with rfl|rfl
 .exact .int _ _
 .exact .pointer _
section
variable {ρ:Ren} {V W V':Wj}
theorem DL(p:∀a y i v,ρ a y->V.cell? ⟨a,i,N⟩=J v->Good v->V'.cell? ⟨a,i,N⟩=J v)(s:∀v∈xs,Good v)(k:∃m,RV ρ v m)(h:cw A V v n xs):cw (λ_=>True) V' v n xs:=by
 obtain⟨a,l,rfl,f,x⟩:=h;refine⟨a,l,Q,f,λb=>?_⟩;obtain⟨g,rfl,hA,hgl,u⟩:=x b;obtain⟨m,k⟩:=k;obtain⟨y,q⟩:∃y,ρ g y:=by
  cases k with
  |slice n c h=>cases h with|some h=>exact⟨_,h.1⟩
 have d:∀j,j<xs.length->V'.cell? ⟨g,j,N⟩=xs[j]?:=λj e=>by
  have r:=(u j e).t (eL e);rw[eL e];exact p g y j _ q r (s _ (List.getElem_mem e))
 have o:0<xs.length:=PK.2 b;exact⟨g,Q,trivial,bC V' _ ((d 0 o).t (eL o)),d⟩
theorem GR(d:cg ρ V W)(o:∀a y i v,ρ a y->V.cell? ⟨a,i,N⟩=J v->Good v->V'.cell? ⟨a,i,N⟩=J v):∀ (n:H)(p:gI Wu)(f:S ey->S Ver),(∃r,RAo ρ p r)->ao A n V p f->ao (λ_=>True) n V' p f:=by
 intro n;induction n with
 |zero=>intro p f _ h;exact h
 |succ n ih=>
  intro p f F h;rcases h with h|⟨g,hv,X,ks,rfl,hA,c0,c1,R,T,l,hs,D,u,L⟩;exact .inl h;obtain⟨r,F⟩:=F;obtain⟨y,m⟩:∃y,ρ g y:=by cases F with|some h=>exact⟨_,h.1⟩
  have hrel:∀ (b y j:H) (v:Wx),ρ b y->V.cell? ⟨b,j,N⟩=J v->∃z,RV ρ v z:=λb y j v hb hc=>by
   rcases d.cell (a:=⟨b,j,N⟩) (a':=⟨y,j,N⟩) ⟨hb,rfl,rfl⟩with h|⟨v1,v2,h1,B,h3⟩
   grind
   grind
  have rk:=hrel g y 2 X m R;refine .inr ⟨g,hv,X,ks,rfl,trivial,o g y 0 _ m c0 (.bool _),o g y 1 _ m c1 (by obtain⟨a,s,rfl,-⟩:=T;exact .slice _ _ _),o g y 2 _ m R (by obtain⟨a,s,rfl,-⟩:=l;exact .slice _ _ _),DL o (tC _) (hrel g y 1 hv m c1) T,DL o (tD _) rk l,hs,λc q t=>ih q _ ?_ (D c q t),u,L⟩;obtain⟨gk,s,rfl,-,-,x,-⟩:=l.cells (by intro e;rw[e]at t;simp at t);have⟨i,hi,e⟩:=gM t;obtain⟨G,P⟩:∃G,ρ gk G:=by
   obtain⟨z,k⟩:=rk;cases k with|slice n c h=>cases h with|some h=>exact⟨_,h.1⟩
  have B:=(x i hi).2;rw[e]at B;obtain⟨z,k⟩:=hrel gk G _ _ P B;cases k with|pointer h=>exact⟨_,h⟩
theorem rC(l:∀b j,b<V.heap.size->V'.cell? ⟨b,j,N⟩=V.cell? ⟨b,j,N⟩):∀ (n:H)(p:gI Wu)(f:S ey->S Ver),ao A n V p f->ao (λ_=>True) n V' p f:=by
 have d:∀v n e,cw A V v n e->cw (λ_=>True) V' v n e:=λv n e h=>by
  obtain⟨a,x,rfl,o,R⟩:=h;refine⟨a,x,Q,o,λi=>?_⟩;obtain⟨g,rfl,hA,y,hc⟩:=R i;have k:∀j,j<e.length->V'.cell? ⟨g,j,N⟩=e[j]?:=λj X=>(l g j y).t (hc j X)
  have z:0<e.length:=PK.2 i;exact⟨g,Q,trivial,bC V' _ ((k 0 z).t (eL z)),k⟩
 intro n;induction n with
 |zero=>intro p f h;exact h
 |succ n ih=>
  intro p f h;rcases h with h|⟨g,hv,P,G,rfl,hA,B,c1,D,F,u,L,r,m⟩
  .exact PJ h
  .have s:=bC V _ B;exact PI ⟨g,hv,P,G,Q,trivial,(l g 0 s).t B,(l g 1 s).t c1,(l g 2 s).t D,d _ _ _ F,d _ _ _ u,L,λc q T=>ih q _ (r c q T),m⟩
end
def lQy(l:Lst):Qy:=⟨l.vs,l.p,l.d,l.af⟩
def nP(l:Lst)(f:S ey->S Ver):S ItD:=bV (lQy l) (bL f l.p.data.toList)
structure Lf (Qok:Qy->Prop)(l:Lst)(f:S ey->S Ver)(w:Wj):Prop where
 tree:vI w l.root f
 ok:Qok (lQy l)
 sum:fG (bL f l.p.data.toList)<=1000
 pre:l.p.size<=maxLen
 MK:dE w
def KI(Qok:Qy->Prop)(l:Lst)(L:S Wx)(w:Wj):Prop:=∃f,Lf Qok l f w/\L=(nP l f).map itVal
theorem lm:0<Tryz.prog.globals.size:=by simp_all
theorem DM(Qok:Qy->Prop)(A:∀q,Qok q->jc q/\jd q):Da (KI Qok) where
 low:=λρ V W V' l L a u n d o ⟨f,h,e⟩=>⟨f,⟨.of (GR a d 41 l.root f u h.tree),h.ok,h.sum,h.pre,by
  have⟨m,k⟩:=h.MK;have⟨y,s⟩:=n 0 lm;exact⟨m,d 0 y 0 _ s k (.int _ _)⟩⟩,e⟩
 on:=λV V' l L d o ⟨f,h,e⟩=>⟨f,⟨.of (rC (λb j z=>d ⟨b,j,N⟩ z) 41 l.root f h.tree),h.ok,h.sum,h.pre,by
  have⟨m,k⟩:=h.MK;exact⟨m,(d _ (bC V _ k)).t k⟩⟩,e⟩
 item:=λl L V ⟨f,h,e⟩ v p=>by
  rw[e]at p;obtain⟨i,-,rfl⟩:=List.mem_map.1 p;exact⟨_,_,_,rfl⟩
 len:=λl L V ⟨f,h,e⟩=>by
  rw[e,lM];exact lT (ml (lQy l) _ (fg _ _ _)) h.sum
 send:=λl L w c ⟨f,h,e⟩ B=>by
  obtain⟨x,r⟩:=A _ h.ok;have:=J2 (lQy l) x r l.root f c w h.MK h.tree h.sum h.pre B;rw[e,lM];exact this
theorem J3(Qok:Qy->Prop):∀l L V u,Ce V u->KI Qok l L u->KI Qok l L V:=λl _L _V _u a ⟨f,h,e⟩=>
 ⟨f,⟨.of (rC (λ_b _j _=>(a.2 _).s) 41 l.root f h.tree),h.ok,h.sum,h.pre,by
  have⟨m,b⟩:=h.MK;exact⟨m,(a.2 _).s.t b⟩⟩,e⟩
theorem DN t:QT (Yq.prog.follows .mixedOrders) Yq.My t=[0,1]\/QT (Yq.prog.follows .mixedOrders) Yq.My t=[1,0]:=by
 rw[mixed];rcases Nat.mod_two_eq_zero_or_one t with h|h
 left
 simp[QT,QX,Region.linearise.go,Yq.My,PQ,List.range.loop,h,Rr]
 right
 simp[QT,QX,Region.linearise.go,Yq.My,PQ,List.range.loop,h,Rr]
theorem vP{a}{q}(h17:a.eval (Qe 17)=.chan (J c))(hsz:a.tmps.size=49)(hrow:w.heap[c]?=J (.chan k #[] Y s q Z))
  (h:Q .normal ((a.put (J 18) (Qb #[Qa #[I K 0,U ⟨#[]⟩,I K 0],C Z])).put (J 19) (C Z)) w):(Rf 5 gr Z).wp Yq.prog Q a w:=by
 refineλb kk cs=>⟨.normal,_,_,h,QS xc ?_⟩
 have hr:PQ gr.size=[0,1]:=rfl;obtain⟨es,hcomm⟩:∃es,stepG Yq.prog Y (G (b.at a (.inRegion gr [0,1]::kk)) cs) w=.comm (G (b.at a (.inRegion gr [0,1]::kk)) cs) #[rcase c (Qa #[I K 0,U ⟨#[]⟩,I K 0])] Y (.recv Y) w es:=by
  refine kH (o := { dst := J 18, op := .recv 151 (Qe 17) Y, type := 0, pos := "listing.go:108", after := #[], guard := N }) rfl rfl ?_
  have e : xv a.eval { dst := J 18, op := .recv 151 (Qe 17) Y, type := 0, pos := "listing.go:108", after := #[], guard := N } = (do
   let .chan _ elem ← underlying 151 | stuck "receive: channel type expected"
   pure (.comm #[{chan:=a.eval (Qe 17),send:=N,zero:=<-zeroValue elem}] Y (.recv Y))):=rfl
  rw[e,h17];simp[go_sem,rcase]
 have st1:=step_lone_recv_shut Y hcomm hrow;rw[Frame.finish_at]at st1;refine QS st1 ?_;have hput:(a.put ((gr[0]?).bind (·.dst)) (got Y (Qa #[I K 0,U ⟨#[]⟩,I K 0]) Z))=a.put (J 18) (Qb #[Qa #[I K 0,U ⟨#[]⟩,I K 0],C Z]):=rfl;have h18:(a.put (J 18) (Qb #[Qa #[I K 0,U ⟨#[]⟩,I K 0],C Z])).eval (Qe 18)=Qb #[Qa #[I K 0,U ⟨#[]⟩,I K 0],C Z]:=by
  simp[Re,Rd,hsz]
 have st2 := xS (P := Yq.prog) (ops := gr) (a := a.put (J 18) (Qb #[Qa #[I K 0, U ⟨#[]⟩, I K 0], C Z])) (i := 1) (rest := []) (b := b) (k := kk) (cs := cs) (w := w) (w' := w) (v := C Z) (o := { dst := J 19, op := .extract (Qe 18) 1, type := 4, pos := "listing.go:108", after := #[{ on := 0, ground := .data }], guard := N }) rfl rfl (by
  have e : xv (a.put (J 18) (Qb #[Qa #[I K 0, U ⟨#[]⟩, I K 0], C Z])).eval { dst := J 19, op := .extract (Qe 18) 1, type := 4, pos := "listing.go:108", after := #[{ on := 0, ground := .data }], guard := N } = (do let v ← Instr.extract ((a.put (J 18) (Qb #[Qa #[I K 0, U ⟨#[]⟩, I K 0], C Z])).eval (Qe 18)) 1; pure (.value v)) := rfl
  rw[e,h18];rfl)
 exact QS st2 (.one xb)
theorem GS(l:Lst)(j:eV)(n c h:H)(d:S ItD)(u:H->Wx)(o w:Wj)(b:PgI o w n c d []):
  dB.wp Yq.prog (λe a k=>e=.exit 0/\(∃m,a=⟨dJ n l j c h m,[]⟩)/\k=w) ⟨dJ n l j c h u,[]⟩ w:=by
 have⟨kc,sc,qc,f⟩:=b.ch;refine wp_seq (vP (c:=c) Q Q f ?_);show Ri Yq.prog (dm dB) _ _ _;unfold dJ qV sV ptr lV aQ;dsimp only[dB,cIn,cn,cN,QD,iG,dm,pE,Rb];go_wp2_with fail
 exact⟨λi=>if i=18 then Qb #[Qa #[I K 0,U ⟨#[]⟩,I K 0],C Z]else if i=19 then C Z else u i,by simp⟩
theorem BC l(j:eV)n c m(v:n+2<c)(t:c<m.heap.size)(k:m.cell? ⟨n,6,N⟩=J (I K l.size)):
  ∀ (h:S ItD) (f:H) (d:S ItD) (u:H->Wx) (w:Wj),PgI m w n c d (h.map itVal)->d.length<=f->f+h.length<=1000 ->
   Rh Yq.prog dB (λe a q=>e=.exit 0/\(∃o,a=⟨dJ n l j c ((f+h.length:H):eV) o,[]⟩)/\PgI m q n c (d++dV l j f h) []) (h.length+1) ⟨dJ n l j c f u,[]⟩ w:=by
 intro h;induction h with
 |nil=>
  refineλf d u w b _ _=>NE (GS l j n c f d u m w b) ?_
  rintro e a q ⟨rfl,⟨o,rfl⟩,rfl⟩;exact⟨Q,⟨o,by simp⟩,by simpa[dV]using b⟩
 |cons i r ih=>
  intro f d u w b hi s;have s:f+(r.length+1)<=1000:=s;rw[lC,rounds_succ];refine NE (vF l j n c f i (r.map itVal) d u m w v t k b (by omega) (by omega)) ?_;rintro e a p ⟨rfl,ha,I1⟩;show Rh _ _ _ _ a p;have h2:=ih (f+1) _ (λi=>a.tmps.getD i Wo) p I1 (by split<;>(try simp)<;>omega) (by omega);have e0:(((f+1:H):eV))=(f:eV)+1:=rfl;have e2:f+1+r.length=f+(r.length+1):=by omega
  have e3:(if jA l j ((f:eV)+1)then d++[i]else d)++dV l j (f+1) r=d++dV l j f (i::r):=by
   rw[dV]
   grind
  grind
def eR(n pg:eV):dT:=⟨(PU n++46::PU pg).toArray⟩
def mq(G:Wj->Prop)(n pg:eV):Prop:=∀ (l:Lst)(w:Wj),G w->l.num=n->Calls Yq.prog 73 #[lV l,I K pg] w λe a=>e=Nm (U (eR n pg))/\Below w.heap.size w a
def IG(l:Lst)(a:eV)(n:H):dT:=if IntKind.i64.wrap (a*l.size)<(n:eV)then eR l.num (IntKind.i64.wrap (a+1))else⟨#[]⟩
structure ay (W W':Wj):Prop where
 os:W'.os=W.os
 size:W.heap.size<=W'.heap.size
 block:∀b,b<W.heap.size->W'.heap[b]?=W.heap[b]?
theorem bH{G}(h:w.ownsRow s G b v n xs)(l:∀g,s<=g->g<w.heap.size->W0.heap[g]?=w.heap[g]?):W0.ownsRow s G b v n xs:=by
 refine⟨h.1,?_⟩;rcases h.2 with h2|⟨g,d,c,k,j,i,r⟩
 grind
 exact PI ⟨g,d,c,k,j,(l g j (eS i).1).t i,r⟩
theorem DO(l:Lst)(x:eV)(n c r:H)(s:S ItD)(u:H->Wx)(A w:Wj)(G:Wj->Prop)(hn:n+2<c)(hc:c<A.heap.size)(r0:A.heap[n]?=J (E (aQ l) 107))(r1:A.heap[n+1]?=J (E #[M N 0 0,U ⟨#[]⟩] 69))(a:PgI A w n c s [])(hG:G w)(hT:IntKind.i64.wrap (x*l.size)<(r:eV)->mq G l.num (IntKind.i64.wrap (x+1))):
  (dm cN).wp Yq.prog (PA Yq.prog Yq.f44 λe L=>∃sv,e=Nm (Qa #[sv,U (IG l x r)])/\L.ownsRow A.heap.size 117 3 sv s.length (aq s)/\(L.os=A.os/\A.heap.size<=L.heap.size/\∀b,b<n->L.heap[b]?=A.heap[b]?)) ⟨dJ n l x c r u,[]⟩ w:=by
 have hl0:=lL (by omega) a.size;have z:=(a.block n (by omega) (by omega) (by omega)).t r0;have X:=(a.block (n+1) (by omega) (by omega) (by omega)).t r1;have⟨sv,c0,j⟩:=a.row;have c1:=a.tok;have z0:=a.fz 0;have z1:=a.fz 1;have hbk:=λk h=>(j.lt k h).1
 have HI:=jf a j;have d0:w.cell? ⟨n+1,0,N⟩=J (M N 0 0):=by simp[n8,X]
 have d1:w.cell? ⟨n+1,1,N⟩=J (U ⟨#[]⟩):=by simp[n8,X]
 have y0:w.frozen? ⟨n+1,0,N⟩=false:=by simp[sq,X]
 have y1:w.frozen? ⟨n+1,1,N⟩=false:=by simp[sq,X]
 have k0:w.cell? ⟨n,0,N⟩=J (I K l.num):=by simp[n8,z,aQ]
 have k1:w.cell? ⟨n,1,N⟩=J (O l.root):=by simp[n8,z,aQ]
 have k2:w.cell? ⟨n,2,N⟩=J (C l.vs):=by simp[n8,z,aQ]
 have k3:w.cell? ⟨n,3,N⟩=J (U l.p):=by simp[n8,z,aQ]
 have k4:w.cell? ⟨n,4,N⟩=J (U l.d):=by simp[n8,z,aQ]
 have k5:w.cell? ⟨n,5,N⟩=J (U l.af):=by simp[n8,z,aQ]
 have k6:w.cell? ⟨n,6,N⟩=J (I K l.size):=by simp[n8,z,aQ]
 have k7:w.cell? ⟨n,7,N⟩=J (I K l.left):=by simp[n8,z,aQ]
 have aa:Hid (wrap64 (x*l.size)<(r:eV)->Calls Yq.prog 73 #[Qa #[I K l.num,O l.root,C l.vs,U l.p,U l.d,U l.af,I K l.size,I K l.left],I K (wrap64 (x+1))] w λe L=>e=Nm (U (eR l.num (wrap64 (x+1))))/\Below w.heap.size w L):=by
  rw[<-nb,<-nb];exactλh=>hT h l w hG Q
 clear a j z X r0 r1 hT hG;obtain⟨P,R,T,rfl⟩:∃P R T,sv=M P R T:=by
  rcases HI.o.2.2 with⟨rfl,-⟩|⟨g,cap,cur,rfl,-⟩
  grind
  grind
 have hszw:=HI.o.1.size;have V:n+2<w.heap.size:=by omega
 generalize hQ:PA Yq.prog Yq.f44 _=f;have HQ:=aI hQ;clear hQ;unfold dJ qV sV ptr lV aQ;dsimp only[cn,cN,QD,iG,dm,Rb];by_cases B:wrap64 (x*l.size)<(r:eV)
 .have F:=aa.o B;have y:IG l x r=eR l.num (wrap64 (x+1)):=by rw[IG,nb,nb,if_pos B]
  rw[y]at HQ;generalize eR l.num (wrap64 (x+1))=tk at F HQ;clear y;go_wp2_with (go_at_call 73;refine F.m ?_;clear F;rintro e w1 ⟨rfl,i⟩;replace c0:=ag i c0;replace c1:=ag i c1;replace d0:=ag i d0;replace d1:=ag i d1;replace z0:=(i.frozen (p:=⟨n+2,0,N⟩) V).t z0;replace z1:=(i.frozen (p:=⟨n+2,1,N⟩) V).t z1;replace y0:=(i.frozen (p:=⟨n+1,0,N⟩) (by show n+1<_;omega)).t y0;replace y1:=(i.frozen (p:=⟨n+1,1,N⟩) (by show n+1<_;omega)).t y1)
  rw[<-HQ.o];have⟨a,j⟩:=HI.o;have q:∀b,b≠n+1->b≠n+2->(((w1.setCell ⟨n+2,1,N⟩ (U tk)).setCell ⟨n+1,0,N⟩ (M P R T)).setCell ⟨n+1,1,N⟩ (U tk)).heap[b]?=w1.heap[b]?:=λb D h2=>by
   rw[bS _ _ _ _ D,bS _ _ _ _ D,bS _ _ _ _ h2]
  refine vf (v:=Qa #[M P R T,U tk]) (by simp[results,Qt,go_sem,d0,d1]) Q ⟨_,Q,bH j λg D h2=>?_,?_,?_,λb hb=>?_⟩;rw[q g (by omega) (by omega)];exact i.block g h2;exact i.os.t a.os;have:=i.size;simp;omega;rw[q b (by omega) (by omega),i.block b (by omega)];exact a.block b (by omega) (by omega) (by omega)
 have y:IG l x r=⟨#[]⟩:=by rw[IG,nb,nb,lj B]
 rw[y]at HQ;clear y;go_wp2_with fail
 rw[<-HQ.o];have⟨a,j⟩:=HI.o;have q:∀b,b≠n+1->((w.setCell ⟨n+1,0,N⟩ (M P R T)).setCell ⟨n+1,1,N⟩ (U ⟨#[]⟩)).heap[b]?=w.heap[b]?:=λb D=>by
  rw[bS _ _ _ _ D,bS _ _ _ _ D]
 refine vf (v:=Qa #[M P R T,U ⟨#[]⟩]) (by simp[results,Qt,go_sem,d0,d1]) Q ⟨_,Q,bH j λg D h2=>?_,?_,?_,λb hb=>?_⟩;exact q g (by omega);exact a.os;simp;omega;rw[q b (by omega)];exact a.block b (by omega) (by omega) (by omega)
def Lh(V:Wj)(l:Lst)(a:eV)(Mt:S ItD)(e:Ending)(w':Wj):Prop:=
 ∃b,e=Nm (Qa #[b,U (IG l a Mt.length)])/\w'.ownsRow V.heap.size 117 3 b (dV l a 0 Mt).length (aq (dV l a 0 Mt))/\ay V w'
def Stop(Qok:Qy->Prop)(e:Ending)(w':Wj):Prop:=∃x y r,e=.panicked (stopEntry x y::r)/\∃a b L,x=lV a/\y=I K b/\KI Qok a L w'
theorem ym(Qok:Qy->Prop)(hQ:∀q,Qok q->jc q/\jd q)l(d:eV)(f:S ey->S Ver)V(hp:Lf Qok l f V)(G:Wj->Prop)(hG:∀m,ay V m->G m)(hT:IntKind.i64.wrap (d*l.size)<((nP l f).length:eV)->mq G l.num (IntKind.i64.wrap (d+1))):
  Calls Yq.prog 44 #[lV l,I K d] V λe m=>Lh V l d (nP l f) e m\/Stop Qok e m:=by
 have j:=DM Qok hQ;have D:KI Qok l ((nP l f).map itVal) V:=⟨f,hp,Q⟩;intro cs;rcases DN (V.tape V.drawn (.order 44 100))with hs|hs;have⟨fr,B,hm,X,hf⟩:=uO (lV l) (I K d) cs V hs;refine⟨.panicked [stopEntry (lV l) (I K d)],{V with drawn:=V.drawn+1},fr,Qd ⟨_,_,_,rfl,l,d,_,rfl,rfl,j.on V _ l _ (λ_ _=>Q) (lR _) D⟩,B,hf,hm,X,_,by rw[hf];exact Yq.func44⟩;obtain⟨V4,B,ab,aa,n⟩:=uR j l d _ V cs D hs;have s:∀i,i<7->i≠5->V4.heap[V.heap.size+i]?=_:=λi T h2=>(ab _ (by omega) (by omega)).t (cF V l 1000 i T)
 have r0:=s 0 (by omega) (by omega);have hc:=(eS aa).1;have hlen:(nP l f).length<=1000:=by have:=j.len l _ V D;simpa using this
 have p:=BC l d V.heap.size (V.heap.size+5) V4 (by omega) hc (by simp at r0;simp[n8,r0,aQ]) (nP l f) 0 [] (λ_=>Wo) V4 (vG (s 2 (by omega) (by omega)) ⟨_,_,_,aa⟩) (by simp) (by omega);simp at p;have o:=λb x=>(ab b (by omega) (by omega)).t (fq V l 1000 x)
 have L:(Code.block 0 (.loop dB)).wp Yq.prog (λe a w=>e=.normal/\(dm cN).wp Yq.prog (PA Yq.prog Yq.f44 (Lh V l d (nP l f))) a w) ⟨dJ V.heap.size l d (V.heap.size+5) 0 (λ_=>Wo),[]⟩ V4:=by
  refine wp_block (NE (wp_loop_rounds _ p) ?_);rintro e a m ⟨rfl,⟨u',rfl⟩,c⟩;simp only[Exit.inBlock,kr];refine⟨trivial,NE (DO l d V.heap.size (V.heap.size+5) (nP l f).length _ u' V4 m G (by omega) hc (by simpa using r0) (s 1 (by omega) (by omega)) c (hG m ⟨c.os.t n,by have:=c.size;omega,λb x=>(c.block b (by omega) (by omega) (by omega)).t (o b x)⟩) hT) ?_⟩;intro e a w2 h;cases e with
  |normal=>obtain⟨T,v,h2,F,r,h4,h5,h6,h7⟩:=h;exact⟨T,v,h2,F,r,cI h4 (by omega),h5.t n,by omega,λb x=>(h7 b x).t (o b x)⟩
  |ret=>obtain⟨T,v,h2,F,r,h4,h5,h6,h7⟩:=h;exact⟨T,v,h2,F,r,cI h4 (by omega),h5.t n,by omega,λb x=>(h7 b x).t (o b x)⟩
  |panic A=>obtain⟨T,F,r,-⟩:=h;cases r
  |outgrown=>obtain⟨F,r,-⟩:=h;cases r
  |exit id=>exact h.elim
  |goto l=>exact h.elim
 obtain⟨e1,a1,w1,⟨rfl,ac⟩,z⟩:=L (base 44) [.code (dm cN)] cs;have⟨e,a',m,R,u⟩:=ac (base 44) [] cs;have y:=
  Steps.t B (Steps.t (.one (xb (P:=Yq.prog) (b:=base 44) (k:=[.code (.block 0 (.loop dB)),.code (dm cN)]))) z)
 cases e with
 |normal=>
  obtain⟨X,v,hr,hR⟩:=R;exact⟨Nm v,m,_,Qc hR,Steps.t y (Steps.t u (.one step_end)),Q,Q,X,Q,_,Yq.func44,hr⟩
 |ret=>
  obtain⟨X,v,hr,hR⟩:=R;obtain⟨todo,hs⟩:=u;exact⟨Nm v,m,_,Qc hR,Steps.t y hs,Q,Q,X,Q,_,Yq.func44,hr⟩
 |panic A=>obtain⟨-,F,r,-⟩:=R;cases r
 |outgrown=>obtain⟨F,r,-⟩:=R;cases r
 |exit id=>exact R.elim
 |goto l=>exact R.elim
end
end Go.Proofs.Qw
namespace Go.Proofs
open _root_ renaming rfl->Q
open _root_ renaming Nat->H,List->S
open Option renaming none->N,some->J
open Bool renaming true->Y,false->Z
open Value renaming int->I,string->U,slice->M,pointer->O,bool->C,agg->Qa,tuple->Qb
open IntKind renaming i64->K
open Obj renaming cells->E
open Ending renaming returned->Nm
open Or renaming inl->Qc,inr->Qd
open Operand renaming tmp->Qe
variable {A A' X:H->Prop}{V W W' W0 a e w w1:Wj}{b c i k k0 n s:H}{p:gI Wu}{P:Wv}{B v y:Wx}{xs:S Wx}{u:g6 gL}{Q:Exit->Act->Wj->Prop}{t:g6 Wx}
section
open Go.Shelf Go.Lib Go.Sort
def Yq.NT:Go.Shelf.Ren:=⟨λ| 171=>96| 243=>116| 246=>133| 283=>142| 284=>143| 285=>144| 286=>145| 129=>126| 317=>151| 318=>152| 319=>153| 320=>154| 337=>157| 338=>158|n=>n,λ| 3=>3| 9=>9| 2=>2| 4=>4| 171=>226| 0=>0| 53=>34| 37=>118| 5=>5| 173=>228| 212=>236| 51=>209| 20=>20| 213=>237| 46=>186| 232=>240| 233=>241|n=>n,λ| 17=>1| 18=>2| 19=>3|n=>n⟩
theorem Yq.Oj:Go.Proofs.LaysM.n171 Yq.prog Yq.NT:={
 mixed:=by kernel_rfl
 f129:=(Yq.nq Tryz.func126).t (eW J (by kernel_rfl))
 f171:=(Yq.nq Tryz.func96).t (eW J (by kernel_rfl))
 f243:=(Yq.nq Tryz.func116).t (eW J (by kernel_rfl))
 f246:=(Yq.nq Tryz.func133).t (eW J (by kernel_rfl))
 f283:=(Yq.nq Tryz.func142).t (eW J (by kernel_rfl))
 f284:=(Yq.nq Tryz.func143).t (eW J (by kernel_rfl))
 f285:=(Yq.nq Tryz.func144).t (eW J (by kernel_rfl))
 f286:=(Yq.nq Tryz.func145).t (eW J (by kernel_rfl))
 f317:=(Yq.nq Tryz.func151).t (eW J (by kernel_rfl))
 f318:=(Yq.nq Tryz.func152).t (eW J (by kernel_rfl))
 f319:=(Yq.nq Tryz.func153).t (eW J (by kernel_rfl))
 f320:=(Yq.nq Tryz.func154).t (eW J (by kernel_rfl))
 f337:=(Yq.nq Tryz.func157).t (eW J (by kernel_rfl))
 f338:=(Yq.nq Tryz.func158).t (eW J (by kernel_rfl))
 t0:=(Yq.u Tryz.underlying0)
 a0:=(λw=>Yq.a (Tryz.isAgg0 w))
 z0:=(λw=>Yq.s (Tryz.sizeOf0 w))
 v0:=(λw=>Yq.z (Tryz.zeroValue0 w))
 t2:=(Yq.u Tryz.underlying2)
 a2:=(λw=>Yq.a (Tryz.isAgg2 w))
 z2:=(λw=>Yq.s (Tryz.sizeOf2 w))
 v2:=(λw=>Yq.z (Tryz.zeroValue2 w))
 t3:=(Yq.u Qs)
 a3:=(λw=>Yq.a (Tryz.isAgg3 w))
 z3:=(λw=>Yq.s (Tryz.sizeOf3 w))
 v3:=(λw=>Yq.z (Tryz.zeroValue3 w))
 t4:=(Yq.u Tryz.underlying4)
 a4:=(λw=>Yq.a (Tryz.isAgg4 w))
 z4:=(λw=>Yq.s (Tryz.sizeOf4 w))
 v4:=(λw=>Yq.z (Tryz.zeroValue4 w))
 t5:=(Yq.u Tryz.underlying5)
 a5:=(λw=>Yq.a (Tryz.isAgg5 w))
 z5:=(λw=>Yq.s (Tryz.sizeOf5 w))
 v5:=(λw=>Yq.z (Tryz.zeroValue5 w))
 t9:=(Yq.u Tryz.underlying9)
 a9:=(λw=>Yq.a (Tryz.isAgg9 w))
 z9:=(λw=>Yq.s (Tryz.sizeOf9 w))
 v9:=(λw=>Yq.z (Tryz.zeroValue9 w))
 t20:=(Yq.u Tryz.underlying20)
 a20:=(λw=>Yq.a (Tryz.isAgg20 w))
 z20:=(λw=>Yq.s (Tryz.sizeOf20 w))
 v20:=(λw=>Yq.z (Tryz.zeroValue20 w))
 t37:=(Yq.u Qh)
 a37:=(λw=>Yq.a (Tryz.isAgg118 w))
 z37:=(λw=>Yq.s (Tryz.sizeOf118 w))
 v37:=(λw=>Yq.z (Tryz.zeroValue118 w))
 t46:=(Yq.u Tryz.underlying186)
 a46:=(λw=>Yq.a (Tryz.isAgg186 w))
 z46:=(λw=>Yq.s (Tryz.sizeOf186 w))
 v46:=(λw=>Yq.z (Tryz.zeroValue186 w))
 t51:=(Yq.u Tryz.underlying209)
 a51:=(λw=>Yq.a (Tryz.isAgg209 w))
 z51:=(λw=>Yq.s (Tryz.sizeOf209 w))
 v51:=(λw=>Yq.z (Tryz.zeroValue209 w))
 t53:=(Yq.u Tryz.underlying34)
 a53:=(λw=>Yq.a (Tryz.isAgg34 w))
 z53:=(λw=>Yq.s (Tryz.sizeOf34 w))
 v53:=(λw=>Yq.z (Tryz.zeroValue34 w))
 t171:=(Yq.u Tryz.underlying226)
 a171:=(λw=>Yq.a (Tryz.isAgg226 w))
 z171:=(λw=>Yq.s (Tryz.sizeOf226 w))
 v171:=(λw=>Yq.z (Tryz.zeroValue226 w))
 t173:=(Yq.u Tryz.underlying228)
 a173:=(λw=>Yq.a (Tryz.isAgg228 w))
 z173:=(λw=>Yq.s (Tryz.sizeOf228 w))
 v173:=(λw=>Yq.z (Tryz.zeroValue228 w))
 t212:=(Yq.u Tryz.underlying236)
 a212:=(λw=>Yq.a (Tryz.isAgg236 w))
 z212:=(λw=>Yq.s (Tryz.sizeOf236 w))
 v212:=(λw=>Yq.z (Tryz.zeroValue236 w))
 t213:=(Yq.u Tryz.underlying237)
 a213:=(λw=>Yq.a (Tryz.isAgg237 w))
 z213:=(λw=>Yq.s (Tryz.sizeOf237 w))
 t232:=(Yq.u Tryz.underlying240)
 a232:=(λw=>Yq.a (Tryz.isAgg240 w))
 z232:=(λw=>Yq.s (Tryz.sizeOf240 w))
 v232:=(λw=>Yq.z (Tryz.zeroValue240 w))
 t233:=(Yq.u Tryz.underlying241)
 a233:=(λw=>Yq.a (Tryz.isAgg241 w))
 z233:=(λw=>Yq.s (Tryz.sizeOf241 w))
 v233:=(λw=>Yq.z (Tryz.zeroValue241 w))
 g17:=by kernel_rfl
 g18:=by kernel_rfl
 g19:=by kernel_rfl
 i0:=by kernel_rfl
 i2:=by kernel_rfl
 i3:=by kernel_rfl
 i4:=by kernel_rfl
 i5:=by kernel_rfl
 i9:=by kernel_rfl
 i20:=by kernel_rfl
 i37:=by kernel_rfl
 i46:=by kernel_rfl
 i51:=by kernel_rfl
 i53:=by kernel_rfl
 i171:=by kernel_rfl
 i173:=by kernel_rfl
 i212:=by kernel_rfl
 i232:=by kernel_rfl
 i233:=by kernel_rfl
 m17:=by kernel_rfl
 m18:=by kernel_rfl
 m19:=by kernel_rfl}
theorem Yq.strconv_Itoa(n : eV) (h0 : -9223372036854775808 ≤ n) (h1 : n ≤ 9223372036854775807) (w : Wj) (htab : PY Yq.prog w "internal/strconv.uint64pow10" .u64 PZ) :
  Calls Yq.prog 96 #[I K n] w λe w'=>e=Nm (U ⟨(PU n).toArray⟩)/\∃k os,w'=grow (w.drewN k) os:=Any.strconv_Itoa Yq.Oj n h0 h1 w htab
end
end Go.Proofs
namespace Go.Proofs.Qw
open _root_ renaming rfl->Q
open _root_ renaming Nat->H,List->S
open Option renaming none->N,some->J
open Bool renaming true->Y,false->Z
open Value renaming int->I,string->U,slice->M,pointer->O,bool->C,agg->Qa,tuple->Qb
open IntKind renaming i64->K
open Obj renaming cells->E
open Ending renaming returned->Nm
open Or renaming inl->Qc,inr->Qd
open Operand renaming tmp->Qe
variable {A A' X:H->Prop}{V W W' W0 a e w w1:Wj}{b c i k k0 n s:H}{p:gI Wu}{F f:S ey->S Ver}{h:S Ver}{P:Wv}{x:S ey×S Ver}{B v y:Wx}{xs:S Wx}{u:g6 gL}{Q:Exit->Act->Wj->Prop}{t:g6 Wx}
section
open Go.Conc Go.ConcX Go.ConcX.Gen Go.RowKit
theorem GT(i:H):PU (i:eV)=PW i:=by simp[PU]
theorem zP:∀ (k u:H),u<10 ^ (k+1)->(PW u).length<=k+1
 | 0,u,h=>by
  rw[PW,dif_pos (by simpa using h)];simp
 |k+1,u,h=>by
  rw[PW];split
  .simp
  .have a:u/10<10 ^ (k+1):=by rw[Nat.pow_succ]at h;omega
   have:=zP k (u/10) a;rw[lP,lS];omega
theorem zQ{n:eV}(b:0<=n)(a:n<=9223372036854775807):(PU n).length<=19:=by
 obtain⟨u,rfl⟩:=Int.eq_ofNat_of_zero_le b;rw[(GT u)];exact zP 18 u (by have:(u:eV)<=9223372036854775807:=a;omega)
def tE(w : Wj) : Prop := PY Yq.prog w "internal/strconv.uint64pow10" .u64 PZ
theorem tE.on{w'}(h:tE w)(hb:∀b,b<w.heap.size->w'.heap[b]?=w.heap[b]?):tE w':=by
 unfold tE PY World.var? at *
 cases hg : Yq.prog.globalNamed "internal/strconv.uint64pow10" with
 |none=>rw[hg]at h;cases h
 |some g=>
  rw[hg]at h;simp only[Option.bind_some]at h ⊢;have hlt:g<w.heap.size:=by
   cases hh:w.heap[g]? with
   |none=>rw[hh]at h;cases h
   |some o=>exact(eS hh).1
  rw[hb g hlt];exact h
theorem rD w k(a:g6 Obj):Below w.heap.size w (Sort.grow (w.drewN k) a):=
 ⟨Q,Q,Q,by simp[Sort.grow,uc],λb c=>by simp[Sort.grow,uc,Array.getElem?_append_left c]⟩
theorem J4(n pg:eV)(r:0<=n/\n<=9223372036854775807)(j:0<=pg/\pg<=9223372036854775807):mq tE n pg:=by
 intro l w x z;obtain⟨f,root,vs,p,d,af,size,left⟩:=l;simp only at z;subst z;unfold eR;have D:Hid (∀W,Below w.heap.size w W->Calls Yq.prog 96 #[I K f] W λe i=>e=Nm (U ⟨(PU f).toArray⟩)/\Below W.heap.size W i):=λW q=>by
  refine(Yq.strconv_Itoa f (by omega) r.2 W (x.on q.block)).m ?_;rintro e i ⟨rfl,k,s,rfl⟩;exact⟨Q,rD W k s⟩
 have B:Hid (∀W,Below w.heap.size w W->Calls Yq.prog 96 #[I K pg] W λe i=>e=Nm (U ⟨(PU pg).toArray⟩)/\Below W.heap.size W i):=λW q=>by
  refine(Yq.strconv_Itoa pg (by omega) j.2 W (x.on q.block)).m ?_;rintro e i ⟨rfl,k,s,rfl⟩;exact⟨Q,rD W k s⟩
 have ha:=zQ r.1 r.2;have q:=zQ j.1 j.2;generalize PU f=a at *;generalize PU pg=b at *;have HW:Hid (∀c,Below w.heap.size w (w.alloc c)):=λc=>(bR _ _).alloc (lR _) _
 clear x r j;unfold lV aQ;go_enter (Yq.nq Tryz.func73),Tryz.ntmps73;go_wp2_with fail
 refine(D.o _ (HW.o _)).m ?_;rintro e w1 ⟨rfl,y⟩;have h:=aI ((HW.o _).t (y.m (by simp)));clear y;go_wp2_with fail
 all_goals try(exfalso;rename_i v;simp[Rj,Rk,vx]at v;omega)
 refine(B.o _ h.o).m ?_;rintro e w2 ⟨rfl,A⟩;have u:=aI (h.o.t (A.m h.o.size));clear A;go_wp2_with fail
 all_goals try(exfalso;rename_i v;simp[Rj,Rk,vx]at v;omega)
 go_ret;refine⟨?_,u.o⟩;have e:(⟨a.toArray⟩:dT)++⟨#[46]⟩++⟨b.toArray⟩=⟨(a++46::b).toArray⟩:=by
  apply Rl;simp
 rw[<-e];rfl
end
section
open Go.RowKit
open Go.Conc Go.ConcX Go.ConcX.Gen
def LF(P:Wv)(u:Ww):gL:=match P.underlying u with|some (.int _)=>Y|_=>Z
theorem GU{r:_root_.Go.Reach}{G}(a:LF P G=Y)(h:Cell.ok P w r b G v):nZ v=true:=by
 unfold LF at a;unfold Cell.ok at h;cases c:P.underlying G with
 |none=>rw[c]at a;cases a
 |some t=>
  rw[c]at a h;cases t<;>first|(cases a;done)|skip
  cases v<;>first|rfl|(exact h.elim)
theorem J5{G}{cs:g6 Wx}(a:(P.cellTypes P.depth G).map (λb=>b.all (LF P))=J Y)(h:Row.ok P w .any 0 G cs):∀ (i:H) v,cs[i]?=J v->nZ v=true:=by
 obtain⟨b,c,-,e⟩:=h;rw[c]at a;intro i v j;have⟨u,d,f⟩:=e i v j;exact GU (List.all_eq_true.1 (oJ a) u (List.mem_of_getElem? d)) f
theorem GV{F a:Type}{x:gI (F×a)}{t:a}(h:x.map (·.2)=J t):∃z,x=J (z,t):=by simp_all
theorem vQ(h:W.ShapedOpen P0):∀b,b<Tryz.prog.globals.size->∃c e z,W.heap[b]?=J (E c e z)/\∀ (i:H) v,c[i]?=J v->nZ v=true:=by
 have hg:Tryz.prog.globals.size=4:=by kernel_rfl
 intro b o;have a:∀t,((((begin P0 (λ_ _=>0) default).world.heap[b]?).bind Obj.row?).map (·.2)=J t)->(Tryz.prog.cellTypes Tryz.prog.depth t).map (λk=>k.all (LF P0))=J Y->Tryz.prog.buildable t=Y->∃c e z,W.heap[b]?=J (E c e z)/\∀ (i:H) v,c[i]?=J v->nZ v=true:=λt m l n=>by
  have⟨z,p⟩:=GV m;obtain⟨cs,f,-,j⟩:=h.1 b z t o p;exact⟨cs,t,(0,0),f,J5 l (j n)⟩
 have d:b=0\/b=1\/b=2\/b=3:=by omega
 rcases d with rfl|rfl|rfl|rfl;exact a 3 (by kernel_rfl) (by kernel_rfl) (by kernel_rfl);exact a 236 (by kernel_rfl) (by kernel_rfl) (by kernel_rfl);exact a 240 (by kernel_rfl) (by kernel_rfl) (by kernel_rfl);exact a 241 (by kernel_rfl) (by kernel_rfl) (by kernel_rfl)
theorem GW(h:W.ShapedOpen P0)(f:∀b,X b->∃c e z,W.heap[b]?=J (E c e z)):Start W (λb=>b<Tryz.prog.globals.size\/X b):=
 ⟨λb a=>by
  rcases a with a|a
  .obtain ⟨c,e,z,d,-⟩:=vQ h b a;exact⟨c,e,z,d⟩
  .exact f b a,λg i=>Qc i⟩
theorem Clean.MK(k:Clean A W V)(h:W.ShapedOpen P0):∀b,b<Tryz.prog.globals.size->V.heap[b]?=W.heap[b]?:=λb p=>by
 by_cases f:A b
 .have ⟨c,e,z,j,n⟩:=vQ h b p;have⟨c',c0,e',z',d,l,m,q⟩:=k.row b f;rw[j]at d;cases d;rw[j,l];refine eW (λx=>J (Obj.cells x e z)) (Array.ext_getElem? λi=>?_);by_cases a:i<c.size
  .obtain ⟨u,o,r⟩:=q i _ (eG a);rw[o,r.one (n i _ (eG a)),eG a]
  .rw [Q9 (by rw[m];omega),Q9 (by omega)]
 .exact k.rest b f
theorem J6(h:W.ShapedOpen P0):dE W:=by
 have c:(((begin P0 (λ_ _=>0) default).world.heap[0]?).bind Obj.row?).map (λx=>(x.1.size,x.2))=J (1,3):=by kernel_rfl
 have hu:=Qs;cases f:((begin P0 (λ_ _=>0) default).world.heap[0]?).bind Obj.row? with
 |none=>rw[f]at c;cases c
 |some x=>
  obtain⟨z,t⟩:=x;rw[f]at c;simp at c;obtain⟨hz,rfl⟩:=c;have⟨cs,j,e2,n⟩:=h.1 0 z 3 lm f;obtain⟨ts,i,-,l⟩:=n (by kernel_rfl);have d:=oJ (i.s.t (show Tryz.prog.cellTypes Tryz.prog.depth 3=J [3]by kernel_rfl));subst d;have⟨u,b,e⟩:=l 0 cs[0] (eG (by omega));simp at b;subst b;unfold Cell.ok at e;have a:W.cell? ⟨0,0,N⟩=J cs[0]:=by simp[n8,j]
  generalize cs[0]=v at *;cases v<;>first|(exact e.elim)|skip
  rename_i k m;obtain⟨rfl,-⟩:=e;exact⟨m,a⟩
theorem dE.MK(h:dE W)(d:∀b,b<Tryz.prog.globals.size->V.heap[b]?=W.heap[b]?):dE V:=by
 obtain⟨m,c⟩:=h;exact⟨m,(cB (a:=⟨0,0,N⟩) (d 0 lm)).t c⟩
theorem uW.frame(h:uW W a)(may:MemPlace->Prop):W.keptBut a may:=by
 refine⟨h.os,h.output,λi b=>?_⟩;rw[h.block i b]
 grind
theorem uW.trod{F:Type}{e:Ww×Wx->F}{G:Ww}(j:laidOutB P=Y)(k:P.readableRec G=Y)(c:G<P.types.size){d:DataW F}{ps:S MemPlace}(h:DataW.Trod e P W 0 (λ_=>Y) Y G v d ps)(f:uW W W')(i:∀x∈ps,x.block<W.heap.size):DataW.Trod e P W' 0 (λb=>decide (b<W.heap.size)) Y G v d ps:=by
 have:=Below.trod (W':={W' with tape:=W.tape}) j k c h ⟨f.os,Q,f.output,f.size,f.block⟩ i;exact DataW.Trod.of_heap (w:={W' with tape:=W.tape}) (w':=W') Q this
theorem nQ{x:String×DataW Unit}{l}(h:laidMet P (x::l) w):laidMet P l w:=by
 obtain⟨ps,⟨g,t,cs,fuel,p,q,-,-,-,-,e,rfl⟩,f,c⟩:=h;exact⟨q,e,(List.nodup_append.1 f).2.1,λb a d=>c b a (List.mem_append_right _ d)⟩
end
section
open Go.RowKit
def fh(st:St)(key:dT)(n:eV):Ver×eV:=
 if aS key=Z then(eF,2)
 else match db (st.f key.data.toList) n with
  |none=>(eF,5)
  |some r=>match(st.f key.data.toList)[r]? with
   |none=>(eF,5)
   |some v=>if v.mark then(eF,6)else(v,0)
structure LG (w W0:Wj):Prop where
 below:Below w.heap.size w W0
 c0:W0.cell? ⟨w.heap.size,0,N⟩=J (I K 0)
 c1:W0.cell? ⟨w.heap.size,1,N⟩=J (U ⟨#[]⟩)
 c2:W0.cell? ⟨w.heap.size,2,N⟩=J (C Z)
 fz:∀j,W0.frozen? ⟨w.heap.size,j,N⟩=Z
theorem Mi w:LG w (w.alloc (E #[I K 0,U ⟨#[]⟩,C Z] 62)):=
 ⟨(bR _ w).alloc (lR _) _,by rw[cA (w:=w) _ _ w.heap.size 0 Q];rfl,by rw[cA (w:=w) _ _ w.heap.size 1 Q];rfl,by rw[cA (w:=w) _ _ w.heap.size 2 Q];rfl,λj=>pt (w:=w) _ _ w.heap.size j Q⟩
theorem LG.on(h:LG w W0)(a:Below W0.heap.size W0 w1):LG w w1:=
 ⟨h.below.t (a.m h.below.size),ag a h.c0,ag a h.c1,ag a h.c2,λj=>(a.frozen (p:=⟨w.heap.size,j,N⟩) (show w.heap.size<W0.heap.size from bC W0 ⟨w.heap.size,0,N⟩ h.c0)).t (h.fz j)⟩
theorem DP(A:H->Prop)y d s(b:dT)(n:eV)w(P:b.size<=vx)(a:aP A w y d)(z:Inv d s)(G:s<=2199023255340):
  Calls Yq.prog 12 #[O (J ⟨y,0,N⟩),U b,I K n] w λe F=>e=Nm (Qb #[cH (fh d b n).1,I K (fh d b n).2])/\Below w.heap.size w F:=by
 have R0:=Mi w;have HF:=vD A y d s b n _ P (a.on R0.below) z G;have k:=aI R0;have hle:=z.len b.data.toList;clear R0 a;go_enter (Yq.nq Tryz.func12),Tryz.ntmps12;go_wp2_with fail
 refine HF.m ?_;generalize w.alloc (E #[I K 0,U ⟨#[]⟩,C Z] 62)=W0 at *;rintro e w1 ⟨p,i⟩;have R1:=k.o.on p;have t:=R1.c0;have x:=R1.c1;have q:=R1.c2;have g0:=R1.fz 0;have g1:=R1.fz 1;have g2:=R1.fz 2;have HB:=aI R1.below;clear R1 k HF p;rcases i with⟨c,rfl⟩|⟨c,h,rfl⟩|⟨c,r,ha,hc,h,u,B,rfl⟩;have HR:Hid (fh d b n=(eF,2)):=show fh d b n=(eF,2)by simp[fh,c]
 clear c;go_wp2;exact vf (v:=Qb #[cH (fh d b n).1,I K (fh d b n).2]) (by rw[HR.o];simp[results,Qg,go_sem,cH,eF,t,x,q]) Q ⟨Q,((HB.o.setCell (lR _) _).setCell (lR _) _).setCell (lR _) _⟩;have HR:Hid (fh d b n=(eF,5)):=show fh d b n=(eF,5)by simp[fh,c,h]
 clear c h;go_wp2;exact vf (v:=Qb #[cH (fh d b n).1,I K (fh d b n).2]) (by rw[HR.o];simp[results,Qg,go_sem,cH,eF,t,x,q]) Q ⟨Q,((HB.o.setCell (lR _) _).setCell (lR _) _).setCell (lR _) _⟩;have j:d.f b.data.toList≠[]:=by intro e;rw[e]at u;simp at u
 obtain⟨g,cap,R,-,-,l,-⟩:=B.cells j;cases R;have⟨D,T,L⟩:=l r u;have HR:Hid (fh d b n=if(d.f b.data.toList)[r].mark then(eF,6)else((d.f b.data.toList)[r],0)):=show fh d b n=_ by simp[fh,c,h,u]
 generalize(d.f b.data.toList)[r]=v at *;obtain⟨nm,bd,V⟩:=v;simp only at D T L;clear l B c h j;generalize(d.f b.data.toList).length=m at *;have hri:(r:eV)<(m:eV):=by omega
 cases V with
 |true=>
  go_wp2;exact vf (v:=Qb #[cH (fh d b n).1,I K (fh d b n).2]) (by rw[HR.o];simp[results,Qg,go_sem,cH,eF,t,x,q]) Q ⟨Q,((HB.o.setCell (lR _) _).setCell (lR _) _).setCell (lR _) _⟩
 |false=>
  go_wp2;exact vf (v:=Qb #[cH (fh d b n).1,I K (fh d b n).2]) (by rw[HR.o];simp[results,Qg,go_sem,cH,t,x,q]) Q ⟨Q,((HB.o.setCell (lR _) _).setCell (lR _) _).setCell (lR _) _⟩
structure pU (w W0:Wj):Prop where
 below:Below w.heap.size w W0
 lt:w.heap.size+1<W0.heap.size
 c0:W0.cell? ⟨w.heap.size+1,0,N⟩=J (I K 0)
 c1:W0.cell? ⟨w.heap.size+1,1,N⟩=J (I K 0)
 c2:W0.cell? ⟨w.heap.size+1,2,N⟩=J (U ⟨#[]⟩)
 c3:W0.cell? ⟨w.heap.size+1,3,N⟩=J (M N 0 0)
 c4:W0.cell? ⟨w.heap.size+1,4,N⟩=J (U ⟨#[]⟩)
 fz:∀j,W0.frozen? ⟨w.heap.size+1,j,N⟩=Z
theorem Li w(cs:g6 Wx):pU w ((w.alloc (E cs 30)).alloc (E #[I K 0,I K 0,U ⟨#[]⟩,M N 0 0,U ⟨#[]⟩] 46)):=by
 have h:∀j,((w.alloc (E cs 30)).alloc (E #[I K 0,I K 0,U ⟨#[]⟩,M N 0 0,U ⟨#[]⟩] 46)).cell? ⟨w.heap.size+1,j,N⟩=(#[I K 0,I K 0,U ⟨#[]⟩,M N 0 0,U ⟨#[]⟩]:g6 Wx)[j]?:=λj=>
  cA (w:=w.alloc (E cs 30)) _ _ (w.heap.size+1) j (by simp)
 refine⟨((bR _ w).alloc (lR _) _).alloc (by simp) _,by simp,h 0,h 1,h 2,h 3,h 4,λj=>pt (w:=w.alloc (E cs 30)) _ _ (w.heap.size+1) j (by simp)⟩
theorem pU.on{d}(h:pU w W0)(hk:d<w.heap.size)(b:W0.grownBy w1 (J d)):
  (w1.cell? ⟨w.heap.size+1,0,N⟩=J (I K 0)/\w1.cell? ⟨w.heap.size+1,1,N⟩=J (I K 0)/\w1.cell? ⟨w.heap.size+1,2,N⟩=J (U ⟨#[]⟩)/\w1.cell? ⟨w.heap.size+1,3,N⟩=J (M N 0 0)/\w1.cell? ⟨w.heap.size+1,4,N⟩=J (U ⟨#[]⟩)) /\
  (w1.frozen? ⟨w.heap.size+1,0,N⟩=Z/\w1.frozen? ⟨w.heap.size+1,1,N⟩=Z/\w1.frozen? ⟨w.heap.size+1,2,N⟩=Z/\w1.frozen? ⟨w.heap.size+1,3,N⟩=Z/\w1.frozen? ⟨w.heap.size+1,4,N⟩=Z):=by
 have a:∀o,J (⟨w.heap.size+1,o,N⟩:Wu).block≠J d:=λo e=>by simp at e;omega
 have c:=λj=>(bj b ⟨w.heap.size+1,j,N⟩ h.lt (a j)).t (h.fz j)
 exact⟨⟨b.cell h.c0 (a 0),b.cell h.c1 (a 1),b.cell h.c2 (a 2),b.cell h.c3 (a 3),b.cell h.c4 (a 4)⟩,c 0,c 1,c 2,c 3,c 4⟩
theorem pU.drew(h:pU w W0):pU w W0.drew:=⟨h.below.drew,h.lt,h.c0,h.c1,h.c2,h.c3,h.c4,h.fz⟩
def put5(w1:Wj)(b:H)(x0 x1 x2 x3 x4:Wx):Wj:=((((w1.setCell ⟨b,0,N⟩ x0).setCell ⟨b,1,N⟩ x1).setCell ⟨b,2,N⟩ x2).setCell ⟨b,3,N⟩ x3).setCell ⟨b,4,N⟩ x4
theorem pV{j}{e}(m:i<w.heap.size)(x:∀b,A b->b≠i)(u:Below w.heap.size w W0)(hlt:w.heap.size+1<W0.heap.size)(S1:aP (Grow (λb=>A b/\b<w.heap.size) W0) j i e)(s:dq W0 j i)n z t r q:
  dQ A w i e v (Nm v) (put5 j (w.heap.size+1) n z t r q):=by
 have c:w.heap.size+1≠i:=by omega
 refine⟨Q,?_,?_⟩;have⟨p,a,B⟩:=S1.cells;unfold put5;refine eD (p:=p) (((((a.MV _ _ _ c).MV _ _ _ c).MV _ _ _ c).MV _ _ _ c).MV _ _ _ c) (ao.Mr (λb l _=>?_) 41 p e.f B) (iy x m);have d:b≠w.heap.size+1:=by
  rcases l with⟨⟨_,h⟩,_⟩|h<;>omega
 have k:Grow A w b:=by
  rcases l with⟨⟨y,o⟩,_⟩|h;exact PJ ⟨y,o⟩;exact PI (by omega)
 refine⟨k,?_⟩;rw[bS _ _ _ _ d,bS _ _ _ _ d,bS _ _ _ _ d,bS _ _ _ _ d,bS _ _ _ _ d];unfold put5;exact vE (vE (vE (vE (vE (tw (fe m u) s) (by omega) _ _) (by omega) _ _) (by omega) _ _) (by omega) _ _) (by omega) _ _
theorem aP.cut{st}(a:aP A w i st)(d:Below w.heap.size w W0):aP (λb=>A b/\b<w.heap.size) W0 i st:=by
 have⟨p,c,k⟩:=a.cells;exact eD (p:=p) (c.on d) (ao.Mr (λb j e=>⟨⟨j,e⟩,d.block b e⟩) 41 p st.f k) (λb h=>a.Mv b h.1)
theorem BD(A:H->Prop)l h s o w(q:o.key.size<=vx)(k:o.body.size<=vx)(a:aP A w l h)(y:Inv h s)(z:s<2199023255340)(b:o.kind=1):
  Calls Yq.prog 8 #[O (J ⟨l,0,N⟩),aJ o] w (dQ A w l (ky h o.key o.body).1 (aG ⟨(ky h o.key o.body).2.2,(ky h o.key o.body).2.1,⟨#[]⟩⟩)):=by
 obtain⟨kind,d,c,B,j,n,p⟩:=o;simp only at b q k;subst b;have R0:=(Li w #[I K 1,U d,U c,U B,U j,I K n,I K p]).drew;have HC:=zO _ l h s d c _ q k (a.cut R0.below) y z;have HS:=jf a.lt a.Mv;have f:=aI R0;clear R0 a;simp only[aJ];generalize ky h d c=r at *;go_enter (Yq.nq Qm),Ql;go_wp2_with fail
 go_region_with (go_at_call 10;refine HC.m ?_;rintro e w1 ⟨rfl,S1,i⟩;have⟨⟨u,F,t,x,D⟩,g0,g1,g2,g3,g4⟩:=f.o.on HS.o.1 i.g;have HX:Hid (_/\_):=And.intro S1 i;clear S1 i HC)
 all_goals
  go_wp2;exact vf (v:=aG ⟨r.2.2,r.2.1,⟨#[]⟩⟩) (by simp[results,Qi,go_sem,aG,u,F,t,x,D]) Q (pV HS.o.1 HS.o.2 f.o.below f.o.lt HX.o.1 HX.o.2 _ _ _ _ _)
theorem yn(A:H->Prop)k f s o w(p:o.key.size<=vx)(a:aP A w k f)(x:Inv f s)(y:s<2199023255340)(b:o.kind=4):
  Calls Yq.prog 8 #[O (J ⟨k,0,N⟩),aJ o] w (dQ A w k (MA f o.key).1 (aG ⟨(MA f o.key).2.2,(MA f o.key).2.1,⟨#[]⟩⟩)):=by
 obtain⟨kind,c,i,z,j,n,l⟩:=o;simp only at b p;subst b;have R0:=(Li w #[I K 4,U c,U i,U z,U j,I K n,I K l]).drew;have HC:=vN _ k f s c _ p (a.cut R0.below) x y;have HS:=jf a.lt a.Mv;have d:=aI R0;clear R0 a;simp only[aJ];generalize MA f c=q at *;go_enter (Yq.nq Qm),Ql;go_wp2_with fail
 go_region_with (go_at_call 13;refine HC.m ?_;rintro e w1 ⟨rfl,S1,h⟩;have⟨⟨t,D,r,u,B⟩,g0,g1,g2,g3,g4⟩:=d.o.on HS.o.1 h.g;have HX:Hid (_/\_):=And.intro S1 h;clear S1 h HC)
 all_goals
  go_wp2;exact vf (v:=aG ⟨q.2.2,q.2.1,⟨#[]⟩⟩) (by simp[results,Qi,go_sem,aG,t,D,r,u,B]) Q (pV HS.o.1 HS.o.2 d.o.below d.o.lt HX.o.1 HX.o.2 _ _ _ _ _)
theorem vR(A:H->Prop)k h s o w(p:o.key.size<=vx)(a:aP A w k h)(u:Inv h s)(x:s<2199023255340)(b:o.kind=5):
  Calls Yq.prog 8 #[O (J ⟨k,0,N⟩),aJ o] w (dQ A w k (fc h o.key o.n).1 (aG ⟨(fc h o.key o.n).2,0,⟨#[]⟩⟩)):=by
 obtain⟨kind,c,i,y,j,n,l⟩:=o;simp only at b p;subst b;have R0:=(Li w #[I K 5,U c,U i,U y,U j,I K n,I K l]).drew;have HC:=BB _ k h s c n _ p (a.cut R0.below) u x;have HS:=jf a.lt a.Mv;have d:=aI R0;clear R0 a;simp only[aJ];generalize fc h c n=D at *;go_enter (Yq.nq Qm),Ql;go_wp2_with fail
 go_region_with (go_at_call 14;refine HC.m ?_;rintro e w1 ⟨rfl,S1,f⟩;have⟨⟨r,B,q,t,z⟩,g0,g1,g2,g3,g4⟩:=d.o.on HS.o.1 f.g;have HX:Hid (_/\_):=And.intro S1 f;clear S1 f HC)
 all_goals
  go_wp2;exact vf (v:=aG ⟨D.2,0,⟨#[]⟩⟩) (by simp[results,Qi,go_sem,aG,r,B,q,t,z]) Q (pV HS.o.1 HS.o.2 d.o.below d.o.lt HX.o.1 HX.o.2 _ _ _ _ _)
theorem vU(A:H->Prop)c d o w(a:aP A w c d)(h:o.kind<1\/12<o.kind):
  Calls Yq.prog 8 #[O (J ⟨c,0,N⟩),aJ o] w (dQ A w c d (aG ⟨1,0,⟨#[]⟩⟩)):=by
 obtain⟨b,key,body,eQ,past,n,src⟩:=o;have b1:(b==1)=false:=by grind
 have b2:(b==2)=false:=by grind
 have b3:(b==3)=false:=by grind
 have b4:(b==4)=false:=by grind
 have b5:(b==5)=false:=by grind
 have b6:(b==6)=false:=by grind
 have b7:(b==7)=false:=by grind
 have b8:(b==8)=false:=by grind
 have b9:(b==9)=false:=by grind
 have b10:(b==10)=false:=by grind
 have b11:(b==11)=false:=by grind
 have b12:(b==12)=false:=by grind
 simp[aJ];go_enter (Yq.nq Qm),Ql;go_wp2;exact vf (v:=aG ⟨1,0,⟨#[]⟩⟩) (by simp[results,Qi,go_sem,aG]) Q (bG (aI a).o (((bR _ w).alloc (lR _) _).alloc (by simp) _))
end
