/- A part. -/
import Derived.Test.YthnlbojplkflaaaGreatDoorQP05
import Derived.Lib.Strings
import Derived.Lib.BufferWrite
import Derived.Lib.UnsafeStr
import Derived.Laws.MakeOwn
import Derived.RangeFuncBox
import Derived.Sort.CutIn
import Derived.Lib.ItoaNum
import Derived.Shelf.LaysM
import Derived.Shelf.Strconv.Itoa3
import Derived.Conc.LeavingOf
import Derived.Lib.LaidTab
set_option maxHeartbeats 4000000
set_option maxRecDepth 100000
open _root_ renaming ByteArray->dT,UInt8->ey,Int->eV,congrArg->eW,Option->gI,Bool->gL,Array->kr,of_decide_eq_true->lj,if_true->lk,if_neg->nF,absurd->n8,decide_eq_true_eq->pt
open Go.World renaming cell?->sq,frozen?_alloc_at->sT,frozen?->tb,cell?_setCell_same->tn,setCell->uc,setChan->vf,alloc->vx,drewN->wz
open Go renaming bodyPost_ret->xb,maxLen->xc,callsIn_wide->xt,step_region_end->xv,step_region->yz,info_parts->Rj,execOp->Rk,heap_alloc_new->Rl,wp_mono->Rm,wpIn_wide->Rn,bodyPost->Ro
open Go.CallsIn renaming inRound->Rp
open Or renaming inr->Rq,inl->Rr
open List renaming length_pos_iff->Rt,findIdx?_eq_some_iff_getElem->Ru,mem_flatMap->Rv,mem_append->Rw,getLast?_eq_some_getLast->Rx,map_congr_left->Ry,range->Rz,nil_append->RB,mem_cons->RE,sum->RF
open Go.Lib renaming itoa->RG,size_eq->RJ,decDigits->RN,byteCells->RQ,TabIs->RU,pow10Tab->RY
open Go.Proofs.Tryz renaming prog->RZ,results15->R3,results16->R4,results11->R5,underlying125->R6,ntmps14->R7,ntmps11->R8,func14->R9,func11->Sa,underlying105->Sb,ntmps38->Sc,ntmps17->Sd,func38->Se,func17->Sf,underlying3->Sg,results48->Sh,ntmps117->Si,ntmps71->Sj,ntmps69->Sk,ntmps39->Sl,ntmps44->Sm,ntmps15->Sn,f48->Sp,func117->Sq,f99->Su,func71->Sv,func69->Sx,func39->Sy,func44->Sz,func15->SB,f119->SC
open Go.Steps renaming head->SD
open Go.Region renaming schedule->SE,binds->SG,linearise->SH,wanted->SI,ready->SJ
open Array renaming getElem?_setIfInBounds->SK,size_push->SM,getElem?_eq_none->SN,replicate->SO
open Option renaming getD->SQ,getD_some->SU
open Go.Act renaming eval->SV,put->SW
open Go.Code renaming region->SX,wpIn->SY,rounds->SZ,wp->S0
open ByteArray renaming size_append->S4,size->S5,ext->S7
open Go.Addr renaming block->S8,add_lit->S9
open Nat renaming not_lt_zero->Ta,reduceAdd->Tb,mod_one->Tc
open Go renaming World->Wj,Value->Wx,Program->Wv,TypeId->Ww,Frame->Wy,Addr->Wu,undef->Wo
namespace Go.Proofs.Qw
open _root_ renaming rfl->Q
open _root_ renaming Nat->H,List->S
open Option renaming none->N,some->J
open Bool renaming true->Y,false->Z
open Value renaming int->I,string->U,slice->M,pointer->O,bool->C,agg->Rd,tuple->Re
open IntKind renaming i64->K
open Obj renaming cells->E
open Ending renaming returned->Rc
open Or renaming inl->Rf,inr->Rg
open Operand renaming tmp->Rh
variable {A A' X:H->Prop}{V W W' W0 a e w w1:Wj}{b c i k k0 n s:H}{p:gI Wu}{F f:S ey->S Ver}{h:S Ver}{P:Wv}{x:S ey×S Ver}{B v y:Wx}{xs:S Wx}{u:kr gL}{Q:Exit->Act->Wj->Prop}{t:kr Wx}
section
open Go.RowKit
theorem wm{d}(_hw2:w.heap.size<=d.heap.size)(h:au (Grow (λb=>A b/\b<w.heap.size) d) n e p F)a o v(h1:w.heap.size<=a)(h2:a<d.heap.size):
  au (Grow A w) n (e.setCell ⟨a,o,N⟩ v) p F:=by
 refine au.Nx (λb f _=>?_) n p F h;rcases f with⟨⟨i,c⟩,_⟩|hge;exact⟨Rr ⟨i,c⟩,Ra (by show b≠a;omega)⟩;exact⟨Rq (by omega),Ra (by show b≠a;omega)⟩
theorem wn(A:H->Prop)n(p:gI Wu)(f:S ey->S Ver)(a:dT)r h w(R:au A n w p f)(L:a.size<n)(u:a.size<=1000)(G:bX A w r h)(x:h≠[]):
  Calls Yq.prog 46 #[Rd #[O p],U a,r] w λe k=>∃q,e=Rc (Rd #[O q])/\Below w.heap.size w k/\au (Grow A w) n k q (upd f a.data.toList h):=by
 have j:∀d:Wj,Below w.heap.size w d->Calls Yq.prog 73 #[O p,U a,r] d λe k=>∃g,e=Rc (O (J ⟨g,0,N⟩))/\Below d.heap.size d k/\au (Grow (λb=>A b/\b<w.heap.size) d) n k (J ⟨g,0,N⟩) (upd f a.data.toList h):=λd B=>
  Eu n _ p f a r h d (au.Nx (λb y l=>⟨⟨y,l⟩,B.block b l⟩) n p f R) L u (dW.Nx G (λb y l=>⟨⟨y,l⟩,B.block b l⟩)) x
 go_enter (Yq.nq Tryz.func46),Tryz.ntmps46;go_wp2_with fail
 have c:Below w.heap.size w ((w.alloc (E #[O p] 40)).alloc (E #[O N] 40)):=((bR _ w).alloc Q0 _).alloc (by simp) _;have F:((w.alloc (E #[O p] 40)).alloc (E #[O N] 40)).cell? ⟨w.heap.size+1,0,N⟩=J (O N):=by simp_all
 have D:w.heap.size+1<((w.alloc (E #[O p] 40)).alloc (E #[O N] 40)).heap.size:=by simp
 refine(j _ c).m ?_;rintro e z ⟨g,rfl,i,s⟩;have P:=ag i F;have q4:=(i.frozen (p:=⟨w.heap.size+1,0,N⟩) D).t (sT (w:=w.alloc (E #[O p] 40)) _ _ (w.heap.size+1) 0 (by simp));have HF:Hid (Below w.heap.size w (z.setCell ⟨w.heap.size+1,0,N⟩ (O (J ⟨g,0,N⟩)))/\au (Grow A w) n (z.setCell ⟨w.heap.size+1,0,N⟩ (O (J ⟨g,0,N⟩))) (J ⟨g,0,N⟩) (upd f a.data.toList h)):=
  ⟨(c.t (i.m c.size)).setCell (by show w.heap.size<=w.heap.size+1;omega) _,wm c.size s (w.heap.size+1) 0 _ (by omega) D⟩
 go_wp2;exact xb (v:=Rd #[O (J ⟨g,0,N⟩)]) (by simp[results,Tryz.results46,go_sem,P]) Q ⟨_,Q,HF.o⟩
theorem wo(A:H->Prop)n(p:gI Wu)(f:S ey->S Ver)(a:dT)w(L:au A n w p f)(F:a.size<n)(x:a.size<=1000)(R:f a.data.toList≠[]):
  Calls Yq.prog 45 #[Rd #[O p],U a] w λe j=>∃q,e=Rc (Rd #[O q])/\Below w.heap.size w j/\au (Grow A w) n j q (upd f a.data.toList []):=by
 have l:∀c:Wj,Below w.heap.size w c->Calls Yq.prog 72 #[O p,U a] c λe j=>∃q,e=Rc (O q)/\Below c.heap.size c j/\au (Grow (λb=>A b/\b<w.heap.size) c) n j q (upd f a.data.toList []):=λc y=>
  wl n _ p f a c (au.Nx (λb z s=>⟨⟨z,s⟩,y.block b s⟩) n p f L) F x R
 have r:∀c:Wj,Below w.heap.size w c->Calls Yq.prog 42 #[Rd #[O p],U a] c λe j=>∃G,e=Rc (Re #[G,C Y])/\Below c.heap.size c j:=λc y=>by
  refine(pf A n p f a c F (by simp[xc];omega) (au.Nx (λb z s=>⟨z,y.block b s⟩) n p f L)).m ?_
  grind
 go_enter (Yq.nq Tryz.func45),Tryz.ntmps45;go_wp2_with fail
 have i:Below w.heap.size w ((w.alloc (E #[O p] 40)).alloc (E #[O N] 40)):=((bR _ w).alloc Q0 _).alloc (by simp) _;have T:((w.alloc (E #[O p] 40)).alloc (E #[O N] 40)).cell? ⟨w.heap.size+1,0,N⟩=J (O N):=by simp_all
 have P:w.heap.size+1<((w.alloc (E #[O p] 40)).alloc (E #[O N] 40)).heap.size:=by simp
 have X:((w.alloc (E #[O p] 40)).alloc (E #[O N] 40)).cell? ⟨w.heap.size,0,N⟩=J (O p):=by
  simp_all
 refine(r _ i).m ?_;rintro e W2 ⟨G,rfl,d⟩;have D:=lL P d.size;have r5:=ag d X;have h:=aq (i.t (d.m i.size));go_wp2_with fail
 refine(l W2 h.o).m ?_;rintro e B ⟨q,rfl,k,u⟩;have V:=ag k (ag d T);have q4:=(k.frozen (p:=⟨w.heap.size+1,0,N⟩) D).t ((d.frozen (p:=⟨w.heap.size+1,0,N⟩) P).t (sT (w:=w.alloc (E #[O p] 40)) _ _ (w.heap.size+1) 0 (by simp)));have HF:Hid (Below w.heap.size w (B.setCell ⟨w.heap.size+1,0,N⟩ (O q))/\au (Grow A w) n (B.setCell ⟨w.heap.size+1,0,N⟩ (O q)) q (upd f a.data.toList [])):=
  ⟨(h.o.t (k.m h.o.size)).setCell (by show w.heap.size<=w.heap.size+1;omega) _,wm h.o.size u (w.heap.size+1) 0 _ (by omega) D⟩
 go_wp2;exact xb (v:=Rd #[O q]) (by simp[results,Tryz.results45,go_sem,V]) Q ⟨_,Q,HF.o⟩
def nums(h:S Ver)(i:H):eV:=((h[i]?).map (·.num)).getD 0
def N1(h:S Ver)(i:H):dT:=((h[i]?).map (·.body)).getD ⟨#[]⟩
def mrks(h:S Ver)(i:H):gL:=((h[i]?).map (·.mark)).getD Z
theorem iA(a:i<h.length):nums h i=h[i].num:=by simp[nums,a]
theorem KQ(a:i<h.length):N1 h i=h[i].body:=by simp[N1,a]
theorem KR(a:i<h.length):mrks h i=h[i].mark:=by simp[mrks,a]
structure Ev (h:S Ver)(n:eV)(r:H):Prop where
 le:r<=h.length
 lo:∀j,j<h.length->j<r->nums h j<n
 hi:∀j,j<h.length->r<=j->n<=nums h j
def Ck(h:S Ver)(n:eV)(r:H):gL:=decide (r<h.length/\nums h r=n)
theorem Ew(A:H->Prop)t h(n:eV)w(q:bX A w t h)(y:∀i j,i<j->j<h.length->nums h i<nums h j)(v:h.length<=2199023255552):
  Calls Yq.prog 71 #[t,I K n] w λe c=>∃r:H,Ev h n r/\e=Rc (Re #[I K r,C (Ck h n r)])/\Below w.heap.size w c:=by
 by_cases d:h=[]
 subst d;obtain⟨a,b,rfl,-,-⟩:=q;go_enter (Yq.nq Sv),Sj;go_wp2_with (go_at_call 91;refine(Hr _ _ _ _).m ?_;rintro e c ⟨rfl,rfl⟩)
 go_ret2
 exact⟨0,⟨Q0,λj h=>n8 h (Ta _),λj h=>n8 h (Ta _)⟩,by simp[Ck],Q9⟩;obtain⟨s,b,rfl,-,-,z,-⟩:=q.cells d;have k:Calls Yq.prog 91 #[M (J ⟨s,0,N⟩) h.length b,I K n,.func (.func 92) #[] #[]] w λe c=>∃r:H,Ev h n r /\
   e=Rc (Re #[I K r,C (Ck h n r)])/\Below w.heap.size w c:=by
  refine(KK s h.length b (nums h) (N1 h) (mrks h) n w v (λi f=>by rw[iA f,KQ f,KR f];exact z i f) y).m ?_;rintro e c ⟨r,o,u,x,rfl,p⟩;exact⟨r,⟨o,λj _ l=>u j l,λj h l=>x j l h⟩,Q,p⟩
 go_enter (Yq.nq Sv),Sj;go_wp2_with (go_at_call 91;refine k.m ?_;rintro e c ⟨r,o,rfl,p⟩)
 go_ret2
 exact⟨r,o,Q,p⟩
def cM(v:Ver):Wx:=Rd #[I K v.num,U v.body,C v.mark]
theorem Cl g k a(c:eV)(b:dT)(d:gL)w(hk:k<=2199023255552)(h:w.cell? ⟨g,k*3,N⟩=J (I K c))(c1:w.cell? ⟨g,k*3+1,N⟩=J (U b))(c2:w.cell? ⟨g,k*3+2,N⟩=J (C d)):
  Calls Yq.prog 43 #[M (J ⟨g,0,N⟩) (k+1) a] w λe f=>e=Rc (Rd #[I K c,U b,C d])/\Below w.heap.size w f:=by
 have hg:=bC w _ h;go_enter (Yq.nq Tryz.func43),Tryz.ntmps43;go_wp2;exact xb (v:=Rd #[I K c,U b,C d]) (by simp[results,Tryz.results43,go_sem]) Q ⟨Q,(Q9).alloc Q0 _⟩
theorem nD(A:H->Prop)c h w(j:bX A w c h)(a:h≠[])(hl:h.length<=2199023255552):
  Calls Yq.prog 43 #[c] w λe i=>e=Rc (cM (h.getLast a))/\Below w.heap.size w i:=by
 obtain⟨g,b,rfl,-,-,m,-⟩:=j.cells a;have hlen:=Rt.2 a;obtain⟨k,f⟩:∃k,h.length=k+1:=⟨h.length-1,by omega⟩;have⟨l,n,d⟩:=m k (by omega);have e:h.getLast a=h[k]:=by grind
 rw[e];generalize h[k]=v at *;rw[f];exact Cl g k b _ _ _ w (by omega) l n d
theorem ws(A:H->Prop)f h r w(s:bX A w f h)(hr:r<h.length)(y:h.length<=2199023255552):
  Calls Yq.prog 47 #[f,I K r] w λe q=>∃t u p,e=Rc (M t u p)/\bX (λb=>w.heap.size<=b) q (M t u p) (h.take r++h.drop (r+1))/\Below w.heap.size w q:=by
 have d:=r8 A f h w s y;obtain⟨k,n⟩:∃k,h.length=k+1:=⟨h.length-1,by omega⟩;obtain⟨ha,hc,rfl,-⟩:=s;have HK:=aq n;rw[n]at d ⊢;go_enter (Yq.nq Tryz.func47),Tryz.ntmps47;go_wp2_with fail
 refine d.m ?_;rintro e x ⟨v',rfl,a,v⟩;obtain⟨g,i,rfl,-,-,-⟩:=bm a (Nat.succ_pos _);go_wp2_with (go_at_call 74;refine(Hw w.heap.size g k i r (aA h) x a (by have:=HK.o;omega) (by have:=HK.o;omega) (eJ h)).m ?_;rintro e w2 ⟨rfl,c,l⟩)
 go_ret;refine⟨_,_,_,Q,?_,v.grown l v.size (λj e=>by cases e;exact(a.lt g Q).1)⟩;rw[wh]at c;exact ol (by have:=HK.o;rw[lP,tL,lD];omega) c (λj e=>(c.lt j e).1)
theorem jW{ops:kr Oper}{o:Oper}{a0:Act}{b:Act->Wj->Prop}{f:Exit->Act->Wj->Prop}{d:Prop}
  (hg:o.guard=N) (s x:Operand) (t:Ww) (V:o.op=Op.call {callee:=Callee.builtin Builtin.append,args:=#[s,x],argTypes:=#[t,t]})
  (q:H) (e:Ww) (i:TypeInfo) (z:Wx) (k p:H) (ht:P.underlying t=J (.slice e)) (hi:P.info? e=J i) (hz:i.zero=J z)
  (y:i.size=k) (L:i.bytes=p) (X:z.cells.size=k) (ab:0<k)
  (v:Wx) (n:H) (R:S Wx) (hs:a0.eval s=v) (D:w.ownsRow q e k v n R)
  (T:Wu) (m c:H) (l:S Wx) (hx:a0.eval x=.slice (J T) m c) (hl:l.length=m*k) (A:∀j u,l[j]?=J u->w.cell? (T.add j)=J u) (h1:∀u∈l,u.oneCell'=Y)
  (aa:n+m<=xc) (r:(n+m)*p<=140737488355328) (B:q<=w.heap.size)
  (h:∀G F,F.ownsRow q e k G (n+m) (R++l)->w.grownBy F v.ownBlock->b (a0.put o.dst G) F):
  if SI o (yielded ops a0.tmps)=Y then Oper.wp P o a0 w b f else d:=by
 have⟨G,F,hr,h2,h3,_⟩:=run_append_own (P:=P) w q t o.type e i z k p ht hi hz y L X ab v n R D T m c l hl A h1 aa r B;exact fc hg s x t t V v _ hs hx hr (h G F h2 h3)
theorem mH h v:aA (h++[v])=aA h++[I K v.num,U v.body,C v.mark]:=by simp[aA]
theorem H0{d}(e:Below W.heap.size W d){q r c}{x z}(h:W.cell? q=J x/\W.cell? r=J y/\W.cell? c=J z):d.cell? q=J x/\d.cell? r=J y/\d.cell? c=J z:=
 ⟨ag e h.1,ag e h.2.1,ag e h.2.2⟩
theorem qr{d}{c:gI H}(f:w.grownBy d c){x z}(a:c≠J b)(h:w.cell? ⟨b,k,N⟩=J x/\w.cell? ⟨b,n,N⟩=J y/\w.cell? ⟨b,i,N⟩=J z):d.cell? ⟨b,k,N⟩=J x/\d.cell? ⟨b,n,N⟩=J y/\d.cell? ⟨b,i,N⟩=J z:=
 ⟨f.cell h.1 (λe=>a e.s),f.cell h.2.1 (λe=>a e.s),f.cell h.2.2 (λe=>a e.s)⟩
theorem ba{base'}{G}(h:w.ownsRow k G b v n xs)(i:base'<=k):w.ownsRow base' G b v n xs:=by
 refine⟨h.1,?_⟩;rcases h.2 with h2|⟨g,d,c,j,f,r⟩
 grind
 exact Rq ⟨g,d,c,j,lT i f,r⟩
theorem news3(W:Wj)(x y z:Wx)(T:Ww):∀j u,[x,y,z][j]?=J u->(W.alloc (E #[x,y,z] T)).cell? ((⟨W.heap.size,0,N⟩:Wu).add j)=J u:=by
 intro j u hj;rw[S9,cA (w:=W) _ _ W.heap.size _ Q]
 grind
theorem one3(d:eV)(c:dT)(b:gL):∀u∈[Value.int K d,U c,C b],u.oneCell'=true:=by
 intro u a;simp at a;rcases a with rfl|rfl|rfl<;>rfl
theorem Ex(A:H->Prop)hv h(d:eV)(i:dT)(f:gL)w(hh:bX A w hv h)(hl:h.length<=2199023255552):
  Calls Yq.prog 68 #[hv,Rd #[I K d,U i,C f]] w λe p=>∃B vl D,e=Rc (M B vl D)/\bX (λb=>w.heap.size<=b) p (M B vl D) (h++[⟨d,i,f⟩])/\Below w.heap.size w p:=by
 have⟨i0,T,F,G,L⟩:=Rj Yq.OK;have ac:Hid (∀y:Wj,Below w.heap.size w y->Calls Yq.prog 75 #[hv] y λe p=>∃v',e=Rc v'/\p.ownsRow y.heap.size 72 3 v' h.length (aA h)/\Below y.heap.size y p):=λy hq=>
  r8 A _ h y (dW.Nx hh (λb v X=>⟨v,hq.block b X⟩)) hl
 obtain⟨ha,hc,rfl,-⟩:=hh;have b1:Below w.heap.size w (w.alloc (E #[I K d,U i,C f] 72)):=(bR _ w).alloc Q0 _;have l:=aq b1;have B0:(w.alloc (E #[I K d,U i,C f] 72)).cell? ⟨w.heap.size,0,N⟩=J (I K d):=by rw[cA (w:=w) _ _ w.heap.size 0 Q];rfl
 have B1:(w.alloc (E #[I K d,U i,C f] 72)).cell? ⟨w.heap.size,1,N⟩=J (U i):=by rw[cA (w:=w) _ _ w.heap.size 1 Q];rfl
 have B2:(w.alloc (E #[I K d,U i,C f] 72)).cell? ⟨w.heap.size,2,N⟩=J (C f):=by rw[cA (w:=w) _ _ w.heap.size 2 Q];rfl
 clear b1;go_enter (Yq.nq Tryz.func68),Tryz.ntmps68;go_wp2_with fail
 go_region_held3 (λp=>p.cell? ⟨w.heap.size,0,N⟩=J (I K d)/\p.cell? ⟨w.heap.size,1,N⟩=J (U i)/\p.cell? ⟨w.heap.size,2,N⟩=J (C f)) (first|assumption|go_keep)
  (first
   |(refine jW rfl _ _ 105 rfl w.heap.size 72 i0 _ 3 32 (Yq.u Sb) T F G L rfl (by decide) (M B h.length D) h.length (aA h) (by simp[SV]) (c.alloc _) ⟨w2.heap.size,0,N⟩ 1 1 [I K d,U i,C f] (by simp[SV]) rfl (news3 _ _ _ _ _) (one3 _ _ _) (by simp[xc];omega) (by omega) (lT r (by simp)) ?_;intro v2 w3 x n;have R:=(q.alloc q.size _).grown n (lT r (by simp)) (λk e=>(c.lt k e).1);have ab:=qr n P (by assumption))
   |(refine jW rfl _ _ 105 rfl w.heap.size 72 i0 _ 3 32 (Yq.u Sb) T F G L rfl (by decide) (M B h.length D) h.length (aA h) (by simp[SV]) c ⟨w.heap.size+1,0,N⟩ 1 1 [I K d,U i,C f] (by simp[SV]) rfl (λj u hj=>ag v (by have:=news3 (w.alloc (E #[I K d,U i,C f] 72)) _ _ _ 72 j u hj;simpa using this)) (one3 _ _ _) (by simp[xc];omega) (by omega) r ?_;intro v2 w3 x n;have R:=q.grown n q.size (λk e=>(c.lt k e).1);have ab:=qr n P (by assumption))
   |(go_at_call 75;go_loud (refine(ac.o _ ?_).m ?_);go_loud (first|exact l.o|exact l.o.drew|exact(l.o.alloc (by simp) _).drew);rintro e w2 ⟨v',rfl,a,v⟩;obtain⟨B,D,rfl,-⟩:=ao a;have c:=ba (base':=w.heap.size) a (by simp<;>omega);have P:(Value.slice B h.length D).ownBlock≠J w.heap.size:=λe=>n8 (a.lt _ e).1 (by simp<;>omega);have r:w.heap.size<=w2.heap.size:=lT (by simp<;>omega) v.size;have q:=(by first|exact l.o.drew.t (v.m l.o.size)|exact((l.o.alloc (by simp) _).drew).t (v.m (by simp<;>omega)));have kS:=H0 v (by assumption)))
 all_goals
  obtain⟨V,aa,rfl,-⟩:=ao x;go_wp2;go_ret;have z:=x;rw[show aA h++[I K d,U i,C f]=aA (h++[⟨d,i,f⟩])from(mH h ⟨d,i,f⟩).s]at z;exact⟨V,h.length+1,aa,Q,ol (by simp) z (λj e=>(z.lt j e).1),R⟩
theorem Yq.Qn:(Yq.prog.info? 5).map (λi=>(i.zero,i.size,i.bytes))=J (J (I .u8 0),1,1):=by kernel_rfl
theorem yS(s:dT)w(hlim:s.size<=281474976710656):
  Calls Yq.prog 69 #[U s] w λe z=>e=Rc (U s)/\Below w.heap.size w z:=by
 by_cases A:s.size=0
 have B:s=⟨#[]⟩:=by
  apply S7
  simp_all
 subst B;go_enter (Yq.nq Sx),Sk;go_wp2;go_ret;exact⟨Q,Q9⟩;have⟨r,v,o,f,l⟩:=Rj Yq.Qn;obtain⟨a,n⟩:∃a,a=madeCells (Value.int .u8 0).cells (((s.size:H):eV).toNat*r.size):=⟨_,Q⟩;have hMs:a.size=s.size:=by rw[n,size_madeCells,f];simp
 have hmk:=λW=>by
  have h:=run_make (P:=Yq.prog) W 125 5 r (I .u8 0) (Yq.u R6) v o K K (s.size:eV) (s.size:eV) (by omega) (by omega) (by rw[l];omega) (by omega);rw[<-n]at h;simpa using h
 clear n;have m:=Lib.run_copy_row_string (P:=Yq.prog) (w.alloc (E a 5)) 125 9 3 5 w.heap.size 0 s.size s.size s a 5 (Yq.u R6) (by grind) (Rl w _) Q0 (by omega);obtain⟨b,y⟩:∃b,b=(a.toList.take 0++RQ s.data.toList++a.toList.drop (0+s.size)).toArray:=⟨_,Q⟩;rw[<-y]at m;have c:b.toList=RQ s.data.toList:=by
  simp_all
 have hYs:b.size=s.size:=by rw[<-lY,c,Lib.byteCells_length,<-RJ]
 have d:((w.alloc (E a 5)).setRow w.heap.size b).heap[w.heap.size]?=J (E b 5 (0,0)):=setRow_heap _ _ a _ 5 (0,0) (Rl w _);have i:=Lib.run_unsafeString_row (P:=Yq.prog) ((w.alloc (E a 5)).setRow w.heap.size b) 177 3 9 5 (Yq.u Tryz.underlying177) (by simp[Program.cellsOf,v,f]) w.heap.size b.size (by unfold World.shape?;rw[d]) s.data.toList (λe=>A (by rw[RJ,e];rfl)) (by rw[<-RJ];omega) (by rw[<-RJ];omega)
  (λj x D=>Lib.cells_of_row d b.size j _ (by rw[tO (by rw[lY];exact Q0),c];simp[RQ,D]))
 rw[<-RJ]at i;clear y;go_enter (Yq.nq Sx),Sk;go_wp2;go_ret;have q:Below w.heap.size (w.alloc (E a 5)) ((w.alloc (E a 5)).setRow w.heap.size b):=⟨Q,Q,Q,by simp,λk hk=>setRow_other _ _ _ _ (by omega)⟩;exact⟨Q,Lib.below_freeze (((bR _ w).alloc Q0 _).t q) (p:=⟨w.heap.size,0,N⟩) Q0 _⟩
theorem Cm(s:dT)w(a:s.size<=281474976710656):
  Calls Yq.prog 41 #[U s] w λe b=>e=Rc (U s)/\Below w.heap.size w b:=by
 go_enter (Yq.nq Tryz.func41),Tryz.ntmps41;go_wp2_with (go_at_call 69;refine(yS _ _ a).m ?_;rintro e b ⟨rfl,hb⟩)
 go_ret
 simp_all
structure St where
 f:S ey->S Ver
 count:eV
 last:eV
structure OpD where
 kind:eV
 key:dT
 body:dT
 fe:dT
 past:dT
 n:eV
 src:eV
structure Do where
 code:eV
 NP:eV
 body:dT
def aL(o:OpD):Wx:=Rd #[I K o.kind,U o.key,U o.body,U o.fe,U o.past,I K o.n,I K o.src]
def aG(a:Do):Wx:=Rd #[I K a.code,I K a.NP,U a.body,M N 0 0,U ⟨#[]⟩]
def aV(k:dT):gL:=decide (1<=k.size/\k.size<=40)
def ce(st:St)(key body:dT)(mark:gL):St:=
 ⟨upd st.f key.data.toList (st.f key.data.toList++[⟨st.last+1,body,mark⟩]),st.count+1,st.last+1⟩
def dk(h:S Ver)(n:eV):gI Nat:=h.findIdx? (λv=>v.num==n)
def cg(st:St)(key:dT)(r:H):St:=
 ⟨upd st.f key.data.toList ((st.f key.data.toList).take r++(st.f key.data.toList).drop (r+1)),st.count-1,st.last⟩
def aE(st:St)(o:OpD):St×Do:=
 let N:Do:=⟨0,0,⟨#[]⟩⟩
 if o.kind=1 then
  if aV o.key=Z then(st,{N with code:=2})
  else if 100<o.body.size then(st,{N with code:=3})
  else if 200<=st.count\/st.last=9223372036854775807 then(st,{N with code:=4})
  else(ce st o.key o.body Z,{N with NP:=st.last+1})
 else if o.kind=2 then
  if aV o.key=Z then(st,{N with code:=2})
  else match(st.f o.key.data.toList).getLast? with
   | .none=>(st,{N with code:=5})
   |some v=>if v.mark then(st,{N with code:=5})else(st,⟨0,v.num,v.body⟩)
 else if o.kind=3 then
  if aV o.key=Z then(st,{N with code:=2})
  else match dk (st.f o.key.data.toList) o.n with
   | .none=>(st,{N with code:=5})
   |some r=>match(st.f o.key.data.toList)[r]? with
    | .none=>(st,{N with code:=5})
    |some v=>if v.mark then(st,{N with code:=6})else(st,⟨0,0,v.body⟩)
 else if o.kind=4 then
  if aV o.key=Z then(st,{N with code:=2})
  else if 200<=st.count\/st.last=9223372036854775807 then(st,{N with code:=4})
  else(ce st o.key ⟨#[]⟩ Y,{N with NP:=st.last+1})
 else if o.kind=5 then
  if aV o.key=Z then(st,{N with code:=2})
  else match dk (st.f o.key.data.toList) o.n with
   | .none=>(st,{N with code:=5})
   |some r=>(cg st o.key r,N)
 else(st,{N with code:=1})
structure Inv (st:St)(s:H):Prop where
 NV:0<=st.last
 NY:st.last<=9223372036854775807
 Oh:-(s:eV)<=st.count
 Oj:st.count<=s+200
 len:∀k,(st.f k).length<=s+200
 sorted:∀k i j,i<j->j<(st.f k).length->nums (st.f k) i<nums (st.f k) j
 bounds:∀k i,i<(st.f k).length->1<=nums (st.f k) i/\nums (st.f k) i<=st.last
theorem eD{v}(a:i<h.length):nums (h++[v]) i=nums h i:=by
 simp[nums,List.getElem?_append_left a]
theorem jz{v}:nums (h++[v]) h.length=v.num:=by simp[nums]
theorem Inv.m{st}{s'}(h:Inv st s)(hs:s<=s'):Inv st s':=
 ⟨h.NV,h.NY,by have:=h.Oh;omega,by have:=h.Oj;omega,λk=>by have:=h.len k;omega,h.sorted,h.bounds⟩
theorem Inv.add{c}(h:Inv c s)(a l:dT)(m:gL)(hl:¬c.last=9223372036854775807):Inv (ce c a l m) (s+1):=by
 refine⟨by have:=h.NV;simp[ce];omega,by have:=h.NY;simp[ce];omega,by have:=h.Oh;simp[ce];omega,by have:=h.Oj;simp[ce];omega,λk=>?_,?_,?_⟩;have h1:=h.len k;unfold ce upd
 grind
 intro k i j b o;by_cases d:k=a.data.toList
 subst d;simp only[ce,upd,lk]at o ⊢;rw[lP,lS]at o;by_cases e:j<(c.f a.data.toList).length
 rw[eD e,eD (by omega)];exact h.sorted _ i j b e;have r:j=(c.f a.data.toList).length:=by omega
 subst r;rw[jz,eD b];have:=(h.bounds a.data.toList i b).2
 grind
 simp[ce,upd,nF d]at o ⊢;exact h.sorted k i j b o;intro k i p;by_cases d:k=a.data.toList
 subst d;simp only[ce,upd,lk]at p ⊢;rw[lP,lS]at p;by_cases n:i<(c.f a.data.toList).length
 rw[eD n];have:=h.bounds _ i n;omega;have q:i=(c.f a.data.toList).length:=by omega
 subst q;rw[jz];have:=h.NV;simp only;omega;simp[ce,upd,nF d]at p ⊢;have:=h.bounds k i p;omega
theorem ue(hr:b<h.length):nums (h.take b++h.drop (b+1)) i=nums h (if i<b then i else i+1):=by
 unfold nums
 grind
theorem Inv.drop{l}(h:Inv l s)(a:dT)r(m:r<(l.f a.data.toList).length):Inv (cg l a r) (s+1):=by
 refine⟨h.NV,by have:=h.NY;simp[cg];omega,by have:=h.Oh;simp[cg];omega,by have:=h.Oj;simp[cg];omega,λk=>?_,?_,?_⟩;have h1:=h.len k;unfold cg upd
 grind
 intro k i j e c;by_cases b:k=a.data.toList
 subst b;simp only[cg,upd,lk]at c ⊢;rw[lP,tL,lD]at c;rw[ue m,ue m];exact h.sorted _ _ _ (by split<;>split<;>omega) (by split<;>omega);simp[cg,upd,nF b]at c ⊢;exact h.sorted k i j e c;intro k i d;by_cases b:k=a.data.toList
 subst b;simp only[cg,upd,lk]at d ⊢;rw[lP,tL,lD]at d;rw[ue m];exact h.bounds _ _ (by split<;>omega);simp[cg,upd,nF b]at d ⊢;exact h.bounds k i d
theorem H7{n:eV}(c:Ev h n s)(m:∀i j,i<j->j<h.length->nums h i<nums h j):dk h n=if Ck h n s then J s else none:=by
 unfold dk;cases b:Ck h n s with
 |true=>
  have:=lj b;obtain⟨f,k⟩:=this;simp;rw[Ru];refine⟨f,?_,λj a=>?_⟩;rw[iA f]at k;simp[k];have:=c.lo j (by omega) a;rw[iA (by omega)]at this;simp;omega
 |false=>
  simp only[Bool.false_eq_true,if_false];rw[List.findIdx?_eq_none_iff];intro v l;have⟨j,a,e⟩:=gM l;have hne:=of_decide_eq_false b;have hj':nums h j=v.num:=by rw[iA a,e]
  by_cases d:j<s
  have:=c.lo j a d;simp;omega;have h1:=c.hi s (by omega) Q0;by_cases hjr2:j=s
  grind
  have h2:=m s j (by omega) a;simp;omega
structure aS (A:H->Prop)(w:Wj)(k0:H)(st:St):Prop where
 ND:∀b,A b->b≠k0
 tree:∃p,w.cell? ⟨k0,0,N⟩=J (O p)/\au A 41 w p st.f
 count:w.cell? ⟨k0,1,N⟩=J (I K st.count)
 last:w.cell? ⟨k0,2,N⟩=J (I K st.last)
 frozen:∀j,w.frozen? ⟨k0,j,N⟩=Z
theorem cn(h:w.grownBy W0 (J n))o v:w.grownBy (W0.setCell ⟨n,o,N⟩ v) (J n):=
 ⟨h.os,h.tape,h.output,by have:=h.size;simp[uc];omega,λk d c=>(Ra (λe=>c (by rw[e]))).t (h.block k d c)⟩
theorem uf{r:gI H}(h:w.grownBy a r)(hb:w.heap.size<=b)o v:w.grownBy (a.setCell ⟨b,o,N⟩ v) r:=
 ⟨h.os,h.tape,h.output,by have:=h.size;simp[uc];omega,λk c d=>(Ra (by show k≠b;omega)).t (h.block k c d)⟩
theorem aS.lt{c}(a:aS A w b c):b<w.heap.size:=bC w _ a.count
theorem KS{d}(f:w.grownBy d (J n))(h:∀b,A b->b≠n):∀b,A b->b<w.heap.size->A b/\d.heap[b]?=w.heap[b]?:=
 λb c i=>⟨c,f.block b i (by intro e;cases e;exact h n c Q)⟩
theorem aS.on{w'}{st}(a:aS A w c st)(b:Below w.heap.size w w'):aS A w' c st:=by
 have⟨p,d,e⟩:=a.tree;exact⟨a.ND,⟨p,ag b d,e.on b⟩,ag b a.count,ag b a.last,λj=>(b.frozen (p:=⟨c,j,N⟩) a.lt).t (a.frozen j)⟩
theorem aS.grow{st}(a:aS A w c st):aS (Grow A w) w c st:=by
 have⟨p,f,i⟩:=a.tree;refine⟨?_,⟨p,f,au.Nx (λb e d=>⟨Rr ⟨e,d⟩,Q⟩) _ _ _ i⟩,a.count,a.last,a.frozen⟩;rintro b (⟨h,_⟩|h);exact a.ND b h;have:=a.lt;omega
def eO:Ver:=⟨0,⟨#[]⟩,Z⟩
theorem mI(a:dT)w(h:a.size<=xc):Calls Yq.prog 38 #[U a] w λe c=>e=Rc (C (aV a))/\w=c:=by
 unfold xc at h;by_cases d:1<=a.size
 by_cases b:a.size<=40
 have e:aV a=true:=by simp[aV,d,b]
 go_enter (Yq.nq Se),Sc;go_wp2;go_ret;exact⟨by simp[e]<;>omega,Q⟩;have e:aV a=false:=by simp[aV,b]
 go_enter (Yq.nq Se),Sc;go_wp2;go_ret;exact⟨by simp[e]<;>omega,Q⟩;go_enter (Yq.nq Se),Sc;go_wp2;go_ret;exact⟨by simp[aV]<;>omega,Q⟩
def kZ(st:St):gL:=decide (200<=st.count\/st.last=9223372036854775807)
theorem sg c a w(hc:w.cell? ⟨c,1,N⟩=J (I K a.count))(hl:w.cell? ⟨c,2,N⟩=J (I K a.last)):Calls Yq.prog 39 #[O (J ⟨c,0,N⟩)] w λe d=>e=Rc (C (kZ a))/\w=d:=by
 by_cases b:200<=a.count
 .have e:kZ a=true:=by simp[kZ,b]
  go_enter (Yq.nq Sy),Sl;go_wp2;go_ret
  simp_all
 have hd:decide (200<=a.count)=false:=by simp[b]
 have e:kZ a=(a.last==9223372036854775807):=by rw[kZ,Bool.eq_iff_iff];simp[b]
 go_enter (Yq.nq Sy),Sl;go_wp2;go_ret
 simp_all
theorem iQ{z:dT}(h:aV z=Y):z.size<41/\z.size<=1000:=by
 have:=lj h;omega
def H8(A:H->Prop)(st:St)(key:dT)(n:eV)(w:Wj)(e:Ending)(w':Wj):Prop:=
  Below w.heap.size w w' /\
  ((aV key=Z/\e=Rc (Re #[M N 0 0,I K 0,I K 2])) \/
   (aV key=Y/\dk (st.f key.data.toList) n=N/\e=Rc (Re #[M N 0 0,I K 0,I K 5])) \/
   (aV key=Y/\∃ (r:H) (a:gI Wu) (b:H),dk (st.f key.data.toList) n=J r/\r<(st.f key.data.toList).length/\bX A w' (M a (st.f key.data.toList).length b) (st.f key.data.toList) /\
      e=Rc (Re #[M a (st.f key.data.toList).length b,I K r,I K 0])))
theorem wu(A:H->Prop)B i s(b:dT)(n:eV)w(z:b.size<=xc)(a:aS A w B i)(y:Inv i s)(hs:s<=2199023255340):
  Calls Yq.prog 44 #[O (J ⟨B,0,N⟩),U b,I K n] w (H8 A i b n w):=by
 have⟨p,c0,D⟩:=a.tree;have j:=mI b w z;cases c:aV b with
 |false=>
  rw[c]at j;go_enter (Yq.nq Sz),Sm;go_wp2_with (go_at_call 38;refine j.m ?_;rintro e G ⟨rfl,rfl⟩)
  go_ret3
  exact⟨Q9,Rr ⟨c,Q⟩⟩
 |true=>
  rw[c]at j;have HK:Hid (aV b=Y):=c;have x:=iQ c;clear c;have HG:=pf A 41 p i.f b w x.1 z D;have hle:=y.len b.data.toList;have k:=y.sorted b.data.toList;clear D;go_enter (Yq.nq Sz),Sm;go_wp2_with (go_at_call 38;refine j.m ?_;rintro e G ⟨rfl,rfl⟩)
  refine HG.m ?_;rintro e F ⟨L,rfl,u,q⟩;have HF:=Ew A L (i.f b.data.toList) n F u k (by omega);obtain⟨P,R,rfl,-⟩:=id u;have HH:=bJ u k;clear u k HG;go_wp2_with fail
  refine HF.m ?_;rintro e w2 ⟨r,v,rfl,l⟩;have d:=H7 v HH.o.2;have HB:=aq (q.t (l.m q.size));cases h:Ck (i.f b.data.toList) n r with
  |true=>
   rw[h]at d;have HP:Hid (dk (i.f b.data.toList) n=J r/\r<(i.f b.data.toList).length):=⟨by simpa using d,(lj h).1⟩;clear d v HF h;go_wp2
   go_ret3
   exact⟨HB.o,Rq (Rq ⟨HK.o,r,P,R,HP.o.1,HP.o.2,HH.o.1.on l,Q⟩)⟩
  |false=>
   rw[h]at d;have HP:Hid (dk (i.f b.data.toList) n=N):=show dk (i.f b.data.toList) n=N by simpa using d
   clear d v HF h;go_wp2
   go_ret3
   exact⟨HB.o,Rq (Rr ⟨HK.o,HP.o,Q⟩)⟩
theorem si(c:eV)(b:dT)(a:gL)w:(Instr.field 72 (Rd #[I K c,U b,C a]) 2).run Yq.prog w=.ok (C a) w:=by kernel_rfl
def mJ(st:St)(key:dT):Ver×eV:=
 if aV key=Z then(eO,2)
 else match(st.f key.data.toList).getLast? with
  |none=>(eO,5)
  |some v=>if v.mark then(eO,5)else(v,0)
theorem H9(A:H->Prop)k0 h s(b:dT)w(hk:b.size<=xc)(a:aS A w k0 h)(hI:Inv h s)(hs:s<=2199023255340):
  Calls Yq.prog 15 #[O (J ⟨k0,0,N⟩),U b] w λe B=>e=Rc (Re #[cM (mJ h b).1,I K (mJ h b).2])/\Below w.heap.size w B:=by
 have B0:Below w.heap.size w (w.alloc (E #[I K 0,U ⟨#[]⟩,C Z] 72)):=(bR _ w).alloc Q0 _;have S1:=a.on B0;have⟨p,c0,hN⟩:=S1.tree;have r:=mI b (w.alloc (E #[I K 0,U ⟨#[]⟩,C Z] 72)) hk;have a0:(w.alloc (E #[I K 0,U ⟨#[]⟩,C Z] 72)).cell? ⟨w.heap.size,0,N⟩=J (I K 0):=by rw[cA (w:=w) _ _ w.heap.size 0 Q];rfl
 have a1:(w.alloc (E #[I K 0,U ⟨#[]⟩,C Z] 72)).cell? ⟨w.heap.size,1,N⟩=J (U ⟨#[]⟩):=by rw[cA (w:=w) _ _ w.heap.size 1 Q];rfl
 have a2:(w.alloc (E #[I K 0,U ⟨#[]⟩,C Z] 72)).cell? ⟨w.heap.size,2,N⟩=J (C Z):=by rw[cA (w:=w) _ _ w.heap.size 2 Q];rfl
 have R:∀j,(w.alloc (E #[I K 0,U ⟨#[]⟩,C Z] 72)).frozen? ⟨w.heap.size,j,N⟩=false:=λj=>sT (w:=w) _ _ w.heap.size j Q
 have u:=aq B0;have q:w.heap.size<(w.alloc (E #[I K 0,U ⟨#[]⟩,C Z] 72)).heap.size:=by simp
 clear B0 a S1;cases i:aV b with
 |false=>
  rw[i]at r;have HR:Hid (mJ h b=(eO,2)):=show mJ h b=(eO,2)by simp[mJ,i]
  clear i;go_enter (Yq.nq SB),Sn;go_wp2_with (go_at_call 38;refine r.m ?_;rintro e B ⟨rfl,rfl⟩)
  refine xb (v:=Re #[cM (mJ h b).1,I K (mJ h b).2]) (by rw[HR.o];simp[results,R3,go_sem,cM,eO]) Q ⟨Q,?_⟩;exact u.o
 |true=>
  rw[i]at r;have aa:=iQ i;have HK:=aq i;clear i;have HG:=pf A 41 p h.f b _ aa.1 hk hN;have hle:=hI.len b.data.toList;clear hN;go_enter (Yq.nq SB),Sn;go_wp2_with (go_at_call 38;refine r.m ?_;rintro e B ⟨rfl,rfl⟩)
  refine HG.m ?_;generalize w.alloc (E #[I K 0,U ⟨#[]⟩,C Z] 72)=W0 at *;rintro e x ⟨hv,rfl,hh,l⟩;have P:=ag l a0;have L:=ag l a1;have G:=ag l a2;have X:=(l.frozen (p:=⟨w.heap.size,0,N⟩) q).t (R 0);have g1:=(l.frozen (p:=⟨w.heap.size,1,N⟩) q).t (R 1);have V:=(l.frozen (p:=⟨w.heap.size,2,N⟩) q).t (R 2);have hb:Below w.heap.size w x:=u.o.t (l.m u.o.size);have k:w.heap.size<x.heap.size:=lL q l.size;have HB:=aq hb;clear hb l a0 a1 a2 R q u r HG c0;by_cases c:h.f b.data.toList=[]
  .have HR:Hid (mJ h b=(eO,5)):=show mJ h b=(eO,5)by simp[mJ,HK.o,c]
   have he:(h.f b.data.toList).isEmpty=true:=by rw[c];rfl
   clear hh c;go_wp2;refine xb (v:=Re #[cM (mJ h b).1,I K (mJ h b).2]) (by rw[HR.o];simp[results,R3,go_sem,cM,eO,P,L,G]) Q ⟨Q,?_⟩;exact((HB.o.setCell Q0 _).setCell Q0 _).setCell Q0 _
  .have HN:Hid (∀z:Wj,Below x.heap.size x z->Calls Yq.prog 43 #[hv] z λe B=>e=Rc (cM ((h.f b.data.toList).getLast c))/\Below z.heap.size z B):=λz hq=>
    nD A hv _ z (hh.on hq) c (by omega)
   have he:(h.f b.data.toList).isEmpty=false:=by simp[c]
   obtain⟨v,y⟩:∃v,v=(h.f b.data.toList).getLast c:=⟨_,Q⟩;have F:(h.f b.data.toList).getLast?=J v:=by rw[y,Rx c]
   have HR:Hid (mJ h b=if v.mark then(eO,5)else(v,0)):=show mJ h b=_ by simp[mJ,HK.o,F]
   rw[<-y]at HN;obtain⟨nm,bd,mk⟩:=v;obtain⟨ha,hc,rfl,-⟩:=hh;clear c y F;have hfm:=si nm bd;cases mk with
   |true=>
    go_wp2_with fail
    refine(HN.o x Q9).m ?_;rintro e w2 ⟨rfl,d⟩;have T:=ag d P;have e1:=ag d L;have e2:=ag d G;have f0:=(d.frozen (p:=⟨w.heap.size,0,N⟩) k).t X;have f1:=(d.frozen (p:=⟨w.heap.size,1,N⟩) k).t g1;have f2:=(d.frozen (p:=⟨w.heap.size,2,N⟩) k).t V;simp only[cM];go_wp2;refine xb (v:=Re #[cM (mJ h b).1,I K (mJ h b).2]) (by rw[HR.o];simp[results,R3,go_sem,cM,eO,T,e1,e2]) Q ⟨Q,?_⟩;exact(((HB.o.t (d.m HB.o.size)).setCell Q0 _).setCell Q0 _).setCell Q0 _
   |false=>
    go_wp2_with fail
    refine(HN.o x Q9).m ?_;rintro e w2 ⟨rfl,d⟩;simp only[cM];go_wp2_with fail
    refine(HN.o w2 d).m ?_;rintro e w3 ⟨rfl,D⟩;have n:Below x.heap.size x w3:=d.t (D.m d.size);have T:=ag n P;have e1:=ag n L;have e2:=ag n G;have f0:=(n.frozen (p:=⟨w.heap.size,0,N⟩) k).t X;have f1:=(n.frozen (p:=⟨w.heap.size,1,N⟩) k).t g1;have f2:=(n.frozen (p:=⟨w.heap.size,2,N⟩) k).t V;have ab:=aq n;clear d D n P L G X g1 V;simp only[cM];go_wp2;refine xb (v:=Re #[cM (mJ h b).1,I K (mJ h b).2]) (by rw[HR.o];simp[results,R3,go_sem,cM,T,e1,e2]) Q ⟨Q,?_⟩;exact(((HB.o.t (ab.o.m HB.o.size)).setCell Q0 _).setCell Q0 _).setCell Q0 _
theorem cs{q}{u}(h:w.cell? q=J u):(w.setCell q v).cell? q=J v:=by first|exact tn w q v h|exact tn _ _ _ h
theorem co{q r}{u}(c:q≠r)(h:w.cell? r=J u):(w.setCell q v).cell? r=J u:=(cO w q r v c).t h
theorem fs{q r}(h:w.frozen? r=Z):(w.setCell q v).frozen? r=false:=by simp_all
structure bB (w:Wj)(b:H)(x y z:Wx):Prop where
 c0:w.cell? ⟨b,0,N⟩=J x
 c1:w.cell? ⟨b,1,N⟩=J y
 c2:w.cell? ⟨b,2,N⟩=J z
 fz:∀j,w.frozen? ⟨b,j,N⟩=Z
theorem bB.on{w'}{x z}(h:bB w b x y z)(a:Below w.heap.size w w'):bB w' b x y z:=
 ⟨ag a h.c0,ag a h.c1,ag a h.c2,λj=>(a.frozen (p:=⟨b,j,N⟩) (show b<w.heap.size from bC w ⟨b,0,N⟩ h.c0)).t (h.fz j)⟩
theorem bB.lt{x}(h:bB w b x y v):b<w.heap.size:=bC w ⟨b,0,N⟩ h.c0
theorem bB.OS{x z}(h:bB w b x y z)v:bB (w.setCell ⟨b,0,N⟩ v) b v y z:=
 ⟨cs h.c0,co (by simp) h.c1,co (by simp) h.c2,λj=>fs (h.fz j)⟩
theorem bB.OW{x z}(h:bB w b x y z)v:bB (w.setCell ⟨b,1,N⟩ v) b x v z:=
 ⟨co (by simp) h.c0,cs h.c1,co (by simp) h.c2,λj=>fs (h.fz j)⟩
theorem bB.OL{x z}(h:bB w b x y z)v:bB (w.setCell ⟨b,2,N⟩ v) b x y v:=
 ⟨co (by simp) h.c0,co (by simp) h.c1,cs h.c2,λj=>fs (h.fz j)⟩
theorem bB.N3{x z}(h:bB w b x y z)c o v(a:c≠b):bB (w.setCell ⟨c,o,N⟩ v) b x y z:=
 ⟨co (λe=>a (eW S8 e)) h.c0,co (λe=>a (eW S8 e)) h.c1,co (λe=>a (eW S8 e)) h.c2,λj=>fs (h.fz j)⟩
theorem iR(w:Wj)(x y z:Wx)(T:Ww):bB (w.alloc (E #[x,y,z] T)) w.heap.size x y z:=
 ⟨by rw[cA (w:=w) _ _ w.heap.size 0 Q];rfl,by rw[cA (w:=w) _ _ w.heap.size 1 Q];rfl,by rw[cA (w:=w) _ _ w.heap.size 2 Q];rfl,λj=>sT (w:=w) _ _ w.heap.size j Q⟩
theorem aS.cells{A:H->Prop}{w}{c}{b}(a:aS A w c b):∃p,bB w c (O p) (I K b.count) (I K b.last)/\au A 41 w p b.f:=by
 have⟨p,d,e⟩:=a.tree;exact⟨p,⟨d,a.count,a.last,a.frozen⟩,e⟩
theorem eK{st}(h:bB w n (O p) (I K st.count) (I K st.last))(c:au A 41 w p st.f)(d:∀b,A b->b≠n):aS A w n st:=
 ⟨d,⟨p,h.c0,c⟩,h.c1,h.c2,h.fz⟩
structure dw (w w':Wj)(k0:H):Prop where
 g:w.grownBy w' (J k0)
 lt:k0<w.heap.size
 t:∀j,3<=j->w'.cell? ⟨k0,j,N⟩=w.cell? ⟨k0,j,N⟩
theorem fq(c:k0<w.heap.size)(d:Below w.heap.size w W0):dw w W0 k0:=
 ⟨aQ d _,c,λj _=>cB (w:=w) (w':=W0) (a:=⟨k0,j,N⟩) (d.block k0 c)⟩
theorem KT(a:k0<w.heap.size):dw w w k0:=fq a Q9
theorem ug{c}(h:dw a W0 k0)(e:dw W0 c k0):dw a c k0:=⟨aJ h.g e.g,h.lt,λj d=>(e.t j d).t (h.t j d)⟩
theorem iq(h:dw w a k0)(c:Below a.heap.size a W0):dw w W0 k0:=ug h (fq (by have:=h.g.size;have:=h.lt;omega) c)
theorem Ia(h:dw w a k0)o:dw w (a.alloc o) k0:=iq h ((Q9).alloc Q0 _)
theorem sj(h:dw w a k0)o v(ho:o<3:=by decide):dw w (a.setCell ⟨k0,o,N⟩ v) k0:=
 ⟨cn h.g _ _,h.lt,λj b=>(cO a ⟨k0,o,N⟩ ⟨k0,j,N⟩ v (λe=>by have:=eW Addr.off e;simp at this;omega)).t (h.t j b)⟩
theorem ww(h:dw w a k0)(f:w.heap.size<=b)o v:dw w (a.setCell ⟨b,o,N⟩ v) k0:=
 ⟨uf h.g f _ _,h.lt,λj d=>(cO a ⟨b,o,N⟩ ⟨k0,j,N⟩ v (λe=>by have c:=eW S8 e;have h2:=h.lt;simp at c;omega)).t (h.t j d)⟩
theorem qt(hw3:w.heap.size<=W0.heap.size)(j:∀b,A b->b≠c)(hk:c<w.heap.size)(h:au (Grow (λb=>(A b/\b<w.heap.size)\/w.heap.size<=b) W0) 41 e p F)o v:
  au (Grow A w) 41 (e.setCell ⟨c,o,N⟩ v) p F:=by
 refine au.Nx (λb k _=>?_) 41 p F h;rcases k with⟨⟨i,d⟩|a,_⟩|a;exact⟨Rr ⟨i,d⟩,Ra (j b i)⟩;exact⟨Rq a,Ra (by show b≠c;omega)⟩;exact⟨Rq (by omega),Ra (by show b≠c;omega)⟩
theorem iS(c:∀b,A b->b≠n)(hk:n<w.heap.size):∀b,Grow A w b->b≠n:=by
 rintro b (⟨h,_⟩|h);exact c b h;omega
theorem Az(A:H->Prop)i d s(h:dT)(af:eV)(D:dT)(z:gL)w(hk:h.size<41)(c:aS A w i d)(hI:Inv d s)(hs:s<2199023255340)(hlx:¬d.last=9223372036854775807):
  Calls Yq.prog 40 #[O (J ⟨i,0,N⟩),U h,Rd #[I K af,U D,C z]] w λe x=>e=Rc (I K (d.last+1))/\aS (Grow A w) x i (ce d h D z)/\dw w x i:=by
 have⟨p,a,V⟩:=c.cells;have c0:=a.c0;have c1:=a.c1;have c2:=a.c2;have f0:=a.fz 0;have f1:=a.fz 1;have f2:=a.fz 2;have P:=c.lt;have l0:=hI.NV;have l1:=hI.NY;have l2:=hI.Oh;have l3:=hI.Oj;have hle:=hI.len h.data.toList;have hne:¬w.heap.size=i:=by omega
 have hne':¬i=w.heap.size:=by omega
 obtain⟨W1,l⟩:∃W1,W1=((w.setCell ⟨i,2,N⟩ (I K (d.last+1))).setCell ⟨i,1,N⟩ (I K (d.count+1))).alloc (E #[I K (d.last+1),U D,C z] 72):=⟨_,Q⟩;have ab:dw w ((w.setCell ⟨i,2,N⟩ (I K (d.last+1))).setCell ⟨i,1,N⟩ (I K (d.count+1))) i:=sj (sj (KT P) _ _) _ _;have X:((w.setCell ⟨i,2,N⟩ (I K (d.last+1))).setCell ⟨i,1,N⟩ (I K (d.count+1))).heap.size=w.heap.size:=by simp[uc]
 have k:dw w W1 i:=by rw[l];exact Ia ab _
 have C1:bB W1 i (O p) (I K (d.count+1)) (I K (d.last+1)):=by
  rw[l];exact((a.OL _).OW _).on ((Q9).alloc Q0 _)
 have X1:bB W1 w.heap.size (I K (d.last+1)) (U D) (C z):=by
  rw[l,<-X];exact iR _ _ _ _ _
 have aa:au A 41 W1 p d.f:=au.Nx (KS k.g c.ND) 41 p d.f V;have HG:=pf A 41 p d.f h W1 hk (by simp only[xc];omega) aa;have HS:=gB c V k C1 X1;have ac:=aq l;clear V c a ab X k C1 X1 aa l;go_enter (Yq.nq Tryz.func40),Tryz.ntmps40;go_wp2_with fail
 rw[<-ac.o];refine HG.m ?_;rintro e v ⟨hv,rfl,hh,F⟩;obtain⟨ha,hc,rfl,-⟩:=id hh;have⟨c,V,k,C1,X1⟩:=HS.o;have C2:=C1.on F;have X2:=X1.on F;have B:dw w v i:=iq k F;have a0:=C2.c0;have q0:=X2.c0;have q1:=X2.c1;have q2:=X2.c2;have HW:Hid (Calls Yq.prog 68 #[M ha (d.f h.data.toList).length hc,Rd #[I K (d.last+1),U D,C z]] v.drew λe x=>∃n r u,e=Rc (M n r u)/\bX (λb=>v.heap.size<=b) x (M n r u) (d.f h.data.toList++[⟨d.last+1,D,z⟩])/\Below v.heap.size v x):=by
  exact(Ex A _ _ (d.last+1) D z v.drew (dW.Nx hh (λb R T=>⟨R,Q⟩)) (by omega)).m (λe x ⟨n,r,u,R,T,h3⟩=>⟨n,r,u,R,T,(bR _ v).drew.t h3⟩)
 have HT:Hid (∀ (y:Wj) (n:gI Wu) (r u:H),Below v.heap.size v y->bX (λb=>v.heap.size<=b) y (M n r u) (d.f h.data.toList++[⟨d.last+1,D,z⟩]) ->
   Calls Yq.prog 46 #[Rd #[O p],U h,M n r u] y λe x=>∃q,e=Rc (Rd #[O q])/\Below y.heap.size y x/\au (Grow (λb=>(A b/\b<w.heap.size)\/w.heap.size<=b) y) 41 x q (upd d.f h.data.toList (d.f h.data.toList++[⟨d.last+1,D,z⟩]))):=λy n r u j L=>by
  refine wn _ 41 p d.f h _ _ y (au.Nx (λb R T=>⟨Rr ⟨R,T⟩,(iq B j).g.block b T (by intro e;cases e;exact c.ND i R Q)⟩) 41 p d.f V) hk (by omega) (dW.Nx L (λb R T=>⟨Rq ?_,Q⟩)) (by simp);have:=B.g.size;omega
 have HC:=eM C2 X2 B;clear c V k C1 X1 C2 X2 B hh F HG;go_wp2_with fail
 go_region_with (first
  |(go_at_call 68;refine HW.o.m ?_;rintro e y ⟨n,r,u,rfl,L,j⟩;have b0:=ag j a0)
  |(go_at_call 46;refine(HT.o _ n r u j L).m ?_;rintro e w4 ⟨q,rfl,G,ad⟩;have d0:=ag G b0;have D4:=(HC.o.2.1.on j).on G;have E4:=(HC.o.1.on j).on G;have r0:=D4.c0;have r1:=E4.c0;have r2:=E4.fz 0))
 all_goals
  go_wp2;go_ret;exact⟨Q,eK (p:=q) (E4.OS _) (qt (by have:=HC.o.2.2.g.size;have:=j.size;omega) HS.o.1.ND P ad _ _) (iS HS.o.1.ND P),sj (iq (iq HC.o.2.2 j) G) _ _⟩
end
section
open Go.Conc Go.ConcX Go.ConcX.Gen Go.RowKit
structure ItD where
 kind:eV
 text:dT
 NP:eV
def itVal(i:ItD):Wx:=Rd #[I K i.kind,U i.text,I K i.NP]
def az(l:S ItD):S Wx:=l.flatMap λi=>[I K i.kind,U i.text,I K i.NP]
theorem gV l:(az l).length=l.length*3:=by
 induction l with
 |nil=>rfl
 |cons i l ih=>simp[az]at ih ⊢;omega
theorem om l i:az (l++[i])=az l++[I K i.kind,U i.text,I K i.NP]:=by simp[az]
theorem Yq.Od:(Yq.prog.info? 67).map (λi=>(i.zero,i.size,i.bytes))=J (J (Rd #[I K 0,U ⟨#[]⟩,I K 0]),3,32):=by kernel_rfl
def dN(n:H)(l:Lst)(a:eV)(c:H)(b:eV)(u:H->Wx):kr Wx:=
 #[lV l,I K a,ptr n,Wo,ptr (n+1),ptr (n+2),I K (IntKind.i64.wrap (a*l.size)),I K b,u 8,I K a,O (J ⟨n,6,N⟩),I K l.size,I K (IntKind.i64.wrap (a*l.size)),O (J ⟨n,2,N⟩),qV l.vs l.p l.d l.af,O (J ⟨n,1,N⟩),sV l.root,.chan (J c),u 18,u 19,u 20,u 21,u 22,u 23,u 24,u 25,u 26,u 27,u 28,u 29,u 30,u 31,u 32,u 33,u 34,u 35,u 36,u 37,u 38,u 39,Wo,Wo,Wo,Wo,Wo,Wo,Wo,Wo,Wo]
theorem lw{b:Wy}{a0:Act}{k:S Item}{cs:S Wy}{f:gL}{ops:kr Oper}{e:S H}{o:Oper}{cases:kr CommCase}{c:gL}{d:CommShape}(l:ops[i]?=J o)(j:SI o (yielded ops a0.tmps)=Y)
  (hr:(Rk a0.eval o).run P w=.ok (.comm cases c d) W0):
  ∃m,stepG P f (G (b.at a0 (.inRegion ops (i::e)::k)) cs) w=.comm (G (b.at a0 (.inRegion ops (i::e)::k)) cs) cases c d W0 m:=by
 rw[stepG_oper l j];simp only[stepG.apply,G,Frame.at,GStep.after,lk]
 simp_all
theorem KU{a}{q}{rest}(h17:a.eval (Rh 17)=.chan (J c))(hsz:a.tmps.size=49)(hrow:w.heap[c]?=J (.chan k (v::rest).toArray Y s q Z))
  (h:Q .normal ((a.put (J 18) (Re #[v,C Y])).put (J 19) (C Y)) (w.setChan c k rest.toArray Y s (q+1) Z)):(SX 5 gQ Z).wp Yq.prog Q a w:=by
 refineλb kk cs=>⟨.normal,_,_,h,SD yz ?_⟩
 have hr:Rz gQ.size=[0,1]:=rfl;obtain⟨es,hcomm⟩:∃es,stepG Yq.prog Y (G (b.at a (.inRegion gQ [0,1]::kk)) cs) w=.comm (G (b.at a (.inRegion gQ [0,1]::kk)) cs) #[rcase c (Rd #[I K 0,U ⟨#[]⟩,I K 0])] Y (.recv Y) w es:=by
  refine lw (o := { dst := J 18, op := .recv 158 (Rh 17) Y, type := 0, pos := "listing.go:108", after := #[], guard := N }) rfl rfl ?_
  have e : Rk a.eval { dst := J 18, op := .recv 158 (Rh 17) Y, type := 0, pos := "listing.go:108", after := #[], guard := N } = (do
   let .chan _ elem ← underlying 158 | stuck "receive: channel type expected"
   pure (.comm #[{chan:=a.eval (Rh 17),send:=N,zero:=<-zeroValue elem}] Y (.recv Y))):=rfl
  rw[e,h17];simp[go_sem,rcase]
 have st1:=step_lone_recv_buf Y hcomm hrow (by simp);have e1:(v::rest).toArray.extract 1 (v::rest).toArray.size=rest.toArray:=by simp
 have e2:(v::rest).toArray.getD 0 Wo=v:=rfl;rw[e1,e2,Frame.finish_at]at st1;refine SD st1 ?_;have hput:(a.put ((gQ[0]?).bind (·.dst)) (got Y v Y))=a.put (J 18) (Re #[v,C Y]):=rfl;have h18:(a.put (J 18) (Re #[v,C Y])).eval (Rh 18)=Re #[v,C Y]:=by
  simp[SW,SV,hsz]
 have st2 := yE (P := Yq.prog) (ops := gQ) (a := a.put (J 18) (Re #[v, C Y])) (i := 1) (rest := []) (b := b) (k := kk) (cs := cs) (w := w.setChan c k rest.toArray Y s (q + 1) Z) (w' := w.setChan c k rest.toArray Y s (q + 1) Z) (v := C Y) (o := { dst := J 19, op := .extract (Rh 18) 1, type := 4, pos := "listing.go:108", after := #[{ on := 0, ground := .data }], guard := N }) rfl rfl (by
  have e : Rk (a.put (J 18) (Re #[v, C Y])).eval { dst := J 19, op := .extract (Rh 18) 1, type := 4, pos := "listing.go:108", after := #[{ on := 0, ground := .data }], guard := N } = (do let v ← Instr.extract ((a.put (J 18) (Re #[v, C Y])).eval (Rh 18)) 1; pure (.value v)) := rfl
  rw[e,h18];rfl)
 exact SD st2 (.one xv)
structure PgI (w0 w:Wj)(n c:H)(items:S ItD)(rest:S Wx):Prop where
 os:w.os=w0.os
 size:w0.heap.size<=w.heap.size
 block:∀b,b<w0.heap.size->b≠c->b≠n+2->w.heap[b]?=w0.heap[b]?
 ch:∃k s q,w.heap[c]?=J (.chan k rest.toArray Y s q Z)
 row:∃sv,w.cell? ⟨n+2,0,N⟩=J sv/\w.ownsRow w0.heap.size 67 3 sv items.length (az items)
 tok:w.cell? ⟨n+2,1,N⟩=J (U ⟨#[]⟩)
 fz:∀j,w.frozen? ⟨n+2,j,N⟩=Z
def jX(l:Lst)(a k:eV):gL:=decide (IntKind.i64.wrap (IntKind.i64.wrap (a*l.size)-l.size)<k)&&decide (k<=IntKind.i64.wrap (a*l.size))
theorem PgI.setChan{q}{f}{rest}(d:PgI W0 w n c f (v::rest))(A:c<W0.heap.size)(hn:n+2<c):PgI W0 (w.setChan c k rest.toArray Y s q Z) n c f rest:=by
 have e:∀b,b≠c->(w.setChan c k rest.toArray Y s q Z).heap[b]?=w.heap[b]?:=λb m=>aU _ _ _ _ _ _ _ _ m
 have i:=λb j m=>cB (a:=⟨b,j,N⟩) (e b m)
 refine⟨d.os,by rw[size_setChan];exact d.size,λb p l y=>(e b l).t (d.block b p l y),⟨_,_,_,heap_setChan _ _ _ _ _ _ _ _ (lL A d.size)⟩,?_,(i _ _ (by omega)).t d.tok,λj=>(fB (a:=⟨n+2,j,N⟩) (e _ (by simp;omega))).t (d.fz j)⟩;have⟨x,p,l⟩:=d.row;refine⟨x,(i _ _ (by omega)).t p,l.1,?_⟩;rcases l.2 with h|⟨g,r,o,rfl,m,z,rest⟩;exact Rf h;exact Rg ⟨g,r,o,Q,m,(e g (by omega)).t z,rest⟩
theorem PgI.alloc{f}{rest}(d:PgI W0 w n c f rest)(v:c<W0.heap.size)(hn:n+2<c)o:PgI W0 (w.alloc o) n c f rest:=by
 have e:=λb u=>bA w o b (lL u d.size)
 have⟨k,s,q,h⟩:=d.ch;have⟨p,i,l⟩:=d.row;refine⟨d.os,lT d.size (by simp),λb i l r=>(e b i).t (d.block b i l r),⟨k,s,q,(e c v).t h⟩,⟨p,(cB (a:=⟨n+2,0,N⟩) (e _ (by simp;omega))).t i,l.alloc o⟩,(cB (a:=⟨n+2,1,N⟩) (e _ (by simp;omega))).t d.tok,λj=>(fB (a:=⟨n+2,j,N⟩) (e _ (by simp;omega))).t (d.fz j)⟩
theorem PgI.app{u:Wj}{f:S ItD}{rest:S Wx}{i:ItD}{G r:Wx}(d:PgI u w n c f rest)(P:c<u.heap.size)(hn:n+2<c)(v:w.grownBy W0 G.ownBlock)(z:∀k,G.ownBlock=J k->u.heap.size<=k)(D:W0.ownsRow u.heap.size 67 3 r (f.length+1) (az f++[I K i.kind,U i.text,I K i.NP])):PgI u (W0.setCell ⟨n+2,0,N⟩ r) n c (f++[i]) rest:=by
 have l:=λb h=>v.block b (lL h d.size) (λe=>by have:=z b e.s;omega)
 have m:∀b,b≠n+2->(W0.setCell ⟨n+2,0,N⟩ r).heap[b]?=W0.heap[b]?:=λb h=>Ra h
 have⟨k,s,q,h⟩:=d.ch;have⟨sv0,x,F⟩:=d.row;have B:(W0.setCell ⟨n+2,0,N⟩ r).heap.size=W0.heap.size:=by simp
 refine⟨((bR 0 W0).setCell (p:=⟨n+2,0,N⟩) Q8 r).os.t (v.os.t d.os),by rw[B];exact lT d.size v.size,λb x F L=>(m b L).t ((l b x).t (d.block b x F L)),⟨k,s,q,(m c (by omega)).t ((l c P).t h)⟩,⟨r,cs ((cB (a:=⟨n+2,0,N⟩) (l _ (by simp;omega))).t x),?_⟩,co (by simp) ((cB (a:=⟨n+2,1,N⟩) (l _ (by simp;omega))).t d.tok),λj=>fs ((fB (a:=⟨n+2,j,N⟩) (l _ (by simp;omega))).t (d.fz j))⟩;rw[om,lP,lS];refine⟨D.1,?_⟩;rcases D.2 with h|⟨g,A,y,rfl,z,v,rest⟩;exact Rf h;exact Rg ⟨g,A,y,Q,z,(m g (by omega)).t v,rest⟩
theorem nE(w:Wj)(a c b:Wx)(T:Ww):∀j u,[a,c,b][j]?=J u->(w.alloc (E #[a,c,b] T)).cell? ((⟨w.heap.size,0,N⟩:Wu).add j)=J u:=by
 intro j u hj;rw[S9,cA (w:=w) _ _ w.heap.size _ Q]
 grind
theorem nG(n:eV):IntKind.i64.wrap n=wrap64 n:=by unfold wrap64;exact IntKind.wrap_i64 n
def KV(l:Lst)(f:eV)(n c d:H)(i:ItD)(rest:S Wx)(b:S ItD)(w0:Wj)(e:Exit)(a:Act)(w':Wj):Prop:=
 e=.normal/\a=⟨dN n l f c ((d:eV)+1) (λi=>a.tmps.getD i Wo),[]⟩/\PgI w0 w' n c (if jX l f ((d:eV)+1)then b++[i]else b) rest
theorem wA l(pn:eV)n c G i j f(u:H->Wx)y w(hn:n+2<c)(hc:c<y.heap.size)(F:y.cell? ⟨n,6,N⟩=J (I K l.size))(b:PgI y w n c f (itVal i::j))(hlen:f.length<=1000)(hcnt:G<=1000):
  dE.wp Yq.prog (KV l pn n c G i j f y) ⟨dN n l pn c G u,[]⟩ w:=by
 have⟨kc,A,qc,D⟩:=b.ch;show(Code.seq (.region 5 gQ Z) (dr dE)).wp Yq.prog _ _ _;refine wp_seq (KU (c:=c) Q Q D ?_);have I1:=b.setChan (k:=kc) (s:=A) (q:=qc+1) hc hn;generalize w.setChan c kc j.toArray Y A (qc+1) Z=R at I1 ⊢;clear D b;have z:=aq I1;have⟨sv,ai,m⟩:=I1.row;have av:=I1.fz 0;have B:=(cB (a:=⟨n,6,N⟩) (I1.block n (by omega) (by omega) (by omega))).t F;clear I1;obtain⟨num,root,vs,p,d,af,ab,left⟩:=l;obtain⟨x,v,NP⟩:=i;simp only at B;have⟨i0,hi,ad,aj,al⟩:=Rj Yq.Od;obtain⟨T,V,A,rfl⟩:∃T V A,sv=M T V A:=by
  rcases m.2 with⟨rfl,-⟩|⟨g,cap,cur,rfl,-⟩;exact⟨_,_,_,Q⟩;exact⟨_,_,_,Q⟩
 have P:Hid (∀k,(Value.slice T V A).ownBlock=J k->y.heap.size<=k):=λk h=>(m.lt k h).1
 have hnl:=lL (by omega) z.o.size;have hnl2:=lL (by omega) z.o.size;obtain⟨O1,X⟩:∃O1,O1=Obj.cells #[I K x,U v,I K NP] 67:=⟨_,Q⟩;have r:=aq X;have L:Hid (PgI y (R.alloc O1) n c f j):=z.o.alloc hc hn _;have ac:Hid (PgI y ((R.alloc O1).alloc O1) n c f j):=L.o.alloc hc hn _;have kA:(R.alloc O1).cell? ⟨n,6,N⟩=J (I K ab):=ag ((Q9).alloc Q0 _) B;have kB:(R.alloc O1).cell? ⟨n+2,0,N⟩=J (M T V A):=ag ((Q9).alloc Q0 _) ai;have ap:Hid (((R.alloc O1).alloc O1).ownsRow y.heap.size 67 3 (M T V A) f.length (az f)):=(m.alloc _).alloc _;clear m;rw[X]at kA kB;show S0 Yq.prog (dr dE) _ _ _;unfold dN qV sV ptr lV aT itVal;simp;dsimp only[dE,cIn,cD,cU,Sp,i8,dr,qh,SQ];go_wp2_with (at_builtin;rw[<-r.o];refine wpList_append_own _ Q _ _ 51 Q y.heap.size 67 i0 _ 3 32 (Yq.u Tryz.underlying51) hi ad aj al Q (by decide) _ _ _ Q ap.o ⟨(R.alloc O1).heap.size,0,N⟩ 1 1 [I K x,U v,I K NP] ?qa Q ?qb ?qc ?qd ?qe ?qf ?_)
 case qc=>simp[Value.oneCell']
 case qd=>simp[xc];omega
 case qe=>omega
 case qf=>have:=z.o.size;omega
 intro v' w3 ho hg _;rw[<-r.o]at hg;obtain⟨g',aa,rfl⟩:=ownsRow_succ ho;have hcel:w3.cell? ⟨n+2,0,N⟩=J (M T V A):=by
  refine hg.cell (ag ((Q9).alloc Q0 _) (by rw[r.o];exact kB)) (λe=>?_);have:=P.o _ e.s;simp at this;omega
 have hfr:w3.frozen? ⟨n+2,0,N⟩=false:=by
  rw[bD hg ⟨n+2,0,N⟩ (by simp;omega) (λe=>by have:=P.o _ e.s;simp at this;omega)];exact ac.o.fz 0
 have ar:Hid (PgI y (w3.setCell ⟨n+2,0,N⟩ (M (J ⟨g',0,N⟩) (f.length+1) aa)) n c (f++[⟨x,v,NP⟩]) j):=ac.o.app hc hn hg P.o ho;clear ho hg av;go_wp2_with fail
 refine⟨Q,by simp only[dN,nG];rfl,?_⟩;rw[if_pos (by simp[jX,nG];exact⟨by assumption,by assumption⟩)];exact ar.o;refine⟨Q,by simp only[dN,nG];rfl,?_⟩;rw[nF (by simp only[jX,nG,bT,pt];rintro⟨h1,h2⟩;omega),<-r.o];exact L.o;refine⟨Q,by simp only[dN,nG];rfl,?_⟩;rw[nF (by simp only[jX,nG,bT,pt];rintro⟨h1,h2⟩;omega),<-r.o];exact L.o
def ed(l:Lst)(a:eV):H->S ItD->S ItD
 |_,[]=>[]
 |k,i::r=>(if jX l a ((k:eV)+1)then[i]else[])++ed l a (k+1) r
noncomputable def uh(a:Act):Wy:=(base 48).at a [.code dE,.inLoop dE,.inBlock 0,.code (dr cU)]
theorem L9(n c:H)(l:Lst)(a:eV)(cs:S Wy)(w:Wj):Steps Yq.prog (lone (pF2 n l a c) cs w) (lone (uh ⟨dN n l a c 0 (λ_=>Wo),[]⟩) cs w):=
 .head xv (.head (step_block (id:=0) (c:=.loop dE)) (.one step_loop))
theorem Ma a cs w:Steps Yq.prog (lone (uh a) cs w) (lone (mC a [0,1]) cs w):=
 .head (step_seq (x:=.region 5 gQ Z) (y:=dr dE)) (.one yz)
theorem Ib l(m:eV)n c k cs(A:n+2<c)(y:c<k.heap.size)(j:k.cell? ⟨n,6,N⟩=J (I K l.size)):
  ∀ (h:S ItD) (d:H) (f:S ItD) (u:H->Wx) (w:Wj),PgI k w n c f (h.map itVal)->f.length<=d->d+h.length<=1000 ->
   ∃p o,Steps Yq.prog (lone (uh ⟨dN n l m c d u,[]⟩) cs w) (lone (uh ⟨dN n l m c ((d+h.length:H):eV) p,[]⟩) cs o)/\PgI k o n c (f++ed l m d h) []:=by
 intro h;induction h with
 |nil=>exactλd f u w b _ _=>⟨u,w,by simpa using Steps.refl _ _,by simpa[ed]using b⟩
 |cons i r ih=>
  intro d f u w b hi q;have q:d+(r.length+1)<=1000:=q;obtain⟨e,a,v,⟨rfl,x,I1⟩,s⟩:=wA l m n c d i (r.map itVal) f u k w A y j b (by omega) (by omega) (base 48) [.inLoop dE,.inBlock 0,.code (dr cU)] cs;rw[x]at s;obtain⟨p,o,hs',I'⟩:=ih (d+1) _ _ v I1 (by split<;>(try simp)<;>omega) (by omega);refine⟨p,o,Steps.t s (.head step_inLoop ?_),?_⟩;have e:(((d+1:H):eV))=(d:eV)+1:=rfl;have z:d+(i::r).length=d+1+r.length:=by grind
  rwa [z]
  rw[ed]
  grind
theorem Ic L(h:∀v∈L,∃ (a b:eV)(s:dT),v=Rd #[I K a,U s,I K b]):∃NA:S ItD,L=NA.map itVal:=by
 induction L with
 |nil=>exact⟨[],Q⟩
 |cons v L ih=>
  obtain⟨a,b,s,rfl⟩:=h v (by simp);obtain⟨NA,rfl⟩:=ih (λv c=>h v (by simp[c]));exact⟨⟨a,s,b⟩::NA,Q⟩
theorem wB{NA:S ItD}(a:w.heap[n+2]?=J (E #[M N 0 0,U ⟨#[]⟩] 79))(b:∃k s q,w.heap[c]?=J (.chan k (NA.map itVal).toArray Y s q Z)):PgI w w n c [] (NA.map itVal):=
 ⟨Q,Q0,λ_ _ _ _=>Q,b,⟨_,by simp[sq,a],World.ownsRow_nil _ _ _ _⟩,by simp[sq,a],λj=>by simp[tb,a]⟩
theorem KW:Aq:=by
 intro l e L n c w cs m b o i _ h d;obtain⟨NA,rfl⟩:=Ic L m;have j:c<w.heap.size:=by
  grind
 have b:NA.length<=1000:=by grind
 have⟨u',f,k,a⟩:=Ib l e n c w cs o j (by simp[sq,i,aT]) NA 0 [] (λ_=>Wo) w (wB h d) (by simp) (by omega);exact⟨_,f,Steps.t (L9 n c l e cs w) (Steps.t k (Ma _ cs f)),Q,a.ch⟩
structure Qy where
 vs:gL
 p:dT
 d:dT
 af:dT
def qu(h:S Ver):Ver:=h.getLast?.getD ⟨0,⟨#[]⟩,Z⟩
def jY(a key:dT):gL:=!Op.bytesLess key.toList a.toList && !decide (key.toList=a.toList)
def jo(q:Qy)(k:S ey)(h:S Ver):gL:=jY q.af ⟨k.toArray⟩&&(q.vs || !(qu h).mark)
def dO(d:S ey):S ey->gI H
 | []=>if d=[]then J 0 else N
 |b::r=>if d.isPrefixOf (b::r)then J 0 else(dO d r).map (·+1)
def bc(q:Qy)(k:S ey):gI (S ey):=if q.d.size=0 then N else(dO q.d.data.toList (k.drop q.p.size)).map λi=>k.take (q.p.size+i+q.d.size)
def fR(k:S ey)(v:Ver):ItD:=⟨if v.mark then 4 else 3,⟨k.toArray⟩,v.num⟩
def bM(a:gL)(k:S ey)(h:S Ver):S ItD:=if a then h.reverse.map (fR k)else[⟨1,⟨k.toArray⟩,(qu h).num⟩]
def cG(q:Qy)(s:S ItD×S ey)(kh:S ey×S Ver):S ItD×S ey:=
 if jo q kh.1 kh.2 then
  match bc q kh.1 with
  |none=>(s.1++bM q.vs kh.1 kh.2,s.2)
  |some c=>if c=s.2 then s else(s.1++[⟨2,⟨c.toArray⟩,0⟩],c)
 else s
def aO(q:Qy)(l:S (S ey×S Ver)):S ItD×S ey:=l.foldl (cG q) ([],[])
def cq(q:Qy)(l:S (S ey×S Ver)):S ItD:=(aO q l).1
theorem oo q l x:aO q (l++[x])=cG q (aO q l) x:=by simp[aO]
theorem ui q s x(a:x.2≠[]):s.1.length<=(cG q s x).1.length/\(cG q s x).1.length<=s.1.length+x.2.length:=by
 have h1:=Rt.2 a;unfold cG;split
 split
 simp[bM]
 grind
 grind
 omega
def fU(l:S (S ey×S Ver)):Nat:=(l.map λx=>x.2.length).sum
theorem sk q l(a:∀x∈l,x.2≠[]):∀s,s.1.length<=(l.foldl (cG q) s).1.length/\(l.foldl (cG q) s).1.length<=s.1.length+fU l:=by
 induction l with
 |nil=>intro s;simp[fU]
 |cons x r ih=>
  intro s;have h1:=ui q s x (a x (by simp));have b:=ih (λy c=>a y (by simp[c])) (cG q s x);simp[fU]at b ⊢;omega
theorem mK q l(a:∀x∈l,x.2≠[]):(cq q l).length<=fU l:=by
 have:=(sk q l a ([],[])).2;simpa[cq,aO]using this
theorem Cn q l a(b:∀x∈l,x.2≠[])(h:a <+:l):(aO q a).1.length<=(cq q l).length:=by
 obtain⟨r,rfl⟩:=h;unfold cq aO;rw[List.foldl_append];exact(sk q r (λx c=>b x (by simp[c])) _).1
theorem ft n:∀ (f:S ey->S Ver)(b:S ey),∀x∈dF n f b,x.2≠[]:=by
 induction n with
 |zero=>intro f b x a;simp[dF]at a
 |succ n ih=>
  intro f b x a;simp only[dF,Rw,Rv]at a
  grind
theorem lW a b:fU (a++b)=fU a+fU b:=by simp[fU]
theorem wC{F:Type}(l:S F)(g:F->S (S ey×S Ver)):fU (l.flatMap g)=(l.map λa=>fU (g a)).sum:=by
 induction l with
 |nil=>rfl
 |cons a r ih=>simp[lW,ih]
def tot(n:H)(f:S ey->S Ver):Nat:=fU (dF n f [])
theorem qv n:∀ (f:S ey->S Ver)(a cs:S ey),fU (dF n f a)=fU (dF n f cs):=by
 induction n with
 |zero=>intro f a cs;rfl
 |succ n ih=>
  intro f a cs;simp[dF,lW,wC];refine congr (eW HAdd.hAdd ?_) (eW RF (Ry λb _=>ih _ _ _));split<;>simp[fU]
theorem uj n(f:S ey->S Ver):tot (n+1) f=(f []).length+(Dn.map λb=>tot n (λk=>f (b::k))).sum:=by
 unfold tot;simp[dF,lW,wC];refine congr (eW HAdd.hAdd ?_) (eW RF (Ry λb _=>qv _ _ _ _));split<;>simp_all[fU]
theorem Mb(l:S ey)(g:ey->H)(b:ey)(h:b∈l):g b<=(l.map g).sum:=by
 induction l with
 |nil=>simp at h
 |cons a r ih=>
  grind
theorem KX(l:S ey)(g d:ey->H)(b:ey)(k:l.Nodup)(h:b∈l)(i:∀c,c≠b->d c=g c):(l.map d).sum+g b=(l.map g).sum+d b:=by
 induction l with
 |nil=>simp at h
 |cons a r ih=>
  have⟨f,h2⟩:=List.nodup_cons.1 k;rcases RE.1 h with rfl|h;have e:=Ry λc j=>i c (λe=>f (e▸j))
  grind
  grind
theorem Co:Dn.Nodup:=lU.imp (λh e=>by subst e;exact n8 h (by simp))
theorem Ey n:∀ (f:S ey->S Ver)(a:S ey)(h:S Ver),a.length<n->tot n (upd f a h)+(f a).length=tot n f+h.length:=by
 induction n with
 |zero=>intro f a h d;omega
 |succ n ih=>
  intro f a h d;rw[uj,uj];cases a with
  |nil=>
   have e:(Dn.map λb=>tot n λk=>upd f [] h (b::k))=Dn.map λb=>tot n λk=>f (b::k):=by simp[upd]
   simp[upd];omega
  |cons c r=>
   have e0:upd f (c::r) h []=f []:=by simp[upd]
   have e1:(λk=>upd f (c::r) h (c::k))=upd (λk=>f (c::k)) r h:=by funext k;simp[upd]
   have e3:=KX Dn (λb=>tot n λk=>f (b::k)) (λb=>tot n λk=>upd f (c::r) h (b::k)) c Co (pd c) (λb i=>by simp[upd,i])
   grind
theorem yT p:∀ (n:H)(f:S ey->S Ver),tot (n-p.length) (λk=>f (p++k))<=tot n f:=by
 induction p with
 |nil=>intro n f;exact Q0
 |cons b p ih=>
  intro n f;cases n with
  |zero=>simp[tot,dF,fU]
  |succ n=>
   have h1:=ih n (λk=>f (b::k));have a:=Mb Dn (λb=>tot n λk=>f (b::k)) b (pd b);have e:n+1-(b::p).length=n-p.length:=by simp
   rw[e,uj];simp at a ⊢;omega
theorem KY n:tot n (λ_=>[])=0:=by rw[tot,qn _ _ _ (λ_=>Q)];rfl
theorem AA(hne:h≠[]):qu h=h.getLast hne:=by simp[qu,Rx hne]
theorem Ez(a:eV)(c:dT)(b:gL)w:(Instr.field 72 (Rd #[I K a,U c,C b]) 0).run Yq.prog w=.ok (I K a) w:=by kernel_rfl
theorem Id(A:H->Prop)q k i h w(z:bX A w i h)(c:h≠[])(y:h.length<=2199023255552):
  Calls Yq.prog 117 #[qV q.vs q.p q.d q.af,U ⟨k.toArray⟩,i] w λe x=>e=Rc (C (jo q k h))/\Below w.heap.size w x:=by
 obtain⟨f,p,d,j⟩:=q;have HB:Hid (Below w.heap.size w (w.alloc (E #[C f,U p,U d,U j] 84))):=(Q9).alloc Q0 _;have HN:=nD A i h _ (z.on HB.o) c y;have HW:Hid (∀b,b=jo ⟨f,p,d,j⟩ k h↔b=(jY j ⟨k.toArray⟩&&(f || !(h.getLast c).mark))):=λb=>by rw[jo,AA c]
 obtain⟨v,hv0⟩:∃v,h.getLast c=v:=⟨_,Q⟩;obtain⟨u,r,B⟩:=v;simp only[cM]at HN;unfold qV;have hfm:=si u r B;cases f;go_enter (Yq.nq Sq),Si;go_wp2_with (go_at_call 43;refine HN.m ?_;rintro e s ⟨rfl,n⟩)
 go_ret;exact⟨by rw[(HW.o _).1 Q];simp_all[jY],HB.o.t (n.m HB.o.size)⟩;go_ret;exact⟨by rw[(HW.o _).1 Q];rename_i l;simp[jY];exactλa b=>n8 ⟨a,b⟩ l,HB.o⟩;go_enter (Yq.nq Sq),Si;go_wp2_with (go_at_call 43;rintro e s ⟨rfl,n⟩)
 go_ret;exact⟨by rw[(HW.o _).1 Q];simp_all[jY],HB.o⟩;go_ret;exact⟨by rw[(HW.o _).1 Q];rename_i l;simp[jY];exactλa=>Classical.byContradiction λb=>l ⟨a,b⟩,HB.o⟩
theorem yU(d:gL)(p c a:dT)w:
  Calls Yq.prog 118 #[qV d p ⟨#[]⟩ c,U a] w λe b=>e=Rc (Re #[U ⟨#[]⟩,C Z])/\Below w.heap.size w b:=by
 unfold qV;go_enter (Yq.nq Tryz.func118),Tryz.ntmps118;go_wp2_with fail
 go_ret2
 exact⟨Q,(Q9).alloc Q0 _⟩
theorem EA(a:gI Wu)(p:dT)w:
  Calls Yq.prog 80 #[sV a,U p] w λe b=>e=Rc (.func (.func 101) #[] #[ptr w.heap.size,ptr (w.heap.size+1)])/\b=(w.alloc (E #[O a] 40)).alloc (E #[U p] 9):=by
 unfold sV ptr;go_enter (Yq.nq Tryz.func80),Tryz.ntmps80;go_wp2_with fail
 go_ret
 simp_all
def qw(ops:kr Oper)(listed:kr gL):Prop:=∀ (j:H)(o:Oper),ops[j]?=J o->listed.getD j Z=Y->∀e∈o.after,SG .any e=Y->listed.getD e.on Z=Y
theorem AB(h:u.getD k Z=Y):(u.setIfInBounds i Y).getD k Z=true:=by
 rw[gD,SK];rw[gD]at h
 grind
theorem qw.set{ops:kr Oper}(h:qw ops u)(l:i∈SJ .any ops u):qw ops (u.setIfInBounds i Y):=by
 intro j o c k e f d;by_cases b:j=i
 subst b;exact AB (nz l c e f d);have:u.getD j Z=true:=by
  rw[gD,SK,nF (λe=>b e.s)]at k
  simp_all
 exact AB (h j o c this e f d)
def Nh(ops:kr Oper)(j k:H):gL:=((ops[j]?).map λo=>o.after.toList.any λe=>e.on==k&&SG .any e).getD Z
theorem qw.dep{ops:kr Oper}(h:qw ops u){j}(b:Nh ops j k=Y)(f:u.getD j Z=Y):u.getD k Z=true:=by
 unfold Nh at b;cases c:ops[j]? with
 |none=>simp[c]at b
 |some o=>
  simp only[c,Option.map_some,SU,List.any_eq_true,bT,beq_iff_eq]at b;obtain⟨e,i,rfl,d⟩:=b;exact h j o c f e (Array.mem_toList_iff.1 i) d
section
variable {P:Wv} {ops:kr Oper} {ro:gI Nat}
theorem ir{id:H}{b:Exit->Act->Wj->Prop}{a0:Act}{w0:Wj}(R:P.follows .mixedOrders=Y)f NW(k:H->Wx)(Wd:(H->gL)->Wj->Prop)(y:f+NW<=a0.tmps.size)
  (l:KI ops f NW=Y) (u:Em ops=Y)
  (p:∀ (c:kr gL) (a:Act) (w:Wj) (i:H) (o:Oper),i∈SJ .any ops c->ops[i]?=J o->Vals a0 f NW k Wd ops.size c a w->(∀e∈o.after,SG .any e=Y->c.getD e.on Z=Y)->qw ops c ->
   B6 P ops ro i a w (λA z=>∃v,A=a.put o.dst v/\(i<NW->v=k i)/\Wd (fj (λj=>c.getD j Z) i) z))
  (s:∀a w,a.tmps.size=a0.tmps.size->a.defers=a0.defers->(∀t,t<f->a.eval (Rh t)=a0.eval (Rh t))->(∀i,i<NW->i<ops.size->a.eval (Rh (f+i))=k i)->(∃d,(∀i,i<ops.size->d i=Y)/\Wd d w)->b .normal a w)
  (L:Wd (λ_=>Z) {w0 with drawn:=w0.drawn+1}):(SX id ops Y).wpIn (wf ro) n P b a0 w0:=by
 have F:∀i,(SO ops.size Z).getD i Z=false:=λi=>by
  rw[gD,Array.getElem?_replicate];split<;>rfl
 refine rX R (λc a w=>Vals a0 f NW k Wd ops.size c a w/\qw ops c) (λc a w i V q=>?_) (λc a w V G=>?_) ⟨⟨Q,Q,λ_ _=>Q,λi _ h=>?_,by rw[show(λi=>(SO ops.size Z).getD i Z)=λ_=>Z from funext F];exact L,by simp⟩,λj o _ h=>?_⟩;have r:=eG ((dn q).1);refine(p c a w i _ q r V.1 (nz q r) V.2).m ?_;rintro A z ⟨v,rfl,T,D⟩;exact⟨V.1.step q r (At l i _ r).1 (At l i _ r).2 y T D,V.2.set q⟩;have B:=Ar u V.1.len G;exact s a w V.1.size V.1.defers V.1.old (λi q x=>V.1.new i q (B i x)) ⟨_,B,V.1.world⟩
 grind
 grind
end
def Mc:Code->Code
 | .cond _ a _=>a
 |c=>c
noncomputable def Md:kr Oper:=qh (i8 (Mc (dr (i8 (dr (cD SC))))))
structure WdS (W1:Wj)(c:H)(buf:S Wx)(it:Wx)(d:H->gL)(w:Wj):Prop where
 below:d 6=Z->Below W1.heap.size W1 w
 done:d 6=Y->∃w1,Below W1.heap.size W1 w1/\w=w1.setChan c 1000 (buf++[it]).toArray Z (buf.length+1) 0 Z
section
variable {W1:Wj} {c:Nat} {buf:List Wx} {it:Wx} {d:Nat->gL} {w:Wj}
theorem WdS.other(h:WdS W1 c buf it d w)(a:6≠i):WdS W1 c buf it (fj d i) w:=⟨λe=>h.below (by rwa [eH a]at e),λe=>h.done (by rwa [eH a]at e)⟩
theorem WdS.more(h:WdS W1 c buf it d w)(a:d 6=Z){X}(b:Below w.heap.size w X):WdS W1 c buf it (fj d 3) X:=⟨λ_=>(h.below a).t (b.m (h.below a).size),λe=>by rw[eH (by omega),a]at e;cases e⟩
theorem WdS.NQ(h:WdS W1 c buf it d w)(a:d 6=Z):WdS W1 c buf it (fj d 6) (w.setChan c 1000 (buf.toArray.push it) Z (buf.length+1) 0 Z):=⟨λe=>by simp[fj]at e,λ_=>⟨w,h.below a,by simp⟩⟩
end
theorem EB(A:H->Prop){id}{b:Exit->Act->Wj->Prop}{L}{b5 b7}{s:dT}{buf}(hs:L.tmps.size=27)(e2:L.eval (Rh 2)=B)(e5:L.eval (Rh 5)=ptr b5)(e7:L.eval (Rh 7)=ptr b7)
  (c5:W.cell? ⟨b5,0,N⟩=J (U s)) (c7:W.cell? ⟨b7,0,N⟩=J (.chan (J c))) (hh:bX A W B h) (l:h≠[]) (hl:h.length<=2199023255552) (hc:W.heap[c]?=J (.chan 1000 buf.toArray Z buf.length 0 Z)) (F:buf.length<1000)
  (T:∀a w1,a.tmps.size=27->a.defers=L.defers->Below W.heap.size W w1->b .normal a (w1.setChan c 1000 (buf++[itVal ⟨1,s,(h.getLast l).num⟩]).toArray Z (buf.length+1) 0 Z)):
  (SX id Md Y).wpIn (wf N) n Yq.prog b L W:=by
 obtain⟨W1,x⟩:∃W1:Wj,W1={W with drawn:=W.drawn+1}:=⟨_,Q⟩;have y:Below W.heap.size W W1:=by rw[x];exact⟨Q,Q,Q,Q0,λ_ _=>Q⟩
 have ab:W1.heap.size=W.heap.size:=by rw[x]
 have ad:c<W1.heap.size:=by rw[ab];exact(eS hc).1
 have hc:W1.heap[c]?=J (.chan 1000 buf.toArray Z buf.length 0 Z):=by rw[x];exact hc
 refine ir (ro:=N) (a0:=L) (w0:=W) mixed 13 6
   (λi=>match i with| 0=>.chan (J c)| 1=>U s| 2=>B| 3=>cM (h.getLast l)| 4=>I K (h.getLast l).num|_=>itVal ⟨1,s,(h.getLast l).num⟩)
   (WdS W1 c buf (itVal ⟨1,s,(h.getLast l).num⟩)) (by omega) (by rfl) (by rfl) (λq a w i o hi z V p u=>?_) (λa w h1 h2 h3 h4 h5=>?_) ⟨λ_=>by rw[<-x];exact Q9,λe=>by cases e⟩
 .have R:i<7:=(dn hi).1;have D:q.getD 6 Z=false:=by
   cases h:q.getD 6 Z with
   |false=>rfl
   |true=>
    exfalso;have l5:=u.dep (j:=6) (k:=5) (by rfl) h;have l0:=u.dep (j:=6) (k:=0) (by rfl) h;have l4:=u.dep (j:=5) (k:=4) (by rfl) l5;have l1:=u.dep (j:=5) (k:=1) (by rfl) l5;have l3:=u.dep (j:=4) (k:=3) (by rfl) l4;have l2:=u.dep (j:=3) (k:=2) (by rfl) l3;have aa:=(dn hi).2;have ac:∀j,j<7->q.getD j Z=true:=λj hj=>by
     rcases j with - | - | - | - | - | - | - |j;all_goals first|assumption|omega
    have h7:=ac i R;simp only[gD,eG (by rw[V.len];exact R),SU]at aa h7;rw[aa]at h7;cases h7
  have P:Below W1.heap.size W1 w:=V.world.below D;rcases i with - | - | - | - | - | - | - |i;all_goals first|omega|(have G:=z;dsimp only[Md,Mc,cD,SC,i8,dr,qh,SQ]at G;simp only[gA,gS,gZ,Option.some.injEq,Tb,zA]at G;subst G)
  have r:a.eval (Rh 7)=ptr b7:=(V.old 7 (by omega)).t e7;refine ay z Q (λc h=>by cases h) (v:=.chan (J c)) (w':=w) (by generalize a.eval=ρ at r ⊢;simp[go_sem,r,ptr,ag P (ag y c7)]) ⟨_,Q,λ_=>Q,V.world.other (by omega)⟩;have r:a.eval (Rh 5)=ptr b5:=(V.old 5 (by omega)).t e5;refine ay z Q (λc h=>by cases h) (v:=U s) (w':=w) (by generalize a.eval=ρ at r ⊢;simp[go_sem,r,ptr,ag P (ag y c5)]) ⟨_,Q,λ_=>Q,V.world.other (by omega)⟩;have r:a.eval (Rh 2)=B:=(V.old 2 (by omega)).t e2;refine ay z Q (λc h=>by cases h) (v:=B) (w':=w) (by generalize a.eval=ρ at r ⊢;simp[go_sem,r]) ⟨_,Q,λ_=>Q,V.world.other (by omega)⟩;have r:a.eval (Rh 15)=B:=V.new 2 (by omega) (p ⟨2,.data⟩ (by simp) Q);refine jQ (f:=43) (args:=#[B]) (w':=w) z Q (λc h=>by cases h) (by have qf:=hfun a Q 43;generalize a.eval=ρ at r qf ⊢;simp[go_sem,r,qf]) ((nD A B h w ((hh.on y).on P) l hl).m ?_);rintro e X ⟨rfl,hX⟩;exact⟨_,Q,_,Q,λ_=>Q,V.world.more D hX⟩;have r:a.eval (Rh 16)=cM (h.getLast l):=V.new 3 (by omega) (p ⟨3,.data⟩ (by simp) Q);refine ay z Q (λc h=>by cases h) (v:=I K (h.getLast l).num) (w':=w) (by generalize a.eval=ρ at r ⊢;simp[go_sem,r,cM,Ez]) ⟨_,Q,λ_=>Q,V.world.other (by omega)⟩;have r:a.eval (Rh 14)=U s:=V.new 1 (by omega) (p ⟨1,.data⟩ (by simp) Q);have q1:a.eval (Rh 17)=I K (h.getLast l).num:=V.new 4 (by omega) (p ⟨4,.data⟩ (by simp) Q);have q2:a.eval (.const (I K 1))=I K 1:=rfl;refine ay z Q (λc h=>by cases h) (v:=itVal ⟨1,s,(h.getLast l).num⟩) (w':=w) (by generalize a.eval=ρ at r q1 q2 ⊢;simp[go_sem,r,q1,q2,itVal]) ⟨_,Q,λ_=>Q,V.world.other (by omega)⟩;exact qm z Q Q (V.new 0 (by omega) (p ⟨0,.data⟩ (by simp) Q)) ((P.block c ad).t hc) (by simpa using F) ⟨_,Q,λh=>n8 h (by omega),by rw[(V.new 5 (by omega) (p ⟨5,.data⟩ (by simp) Q))];exact V.world.NQ D⟩
 obtain⟨d,hd,P⟩:=h5;obtain⟨w1,hb,rfl⟩:=P.done (hd 6 (by decide));exact T a w1 (h1.t hs) h2 (y.t (by rw[ab]at hb;exact hb))
end
section
open Go.RowKit
def dA(w:Wj)(b:H):Prop:=∃o:Obj,w.heap[b]?=J o/\o.isCells=Y
theorem dA.of_cell(h:w.cell? ⟨b,n,N⟩=J v):dA w b:=by
 unfold sq at h;cases a:w.heap[b]? with
 |none=>simp[a]at h
 |some o=>
  cases o with
  |cells c e z=>exact⟨_,a,Q⟩
  |_=>simp[a]at h
theorem dA.lt(h:dA w b):b<w.heap.size:=by
 obtain⟨o,h,-⟩:=h;exact(eS h).1
theorem dW.Om(h:dW A w v n xs):dW (λb=>A b/\dA w b) w v n xs:=by
 obtain⟨a,e,j,d,o⟩:=h;refine⟨a,e,j,d,λc=>?_⟩;have⟨g,k,m,l,i⟩:=o c;have f:0<xs.length:=Rt.2 c;exact⟨g,k,⟨m,.of_cell ((i 0 f).t (eL f))⟩,l,i⟩
theorem au.Om:∀ (n:H)(p:gI Wu)(f:S ey->S Ver),au A n w p f->au (λb=>A b/\dA w b) n w p f:=by
 intro n;induction n with
 |zero=>intro p f h;exact h
 |succ n ih=>
  intro p f h;rcases h with h|⟨g,m,t,r,j,u,i,v,k,o,d,s,e,a⟩;exact Rr h;exact Rq ⟨g,m,t,r,j,⟨u,.of_cell i⟩,i,v,k,dW.Om o,dW.Om d,s,λc q l=>ih q _ (e c q l),a⟩
theorem au.OA(h:∀b,A b->A' b)(a:au A n w p f):au A' n w p f:=au.Nx (λb c _=>⟨h b c,Q⟩) n p f a
def wD(w:Wj)(p:gI Wu)(f:S ey->S Ver):Prop:=au (dA w) 41 w p f
theorem wD.of(h:au A 41 w p f):wD w p f:=(au.Om 41 p f h).OA λ_ h=>h.2
end
section
open Go.Conc Go.ConcX Go.ConcX.Gen Go.RowKit
def dH(w:Wj):Prop:=∃m,w.cell? ⟨0,0,N⟩=J (I K m)
theorem dH.on{w'}(h:dH w)(d:∀b,b<w.heap.size->w'.heap[b]?=w.heap[b]?):dH w':=by
 obtain⟨m,c⟩:=h;exact⟨m,(cB (a:=⟨0,0,N⟩) (d 0 (bC w _ c))).t c⟩
def jB(q:Qy):Prop:=∀ (k:S ey)(w:Wj),dH w->k.length<=1000->q.p.data.toList <+:k->Calls Yq.prog 118 #[qV q.vs q.p q.d q.af,U ⟨k.toArray⟩] w λe a=>e=Rc (Re #[U ⟨((bc q k).getD []).toArray⟩,C (bc q k).isSome])/\Below w.heap.size w a
def jC(q:Qy):Prop:=∀ (A:H->Prop)(k:S ey)(f:Wx)(h:S Ver)(c:H)(buf:S Wx)(w:Wj),bX A w f h->h≠[]->h.length<=1000->w.heap[c]?=J (.chan 1000 buf.toArray Z buf.length 0 Z)->buf.length+(bM q.vs k h).length<=1000 ->
 Calls Yq.prog 119 #[qV q.vs q.p q.d q.af,U ⟨k.toArray⟩,f,.chan (J c)] w λe a=>e=Rc (Re #[])/\(∀b,b<w.heap.size->b≠c->a.heap[b]?=w.heap[b]?)/\w.heap.size<=a.heap.size/\a.os=w.os /\
  a.heap[c]?=J (.chan 1000 (buf++(bM q.vs k h).map itVal).toArray Z (buf.length+(bM q.vs k h).length) 0 Z)
structure xU (q:Qy)(w w6:Wj)(c:H)(pre:KVs)(W:Wj):Prop where
 os:W.os=w.os
 size:w6.heap.size<=W.heap.size
 block:∀b,b<w6.heap.size->b≠c->b≠w.heap.size+3->W.heap[b]?=w6.heap[b]?
 told:W.heap[w.heap.size+3]?=J (E #[U ⟨(aO q pre).2.toArray⟩] 9)
 ch:W.heap[c]?=J (.chan 1000 ((aO q pre).1.map itVal).toArray Z (aO q pre).1.length 0 Z)
theorem nH{l m:gL}(h:c<w.heap.size):(w.setChan c k t l s n m).heap[c]?=J (.chan k t l s n m):=by
 unfold vf
 grind
theorem kE{l m:gL}(h:i≠c):(w.setChan c k t l s n m).heap[i]?=w.heap[i]?:=by
 unfold vf
 grind
theorem AC{l m:gL}:(w.setChan c k t l s n m).heap.size=w.heap.size:=by simp[vf]
theorem yV q(a:q.d=⟨#[]⟩):jB q:=by
 intro k w _ _ _;obtain⟨b,p,d,c⟩:=q;subst a;exact yU b p c ⟨k.toArray⟩ w
theorem wE q(v:q.vs=Z):jC q:=by
 intro A k F h c buf w s j hl m i;obtain⟨vs,p,d,z⟩:=q;subst v;have x:=(eS m).1;simp[bM]at i ⊢;rw[AA j];obtain⟨W,l⟩:∃W,W=((w.alloc (E #[C Z,U p,U d,U z] 84)).alloc (E #[U ⟨k.toArray⟩] 9)).alloc (E #[.chan (J c)] 204):=⟨_,Q⟩;have e:Below w.heap.size w W:=by rw[l];exact(((Q9).alloc Q0 _).alloc (by simp) _).alloc (by simp;omega) _
 have HX:Hid (Below w.heap.size w W/\W.cell? ⟨w.heap.size+1,0,N⟩=J (U ⟨k.toArray⟩)/\W.cell? ⟨w.heap.size+2,0,N⟩=J (.chan (J c))/\bX A W F h/\W.heap[c]?=J (.chan 1000 buf.toArray Z buf.length 0 Z)):=by
  refine⟨e,?_,?_,s.on e,(e.block c x).t m⟩;rw[l];refine ag ((Q9).alloc Q0 _) ?_
  simp_all
  rw[l];have:=cA (w:=(w.alloc (E #[C Z,U p,U d,U z] 84)).alloc (E #[U ⟨k.toArray⟩] 9)) #[.chan (J c)] 204 (w.heap.size+2) 0 (by simp)
  grind
 unfold qV;go_enter (Yq.nq Tryz.func119),Tryz.ntmps119
 go_upto_region 2 with fail
 rename_i K1 hK1 K2 y;rw[<-l];have⟨e,D,G,s,m⟩:=HX.o;refine Rn.1 (show SY (wf N) 0 _ _ _ _ _ from EB A (id:=2) (n:=0) (b5:=w.heap.size+1) (b7:=w.heap.size+2) Q Q Q Q D G s j (by omega) m (by omega) (λa w1 h1 B f=>(y _ _ (wp_ret ⟨B,Re #[],by simp[results,Tryz.results119,go_sem],Q,λb u r=>?_,?_,?_,?_⟩))));rw[kE r,f.block b (by have:=e.size;omega)];exact e.block b u;rw[AC];exact lT e.size f.size;exact f.os.t e.os;exact nH (by have:=e.size;have:=f.size;omega)
def Cp:Code->Code
 | .rangeFunc _ _ _ b=>b
 |c=>c
noncomputable def EC:Code:=Cp (cIn (dr (dr (dr (cD Su)))))
def na(w:Wj)(q:Qy)(root:gI Wu)(c:H):Wj:=
 (((((w.alloc (E #[C q.vs,U q.p,U q.d,U q.af] 84)).alloc (E #[O root] 40)).alloc (E #[.chan (J c)] 204)).alloc (E #[U ⟨#[]⟩] 9)).alloc (E #[O root] 40)).alloc (E #[U q.p] 9)
theorem dg w q(a:gI Wu)c:(na w q a c).heap.size=w.heap.size+6:=by simp only[na,vx,SM]
theorem mL w q(a:gI Wu)c(h:b<w.heap.size):(na w q a c).heap[b]?=w.heap[b]?:=by
 simp only[na,vx,gP,SM]
 grind
theorem mM w q(a:gI Wu)c i(h:i<6):(na w q a c).heap[w.heap.size+i]?=(#[E #[C q.vs,U q.p,U q.d,U q.af] 84,E #[O a] 40,E #[.chan (J c)] 204,E #[U ⟨#[]⟩] 9,E #[O a] 40,E #[U q.p] 9]:kr Obj)[i]?:=by
 simp only[na,vx,gP,SM]
 grind
def iB(w:Wj)(q:Qy)(root:gI Wu)(c:H)(f e b a:Wx):kr Wx:=
 #[Rd #[C q.vs,U q.p,U q.d,U q.af],Rd #[O root],.chan (J c),O (J ⟨w.heap.size,0,N⟩),O (J ⟨w.heap.size+1,0,N⟩),O (J ⟨w.heap.size+2,0,N⟩),O (J ⟨w.heap.size+3,0,N⟩),f,e,Wo,Wo,
  .agg #[O root],O (J ⟨w.heap.size,1,N⟩),U q.p,.func (.func 101) #[] #[ptr (w.heap.size+4),ptr (w.heap.size+5)],b,a,Wo,Wo,Wo,Wo,Wo,Wo,Wo,Wo,Wo,Wo,Wo,Wo,Wo,Wo,Wo,Wo,Wo,Wo,Wo,Wo,Wo,Wo,Wo,Wo,Wo,Wo,Wo]
theorem xU.below{q}{d:KVs}(a:xU q w W0 c d W)(l:c<W0.heap.size)(j:w.heap.size+3<W0.heap.size)(e:Below W.heap.size W W'):xU q w W0 c d W':=
 ⟨e.os.t a.os,lT a.size e.size,λb h i k=>(e.block b (lL h a.size)).t (a.block b h i k),(e.block _ (lL j a.size)).t a.told,(e.block _ (lL l a.size)).t a.ch⟩
theorem xU.items{q}{d D:KVs}(a:xU q w e c d W)(h:aO q D=aO q d):xU q w e c D W:=
 ⟨a.os,a.size,a.block,by rw[h];exact a.told,by rw[h];exact a.ch⟩
theorem mN l:(wf (J l)).round=J l:=rfl
section
attribute [local go_sem] Oper.semAt_some mN
theorem Ie(q:Qy)(bb:jB q)(bn:jC q)(u:gI Wu)(c:H)(w:Wj)(bv:dH w)(bp:0≠c)(hcw:c<w.heap.size)(A:H->Prop)(hA:∀b,A b->b<w.heap.size/\b≠c)(l:H)(s:KVs)(k:S ey)(h:S Ver)(hv:Wx)(W:Wj)(hk:k.length<=1000)(bd:q.p.data.toList <+:k)(hh:bX A (na w q u c) hv h)(a7:h≠[])(hl:h.length<=1000)(a2:(aO q (s++[(k,h)])).1.length<=1000)(f:xU q w (na w q u c) c s W):
  EC.wpIn (wf (J l)) 0 Yq.prog (λe _ W'=>e=.normal/\oO c (w.heap.size+3) W W'/\xU q w (na w q u c) c (s++[(k,h)]) W') ⟨iB w q u c (U ⟨k.toArray⟩) hv (U ⟨k.toArray⟩) hv,[]⟩ W:=by
 obtain⟨n,hQ⟩:∃n:Exit->Act->Wj->Prop,n=λe _ W'=>e=.normal/\oO c (w.heap.size+3) W W'/\xU q w (na w q u c) c (s++[(k,h)]) W':=⟨_,Q⟩
 rw[<-hQ];have HQ:=aq hQ;clear hQ;have ab:∀i o,i<6->i≠3->(na w q u c).heap[w.heap.size+i]?=J o->W.heap[w.heap.size+i]?=J o:=λi o h1 h2 h3=>(f.block _ (by rw[dg];omega) (by omega) (by omega)).t h3
 have r0:=ab 0 _ (by omega) (by omega) (mM w q u c 0 (by omega));have r2:=ab 2 _ (by omega) (by omega) (mM w q u c 2 (by omega));simp only[Nat.add_zero]at r0;have c0:W.cell? ⟨w.heap.size,0,N⟩=J (C q.vs):=by simp[sq,r0]
 have c1:W.cell? ⟨w.heap.size,1,N⟩=J (U q.p):=by simp[sq,r0]
 have c2:W.cell? ⟨w.heap.size,2,N⟩=J (U q.d):=by simp[sq,r0]
 have c3:W.cell? ⟨w.heap.size,3,N⟩=J (U q.af):=by simp[sq,r0]
 have d2:W.cell? ⟨w.heap.size+2,0,N⟩=J (.chan (J c)):=by simp[sq,r2]
 have d3:W.cell? ⟨w.heap.size+3,0,N⟩=J (U ⟨(aO q s).2.toArray⟩):=by simp[sq,f.told]
 have f3:W.frozen? ⟨w.heap.size+3,0,N⟩=false:=by simp[tb,f.told]
 have hszW:w.heap.size+6<=W.heap.size:=by have:=f.size;rwa [dg]at this
 have HhW:=aq (dW.Nx hh (λb hb bx=>⟨hb,f.block b bx (hA b hb).2 (by have:=(hA b hb).1;omega)⟩));have HI:=aq f;have bs:Hid (dH W):=by
  obtain⟨m,hm⟩:=bv;exact⟨m,(cB (a:=⟨0,0,N⟩) ((f.block 0 (by rw[dg];omega) bp (by omega)).t (mL w q u c (bC w _ hm)))).t hm⟩
 have y:=Id A q k hv h W HhW.o a7 (by omega);have bo:=aq bb;have bw:=aq bn;have b1:=aq hA;have a6:=bJ a2 bd;have a1:=aq (oo q s (k,h));clear ab r0 r2 f bb bn hA a2 bd hh;generalize bk:jo q k h=wt at y;have av:=aq bk;clear bk;generalize a8:bc q k=cm;have al:=aq a8;clear a8;unfold iB;dsimp only[EC,Cp,cD,Su,cIn,i8,dr,qh,SQ];unfold qV at y;have a0:c<(na w q u c).heap.size:=by rw[dg];omega
 have aj:w.heap.size+3<(na w q u c).heap.size:=by rw[dg];omega
 have T:Hid (∀X,Below W.heap.size W X->Calls Yq.prog 118 #[Rd #[C q.vs,U q.p,U q.d,U q.af],U ⟨k.toArray⟩] X λe w'=>e=Rc (Re #[U ⟨(cm.getD []).toArray⟩,C cm.isSome])/\Below X.heap.size X w'):=λX hX=>by
  rw[<-al.o];exact bo.o k X (bs.o.on hX.block) hk a6.o.2
 cases wt
 .gi_wp2_with (refine⟨trivial,Q,?_⟩;gi_at_call 117;refine(Rp l (xt.2 y)).m ?_;clear y;rintro e w1 ⟨rfl,r⟩)
  rw[HQ.o];exact⟨Q,oO.below r,(HI.o.below a0 aj r).items (by rw[a1.o,cG,av.o];rfl)⟩
 .have aa:Hid (∀w1 F:Wj,Below W.heap.size W w1->Below w1.heap.size w1 F->Below W.heap.size W F):=λw1 F h1 h2=>h1.t (h2.m h1.size)
  cases cm with
  |none=>
   have e1:aO q (s++[(k,h)])=((aO q s).1++bM q.vs k h,(aO q s).2):=by
    rw[a1.o,cG,av.o];simp only[al.o,lk]
   have B:=aq e1;have be:Hid (∀X,Below W.heap.size W X->Calls Yq.prog 119 #[Rd #[C q.vs,U q.p,U q.d,U q.af],U ⟨k.toArray⟩,hv,.chan (J c)] X λe w'=>e=Rc (Re #[])/\oO c (w.heap.size+3) W w'/\xU q w (na w q u c) c (s++[(k,h)]) w'):=λX hX=>by
    have IX:=HI.o.below a0 aj hX;have G:=a6.o.1;rw[B.o,lP]at G;have bi:=IX.ch;rw[show((aO q s).1.length:H)=((aO q s).1.map itVal).length by simp]at bi;refine(bw.o A k hv h c ((aO q s).1.map itVal) X (dW.on HhW.o hX) a7 hl bi (by simpa using G)).m ?_;rintro e w' ⟨rfl,h1,h2,h3,h4⟩;refine⟨Q,⟨lT hX.size h2,h3.t hX.os,λb hb z _=>(h1 b (by have:=hX.size;omega) z).t (hX.block b hb)⟩,h3.t IX.os,lT IX.size h2,λb hb z L=>(h1 b (by have:=IX.size;omega) z).t (IX.block b hb z L),?_,?_⟩
    .rw [B.o];exact(h1 _ (by have:=IX.size;omega) (by omega)).t IX.told
    .rw [B.o,h4];simp
   clear e1
   gi_wp2_with (first
    |(refine⟨trivial,Q,?_⟩;gi_at_call 117;refine(Rp l (xt.2 y)).m ?_;clear y;rintro e w1 ⟨rfl,r⟩;replace c0:=ag r c0;replace c1:=ag r c1;replace c2:=ag r c2;replace c3:=ag r c3;replace d2:=ag r d2)
    |(refine⟨trivial,Q,?_⟩;gi_at_call 118;refine(Rp l (xt.2 (T.o _ r))).m ?_;clear T;rintro e F ⟨rfl,x⟩;replace c0:=ag x c0;replace c1:=ag x c1;replace c2:=ag x c2;replace c3:=ag x c3;replace d2:=ag x d2)
    |(refine⟨trivial,Q,?_⟩;gi_at_call 119;refine(Rp l (xt.2 (be.o _ (aa.o _ _ r x)))).m ?_;clear be;rintro e R ⟨rfl,bt,b0⟩))
   rw[HQ.o];exact⟨Q,bt,b0⟩
  |some P=>
   by_cases ar:P=(aO q s).2
   .have B:Hid (aO q (s++[(k,h)])=aO q s):=by
     show aO q (s++[(k,h)])=aO q s;rw[a1.o,cG,av.o];simp only[al.o,lk,ar]
    rw[<-ar]at d3
    gi_wp2_with (first
     |(refine⟨trivial,Q,?_⟩;gi_at_call 117;refine(Rp l (xt.2 y)).m ?_;clear y;rintro e w1 ⟨rfl,r⟩;replace c0:=ag r c0;replace c1:=ag r c1;replace c2:=ag r c2;replace c3:=ag r c3;replace d3:=ag r d3)
     |(refine⟨trivial,Q,?_⟩;gi_at_call 118;refine(Rp l (xt.2 (T.o _ r))).m ?_;clear T;rintro e F ⟨rfl,x⟩;replace d3:=ag x d3))
    rw[HQ.o];exact⟨Q,oO.below (aa.o _ _ r x),(HI.o.below a0 aj (aa.o _ _ r x)).items B.o⟩
   .have e1:aO q (s++[(k,h)])=((aO q s).1++[⟨2,⟨P.toArray⟩,0⟩],P):=by
     rw[a1.o,cG,av.o];simp only[al.o,lk,ar,if_false]
    have B:=aq e1;clear e1
    gi_upto_region 10 with(first
     |(refine⟨trivial,Q,?_⟩;gi_at_call 117;refine(Rp l (xt.2 y)).m ?_;clear y;rintro e w1 ⟨rfl,r⟩;replace c0:=ag r c0;replace c1:=ag r c1;replace c2:=ag r c2;replace c3:=ag r c3;replace d2:=ag r d2;replace d3:=ag r d3;replace f3:=(r.frozen (p:=⟨w.heap.size+3,0,N⟩) (by show w.heap.size+3<W.heap.size;omega)).t f3)
     |(refine⟨trivial,Q,?_⟩;gi_at_call 118;refine(Rp l (xt.2 (T.o _ r))).m ?_;clear T;rintro e F ⟨rfl,x⟩;replace d2:=ag x d2;replace d3:=ag x d3;replace f3:=(x.frozen (p:=⟨w.heap.size+3,0,N⟩) (by show w.heap.size+3<w1.heap.size;have:=r.size;omega)).t f3))
    case refine_2=>rename_i hx;exact n8 (by simpa using hx) ar
    rename_i K1 a9;have I2:=HI.o.below a0 aj (aa.o _ _ r x);have bl:=I2.ch;have G:=a6.o.1;rw[B.o,lP,lS]at G;have D:∀j,j≠c->(F.setChan c 1000 (((aO q s).1.map itVal).toArray.push (Rd #[I K 2,U ⟨P.toArray⟩,I K 0])) Z ((aO q s).1.length+1) 0 Z).heap[j]?=F.heap[j]?:=λj hj=>kE hj
    have hsz2:w.heap.size+6<=F.heap.size:=by have:=r.size;have:=x.size;omega
    have ac:(F.setChan c 1000 (((aO q s).1.map itVal).toArray.push (Rd #[I K 2,U ⟨P.toArray⟩,I K 0])) Z ((aO q s).1.length+1) 0 Z).heap[c]?=J (.chan 1000 (((aO q s).1.map itVal).toArray.push (Rd #[I K 2,U ⟨P.toArray⟩,I K 0])) Z ((aO q s).1.length+1) 0 Z):=nH (by omega);refine Ek ?_;show B7 _ _ _ _ [0,1,2,3] _ _;refine ay (v:=.chan (J c)) (w':=F) Q Q (λc h=>by cases h) (by simp[go_sem,d2]) (ay (v:=U ⟨P.toArray⟩) (w':=F) Q Q (λc h=>by cases h) (by simp[go_sem]) (ay (v:=Rd #[I K 2,U ⟨P.toArray⟩,I K 0]) (w':=F) Q Q (λc h=>by cases h) (by simp[go_sem]) (qm (c:=c) Q Q Q Q bl (by simp;omega) (a9 _ _ ?_))));show SY (wf (J l)) 0 Yq.prog _ _ _ (F.setChan c 1000 (((aO q s).1.map itVal).toArray.push (Rd #[I K 2,U ⟨P.toArray⟩,I K 0])) Z ((aO q s).1.length+1) 0 Z);obtain⟨R,ai⟩:∃R,F.setChan c 1000 (((aO q s).1.map itVal).toArray.push (Rd #[I K 2,U ⟨P.toArray⟩,I K 0])) Z ((aO q s).1.length+1) 0 Z=R:=⟨_,Q⟩;have ad:R.heap.size=F.heap.size:=by rw[<-ai];exact AC
    have ap:R.os=F.os:=by rw[<-ai];rfl
    rw[ai]at D ac ⊢;have d3':R.cell? ⟨w.heap.size+3,0,N⟩=J (U ⟨(aO q s).2.toArray⟩):=(cB (a:=⟨w.heap.size+3,0,N⟩) (D _ (show w.heap.size+3≠c by omega))).t d3;have f3':R.frozen? ⟨w.heap.size+3,0,N⟩=false:=(fB (a:=⟨w.heap.size+3,0,N⟩) (D _ (show w.heap.size+3≠c by omega))).t f3;have bq:=gB D ac I2 ad ap;clear D ac I2 ai bl ad ap a9 K1;gi_wp2;rw[HQ.o];have⟨D,ac,I2,ad,ap⟩:=bq.o;have a5:∀j,j≠w.heap.size+3->(R.setCell ⟨w.heap.size+3,0,N⟩ (U ⟨P.toArray⟩)).heap[j]?=R.heap[j]?:=λj hj=>Ra hj
    have a3:(R.setCell ⟨w.heap.size+3,0,N⟩ (U ⟨P.toArray⟩)).heap.size=F.heap.size:=by simp[ad]
    have a4:(R.setCell ⟨w.heap.size+3,0,N⟩ (U ⟨P.toArray⟩)).os=F.os:=((bR 0 R).setCell (p:=⟨w.heap.size+3,0,N⟩) Q8 _).os.t ap;have V:=aa.o _ _ r x;refine⟨Q,⟨by rw[a3];exact V.size,a4.t V.os,λb hb z L=>?_⟩,a4.t I2.os,by rw[a3];exact I2.size,λb hb z L=>?_,?_,?_⟩
    .rw [a5 b L,D b z];exact V.block b hb
    .rw [a5 b L,D b z];exact I2.block b hb z L
    .rw [B.o];obtain⟨h1,h2⟩:=eS ((D _ (show w.heap.size+3≠c by omega)).t I2.told);show(R.heap.modify (w.heap.size+3) _)[w.heap.size+3]?=_;rw[eG (by rw[Array.size_modify];exact h1),Array.getElem_modify_self,h2];rfl
    .rw [a5 c (by omega),ac,B.o];simp[itVal]
end
theorem wF n:∀ (f:S ey->S Ver)(c:S ey),∀x∈dF n f c,c <+:x.1/\x.1.length<c.length+n:=by
 induction n with
 |zero=>intro f c x a;simp[dF]at a
 |succ n ih=>
  intro f c x a;simp only[dF,Rw,Rv]at a;rcases a with a|⟨b,-,a⟩
  grind
  obtain⟨d,e⟩:=ih _ _ x a;exact⟨(List.prefix_append _ _).t d,by simp at e;omega⟩
theorem wG{p}(h:x∈bV f p):p <+:x.1/\x.1.length<=40:=by
 obtain⟨h1,h2⟩:=wF _ _ _ x h
 grind
theorem If{l:KVs}(h:x∈l):x.2.length<=fU l:=by
 induction l with
 |nil=>simp at h
 |cons a r ih=>
  rcases RE.1 h with rfl|h;simp[fU];have:=ih h;simp[fU]at this ⊢;omega
theorem xU.N0{q}{d:KVs}{Y}(a:xU q w e c d W0)(n:c<e.heap.size)(k:w.heap.size+3<e.heap.size)(h:∀b,b<e.heap.size->Y.heap[b]?=W0.heap[b]?)(m:W0.heap.size<=Y.heap.size)(i:Y.os=W0.os):xU q w e c d Y:=
 ⟨i.t a.os,lT a.size m,λb f j l=>(h b f).t (a.block b f j l),(h _ k).t a.told,(h _ n).t a.ch⟩
section
attribute [local go_sem] Oper.semAt_some mN
theorem KZ q(ad:jB q)(ai:jC q)(B:gI Wu)(f:S ey->S Ver)c w(ap:dH w)(hT:wD w B f)(av:fU (bV f q.p.data.toList)<=1000)(hp:q.p.size<=xc)(hc:w.heap[c]?=J (.chan 1000 #[] Z 0 0 Z)):
  Calls Yq.prog 99 #[qV q.vs q.p q.d q.af,sV B,.chan (J c)] w λe w'=>e=Rc (Re #[])/\((∀b,b<w.heap.size->b≠c->w'.heap[b]?=w.heap[b]?)/\w.heap.size<=w'.heap.size/\w'.os=w.os) /\
   w'.heap[c]?=J (.chan 1000 ((cq q (bV f q.p.data.toList)).map itVal).toArray Z (cq q (bV f q.p.data.toList)).length 0 Z):=by
 have a0:=(eS hc).1;have a2:Hid (dH w/\0≠c):=⟨ap,λe=>by
  obtain⟨m,hm⟩:=ap;subst e;simp[sq,hc]at hm⟩
 clear ap;obtain⟨G,T⟩:∃G,bV f q.p.data.toList=G:=⟨_,Q⟩;have P:∀x∈G,x.2≠[]:=by rw[<-T];exact ft _ _ _
 have R:∀x∈G,q.p.data.toList <+:x.1/\x.1.length<=40:=by rw[<-T];exactλx hx=>wG hx
 obtain⟨A,aa⟩:∃A:H->Prop,A=dA w:=⟨_,Q⟩;have hA:∀b,A b->b<w.heap.size/\b≠c:=λb V=>by
  rw[aa]at V;refine⟨V.lt,λe=>?_⟩;subst e;obtain⟨o,h1,h2⟩:=V;rw[hc]at h1;cases h1;cases h2
 have ab:au A 41 (na w q B c) B f:=au.Nx (λb V a4=>⟨by rw[aa];exact V,mL w q B c a4⟩) 41 B f hT;rw[T]at av ⊢;have al:c<(na w q B c).heap.size:=by rw[dg];omega
 have a1:w.heap.size+3<(na w q B c).heap.size:=by rw[dg];omega
 have ac:xU q w (na w q B c) c [] (na w q B c):=⟨Q,Q0,λ_ _ _ _=>Q,mM w q B c 3 (by omega),(mL w q B c a0).t hc⟩;refine(xt (n:=0)).1 (callsIn_of_wp_marks (F:=Fence.wide) (Yq.nq Tryz.func99) Q trivial ((Rn (n:=0)).2 ?_));generalize hQ:bodyPostM Fence.wide 0 Yq.prog Su _=r;simp only[Tryz.ntmps99,lZ,lC,lN,Tb,Nat.reduceSub,Array.replicate_succ,Array.replicate_zero,List.push_toArray,List.append_toArray,RB,List.cons_append];have HQ:=aq hQ;have HX:Hid (jB q/\jC q/\au A 41 (na w q B c) B f/\(∀b,A b->b<w.heap.size/\b≠c)/\xU q w (na w q B c) c [] (na w q B c)/\(∀x∈G,x.2≠[])/\(∀x∈G,q.p.data.toList <+:x.1/\x.1.length<=40)/\A=dA w):=⟨ad,ai,ab,hA,ac,P,R,aa⟩;clear hQ ad ai ab hA ac P R hT hc aa;unfold qV sV;go_wp2_with (go_at_call 80;refine(EA B q.p _).m ?_;rintro e w6 ⟨rfl,rfl⟩)
 refine Rn.1 (show SY (wf N) 0 Yq.prog _ (Exit.inBlock 0 r) ⟨iB w q B c Wo Wo Wo Wo,[]⟩ (na w q B c)from ?_);have⟨ad,ai,ab,hA,ac,P,R,aa⟩:=HX.o;have a3:∀ (L:KVs) x,L++[x] <+:G->x∈G:=λL x h=>h.subset (by simp)
 refine vY (α:=S ey×S Ver) (β:=S ey×S Ver×Wx) (encs:=λx=>#[U ⟨x.1.toArray⟩,x.2.2]) (gf:=101) (lb:=#[ptr (w.heap.size+4),ptr (w.heap.size+5)]) (λx=>(x.1,x.2.1)) Q (λargs wx=>by go_simp) (λ_=>Q) c (w.heap.size+3) a1 noO (λ_ _ _ _ h=>h)
  (xU q w (na w q B c) c) (λL x=>L++[(x.1,x.2.1)] <+:G/\bX A (na w q B c) x.2.2 x.2.1/\x.2.1≠[]) G (λ_ _ _ _ h=>h.elim) (λL X z i h1 _ h2 h3=>i.N0 al a1 h1 h2 h3) (λL X i=>⟨Rg al,Rg ⟨_,i.ch,Q⟩⟩) ac
  (λx=>⟨iB w q B c (U ⟨x.1.toArray⟩) x.2.2 (U ⟨x.1.toArray⟩) x.2.2,[]⟩) ?call ?assign ?body ?done
 case call=>
  intro l j W hW1 aj a7 a6 a8 hy a9;have u:yO A (na w q B c) ((na w q B c).heap.size+2) (w.heap.size+3) l noO G j:=⟨λb V=>by
    have⟨h1,h2⟩:=hA b V;rw[aa]at V;obtain⟨o,h3,h4⟩:=V;exact⟨by rw[dg];omega,by omega,o,(mL w q B c h1).t h3,h4⟩,by omega,λ_ _ _ _ h=>h,a7,a6,a8,λL k h hv X h1 h2 h3 h4=>hy L (k,h,hv) X ⟨h1,h2,h3⟩ h4⟩
  exact Av u B f q.p W (w.heap.size+4) (w.heap.size+5) ab T.s (λb V=>aj b (by have:=(hA b V).1;rw[dg];omega))
   (by rw[cB (a:=⟨w.heap.size+4,0,N⟩) (aj _ (by rw[dg];show w.heap.size+4<_;omega))];simp[sq,mM w q B c 4 (by omega)])
   (by rw[cB (a:=⟨w.heap.size+5,0,N⟩) (aj _ (by rw[dg];show w.heap.size+5<_;omega))];simp[sq,mM w q B c 5 (by omega)]) hp a9
 case assign=>
  intro l x W y hK;obtain⟨k,h,hv⟩:=x;have e:(#[15,16].zip #[Value.string ⟨k.toArray⟩,hv]).foldl (λt x=>match x with|(p,v)=>t.setIfInBounds p v) (iB w q B c Wo Wo Wo Wo)=iB w q B c Wo Wo (U ⟨k.toArray⟩) hv:=by
   simp[iB]
  show SY _ _ _ _ _ ⟨(#[15,16].zip #[Value.string ⟨k.toArray⟩,hv]).foldl (λt x=>match x with|(p,v)=>t.setIfInBounds p v) (iB w q B c Wo Wo Wo Wo),[]⟩ _;rw[e];unfold iB;unfold iB at hK;gi_wp2;exact hK
 case body=>
  rintro l L ⟨k,h,hv⟩ W ⟨h1,h2,h3⟩ i;have hm:=a3 L (k,h) h1;refine wpIn_mono (Ie q ad ai B c w a2.o.1 a2.o.2 a0 A hA l L k h hv W (by have:=(R _ hm).2;simp only at this;omega) (R _ hm).1 h2 h3 (by have:=If hm;simp only at this;omega) (by have h5:(aO q (L++[(k,h)])).1.length<=(cq q G).length:=Cn q G _ P h1;have:=mK q G P;omega) i) (λe a W' h=>⟨h.1,h.2.1.own,h.2.2⟩)
 case done=>
  intro D W hD i hK;have hQ:=HQ.o;subst hQ;refine⟨by simp,Rf ⟨_,_,Q,run_takeDeferred hK,?_⟩⟩;have ar:∀b,b<(na w q B c).heap.size->(W.putObj D (.deferred N)).heap[b]?=W.heap[b]?:=λb V=>pO (by omega)
  refine⟨Re #[],by simp[results,Tryz.results99,go_sem],Q,⟨λb V a5=>?_,?_,?_⟩,?_⟩;rw[ar b (by rw[dg];omega),i.block b (by rw[dg];omega) a5 (by omega),mL w q B c V];have:=i.size;rw[dg]at this;simp;omega;exact i.os;rw[ar c al];exact i.ch
end
end
section
open Go.RowKit
theorem Ig{d}(h:w.heap.size<=d.heap.size):∀b,Grow A d b->Grow A w b:=by
 rintro b (⟨c,h2⟩|c);by_cases a:b<w.heap.size
 exact Rr ⟨c,a⟩;exact Rq (by omega);exact Rq (by omega)
theorem aS.m{st}(a:aS A w c st)(h:∀b,A b->A' b)(d:∀b,A' b->b≠c):aS A' w c st:=by
 have⟨p,f,i⟩:=a.tree;exact⟨d,⟨p,f,au.Nx (λb e _=>⟨h b e,Q⟩) _ _ _ i⟩,a.count,a.last,a.frozen⟩
def dX(A:H->Prop)(w:Wj)(k0:H)(a:St)(v:Wx)(e:Ending)(w':Wj):Prop:=
 e=Rc v/\aS (Grow A w) w' k0 a/\dw w w' k0
theorem bN{w'}{b}(a:aS A w c b)(d:Below w.heap.size w w'):dX A w c b v (Rc v) w':=
 ⟨Q,a.grow.on d,fq a.lt d⟩
def lh(st:St)(key body:dT):St×eV×eV:=
 if aV key=Z then(st,0,2)else if 100<body.size then(st,0,3)else if kZ st then(st,0,4)else(ce st key body Z,st.last+1,0)
def NJ(st:St)(key:dT):St×eV×eV:=
 if aV key=Z then(st,0,2)else if kZ st then(st,0,4)else(ce st key ⟨#[]⟩ Y,st.last+1,0)
theorem AD(A:H->Prop)q i s(f b:dT)w(B:f.size<=xc)(t:b.size<=xc)(a:aS A w q i)(y:Inv i s)(z:s<2199023255340):
  Calls Yq.prog 14 #[O (J ⟨q,0,N⟩),U f,U b] w (dX A w q (lh i f b).1 (Re #[I K (lh i f b).2.1,I K (lh i f b).2.2])):=by
 have j:=mI f w B;have HS:=aq a;unfold xc at t;cases c:aV f with
 |false=>
  rw[c]at j;have e:lh i f b=(i,0,2):=by simp[lh,c]
  rw[e];clear c a e;go_enter (Yq.nq R9),R7;go_wp2_with (go_at_call 38;refine j.m ?_;rintro e p ⟨rfl,rfl⟩)
  go_ret2
  exact bN HS.o Q9
 |true=>
  rw[c]at j;have v:=iQ c;by_cases k:100<b.size
  have e:lh i f b=(i,0,3):=by simp[lh,c,k]
  rw[e];clear c a e;go_enter (Yq.nq R9),R7;go_wp2_with (go_at_call 38;refine j.m ?_;rintro e p ⟨rfl,rfl⟩)
  go_ret2
  exact bN HS.o Q9;have l:=sg q i w a.count a.last;cases d:kZ i with
  |true=>
   rw[d]at l;have e:lh i f b=(i,0,4):=by simp[lh,c,k,d]
   rw[e];clear c a e d;go_enter (Yq.nq R9),R7;go_wp2_with (first|(go_at_call 38;refine j.m ?_;rintro e p ⟨rfl,rfl⟩)|(go_at_call 39;refine l.m ?_;rintro e p ⟨rfl,rfl⟩))
   go_ret2
   exact bN HS.o Q9
  |false=>
   rw[d]at l;have e:lh i f b=(ce i f b Z,i.last+1,0):=by simp[lh,c,k,d]
   have r:¬i.last=9223372036854775807:=λh=>by simp[kZ,h]at d
   rw[e];clear c a e d;go_enter (Yq.nq R9),R7;go_wp2_with (first|(go_at_call 38;refine j.m ?_;rintro e p ⟨rfl,rfl⟩)|(go_at_call 39;refine l.m ?_;rintro e p ⟨rfl,rfl⟩))
   refine(Cm b w (by omega)).m ?_;rintro e x ⟨rfl,n⟩;go_wp2_with (go_at_call 40;refine(Az A q i s f 0 b Z x v.1 (HS.o.on n) y z r).m ?_;rintro e w2 ⟨rfl,S2,u⟩)
   go_ret2
   exact⟨Q,S2.m (Ig n.size) (iS HS.o.ND HS.o.lt),ug (fq HS.o.lt n) u⟩
theorem wH(A:H->Prop)k f s(c:dT)w(r:c.size<=xc)(a:aS A w k f)(t:Inv f s)(u:s<2199023255340):
  Calls Yq.prog 17 #[O (J ⟨k,0,N⟩),U c] w (dX A w k (NJ f c).1 (Re #[I K (NJ f c).2.1,I K (NJ f c).2.2])):=by
 have i:=mI c w r;have HS:=aq a;cases d:aV c with
 |false=>
  rw[d]at i;have e:NJ f c=(f,0,2):=by simp[NJ,d]
  rw[e];go_enter (Yq.nq Sf),Sd;go_wp2_with (go_at_call 38;refine i.m ?_;rintro e l ⟨rfl,rfl⟩)
  go_ret2
  exact bN HS.o Q9
 |true=>
  rw[d]at i;have q:=iQ d;have j:=sg k f w a.count a.last;cases b:kZ f with
  |true=>
   rw[b]at j;have e:NJ f c=(f,0,4):=by simp[NJ,d,b]
   rw[e];go_enter (Yq.nq Sf),Sd;go_wp2_with (first|(go_at_call 38;refine i.m ?_;rintro e l ⟨rfl,rfl⟩)|(go_at_call 39;refine j.m ?_;rintro e l ⟨rfl,rfl⟩))
   go_ret2
   exact bN HS.o Q9
  |false=>
   rw[b]at j;have e:NJ f c=(ce f c ⟨#[]⟩ Y,f.last+1,0):=by simp[NJ,d,b]
   have n:¬f.last=9223372036854775807:=λh=>by simp[kZ,h]at b
   rw[e];clear d a e b;go_enter (Yq.nq Sf),Sd;go_wp2_with (first|(go_at_call 38;refine i.m ?_;rintro e l ⟨rfl,rfl⟩)|(go_at_call 39;refine j.m ?_;rintro e l ⟨rfl,rfl⟩)|(go_at_call 40;refine(Az A k f s c 0 ⟨#[]⟩ Y w q.1 HS.o t u n).m ?_;rintro e w2 ⟨rfl,S2,p⟩))
   go_ret2
   exact⟨Q,S2,p⟩
def fm(st:St)(key:dT)(n:eV):St×eV:=
 if aV key=Z then(st,2)
 else match dk (st.f key.data.toList) n with
  |none=>(st,5)
  |some r=>(cg st key r,0)
theorem Cq(A:H->Prop)k h s(d:dT)(n:eV)w(hk:d.size<=xc)(a:aS A w k h)(hI:Inv h s)(hs:s<2199023255340):
  Calls Yq.prog 18 #[O (J ⟨k,0,N⟩),U d,I K n] w (dX A w k (fm h d n).1 (I K (fm h d n).2)):=by
 have HF:=wu A k h s d n w hk a hI (by omega);have HS:=aq a;have B:=a.lt;have l2:=hI.Oh;have l3:=hI.Oj;have ap:=hI.len d.data.toList;clear a;go_enter (Yq.nq Tryz.func18),Tryz.ntmps18;go_wp2_with fail
 refine HF.m ?_;rintro e w1 ⟨j,ac⟩;rcases ac with⟨i,rfl⟩|⟨i,z,rfl⟩|⟨i,r,ha,hc,z,hr,hh,rfl⟩
 .have HR:Hid (fm h d n=(h,2)):=show fm h d n=(h,2)by simp[fm,i]
  have HB:=aq j;clear i HF j;go_wp2;go_ret;rw[HR.o];exact bN HS.o HB.o
 .have HR:Hid (fm h d n=(h,5)):=show fm h d n=(h,5)by simp[fm,i,z]
  have HB:Hid (Below w.heap.size w w1):=j;clear i HF j z;go_wp2;go_ret;rw[HR.o];exact bN HS.o HB.o
 .have HR:Hid (fm h d n=(cg h d r,0)):=show fm h d n=(cg h d r,0)by simp[fm,i,z]
  have V:=iQ i;have⟨p,c,hN⟩:=HS.o.cells;have C1:=c.on j;have c1:=C1.c1;have f1:=C1.fz 1;have c0:=C1.c0;obtain⟨W2,v⟩:∃W2,W2=w1.setCell ⟨k,1,N⟩ (I K (h.count-1)):=⟨_,Q⟩;have C2:bB W2 k (O p) (I K (h.count-1)) (I K h.last):=by rw[v];exact C1.OW _
  have x:dw w W2 k:=by rw[v];exact sj (fq B j) _ _
  have af:bX (λb=>A b\/w.heap.size<=b) W2 (M ha (h.f d.data.toList).length hc) (h.f d.data.toList):=
   dW.Nx hh (λb F h2=>⟨Rr F,by rw[v];exact Ra (HS.o.ND b F)⟩)
  have T:∀u:Wj,W2.grownBy u (J k)->au (λb=>(A b/\b<w.heap.size)\/w.heap.size<=b) 41 u p h.f:=λu al=>
   au.Nx (λb F h2=>⟨Rr ⟨F,h2⟩,(aJ x.g al).block b h2 (by intro e;cases e;exact HS.o.ND k F Q)⟩) 41 p h.f hN
  have D:h.f d.data.toList≠[]:=by intro e;rw[e]at hr;simp at hr
  have ai:=aq v;clear i HF z c hN C1;by_cases aa:(h.f d.data.toList).length=1
  .have aj:r=0:=by omega
   have HD:Hid (cg h d r=⟨upd h.f d.data.toList [],h.count-1,h.last⟩):=show cg h d r=_ by
    unfold cg;rw[aj,List.take_zero,RB,List.drop_eq_nil_of_le (by omega)]
   have HT:Hid (Calls Yq.prog 45 #[Rd #[O p],U d] W2 λe R=>∃q,e=Rc (Rd #[O q])/\Below W2.heap.size W2 R/\au (Grow (λb=>(A b/\b<w.heap.size)\/w.heap.size<=b) W2) 41 R q (upd h.f d.data.toList [])):=
    wo _ 41 p h.f d W2 (T W2 (World.grownBy.refl _ _)) V.1 V.2 D
   have HC:=bJ C2 x;rw[aa];clear hh af T aa aj C2 x D v hr ap j;go_wp2_with fail
   rw[<-ai.o];refine HT.o.m ?_;rintro e w4 ⟨q,rfl,y,X⟩;have D4:=HC.o.1.on y;have r1:=D4.c0;have r2:=D4.fz 0;have HX:Hid (aS (Grow A w) (w4.setCell ⟨k,0,N⟩ (O q)) k (cg h d r)/\dw w (w4.setCell ⟨k,0,N⟩ (O q)) k):=by
    refine⟨?_,sj (iq HC.o.2 y) _ _⟩;rw[HD.o];exact eK (p:=q) (D4.OS _) (qt HC.o.2.g.size HS.o.ND B X _ _) (iS HS.o.ND B)
   clear D4 X y HT HC;go_wp2;go_ret;rw[HR.o];exact⟨Q,HX.o.1,HX.o.2⟩
  .have HD:Hid (cg h d r=⟨upd h.f d.data.toList ((h.f d.data.toList).take r++(h.f d.data.toList).drop (r+1)),h.count-1,h.last⟩):=rfl;have HW:Hid (Calls Yq.prog 47 #[M ha (h.f d.data.toList).length hc,I K r] W2.drew λe R=>∃G L P,e=Rc (M G L P)/\bX (λb=>W2.heap.size<=b) R (M G L P) ((h.f d.data.toList).take r++(h.f d.data.toList).drop (r+1))/\Below W2.heap.size W2 R):=by
    exact(ws _ _ _ r W2.drew (dW.Nx af (λb F h2=>⟨F,Q⟩)) hr (by omega)).m (λe R ⟨G,L,P,F,h2,h3⟩=>⟨G,L,P,F,h2,(bR _ W2).drew.t h3⟩)
   have ab:(h.f d.data.toList).take r++(h.f d.data.toList).drop (r+1)≠[]:=by
    intro e;have:=eW List.length e;rw[lP,tL,lD,lN]at this;omega
   have HT:Hid (∀ (u:Wj) (G:gI Wu) (L P:H),Below W2.heap.size W2 u->bX (λb=>W2.heap.size<=b) u (M G L P) ((h.f d.data.toList).take r++(h.f d.data.toList).drop (r+1)) ->
     Calls Yq.prog 46 #[Rd #[O p],U d,M G L P] u λe R=>∃q,e=Rc (Rd #[O q])/\Below u.heap.size u R/\au (Grow (λb=>(A b/\b<w.heap.size)\/w.heap.size<=b) u) 41 R q (upd h.f d.data.toList ((h.f d.data.toList).take r++(h.f d.data.toList).drop (r+1)))):=λu G L P l ad=>by
    refine wn _ 41 p h.f d _ _ u (T u (aQ l _)) V.1 V.2 (dW.Nx ad (λb F h2=>⟨Rq ?_,Q⟩)) ab;have:=x.g.size;omega
   have HC:Hid (bB W2 k (O p) (I K (h.count-1)) (I K h.last)/\dw w W2 k):=⟨C2,x⟩;have a0:=C2.c0;have hone':(((h.f d.data.toList).length:eV)==1)=false:=by simp;omega
   generalize(h.f d.data.toList).take r++(h.f d.data.toList).drop (r+1)=hnew at *;clear hh af T C2 x D v j ab;generalize(h.f d.data.toList).length=m at *;go_wp2_with fail
   rw[<-ai.o]
   go_region_with (first
    |(go_at_call 47;refine HW.o.m ?_;rintro e u ⟨G,L,P,rfl,ad,l⟩;have b0:=ag l a0)
    |(go_at_call 46;refine(HT.o _ G L P l ad).m ?_;rintro e w4 ⟨q,rfl,y,X⟩;have E4:=(HC.o.1.on l).on y;have r1:=E4.c0;have r2:=E4.fz 0))
   all_goals
    go_wp2;go_ret;rw[HR.o,HD.o];exact⟨Q,eK (p:=q) (E4.OS _) (qt (by have:=HC.o.2.g.size;have:=l.size;omega) HS.o.ND B X _ _) (iS HS.o.ND B),sj (iq (iq HC.o.2 l) y) _ _⟩
structure eR (st:St):Prop where
 cnt:(tot 41 st.f:eV)=st.count
 le:st.count<=200
 long:∀k,40<k.length->st.f k=[]
 body:∀k,∀v∈st.f k,v.body.size<=100
theorem wI{z:dT}(h:aV z=Y):z.data.toList.length<=40:=by
 have:=lj h;have e:z.data.toList.length=z.size:=by simp
 omega
theorem eR.add{i}(h:eR i)(b a:dT)(d:gL)(j:aV b=Y)(hc:¬200<=i.count)(l:a.size<=100):eR (ce i b a d):=by
 have hl:=wI j;have e:=Ey 41 i.f b.data.toList (i.f b.data.toList++[⟨i.last+1,a,d⟩]) (by omega);rw[lP,lS]at e;have:=h.cnt;refine⟨?_,?_,λk j=>?_,λk v c=>?_⟩;simp only[ce];omega;simp only[ce];omega;simp only[ce,upd];rw[nF (by intro e;subst e;omega)];exact h.long k j;simp only[ce,upd]at c;split at c
 rcases Rw.1 c with c|c;exact h.body _ v c;simp only[List.mem_singleton]at c;subst c;exact l;exact h.body k v c
theorem eR.drop{c}(h:eR c)(a:dT)r(d:aV a=Y)(hr:r<(c.f a.data.toList).length):eR (cg c a r):=by
 have hl:=wI d;have e:=Ey 41 c.f a.data.toList ((c.f a.data.toList).take r++(c.f a.data.toList).drop (r+1)) (by omega);rw[lP,tL,lD,Nat.min_eq_left (by omega)]at e;have:=h.cnt;have:=h.le;refine⟨?_,?_,λk d=>?_,λk v b=>?_⟩;simp only[cg];omega;simp only[cg];omega;simp only[cg,upd];rw[nF (by intro e;subst e;omega)];exact h.long k d;simp only[cg,upd]at b;split at b
 rcases Rw.1 b with b|b;exact h.body _ v (List.mem_of_mem_take b);exact h.body _ v (List.mem_of_mem_drop b);exact h.body k v b
theorem eR.step{a}(h:eR a)o:eR (aE a o).1:=by
 unfold aE;simp only
 repeat' split
 all_goals first
  |exact h
  |exact h.add _ _ _ (by simpa using ‹¬aV o.key=Z›) (λh=>‹¬(200<=a.count\/a.last=9223372036854775807)› (Rf h)) (by first|exact Nat.le_of_not_lt ‹_› |exact Q8)
  |(rename_i r b;exact h.drop _ _ (by simpa using ‹¬aV o.key=Z›) (Ru.1 b).1)
theorem Ih:eR ⟨λ_=>[],0,0⟩:=⟨by rw[KY];rfl,by simp,λ_ _=>Q,λ_ _ h=>by simp at h⟩
end
section
open Go.Conc Go.ConcX Go.ConcX.Gen Go.RowKit
theorem uk(h:S Ver):∀v∈aA h,Good v:=λv a=>by
 simp only[aA,Rv]at a;obtain⟨x,-,a⟩:=a;simp at a;rcases a with rfl|rfl|rfl
 .exact .int _ _
 .exact .string _
 .exact .bool _
theorem ul(b:S (ey×gI Wu)):∀v∈aI b,Good v:=λv a=>by
 simp only[aI,Rv]at a;obtain⟨x,-,a⟩:=a;simp at a;rcases a with rfl|rfl
 .exact .int _ _
 .exact .pointer _
section
variable {ρ:Ren} {V W V':Wj}
theorem ED(hk:∀a y i v,ρ a y->V.cell? ⟨a,i,N⟩=J v->Good v->V'.cell? ⟨a,i,N⟩=J v)(hg:∀v∈xs,Good v)(f:∃l,RV ρ v l)(h:dW A V v n xs):dW (λ_=>True) V' v n xs:=by
 obtain⟨a,k,rfl,e,o⟩:=h;refine⟨a,k,Q,e,λb=>?_⟩;obtain⟨g,rfl,hA,hgl,hc⟩:=o b;obtain⟨l,f⟩:=f;obtain⟨y,hy⟩:∃y,ρ g y:=by
  cases f with
  |slice n c h=>cases h with|some h=>exact⟨_,h.1⟩
 have d:∀j,j<xs.length->V'.cell? ⟨g,j,N⟩=xs[j]?:=λj hj=>by
  grind
 have m:=Rt.2 b;exact⟨g,Q,trivial,bC V' _ ((d 0 m).t (eL m)),d⟩
theorem Ii(d:cz ρ V W)(o:∀a y i v,ρ a y->V.cell? ⟨a,i,N⟩=J v->Good v->V'.cell? ⟨a,i,N⟩=J v):∀ (n:H)(p:gI Wu)(f:S ey->S Ver),(∃r,RAo ρ p r)->au A n V p f->au (λ_=>True) n V' p f:=by
 intro n;induction n with
 |zero=>intro p f _ h;exact h
 |succ n ih=>
  intro p f F h;rcases h with h|⟨g,hv,X,ks,rfl,hA,c0,c1,R,T,l,hs,D,u,L⟩;exact .inl h;obtain⟨r,F⟩:=F;obtain⟨y,m⟩:∃y,ρ g y:=by cases F with|some h=>exact⟨_,h.1⟩
  have hrel:∀ (b y j:H) (v:Wx),ρ b y->V.cell? ⟨b,j,N⟩=J v->∃z,RV ρ v z:=λb y j v hb hc=>by
   rcases d.cell (a:=⟨b,j,N⟩) (a':=⟨y,j,N⟩) ⟨hb,rfl,rfl⟩with h|⟨v1,v2,h1,B,h3⟩
   grind
   grind
  have rk:=hrel g y 2 X m R;refine .inr ⟨g,hv,X,ks,rfl,trivial,o g y 0 _ m c0 (.bool _),o g y 1 _ m c1 (by obtain⟨a,s,rfl,-⟩:=T;exact .slice _ _ _),o g y 2 _ m R (by obtain⟨a,s,rfl,-⟩:=l;exact .slice _ _ _),ED o (uk _) (hrel g y 1 hv m c1) T,ED o (ul _) rk l,hs,λc q t=>ih q _ ?_ (D c q t),u,L⟩;obtain⟨gk,s,rfl,-,-,x,-⟩:=l.cells (by intro e;rw[e]at t;simp at t);have⟨i,hi,e⟩:=gM t;obtain⟨G,P⟩:∃G,ρ gk G:=by
   obtain⟨z,k⟩:=rk;cases k with|slice n c h=>cases h with|some h=>exact⟨_,h.1⟩
  have B:=(x i hi).2;rw[e]at B;obtain⟨z,k⟩:=hrel gk G _ _ P B;cases k with|pointer h=>exact⟨_,h⟩
theorem sm(k:∀b j,b<V.heap.size->V'.cell? ⟨b,j,N⟩=V.cell? ⟨b,j,N⟩):∀ (n:H)(p:gI Wu)(f:S ey->S Ver),au A n V p f->au (λ_=>True) n V' p f:=by
 have d:∀v n r,dW A V v n r->dW (λ_=>True) V' v n r:=λv n r h=>by
  obtain⟨a,x,rfl,m,R⟩:=h;refine⟨a,x,Q,m,λe=>?_⟩;obtain⟨g,rfl,hA,y,hc⟩:=R e;have i:=λj X=>(k g j y).t (hc j X)
  have z:=Rt.2 e;exact⟨g,Q,trivial,bC V' _ ((i 0 z).t (eL z)),i⟩
 intro n;induction n with
 |zero=>intro p f h;exact h
 |succ n ih=>
  intro p f h;rcases h with h|⟨g,hv,P,G,rfl,hA,B,c1,D,F,u,L,o,l⟩;exact Rr h;have s:=bC V _ B;exact Rq ⟨g,hv,P,G,rfl,trivial,(k g 0 s).t B,(k g 1 s).t c1,(k g 2 s).t D,d _ _ _ F,d _ _ _ u,L,λc q T=>ih q _ (o c q T),l⟩
end
def lQy(l:Lst):Qy:=⟨l.vs,l.p,l.d,l.af⟩
def oq(l:Lst)(f:S ey->S Ver):S ItD:=cq (lQy l) (bV f l.p.data.toList)
structure Me (Qok:Qy->Prop)(l:Lst)(f:S ey->S Ver)(w:Wj):Prop where
 tree:wD w l.root f
 ok:Qok (lQy l)
 sum:fU (bV f l.p.data.toList)<=1000
 pre:l.p.size<=maxLen
 NS:dH w
def LH(Qok:Qy->Prop)(l:Lst)(L:S Wx)(w:Wj):Prop:=∃f,Me Qok l f w/\L=(oq l f).map itVal
theorem lX:0<Tryz.prog.globals.size:=by simp_all
theorem EF(Qok:Qy->Prop)(A:∀q,Qok q->jB q/\jC q):D2 (LH Qok) where
 low:=λρ V W V' l L a u n d o ⟨f,h,e⟩=>⟨f,⟨.of (Ii a d 41 l.root f u h.tree),h.ok,h.sum,h.pre,by
  have⟨m,k⟩:=h.NS;have⟨y,s⟩:=n 0 lX;exact⟨m,d 0 y 0 _ s k (.int _ _)⟩⟩,e⟩
 on:=λV V' l L d o ⟨f,h,e⟩=>⟨f,⟨.of (sm (λb j z=>d ⟨b,j,N⟩ z) 41 l.root f h.tree),h.ok,h.sum,h.pre,by
  have⟨m,k⟩:=h.NS;exact⟨m,(d _ (bC V _ k)).t k⟩⟩,e⟩
 item:=λl L V ⟨f,h,e⟩ v p=>by
  rw[e]at p;obtain⟨i,-,rfl⟩:=List.mem_map.1 p;exact⟨_,_,_,rfl⟩
 len:=λl L V ⟨f,h,e⟩=>by
  rw[e,lM];exact lT (mK (lQy l) _ (ft _ _ _)) h.sum
 send:=λl L w c ⟨f,h,e⟩ B=>by
  obtain⟨x,r⟩:=A _ h.ok;have:=KZ (lQy l) x r l.root f c w h.NS h.tree h.sum h.pre B;rw[e,lM];exact this
theorem K0(Qok:Qy->Prop):∀l L V u,Ce V u->LH Qok l L u->LH Qok l L V:=λl _L _V _u a ⟨f,h,e⟩=>
 ⟨f,⟨.of (sm (λ_b _j _=>(a.2 _).s) 41 l.root f h.tree),h.ok,h.sum,h.pre,by
  have⟨m,b⟩:=h.NS;exact⟨m,(a.2 _).s.t b⟩⟩,e⟩
theorem EG t:SE (Yq.prog.follows .mixedOrders) Yq.NH t=[0,1]\/SE (Yq.prog.follows .mixedOrders) Yq.NH t=[1,0]:=by
 rw[mixed];rcases Nat.mod_two_eq_zero_or_one t with h|h
 left
 simp[SE,SH,Region.linearise.go,Yq.NH,Rz,List.range.loop,h,Tc]
 right
 simp[SE,SH,Region.linearise.go,Yq.NH,Rz,List.range.loop,h,Tc]
theorem wJ{a}{q}(h17:a.eval (Rh 17)=.chan (J c))(hsz:a.tmps.size=49)(hrow:w.heap[c]?=J (.chan k #[] Y s q Z))
  (h:Q .normal ((a.put (J 18) (Re #[Rd #[I K 0,U ⟨#[]⟩,I K 0],C Z])).put (J 19) (C Z)) w):(SX 5 gQ Z).wp Yq.prog Q a w:=by
 refineλb kk cs=>⟨.normal,_,_,h,SD yz ?_⟩
 have hr:Rz gQ.size=[0,1]:=rfl;obtain⟨es,hcomm⟩:∃es,stepG Yq.prog Y (G (b.at a (.inRegion gQ [0,1]::kk)) cs) w=.comm (G (b.at a (.inRegion gQ [0,1]::kk)) cs) #[rcase c (Rd #[I K 0,U ⟨#[]⟩,I K 0])] Y (.recv Y) w es:=by
  refine lw (o := { dst := J 18, op := .recv 158 (Rh 17) Y, type := 0, pos := "listing.go:108", after := #[], guard := N }) rfl rfl ?_
  have e : Rk a.eval { dst := J 18, op := .recv 158 (Rh 17) Y, type := 0, pos := "listing.go:108", after := #[], guard := N } = (do
   let .chan _ elem ← underlying 158 | stuck "receive: channel type expected"
   pure (.comm #[{chan:=a.eval (Rh 17),send:=N,zero:=<-zeroValue elem}] Y (.recv Y))):=rfl
  rw[e,h17];simp[go_sem,rcase]
 have st1:=step_lone_recv_shut Y hcomm hrow;rw[Frame.finish_at]at st1;refine SD st1 ?_;have hput:(a.put ((gQ[0]?).bind (·.dst)) (got Y (Rd #[I K 0,U ⟨#[]⟩,I K 0]) Z))=a.put (J 18) (Re #[Rd #[I K 0,U ⟨#[]⟩,I K 0],C Z]):=rfl;have h18:(a.put (J 18) (Re #[Rd #[I K 0,U ⟨#[]⟩,I K 0],C Z])).eval (Rh 18)=Re #[Rd #[I K 0,U ⟨#[]⟩,I K 0],C Z]:=by
  simp[SW,SV,hsz]
 have st2 := yE (P := Yq.prog) (ops := gQ) (a := a.put (J 18) (Re #[Rd #[I K 0, U ⟨#[]⟩, I K 0], C Z])) (i := 1) (rest := []) (b := b) (k := kk) (cs := cs) (w := w) (w' := w) (v := C Z) (o := { dst := J 19, op := .extract (Rh 18) 1, type := 4, pos := "listing.go:108", after := #[{ on := 0, ground := .data }], guard := N }) rfl rfl (by
  have e : Rk (a.put (J 18) (Re #[Rd #[I K 0, U ⟨#[]⟩, I K 0], C Z])).eval { dst := J 19, op := .extract (Rh 18) 1, type := 4, pos := "listing.go:108", after := #[{ on := 0, ground := .data }], guard := N } = (do let v ← Instr.extract ((a.put (J 18) (Re #[Rd #[I K 0, U ⟨#[]⟩, I K 0], C Z])).eval (Rh 18)) 1; pure (.value v)) := rfl
  rw[e,h18];rfl)
 exact SD st2 (.one xv)
theorem Ij(l:Lst)(j:eV)(n c h:H)(d:S ItD)(u:H->Wx)(o w:Wj)(b:PgI o w n c d []):
  dE.wp Yq.prog (λe a k=>e=.exit 0/\(∃m,a=⟨dN n l j c h m,[]⟩)/\k=w) ⟨dN n l j c h u,[]⟩ w:=by
 have⟨kc,sc,qc,f⟩:=b.ch;refine wp_seq (wJ (c:=c) Q Q f ?_);show S0 Yq.prog (dr dE) _ _ _;unfold dN qV sV ptr lV aT;dsimp only[dE,cIn,cD,cU,Sp,i8,dr,qh,SQ];go_wp2_with fail
 exact⟨λi=>if i=18 then Re #[Rd #[I K 0,U ⟨#[]⟩,I K 0],C Z]else if i=19 then C Z else u i,by simp⟩
theorem Cr l(j:eV)n c m(v:n+2<c)(t:c<m.heap.size)(k:m.cell? ⟨n,6,N⟩=J (I K l.size)):
  ∀ (h:S ItD) (f:H) (d:S ItD) (u:H->Wx) (w:Wj),PgI m w n c d (h.map itVal)->d.length<=f->f+h.length<=1000 ->
   SZ Yq.prog dE (λe a q=>e=.exit 0/\(∃o,a=⟨dN n l j c ((f+h.length:H):eV) o,[]⟩)/\PgI m q n c (d++ed l j f h) []) (h.length+1) ⟨dN n l j c f u,[]⟩ w:=by
 intro h;induction h with
 |nil=>
  refineλf d u w b _ _=>Rm (Ij l j n c f d u m w b) ?_
  rintro e a q ⟨rfl,⟨o,rfl⟩,rfl⟩;exact⟨Q,⟨o,by simp⟩,by simpa[ed]using b⟩
 |cons i r ih=>
  intro f d u w b hi s;have s:f+(r.length+1)<=1000:=s;rw[lC,rounds_succ];refine Rm (wA l j n c f i (r.map itVal) d u m w v t k b (by omega) (by omega)) ?_;rintro e a p ⟨rfl,ha,I1⟩;show SZ _ _ _ _ a p;have h2:=ih (f+1) _ (λi=>a.tmps.getD i Wo) p I1 (by split<;>(try simp)<;>omega) (by omega);have e0:(((f+1:H):eV))=(f:eV)+1:=rfl;have e2:f+1+r.length=f+(r.length+1):=by omega
  have e3:(if jX l j ((f:eV)+1)then d++[i]else d)++ed l j (f+1) r=d++ed l j f (i::r):=by
   rw[ed]
   grind
  grind
def ff(n pg:eV):dT:=⟨(RG n++46::RG pg).toArray⟩
def mO(G:Wj->Prop)(n pg:eV):Prop:=∀ (l:Lst)(w:Wj),G w->l.num=n->Calls Yq.prog 77 #[lV l,I K pg] w λe a=>e=Rc (U (ff n pg))/\Below w.heap.size w a
def JC(l:Lst)(a:eV)(n:H):dT:=if IntKind.i64.wrap (a*l.size)<(n:eV)then ff l.num (IntKind.i64.wrap (a+1))else⟨#[]⟩
structure ax (W W':Wj):Prop where
 os:W'.os=W.os
 size:W.heap.size<=W'.heap.size
 block:∀b,b<W.heap.size->W'.heap[b]?=W.heap[b]?
theorem bO{G}(h:w.ownsRow s G b v n xs)(l:∀g,s<=g->g<w.heap.size->W0.heap[g]?=w.heap[g]?):W0.ownsRow s G b v n xs:=by
 refine⟨h.1,?_⟩;rcases h.2 with h2|⟨g,d,c,k,j,i,r⟩
 grind
 exact Rq ⟨g,d,c,k,j,(l g j (eS i).1).t i,r⟩
theorem EH(l:Lst)(x:eV)(n c r:H)(s:S ItD)(u:H->Wx)(A w:Wj)(G:Wj->Prop)(hn:n+2<c)(hc:c<A.heap.size)(r0:A.heap[n]?=J (E (aT l) 116))(r1:A.heap[n+1]?=J (E #[M N 0 0,U ⟨#[]⟩] 79))(a:PgI A w n c s [])(hG:G w)(hT:IntKind.i64.wrap (x*l.size)<(r:eV)->mO G l.num (IntKind.i64.wrap (x+1))):
  (dr cU).wp Yq.prog (Ro Yq.prog Yq.f48 λe L=>∃sv,e=Rc (Rd #[sv,U (JC l x r)])/\L.ownsRow A.heap.size 67 3 sv s.length (az s)/\(L.os=A.os/\A.heap.size<=L.heap.size/\∀b,b<n->L.heap[b]?=A.heap[b]?)) ⟨dN n l x c r u,[]⟩ w:=by
 have hl0:=lL (by omega) a.size;have z:=(a.block n (by omega) (by omega) (by omega)).t r0;have X:=(a.block (n+1) (by omega) (by omega) (by omega)).t r1;have⟨sv,c0,j⟩:=a.row;have c1:=a.tok;have z0:=a.fz 0;have z1:=a.fz 1;have hbk:=λk h=>(j.lt k h).1
 have HI:=bJ a j;have d0:w.cell? ⟨n+1,0,N⟩=J (M N 0 0):=by simp[sq,X]
 have d1:w.cell? ⟨n+1,1,N⟩=J (U ⟨#[]⟩):=by simp[sq,X]
 have y0:w.frozen? ⟨n+1,0,N⟩=false:=by simp[tb,X]
 have y1:w.frozen? ⟨n+1,1,N⟩=false:=by simp[tb,X]
 have k0:w.cell? ⟨n,0,N⟩=J (I K l.num):=by simp[sq,z,aT]
 have k1:w.cell? ⟨n,1,N⟩=J (O l.root):=by simp[sq,z,aT]
 have k2:w.cell? ⟨n,2,N⟩=J (C l.vs):=by simp[sq,z,aT]
 have k3:w.cell? ⟨n,3,N⟩=J (U l.p):=by simp[sq,z,aT]
 have k4:w.cell? ⟨n,4,N⟩=J (U l.d):=by simp[sq,z,aT]
 have k5:w.cell? ⟨n,5,N⟩=J (U l.af):=by simp[sq,z,aT]
 have k6:w.cell? ⟨n,6,N⟩=J (I K l.size):=by simp[sq,z,aT]
 have k7:w.cell? ⟨n,7,N⟩=J (I K l.left):=by simp[sq,z,aT]
 have aa:Hid (wrap64 (x*l.size)<(r:eV)->Calls Yq.prog 77 #[Rd #[I K l.num,O l.root,C l.vs,U l.p,U l.d,U l.af,I K l.size,I K l.left],I K (wrap64 (x+1))] w λe L=>e=Rc (U (ff l.num (wrap64 (x+1))))/\Below w.heap.size w L):=by
  rw[<-nG,<-nG];exactλh=>hT h l w hG Q
 clear a j z X r0 r1 hT hG;obtain⟨P,R,T,rfl⟩:∃P R T,sv=M P R T:=by
  rcases HI.o.2.2 with⟨rfl,-⟩|⟨g,cap,cur,rfl,-⟩
  grind
  grind
 have hszw:=HI.o.1.size;have V:n+2<w.heap.size:=by omega
 generalize hQ:Ro Yq.prog Yq.f48 _=f;have HQ:=aq hQ;clear hQ;unfold dN qV sV ptr lV aT;dsimp only[cD,cU,Sp,i8,dr,SQ];by_cases B:wrap64 (x*l.size)<(r:eV)
 .have F:=aa.o B;have y:JC l x r=ff l.num (wrap64 (x+1)):=by rw[JC,nG,nG,if_pos B]
  rw[y]at HQ;generalize ff l.num (wrap64 (x+1))=tk at F HQ;clear y;go_wp2_with (go_at_call 77;refine F.m ?_;clear F;rintro e w1 ⟨rfl,i⟩;replace c0:=ag i c0;replace c1:=ag i c1;replace d0:=ag i d0;replace d1:=ag i d1;replace z0:=(i.frozen (p:=⟨n+2,0,N⟩) V).t z0;replace z1:=(i.frozen (p:=⟨n+2,1,N⟩) V).t z1;replace y0:=(i.frozen (p:=⟨n+1,0,N⟩) (by show n+1<_;omega)).t y0;replace y1:=(i.frozen (p:=⟨n+1,1,N⟩) (by show n+1<_;omega)).t y1)
  rw[<-HQ.o];have⟨a,j⟩:=HI.o;have q:∀b,b≠n+1->b≠n+2->(((w1.setCell ⟨n+2,1,N⟩ (U tk)).setCell ⟨n+1,0,N⟩ (M P R T)).setCell ⟨n+1,1,N⟩ (U tk)).heap[b]?=w1.heap[b]?:=λb D h2=>by
   rw[Ra D,Ra D,Ra h2]
  refine xb (v:=Rd #[M P R T,U tk]) (by simp[results,Sh,go_sem,d0,d1]) Q ⟨_,Q,bO j λg D h2=>?_,?_,?_,λb hb=>?_⟩;rw[q g (by omega) (by omega)];exact i.block g h2;exact i.os.t a.os;have:=i.size;simp;omega;rw[q b (by omega) (by omega),i.block b (by omega)];exact a.block b (by omega) (by omega) (by omega)
 have y:JC l x r=⟨#[]⟩:=by rw[JC,nG,nG,nF B]
 rw[y]at HQ;clear y;go_wp2_with fail
 rw[<-HQ.o];have⟨a,j⟩:=HI.o;have q:∀b,b≠n+1->((w.setCell ⟨n+1,0,N⟩ (M P R T)).setCell ⟨n+1,1,N⟩ (U ⟨#[]⟩)).heap[b]?=w.heap[b]?:=λb D=>by
  rw[Ra D,Ra D]
 refine xb (v:=Rd #[M P R T,U ⟨#[]⟩]) (by simp[results,Sh,go_sem,d0,d1]) Q ⟨_,Q,bO j λg D h2=>?_,?_,?_,λb hb=>?_⟩;exact q g (by omega);exact a.os;simp;omega;rw[q b (by omega)];exact a.block b (by omega) (by omega) (by omega)
def Mf(V:Wj)(l:Lst)(a:eV)(NA:S ItD)(e:Ending)(w':Wj):Prop:=
 ∃b,e=Rc (Rd #[b,U (JC l a NA.length)])/\w'.ownsRow V.heap.size 67 3 b (ed l a 0 NA).length (az (ed l a 0 NA))/\ax V w'
def Stop(Qok:Qy->Prop)(e:Ending)(w':Wj):Prop:=∃x y r,e=.panicked (stopEntry x y::r)/\∃a b L,x=lV a/\y=I K b/\LH Qok a L w'
theorem yW(Qok:Qy->Prop)(hQ:∀q,Qok q->jB q/\jC q)l(d:eV)(f:S ey->S Ver)V(hp:Me Qok l f V)(G:Wj->Prop)(hG:∀m,ax V m->G m)(hT:IntKind.i64.wrap (d*l.size)<((oq l f).length:eV)->mO G l.num (IntKind.i64.wrap (d+1))):
  Calls Yq.prog 48 #[lV l,I K d] V λe m=>Mf V l d (oq l f) e m\/Stop Qok e m:=by
 have j:=EF Qok hQ;have D:LH Qok l ((oq l f).map itVal) V:=⟨f,hp,Q⟩;intro cs;rcases EG (V.tape V.drawn (.order 48 100))with hs|hs;have⟨fr,B,hm,X,hf⟩:=vG (lV l) (I K d) cs V hs;refine⟨.panicked [stopEntry (lV l) (I K d)],{V with drawn:=V.drawn+1},fr,Rg ⟨_,_,_,rfl,l,d,_,rfl,rfl,j.on V _ l _ (λ_ _=>Q) Q0 D⟩,B,hf,hm,X,_,by rw[hf];exact Yq.func48⟩;obtain⟨V4,B,ab,aa,n⟩:=vK j l d _ V cs D hs;have s:∀i,i<7->i≠5->V4.heap[V.heap.size+i]?=_:=λi T h2=>(ab _ (by omega) (by omega)).t (cK V l 1000 i T)
 have r0:=s 0 (by omega) (by omega);have hc:=(eS aa).1;have hlen:(oq l f).length<=1000:=by have:=j.len l _ V D;simpa using this
 have p:=Cr l d V.heap.size (V.heap.size+5) V4 (by omega) hc (by simp at r0;simp[sq,r0,aT]) (oq l f) 0 [] (λ_=>Wo) V4 (wB (s 2 (by omega) (by omega)) ⟨_,_,_,aa⟩) (by simp) (by omega);simp at p;have o:=λb x=>(ab b (by omega) (by omega)).t (fF V l 1000 x)
 have L:(Code.block 0 (.loop dE)).wp Yq.prog (λe a w=>e=.normal/\(dr cU).wp Yq.prog (Ro Yq.prog Yq.f48 (Mf V l d (oq l f))) a w) ⟨dN V.heap.size l d (V.heap.size+5) 0 (λ_=>Wo),[]⟩ V4:=by
  refine wp_block (Rm (wp_loop_rounds _ p) ?_);rintro e a m ⟨rfl,⟨u',rfl⟩,c⟩;simp only[Exit.inBlock,lk];refine⟨trivial,Rm (EH l d V.heap.size (V.heap.size+5) (oq l f).length _ u' V4 m G (by omega) hc (by simpa using r0) (s 1 (by omega) (by omega)) c (hG m ⟨c.os.t n,by have:=c.size;omega,λb x=>(c.block b (by omega) (by omega) (by omega)).t (o b x)⟩) hT) ?_⟩;intro e a w2 h;cases e with
  |normal=>obtain⟨T,v,h2,F,r,h4,h5,h6,h7⟩:=h;exact⟨T,v,h2,F,r,ba h4 (by omega),h5.t n,by omega,λb x=>(h7 b x).t (o b x)⟩
  |ret=>obtain⟨T,v,h2,F,r,h4,h5,h6,h7⟩:=h;exact⟨T,v,h2,F,r,ba h4 (by omega),h5.t n,by omega,λb x=>(h7 b x).t (o b x)⟩
  |panic A=>obtain⟨T,F,r,-⟩:=h;cases r
  |outgrown=>obtain⟨F,r,-⟩:=h;cases r
  |exit id=>exact h.elim
  |goto l=>exact h.elim
 obtain⟨e1,a1,w1,⟨rfl,ac⟩,z⟩:=L (base 48) [.code (dr cU)] cs;have⟨e,a',m,R,u⟩:=ac (base 48) [] cs;have y:=
  Steps.t B (Steps.t (.one (xv (P:=Yq.prog) (b:=base 48) (k:=[.code (.block 0 (.loop dE)),.code (dr cU)]))) z)
 cases e with
 |normal=>
  obtain⟨X,v,hr,hR⟩:=R;exact⟨Rc v,m,_,Rf hR,Steps.t y (Steps.t u (.one step_end)),Q,Q,X,Q,_,Yq.func48,hr⟩
 |ret=>
  obtain⟨X,v,hr,hR⟩:=R;obtain⟨todo,hs⟩:=u;exact⟨Rc v,m,_,Rf hR,Steps.t y hs,Q,Q,X,Q,_,Yq.func48,hr⟩
 |panic A=>obtain⟨-,F,r,-⟩:=R;cases r
 |outgrown=>obtain⟨F,r,-⟩:=R;cases r
 |exit id=>exact R.elim
 |goto l=>exact R.elim
end
end Go.Proofs.Qw
namespace Go.Proofs
open _root_ renaming rfl->Q
open _root_ renaming Nat->H,List->S
open Option renaming none->N,some->J
open Bool renaming true->Y,false->Z
open Value renaming int->I,string->U,slice->M,pointer->O,bool->C,agg->Rd,tuple->Re
open IntKind renaming i64->K
open Obj renaming cells->E
open Ending renaming returned->Rc
open Or renaming inl->Rf,inr->Rg
open Operand renaming tmp->Rh
variable {A A' X:H->Prop}{V W W' W0 a e w w1:Wj}{b c i k k0 n s:H}{p:gI Wu}{P:Wv}{B v y:Wx}{xs:S Wx}{u:kr gL}{Q:Exit->Act->Wj->Prop}{t:kr Wx}
section
open Go.Shelf Go.Lib Go.Sort
def Yq.OO:Go.Shelf.Ren:=⟨λ| 171=>100| 243=>120| 246=>137| 283=>146| 284=>147| 285=>148| 286=>149| 129=>130| 317=>155| 318=>156| 319=>157| 320=>158| 337=>161| 338=>162|n=>n,λ| 3=>3| 9=>9| 2=>2| 4=>4| 171=>233| 0=>0| 53=>41| 37=>125| 5=>5| 173=>235| 212=>243| 51=>216| 20=>20| 213=>244| 46=>193| 232=>247| 233=>248|n=>n,λ| 17=>1| 18=>2| 19=>3|n=>n⟩
theorem Yq.Pm:Go.Proofs.LaysM.n171 Yq.prog Yq.OO:={
 mixed:=by kernel_rfl
 f129:=(Yq.nq Tryz.func130).t (eW J (by kernel_rfl))
 f171:=(Yq.nq Tryz.func100).t (eW J (by kernel_rfl))
 f243:=(Yq.nq Tryz.func120).t (eW J (by kernel_rfl))
 f246:=(Yq.nq Tryz.func137).t (eW J (by kernel_rfl))
 f283:=(Yq.nq Tryz.func146).t (eW J (by kernel_rfl))
 f284:=(Yq.nq Tryz.func147).t (eW J (by kernel_rfl))
 f285:=(Yq.nq Tryz.func148).t (eW J (by kernel_rfl))
 f286:=(Yq.nq Tryz.func149).t (eW J (by kernel_rfl))
 f317:=(Yq.nq Tryz.func155).t (eW J (by kernel_rfl))
 f318:=(Yq.nq Tryz.func156).t (eW J (by kernel_rfl))
 f319:=(Yq.nq Tryz.func157).t (eW J (by kernel_rfl))
 f320:=(Yq.nq Tryz.func158).t (eW J (by kernel_rfl))
 f337:=(Yq.nq Tryz.func161).t (eW J (by kernel_rfl))
 f338:=(Yq.nq Tryz.func162).t (eW J (by kernel_rfl))
 t0:=(Yq.u Tryz.underlying0)
 a0:=(λw=>Yq.a (Tryz.isAgg0 w))
 z0:=(λw=>Yq.s (Tryz.sizeOf0 w))
 v0:=(λw=>Yq.z (Tryz.zeroValue0 w))
 t2:=(Yq.u Tryz.underlying2)
 a2:=(λw=>Yq.a (Tryz.isAgg2 w))
 z2:=(λw=>Yq.s (Tryz.sizeOf2 w))
 v2:=(λw=>Yq.z (Tryz.zeroValue2 w))
 t3:=(Yq.u Sg)
 a3:=(λw=>Yq.a (Tryz.isAgg3 w))
 z3:=(λw=>Yq.s (Tryz.sizeOf3 w))
 v3:=(λw=>Yq.z (Tryz.zeroValue3 w))
 t4:=(Yq.u Tryz.underlying4)
 a4:=(λw=>Yq.a (Tryz.isAgg4 w))
 z4:=(λw=>Yq.s (Tryz.sizeOf4 w))
 v4:=(λw=>Yq.z (Tryz.zeroValue4 w))
 t5:=(Yq.u Tryz.underlying5)
 a5:=(λw=>Yq.a (Tryz.isAgg5 w))
 z5:=(λw=>Yq.s (Tryz.sizeOf5 w))
 v5:=(λw=>Yq.z (Tryz.zeroValue5 w))
 t9:=(Yq.u Tryz.underlying9)
 a9:=(λw=>Yq.a (Tryz.isAgg9 w))
 z9:=(λw=>Yq.s (Tryz.sizeOf9 w))
 v9:=(λw=>Yq.z (Tryz.zeroValue9 w))
 t20:=(Yq.u Tryz.underlying20)
 a20:=(λw=>Yq.a (Tryz.isAgg20 w))
 z20:=(λw=>Yq.s (Tryz.sizeOf20 w))
 v20:=(λw=>Yq.z (Tryz.zeroValue20 w))
 t37:=(Yq.u R6)
 a37:=(λw=>Yq.a (Tryz.isAgg125 w))
 z37:=(λw=>Yq.s (Tryz.sizeOf125 w))
 v37:=(λw=>Yq.z (Tryz.zeroValue125 w))
 t46:=(Yq.u Tryz.underlying193)
 a46:=(λw=>Yq.a (Tryz.isAgg193 w))
 z46:=(λw=>Yq.s (Tryz.sizeOf193 w))
 v46:=(λw=>Yq.z (Tryz.zeroValue193 w))
 t51:=(Yq.u Tryz.underlying216)
 a51:=(λw=>Yq.a (Tryz.isAgg216 w))
 z51:=(λw=>Yq.s (Tryz.sizeOf216 w))
 v51:=(λw=>Yq.z (Tryz.zeroValue216 w))
 t53:=(Yq.u Tryz.underlying41)
 a53:=(λw=>Yq.a (Tryz.isAgg41 w))
 z53:=(λw=>Yq.s (Tryz.sizeOf41 w))
 v53:=(λw=>Yq.z (Tryz.zeroValue41 w))
 t171:=(Yq.u Tryz.underlying233)
 a171:=(λw=>Yq.a (Tryz.isAgg233 w))
 z171:=(λw=>Yq.s (Tryz.sizeOf233 w))
 v171:=(λw=>Yq.z (Tryz.zeroValue233 w))
 t173:=(Yq.u Tryz.underlying235)
 a173:=(λw=>Yq.a (Tryz.isAgg235 w))
 z173:=(λw=>Yq.s (Tryz.sizeOf235 w))
 v173:=(λw=>Yq.z (Tryz.zeroValue235 w))
 t212:=(Yq.u Tryz.underlying243)
 a212:=(λw=>Yq.a (Tryz.isAgg243 w))
 z212:=(λw=>Yq.s (Tryz.sizeOf243 w))
 v212:=(λw=>Yq.z (Tryz.zeroValue243 w))
 t213:=(Yq.u Tryz.underlying244)
 a213:=(λw=>Yq.a (Tryz.isAgg244 w))
 z213:=(λw=>Yq.s (Tryz.sizeOf244 w))
 t232:=(Yq.u Tryz.underlying247)
 a232:=(λw=>Yq.a (Tryz.isAgg247 w))
 z232:=(λw=>Yq.s (Tryz.sizeOf247 w))
 v232:=(λw=>Yq.z (Tryz.zeroValue247 w))
 t233:=(Yq.u Tryz.underlying248)
 a233:=(λw=>Yq.a (Tryz.isAgg248 w))
 z233:=(λw=>Yq.s (Tryz.sizeOf248 w))
 v233:=(λw=>Yq.z (Tryz.zeroValue248 w))
 g17:=by kernel_rfl
 g18:=by kernel_rfl
 g19:=by kernel_rfl
 i0:=by kernel_rfl
 i2:=by kernel_rfl
 i3:=by kernel_rfl
 i4:=by kernel_rfl
 i5:=by kernel_rfl
 i9:=by kernel_rfl
 i20:=by kernel_rfl
 i37:=by kernel_rfl
 i46:=by kernel_rfl
 i51:=by kernel_rfl
 i53:=by kernel_rfl
 i171:=by kernel_rfl
 i173:=by kernel_rfl
 i212:=by kernel_rfl
 i232:=by kernel_rfl
 i233:=by kernel_rfl
 m17:=by kernel_rfl
 m18:=by kernel_rfl
 m19:=by kernel_rfl}
theorem Yq.strconv_Itoa(n : eV) (h0 : -9223372036854775808 ≤ n) (h1 : n ≤ 9223372036854775807) (w : Wj) (htab : RU Yq.prog w "internal/strconv.uint64pow10" .u64 RY) :
  Calls Yq.prog 100 #[I K n] w λe w'=>e=Rc (U ⟨(RG n).toArray⟩)/\∃k os,w'=grow (w.drewN k) os:=Any.strconv_Itoa Yq.Pm n h0 h1 w htab
end
end Go.Proofs
namespace Go.Proofs.Qw
open _root_ renaming rfl->Q
open _root_ renaming Nat->H,List->S
open Option renaming none->N,some->J
open Bool renaming true->Y,false->Z
open Value renaming int->I,string->U,slice->M,pointer->O,bool->C,agg->Rd,tuple->Re
open IntKind renaming i64->K
open Obj renaming cells->E
open Ending renaming returned->Rc
open Or renaming inl->Rf,inr->Rg
open Operand renaming tmp->Rh
variable {A A' X:H->Prop}{V W W' W0 a e w w1:Wj}{b c i k k0 n s:H}{p:gI Wu}{F f:S ey->S Ver}{h:S Ver}{P:Wv}{x:S ey×S Ver}{B v y:Wx}{xs:S Wx}{u:kr gL}{Q:Exit->Act->Wj->Prop}{t:kr Wx}
section
open Go.Conc Go.ConcX Go.ConcX.Gen Go.RowKit
theorem Ik(i:H):RG (i:eV)=RN i:=by simp[RG]
theorem AE:∀ (k u:H),u<10 ^ (k+1)->(RN u).length<=k+1
 | 0,u,h=>by
  rw[RN,dif_pos (by simpa using h)];simp
 |k+1,u,h=>by
  rw[RN];split
  .simp
  .have a:u/10<10 ^ (k+1):=by rw[Nat.pow_succ]at h;omega
   have:=AE k (u/10) a;rw[lP,lS];omega
theorem AF{n:eV}(b:0<=n)(a:n<=9223372036854775807):(RG n).length<=19:=by
 obtain⟨u,rfl⟩:=Int.eq_ofNat_of_zero_le b;rw[(Ik u)];exact AE 18 u (by have:(u:eV)<=9223372036854775807:=a;omega)
def um(w : Wj) : Prop := RU Yq.prog w "internal/strconv.uint64pow10" .u64 RY
theorem um.on{w'}(h:um w)(hb:∀b,b<w.heap.size->w'.heap[b]?=w.heap[b]?):um w':=by
 unfold um RU World.var? at *
 cases hg : Yq.prog.globalNamed "internal/strconv.uint64pow10" with
 |none=>rw[hg]at h;cases h
 |some g=>
  rw[hg]at h;simp only[Option.bind_some]at h ⊢;have hlt:g<w.heap.size:=by
   cases hh:w.heap[g]? with
   |none=>rw[hh]at h;cases h
   |some o=>exact(eS hh).1
  rw[hb g hlt];exact h
theorem sp w k(a:kr Obj):Below w.heap.size w (Sort.grow (w.drewN k) a):=
 ⟨Q,Q,Q,by simp[Sort.grow,wz],λb c=>by simp[Sort.grow,wz,Array.getElem?_append_left c]⟩
theorem K3(n pg:eV)(r:0<=n/\n<=9223372036854775807)(j:0<=pg/\pg<=9223372036854775807):mO um n pg:=by
 intro l w x z;obtain⟨f,root,vs,p,d,af,size,left⟩:=l;simp only at z;subst z;unfold ff;have D:Hid (∀W,Below w.heap.size w W->Calls Yq.prog 100 #[I K f] W λe i=>e=Rc (U ⟨(RG f).toArray⟩)/\Below W.heap.size W i):=λW q=>by
  refine(Yq.strconv_Itoa f (by omega) r.2 W (x.on q.block)).m ?_;rintro e i ⟨rfl,k,s,rfl⟩;exact⟨Q,sp W k s⟩
 have B:Hid (∀W,Below w.heap.size w W->Calls Yq.prog 100 #[I K pg] W λe i=>e=Rc (U ⟨(RG pg).toArray⟩)/\Below W.heap.size W i):=λW q=>by
  refine(Yq.strconv_Itoa pg (by omega) j.2 W (x.on q.block)).m ?_;rintro e i ⟨rfl,k,s,rfl⟩;exact⟨Q,sp W k s⟩
 have ha:=AF r.1 r.2;have q:=AF j.1 j.2;generalize RG f=a at *;generalize RG pg=b at *;have HW:Hid (∀c,Below w.heap.size w (w.alloc c)):=λc=>(Q9).alloc Q0 _
 clear x r j;unfold lV aT;go_enter (Yq.nq Tryz.func77),Tryz.ntmps77;go_wp2_with fail
 refine(D.o _ (HW.o _)).m ?_;rintro e w1 ⟨rfl,y⟩;have h:=aq ((HW.o _).t (y.m (by simp)));clear y;go_wp2_with fail
 all_goals try(exfalso;rename_i v;simp[S4,S5,xc]at v;omega)
 refine(B.o _ h.o).m ?_;rintro e w2 ⟨rfl,A⟩;have u:=aq (h.o.t (A.m h.o.size));clear A;go_wp2_with fail
 all_goals try(exfalso;rename_i v;simp[S4,S5,xc]at v;omega)
 go_ret;refine⟨?_,u.o⟩;have e:(⟨a.toArray⟩:dT)++⟨#[46]⟩++⟨b.toArray⟩=⟨(a++46::b).toArray⟩:=by
  apply S7;simp
 rw[<-e];rfl
end
section
open Go.RowKit
open Go.Conc Go.ConcX Go.ConcX.Gen
def MC(P:Wv)(u:Ww):gL:=match P.underlying u with|some (.int _)=>Y|_=>Z
theorem Il{r:_root_.Go.Reach}{G}(a:MC P G=Y)(h:Cell.ok P w r b G v):oC v=true:=by
 unfold MC at a;unfold Cell.ok at h;cases c:P.underlying G with
 |none=>rw[c]at a;cases a
 |some t=>
  rw[c]at a h;cases t<;>first|(cases a;done)|skip
  cases v<;>first|rfl|(exact h.elim)
theorem K4{G}{cs:kr Wx}(a:(P.cellTypes P.depth G).map (λb=>b.all (MC P))=J Y)(h:Row.ok P w .any 0 G cs):∀ (i:H) v,cs[i]?=J v->oC v=true:=by
 obtain⟨b,c,-,e⟩:=h;rw[c]at a;intro i v j;have⟨u,d,f⟩:=e i v j;exact Il (List.all_eq_true.1 (oJ a) u (List.mem_of_getElem? d)) f
theorem Im{F a:Type}{x:gI (F×a)}{t:a}(h:x.map (·.2)=J t):∃z,x=J (z,t):=by simp_all
theorem wK(h:W.ShapedOpen RZ):∀b,b<Tryz.prog.globals.size->∃c e z,W.heap[b]?=J (E c e z)/\∀ (i:H) v,c[i]?=J v->oC v=true:=by
 have hg:Tryz.prog.globals.size=4:=by kernel_rfl
 intro b o;have a:∀t,((((begin RZ (λ_ _=>0) default).world.heap[b]?).bind Obj.row?).map (·.2)=J t)->(Tryz.prog.cellTypes Tryz.prog.depth t).map (λk=>k.all (MC RZ))=J Y->Tryz.prog.buildable t=Y->∃c e z,W.heap[b]?=J (E c e z)/\∀ (i:H) v,c[i]?=J v->oC v=true:=λt m l n=>by
  have⟨z,p⟩:=Im m;obtain⟨cs,f,-,j⟩:=h.1 b z t o p;exact⟨cs,t,(0,0),f,K4 l (j n)⟩
 have d:b=0\/b=1\/b=2\/b=3:=by omega
 rcases d with rfl|rfl|rfl|rfl;exact a 3 (by kernel_rfl) (by kernel_rfl) (by kernel_rfl);exact a 243 (by kernel_rfl) (by kernel_rfl) (by kernel_rfl);exact a 247 (by kernel_rfl) (by kernel_rfl) (by kernel_rfl);exact a 248 (by kernel_rfl) (by kernel_rfl) (by kernel_rfl)
theorem In(h:W.ShapedOpen RZ)(f:∀b,X b->∃c e z,W.heap[b]?=J (E c e z)):Start W (λb=>b<Tryz.prog.globals.size\/X b):=
 ⟨λb a=>by
  rcases a with a|a
  .obtain ⟨c,e,z,d,-⟩:=wK h b a;exact⟨c,e,z,d⟩
  .exact f b a,λg i=>Rf i⟩
theorem Clean.NS(k:Clean A W V)(h:W.ShapedOpen RZ):∀b,b<Tryz.prog.globals.size->V.heap[b]?=W.heap[b]?:=λb p=>by
 by_cases f:A b
 .have ⟨c,e,z,j,n⟩:=wK h b p;have⟨c',c0,e',z',d,l,m,q⟩:=k.row b f;rw[j]at d;cases d;rw[j,l];refine eW (λx=>J (Obj.cells x e z)) (Array.ext_getElem? λi=>?_);by_cases a:i<c.size
  .obtain ⟨u,o,r⟩:=q i _ (eG a);rw[o,r.one (n i _ (eG a)),eG a]
  .rw [SN (by rw[m];omega),SN (by omega)]
 .exact k.rest b f
theorem K5(h:W.ShapedOpen RZ):dH W:=by
 have c:(((begin RZ (λ_ _=>0) default).world.heap[0]?).bind Obj.row?).map (λx=>(x.1.size,x.2))=J (1,3):=by kernel_rfl
 have hu:=Sg;cases f:((begin RZ (λ_ _=>0) default).world.heap[0]?).bind Obj.row? with
 |none=>rw[f]at c;cases c
 |some x=>
  obtain⟨z,t⟩:=x;rw[f]at c;simp at c;obtain⟨hz,rfl⟩:=c;have⟨cs,j,e2,n⟩:=h.1 0 z 3 lX f;obtain⟨ts,i,-,l⟩:=n (by kernel_rfl);have d:=oJ (i.s.t (show Tryz.prog.cellTypes Tryz.prog.depth 3=J [3]by kernel_rfl));subst d;have⟨u,b,e⟩:=l 0 cs[0] (eG (by omega));simp at b;subst b;unfold Cell.ok at e;have a:W.cell? ⟨0,0,N⟩=J cs[0]:=by simp[sq,j]
  generalize cs[0]=v at *;cases v<;>first|(exact e.elim)|skip
  rename_i k m;obtain⟨rfl,-⟩:=e;exact⟨m,a⟩
theorem dH.NS(h:dH W)(d:∀b,b<Tryz.prog.globals.size->V.heap[b]?=W.heap[b]?):dH V:=by
 obtain⟨m,c⟩:=h;exact⟨m,(cB (a:=⟨0,0,N⟩) (d 0 lX)).t c⟩
theorem vQ.frame(h:vQ W a)(may:MemPlace->Prop):W.keptBut a may:=by
 refine⟨h.os,h.output,λi b=>?_⟩;rw[h.block i b]
 grind
theorem vQ.trod{F:Type}{e:Ww×Wx->F}{G:Ww}(j:laidOutB P=Y)(k:P.readableRec G=Y)(c:G<P.types.size){d:DataW F}{ps:S MemPlace}(h:DataW.Trod e P W 0 (λ_=>Y) Y G v d ps)(f:vQ W W')(i:∀x∈ps,x.block<W.heap.size):DataW.Trod e P W' 0 (λb=>decide (b<W.heap.size)) Y G v d ps:=by
 have:=Below.trod (W':={W' with tape:=W.tape}) j k c h ⟨f.os,Q,f.output,f.size,f.block⟩ i;exact DataW.Trod.of_heap (w:={W' with tape:=W.tape}) (w':=W') Q this
theorem ot{x:String×DataW Unit}{l}(h:laidMet P (x::l) w):laidMet P l w:=by
 obtain⟨ps,⟨g,t,cs,fuel,p,q,-,-,-,-,e,rfl⟩,f,c⟩:=h;exact⟨q,e,(List.nodup_append.1 f).2.1,λb a d=>c b a (List.mem_append_right _ d)⟩
end
section
open Go.RowKit
def fu(st:St)(key:dT)(n:eV):Ver×eV:=
 if aV key=Z then(eO,2)
 else match dk (st.f key.data.toList) n with
  |none=>(eO,5)
  |some r=>match(st.f key.data.toList)[r]? with
   |none=>(eO,5)
   |some v=>if v.mark then(eO,6)else(v,0)
structure MD (w W0:Wj):Prop where
 below:Below w.heap.size w W0
 c0:W0.cell? ⟨w.heap.size,0,N⟩=J (I K 0)
 c1:W0.cell? ⟨w.heap.size,1,N⟩=J (U ⟨#[]⟩)
 c2:W0.cell? ⟨w.heap.size,2,N⟩=J (C Z)
 fz:∀j,W0.frozen? ⟨w.heap.size,j,N⟩=Z
theorem No w:MD w (w.alloc (E #[I K 0,U ⟨#[]⟩,C Z] 72)):=
 ⟨(bR _ w).alloc Q0 _,by rw[cA (w:=w) _ _ w.heap.size 0 Q];rfl,by rw[cA (w:=w) _ _ w.heap.size 1 Q];rfl,by rw[cA (w:=w) _ _ w.heap.size 2 Q];rfl,λj=>sT (w:=w) _ _ w.heap.size j Q⟩
theorem MD.on(h:MD w W0)(a:Below W0.heap.size W0 w1):MD w w1:=
 ⟨h.below.t (a.m h.below.size),ag a h.c0,ag a h.c1,ag a h.c2,λj=>(a.frozen (p:=⟨w.heap.size,j,N⟩) (show w.heap.size<W0.heap.size from bC W0 ⟨w.heap.size,0,N⟩ h.c0)).t (h.fz j)⟩
theorem EI(A:H->Prop)y d s(b:dT)(n:eV)w(P:b.size<=xc)(a:aS A w y d)(z:Inv d s)(G:s<=2199023255340):
  Calls Yq.prog 16 #[O (J ⟨y,0,N⟩),U b,I K n] w λe F=>e=Rc (Re #[cM (fu d b n).1,I K (fu d b n).2])/\Below w.heap.size w F:=by
 have R0:=No w;have HF:=wu A y d s b n _ P (a.on R0.below) z G;have k:=aq R0;have hle:=z.len b.data.toList;clear R0 a;go_enter (Yq.nq Tryz.func16),Tryz.ntmps16;go_wp2_with fail
 refine HF.m ?_;generalize w.alloc (E #[I K 0,U ⟨#[]⟩,C Z] 72)=W0 at *;rintro e w1 ⟨p,i⟩;have R1:=k.o.on p;have t:=R1.c0;have x:=R1.c1;have q:=R1.c2;have g0:=R1.fz 0;have g1:=R1.fz 1;have g2:=R1.fz 2;have HB:=aq R1.below;clear R1 k HF p;rcases i with⟨c,rfl⟩|⟨c,h,rfl⟩|⟨c,r,ha,hc,h,u,B,rfl⟩;have HR:Hid (fu d b n=(eO,2)):=show fu d b n=(eO,2)by simp[fu,c]
 clear c;go_wp2;exact xb (v:=Re #[cM (fu d b n).1,I K (fu d b n).2]) (by rw[HR.o];simp[results,R4,go_sem,cM,eO,t,x,q]) Q ⟨Q,((HB.o.setCell Q0 _).setCell Q0 _).setCell Q0 _⟩;have HR:Hid (fu d b n=(eO,5)):=show fu d b n=(eO,5)by simp[fu,c,h]
 clear c h;go_wp2;exact xb (v:=Re #[cM (fu d b n).1,I K (fu d b n).2]) (by rw[HR.o];simp[results,R4,go_sem,cM,eO,t,x,q]) Q ⟨Q,((HB.o.setCell Q0 _).setCell Q0 _).setCell Q0 _⟩;have j:d.f b.data.toList≠[]:=by intro e;rw[e]at u;simp at u
 obtain⟨g,cap,R,-,-,l,-⟩:=B.cells j;cases R;have⟨D,T,L⟩:=l r u;have HR:Hid (fu d b n=if(d.f b.data.toList)[r].mark then(eO,6)else((d.f b.data.toList)[r],0)):=show fu d b n=_ by simp[fu,c,h,u]
 generalize(d.f b.data.toList)[r]=v at *;obtain⟨nm,bd,V⟩:=v;simp only at D T L;clear l B c h j;generalize(d.f b.data.toList).length=m at *;have hri:(r:eV)<(m:eV):=by omega
 cases V with
 |true=>
  go_wp2;exact xb (v:=Re #[cM (fu d b n).1,I K (fu d b n).2]) (by rw[HR.o];simp[results,R4,go_sem,cM,eO,t,x,q]) Q ⟨Q,((HB.o.setCell Q0 _).setCell Q0 _).setCell Q0 _⟩
 |false=>
  go_wp2;exact xb (v:=Re #[cM (fu d b n).1,I K (fu d b n).2]) (by rw[HR.o];simp[results,R4,go_sem,cM,t,x,q]) Q ⟨Q,((HB.o.setCell Q0 _).setCell Q0 _).setCell Q0 _⟩
structure qx (w W0:Wj):Prop where
 below:Below w.heap.size w W0
 lt:w.heap.size+1<W0.heap.size
 c0:W0.cell? ⟨w.heap.size+1,0,N⟩=J (I K 0)
 c1:W0.cell? ⟨w.heap.size+1,1,N⟩=J (I K 0)
 c2:W0.cell? ⟨w.heap.size+1,2,N⟩=J (U ⟨#[]⟩)
 c3:W0.cell? ⟨w.heap.size+1,3,N⟩=J (M N 0 0)
 c4:W0.cell? ⟨w.heap.size+1,4,N⟩=J (U ⟨#[]⟩)
 fz:∀j,W0.frozen? ⟨w.heap.size+1,j,N⟩=Z
theorem Mg w(cs:kr Wx):qx w ((w.alloc (E cs 37)).alloc (E #[I K 0,I K 0,U ⟨#[]⟩,M N 0 0,U ⟨#[]⟩] 53)):=by
 have h:∀j,((w.alloc (E cs 37)).alloc (E #[I K 0,I K 0,U ⟨#[]⟩,M N 0 0,U ⟨#[]⟩] 53)).cell? ⟨w.heap.size+1,j,N⟩=(#[I K 0,I K 0,U ⟨#[]⟩,M N 0 0,U ⟨#[]⟩]:kr Wx)[j]?:=λj=>
  cA (w:=w.alloc (E cs 37)) _ _ (w.heap.size+1) j (by simp)
 refine⟨((bR _ w).alloc Q0 _).alloc (by simp) _,by simp,h 0,h 1,h 2,h 3,h 4,λj=>sT (w:=w.alloc (E cs 37)) _ _ (w.heap.size+1) j (by simp)⟩
theorem qx.on{d}(h:qx w W0)(hk:d<w.heap.size)(b:W0.grownBy w1 (J d)):
  (w1.cell? ⟨w.heap.size+1,0,N⟩=J (I K 0)/\w1.cell? ⟨w.heap.size+1,1,N⟩=J (I K 0)/\w1.cell? ⟨w.heap.size+1,2,N⟩=J (U ⟨#[]⟩)/\w1.cell? ⟨w.heap.size+1,3,N⟩=J (M N 0 0)/\w1.cell? ⟨w.heap.size+1,4,N⟩=J (U ⟨#[]⟩)) /\
  (w1.frozen? ⟨w.heap.size+1,0,N⟩=Z/\w1.frozen? ⟨w.heap.size+1,1,N⟩=Z/\w1.frozen? ⟨w.heap.size+1,2,N⟩=Z/\w1.frozen? ⟨w.heap.size+1,3,N⟩=Z/\w1.frozen? ⟨w.heap.size+1,4,N⟩=Z):=by
 have a:∀o,J (⟨w.heap.size+1,o,N⟩:Wu).block≠J d:=λo e=>by simp at e;omega
 have c:=λj=>(bD b ⟨w.heap.size+1,j,N⟩ h.lt (a j)).t (h.fz j)
 exact⟨⟨b.cell h.c0 (a 0),b.cell h.c1 (a 1),b.cell h.c2 (a 2),b.cell h.c3 (a 3),b.cell h.c4 (a 4)⟩,c 0,c 1,c 2,c 3,c 4⟩
theorem qx.drew(h:qx w W0):qx w W0.drew:=⟨h.below.drew,h.lt,h.c0,h.c1,h.c2,h.c3,h.c4,h.fz⟩
def put5(w1:Wj)(b:H)(x0 x1 x2 x3 x4:Wx):Wj:=((((w1.setCell ⟨b,0,N⟩ x0).setCell ⟨b,1,N⟩ x1).setCell ⟨b,2,N⟩ x2).setCell ⟨b,3,N⟩ x3).setCell ⟨b,4,N⟩ x4
theorem qy{j}{e}(m:i<w.heap.size)(x:∀b,A b->b≠i)(u:Below w.heap.size w W0)(hlt:w.heap.size+1<W0.heap.size)(S1:aS (Grow (λb=>A b/\b<w.heap.size) W0) j i e)(s:dw W0 j i)n z t r q:
  dX A w i e v (Rc v) (put5 j (w.heap.size+1) n z t r q):=by
 have c:w.heap.size+1≠i:=by omega
 refine⟨Q,?_,?_⟩;have⟨p,a,B⟩:=S1.cells;unfold put5;refine eK (p:=p) (((((a.N3 _ _ _ c).N3 _ _ _ c).N3 _ _ _ c).N3 _ _ _ c).N3 _ _ _ c) (au.Nx (λb l _=>?_) 41 p e.f B) (iS x m);have d:b≠w.heap.size+1:=by
  rcases l with⟨⟨_,h⟩,_⟩|h<;>omega
 have k:Grow A w b:=by
  rcases l with⟨⟨y,o⟩,_⟩|h;exact Rr ⟨y,o⟩;exact Rq (by omega)
 refine⟨k,?_⟩;rw[Ra d,Ra d,Ra d,Ra d,Ra d];unfold put5;exact ww (ww (ww (ww (ww (ug (fq m u) s) (by omega) _ _) (by omega) _ _) (by omega) _ _) (by omega) _ _) (by omega) _ _
theorem aS.cut{st}(a:aS A w i st)(d:Below w.heap.size w W0):aS (λb=>A b/\b<w.heap.size) W0 i st:=by
 have⟨p,c,k⟩:=a.cells;exact eK (p:=p) (c.on d) (au.Nx (λb j e=>⟨⟨j,e⟩,d.block b e⟩) 41 p st.f k) (λb h=>a.ND b h.1)
theorem Cs(A:H->Prop)l h s o w(q:o.key.size<=xc)(k:o.body.size<=xc)(a:aS A w l h)(y:Inv h s)(z:s<2199023255340)(b:o.kind=1):
  Calls Yq.prog 11 #[O (J ⟨l,0,N⟩),aL o] w (dX A w l (lh h o.key o.body).1 (aG ⟨(lh h o.key o.body).2.2,(lh h o.key o.body).2.1,⟨#[]⟩⟩)):=by
 obtain⟨kind,d,c,D,j,n,p⟩:=o;simp only at b q k;subst b;have R0:=(Mg w #[I K 1,U d,U c,U D,U j,I K n,I K p]).drew;have HC:=AD _ l h s d c _ q k (a.cut R0.below) y z;have HS:=bJ a.lt a.ND;have f:=aq R0;clear R0 a;simp only[aL];generalize lh h d c=r at *;go_enter (Yq.nq Sa),R8;go_wp2_with fail
 go_region_with (go_at_call 14;refine HC.m ?_;rintro e w1 ⟨rfl,S1,i⟩;have⟨⟨u,F,t,x,B⟩,g0,g1,g2,g3,g4⟩:=f.o.on HS.o.1 i.g;have HX:Hid (_/\_):=And.intro S1 i;clear S1 i HC)
 all_goals
  go_wp2;exact xb (v:=aG ⟨r.2.2,r.2.1,⟨#[]⟩⟩) (by simp[results,R5,go_sem,aG,u,F,t,x,B]) Q (qy HS.o.1 HS.o.2 f.o.below f.o.lt HX.o.1 HX.o.2 _ _ _ _ _)
theorem yX(A:H->Prop)k f s o w(p:o.key.size<=xc)(a:aS A w k f)(x:Inv f s)(y:s<2199023255340)(b:o.kind=4):
  Calls Yq.prog 11 #[O (J ⟨k,0,N⟩),aL o] w (dX A w k (NJ f o.key).1 (aG ⟨(NJ f o.key).2.2,(NJ f o.key).2.1,⟨#[]⟩⟩)):=by
 obtain⟨kind,c,i,B,j,n,l⟩:=o;simp only at b p;subst b;have R0:=(Mg w #[I K 4,U c,U i,U B,U j,I K n,I K l]).drew;have HC:=wH _ k f s c _ p (a.cut R0.below) x y;have HS:=bJ a.lt a.ND;have d:=aq R0;clear R0 a;simp only[aL];generalize NJ f c=q at *;go_enter (Yq.nq Sa),R8;go_wp2_with fail
 go_region_with (go_at_call 17;refine HC.m ?_;rintro e w1 ⟨rfl,S1,h⟩;have⟨⟨t,D,r,u,z⟩,g0,g1,g2,g3,g4⟩:=d.o.on HS.o.1 h.g;have HX:Hid (_/\_):=And.intro S1 h;clear S1 h HC)
 all_goals
  go_wp2;exact xb (v:=aG ⟨q.2.2,q.2.1,⟨#[]⟩⟩) (by simp[results,R5,go_sem,aG,t,D,r,u,z]) Q (qy HS.o.1 HS.o.2 d.o.below d.o.lt HX.o.1 HX.o.2 _ _ _ _ _)
theorem wL(A:H->Prop)k h s o w(p:o.key.size<=xc)(a:aS A w k h)(u:Inv h s)(x:s<2199023255340)(b:o.kind=5):
  Calls Yq.prog 11 #[O (J ⟨k,0,N⟩),aL o] w (dX A w k (fm h o.key o.n).1 (aG ⟨(fm h o.key o.n).2,0,⟨#[]⟩⟩)):=by
 obtain⟨kind,c,i,z,j,n,l⟩:=o;simp only at b p;subst b;have R0:=(Mg w #[I K 5,U c,U i,U z,U j,I K n,I K l]).drew;have HC:=Cq _ k h s c n _ p (a.cut R0.below) u x;have HS:=bJ a.lt a.ND;have d:=aq R0;clear R0 a;simp only[aL];generalize fm h c n=D at *;go_enter (Yq.nq Sa),R8;go_wp2_with fail
 go_region_with (go_at_call 18;refine HC.m ?_;rintro e w1 ⟨rfl,S1,f⟩;have⟨⟨r,B,q,t,y⟩,g0,g1,g2,g3,g4⟩:=d.o.on HS.o.1 f.g;have HX:Hid (_/\_):=And.intro S1 f;clear S1 f HC)
 all_goals
  go_wp2;exact xb (v:=aG ⟨D.2,0,⟨#[]⟩⟩) (by simp[results,R5,go_sem,aG,r,B,q,t,y]) Q (qy HS.o.1 HS.o.2 d.o.below d.o.lt HX.o.1 HX.o.2 _ _ _ _ _)
theorem wM(A:H->Prop)c d o w(a:aS A w c d)(h:o.kind<1\/12<o.kind):
  Calls Yq.prog 11 #[O (J ⟨c,0,N⟩),aL o] w (dX A w c d (aG ⟨1,0,⟨#[]⟩⟩)):=by
 obtain⟨b,key,body,fe,past,n,src⟩:=o;have b1:(b==1)=false:=by grind
 have b2:(b==2)=false:=by grind
 have b3:(b==3)=false:=by grind
 have b4:(b==4)=false:=by grind
 have b5:(b==5)=false:=by grind
 have b6:(b==6)=false:=by grind
 have b7:(b==7)=false:=by grind
 have b8:(b==8)=false:=by grind
 have b9:(b==9)=false:=by grind
 have b10:(b==10)=false:=by grind
 have b11:(b==11)=false:=by grind
 have b12:(b==12)=false:=by grind
 simp[aL];go_enter (Yq.nq Sa),R8;go_wp2;exact xb (v:=aG ⟨1,0,⟨#[]⟩⟩) (by simp[results,R5,go_sem,aG]) Q (bN a (((bR _ w).alloc Q0 _).alloc (by simp) _))
end
