/- A part. -/
import Derived.Test.YtenhoolepfelcaaGreatDoorQP21
set_option maxHeartbeats 4000000
set_option maxRecDepth 100000
open List renaming mem_append->dT,mem_singleton->ey,length_pos_iff->eV,not_mem_nil->eW,map_append->gI,getElem_mem->gL,take_length->g6,mem_map->jp,length->kr
open Go.Value renaming slice->lj,ownBlock->lk
open Or renaming inr->nF
open _root_ renaming congrArg->n8,Int->pt,ByteArray->sq,absurd->sT
open Go.Act renaming eval->ta
open Go.World renaming frozen?_alloc_at->tb,ownsRow_nil->tn
open Nat renaming zero_le->uc,min_eq_left->vf
open Go renaming World->Wj,Value->Wx,Addr->Wu
namespace Go.Proofs.Qw
open _root_ renaming rfl->Q
open _root_ renaming Nat->H,List->S
open Option renaming none->N,some->J
open Bool renaming true->Y,false->Z
open Value renaming int->I,string->U,slice->M,pointer->O,bool->C,agg->Qa,tuple->Qb
open IntKind renaming i64->K
open Obj renaming cells->E
open Ending renaming returned->Nm
open Or renaming inl->Qc,inr->Qd
open Operand renaming tmp->Qe
variable {B b g k s:H}{W w:Wj}{R:S bg}{P:S PlL}{T:S PlT}{Zq:S SvE->Prop}
open Tryz
section
open Go.RowKit
structure Ft (B:H)(w:Wj)(sl:Wx)(R:S bg):Prop where
 row:w.ownsRow B 140 2 sl R.length (aB R)
 MC:∀e∈R,w.ownsRow B 130 3 e.v e.h.length (aw e.h)
 MF:∀e∈R,e.v.ownBlock≠sl.ownBlock
 pw:R.Pairwise (λa b=>a.v.ownBlock≠b.v.ownBlock)
def iE(R R':S bg):Prop:=R'.map (λe=>(e.key,e.h))=R.map (λe=>(e.key,e.h))
theorem aA.push{w1 r}{i}{sl v}{nx tm:pt}{key:sq}{h}(c:aA B w k sl R nx tm)(y:Below w.heap.size w w1)(F:w1.ownsRow B 130 3 v h.length (aw h))(j:∀b,v.ownBlock=J b->w.heap.size<=b)(V:h≠[])
  (A:w1.grownBy r sl.ownBlock) (P:r.ownsRow B 140 2 (M (J ⟨g,0,N⟩) (R.length+1) i) (R.length+1) (aB R++[U key,v])) (l:sl.ownBlock=J g\/w1.heap.size<=g):
  aA B (r.setCell ⟨k,0,N⟩ (M (J ⟨g,0,N⟩) (R.length+1) i)) k (M (J ⟨g,0,N⟩) (R.length+1) i) (R++[⟨key,h,v⟩]) nx tm:=by
 have hk:=c.lt;have H1:=c.below y;have hk1:=H1.lt;have n:=oO F (eV.2 V);have p:g≠k:=by
  rcases l with h|h
  .intro e;subst e;exact c.apart h
  .omega
 have hE:∀e∈R,e.v.ownBlock≠J g:=λe q=>by
  rcases l with h|h
  .rw [<-h];exact c.MF e q
  .intro y;have:=(H1.MC e q).lt g y;omega
 have hvg:v.ownBlock≠J g:=λe=>by
  have L:=j g e;have h2:=(F.lt g e).2;rcases l with h|h
  .have:=(c.row.lt g h).2;omega
  .omega
 have u:v.ownBlock≠J k:=λe=>by have:=j k e;omega
 have G:v.ownBlock≠sl.ownBlock:=λe=>by
  cases z:sl.ownBlock with
  |none=>exact n (e.t z)
  |some b=>have L:=j b (e.t z);have:=(c.row.lt b z).2;omega
 have f:=bz r k 0 (M (J ⟨g,0,N⟩) (R.length+1) i);have o:(lj (J ⟨g,0,N⟩) (R.length+1) i).ownBlock=J g:=rfl;have T:(R++[⟨key,h,v⟩]:S bg).length=R.length+1:=by simp
 have q:aB (R++[⟨key,h,v⟩])=aB R++[U key,v]:=by unfold aB;rw[List.flatMap_append];rfl
 refine⟨(H1.cells.grown A (λe=>c.apart e)).NY _,?_,λe d=>?_,by rw[o];simpa using p,λe d=>?_,λe d=>?_,?_⟩
 .rw [T,q];exact P.kept f (nF (by rw[o];simpa using p))
 .rcases dT.1 d with d|d
  .exact ((H1.MC e d).kept A (nF (c.MF e d))).kept f (nF (c.MD e d))
  .rw [ey.1 d];exact(F.kept A (nF G)).kept f (nF u)
 .rcases dT.1 d with d|d
  .exact c.MD e d
  .grind
 .grind
 .refine List.pairwise_append.2 ⟨c.pw,List.pairwise_singleton _ _,λa X b D=>?_⟩;rw[ey.1 D];intro e;cases m:a.v.ownBlock with
  |none=>exact n (e.s.t m)
  |some x=>have L:=j x (e.s.t m);have:=((c.MC a X).lt x m).2;omega
theorem se(w:Wj)(a b x2:Wx)(T:TypeId):aY (w.alloc (E #[a,b,x2] T)) w.heap.size a b x2:=
 ⟨by rw[cA (w:=w) _ _ w.heap.size 0 Q];rfl,by rw[cA (w:=w) _ _ w.heap.size 1 Q];rfl,by rw[cA (w:=w) _ _ w.heap.size 2 Q];rfl,λj=>tb (w:=w) _ _ w.heap.size j Q⟩
theorem KF{sl:Wx}(h:w.ownsRow B 140 2 sl R.length (aB R))(i:H)(b:i<R.length):
  ∃g a,sl=M (J ⟨g,0,N⟩) R.length a/\g<w.heap.size/\R.length<=a/\w.cell? ⟨g,i*2,N⟩=J (U R[i].key)/\w.cell? ⟨g,i*2+1,N⟩=J R[i].v:=by
 obtain⟨g,a,rfl,h1,c,d⟩:=cq h (by omega);refine⟨g,a,Q,c,d,?_,?_⟩
 .have:=h.cellAt (i*2+0) (by omega);rw[aB,bE 2 _ (λ_=>Q) R i 0 b (by omega)]at this
  grind
 .have:=h.cellAt (i*2+1) (by omega);rw[aB,bE 2 _ (λ_=>Q) R i 1 b (by omega)]at this
  grind
theorem qv a o sl R(nx tm:pt)w(c0:w.cell? ⟨a,o,N⟩=J sl)(c1:w.cell? ⟨a,o+1,N⟩=J (I K nx))(c2:w.cell? ⟨a,o+2,N⟩=J (I K tm))(hr:w.ownsRow B 140 2 sl R.length (aB R))(hv:∀e∈R,w.ownsRow B 130 3 e.v e.h.length (aw e.h))(V:∀e∈R,e.h≠[])(hn:totR R<=200):
  Calls Yq.prog 32 #[O (J ⟨a,o,N⟩)] w λe w'=>∃sl' R',e=Nm (Qa #[sl',I K nx,I K tm])/\Below w.heap.size w w'/\Ft w.heap.size w' sl' R'/\iE R R':=by
 have HH:Hid (w.ownsRow B 140 2 sl R.length (aB R)/\(∀e∈R,w.ownsRow B 130 3 e.v e.h.length (aw e.h))/\(∀e∈R,e.h≠[])/\totR R<=200):=⟨hr,hv,V,hn⟩;have hR200:R.length<=200:=lT (gB R V) hn;have hal:a<w.heap.size:=bC w _ c0;obtain⟨sa,sc,rfl,-⟩:=az hr;clear hr hv V hn;go_enter (Yq.nq func32),ntmps32
 go_upto_region 1 with fail
 go_region
 all_goals
  go_wp2_with fail
 obtain⟨Wz,ad⟩:∃W,W=((w.alloc (E #[M N 0 0,I K 0,I K 0] 51)).alloc (E #[M N 0 0,I K nx,I K tm] 51)).drew:=⟨_,Q⟩;rw[<-ad];have HO:Hid (Below w.heap.size w Wz/\aY Wz w.heap.size (M N 0 0) (I K 0) (I K 0)/\aY Wz (w.heap.size+1) (M N 0 0) (I K nx) (I K tm)):=by
  subst ad;refine⟨(((bR _ w).alloc (lR _) _).alloc (by simp) _).drew,(se w _ _ _ _).on ((bR _ _).alloc (lR _) _).drew,?_⟩;have:=se (w.alloc (E #[M N 0 0,I K 0,I K 0] 51)) (M N 0 0) (I K nx) (I K tm) 51;rw[show∀o,(w.alloc o).heap.size=w.heap.size+1 fromλo=>by simp]at this;exact this.on (bR _ _).drew
 clear ad
 go_loopw [4] (λs4 wr=>∃ (i:H) (sl':Wx) (R':S bg),i<=R.length/\s4=I K i/\aA (w.heap.size+2) wr (w.heap.size+1) sl' R' nx tm/\iE (R.take i) R'/\aY wr w.heap.size (M N 0 0) (I K 0) (I K 0)/\Below w.heap.size w wr) (λs4 _=>R.length-(intOf s4).toNat)
 case atStart=>
  exact⟨0,M N 0 0,[],uc _,Q,⟨HO.o.2.2,tn _ _ _ _,λe z=>sT z eW,by simp[lk],λe z=>sT z eW,λe z=>sT z eW,List.Pairwise.nil⟩,Q,HO.o.2.1,HO.o.1⟩
 case round=>
  obtain⟨i,sl',R',bk,rfl,c,x,hc,G⟩:=hrel;have a5:R'.length=i:=by
   have:=n8 kr x;simpa[iE,vf bk]using this
  subst a5;obtain⟨F,n,rfl,-⟩:=az c.row;have ab:=ag G c0;have HB:Hid (Below w.heap.size w wr/\aY wr w.heap.size (M N 0 0) (I K 0) (I K 0)/\aA (w.heap.size+2) wr (w.heap.size+1) (M F R'.length n) R' nx tm/\iE (R.take R'.length) R'):=⟨G,hc,c,x⟩;by_cases y:R'.length<R.length
  .have hii:(R'.length:pt)<R.length:=by omega
   have hm:=gL y;have⟨ge,ecap,z,hgl,hec,e0,e1⟩:=KF HH.o.1 R'.length y;cases z;replace e0:=ag G e0;replace e1:=ag G e1;have hv:=HH.o.2.1 _ hm;have A:=HH.o.2.2.1 _ hm;have hs200:R[R'.length].h.length<=200:=lT (rW R R'.length y) HH.o.2.2.2;obtain⟨gv,L,a0,-,-,hvc⟩:=cq hv (eV.2 A);rw[a0]at e1 hv;have HV:Hid (wr.ownsRow B 130 3 (M (J ⟨gv,0,N⟩) R[R'.length].h.length L) R[R'.length].h.length (aw R[R'.length].h)):=hv.kept (aO G N) (dX _);have a1:Hid (R[R'.length].h≠[]/\iE (R.take (R'.length+1)) (R'++[⟨R[R'.length].key,R[R'.length].h,M N 0 0⟩])):=⟨A,by unfold iE at x ⊢;rw[tS y,gI,gI,x];rfl⟩;have a4:=eV.2 A;clear hv a0 A x c hc;generalize R[R'.length].h=d at *;generalize R[R'.length].key=r at *
   go_upto_region 6 with fail
   have hW:Below wr.heap.size wr (wr.alloc (E #[U r,M N 0 0] 140)):=(bR _ wr).alloc (lR _) _;have q0:(wr.alloc (E #[U r,M N 0 0] 140)).cell? ⟨wr.heap.size,0,N⟩=J (U r):=by rw[cA (w:=wr) _ _ wr.heap.size 0 Q];rfl
   have q1:(wr.alloc (E #[U r,M N 0 0] 140)).cell? ⟨wr.heap.size,1,N⟩=J (M N 0 0):=by rw[cA (w:=wr) _ _ wr.heap.size 1 Q];rfl
   have qf:(wr.alloc (E #[U r,M N 0 0] 140)).frozen? ⟨wr.heap.size,1,N⟩=false:=tb (w:=wr) _ _ wr.heap.size 1 Q;have ap:(wr.alloc (E #[U r,M N 0 0] 140)).heap.size=wr.heap.size+1:=by simp
   replace ab:=ag hW ab;replace e1:=ag hW e1;clear e0;generalize wr.alloc (E #[U r,M N 0 0] 140)=W5 at *;have HW:Hid (Below wr.heap.size wr W5/\W5.cell? ⟨wr.heap.size,0,N⟩=J (U r)/\W5.heap.size=wr.heap.size+1):=⟨hW,q0,ap⟩;have ai:Hid (∀W',Below W5.heap.size W5 W'->(∀j u,(aw d)[j]?=J u->W'.cell? ((⟨gv,0,N⟩:Wu).add j)=J u)):=λW' bo j u hu=>(HV.o.kept (aO (hW.t (bo.m hW.size)) N) (dX _)).cells (g:=gv) Q j u hu
   have HF:Hid (∀w3:Wj,W5.grownBy w3 N->w3.cell? ⟨wr.heap.size,1,N⟩=J (M N 0 0)/\w3.frozen? ⟨wr.heap.size,1,N⟩=Z):=λw3 hg=>⟨hg.cell q1 (by simp),(bj hg ⟨wr.heap.size,1,N⟩ (by simp only;omega) (by simp)).t qf⟩
   have⟨i0,a9,bb,bi,a6⟩:=info_parts Yq.Np;have be:(aw d).length=d.length*3:=ft d;have a2:W5.drew.heap.size=wr.heap.size+1:=ap
   go_cut [5] (λs5 wx=>∃g l,s5=O (J ⟨wr.heap.size,0,N⟩)/\Below wr.heap.size wr wx/\wx.cell? ⟨wr.heap.size,0,N⟩=J (U r)/\wx.cell? ⟨wr.heap.size,1,N⟩=J (M (J ⟨g,0,N⟩) d.length l)/\wx.ownsRow wr.heap.size 130 3 (M (J ⟨g,0,N⟩) d.length l) d.length (aw d))
   case first=>
    go_region_law (refine step_append_lies _ Q _ _ 138 Q wr.heap.size 130 i0 _ 3 32 (Yq.u underlying138) a9 bb bi a6 Q (by decide) (M N 0 0) 0 [] (by simp[ta]) (tn _ _ _ _) ⟨gv,0,N⟩ d.length L (aw d) (by simp[ta]) be (ai.o _ (bR _ _).drew) (eC _) a4 (by simp only[maxLen];omega) (by omega) (by omega) (wr.heap.size+1) a2 ?_;intro g P w3 ac q aa av;have f:W5.grownBy w3 none:=⟨q.os,q.tape,q.output,q.size,q.block⟩;have⟨y0,y1⟩:=HF.o w3 f)
    all_goals
     go_wp2_with fail
     go_meet
     case rel=>
      have hgx:g=wr.heap.size+1:=aa.resolve_left (by simp[lk]);have af:Below wr.heap.size wr w3:=HW.o.1.grown (row:=N) f HW.o.1.size (λk e=>by cases e);have ho:w3.ownsRow wr.heap.size 130 3 (M (J ⟨g,0,N⟩) d.length P) d.length (aw d):=by simpa using ac
      exact⟨g,P,Q,af.setCell (p:=⟨wr.heap.size,1,N⟩) (lR _) _,(cO w3 ⟨wr.heap.size,1,N⟩ ⟨wr.heap.size,0,N⟩ _ (by simp)).t (f.cell HW.o.2.1 (by simp)),cs y0,ho.kept (bz w3 wr.heap.size 1 _) (nF (by simp[lk];omega))⟩
   case rest=>
   obtain⟨g,l,rfl,D,x0,x1,a3⟩:=hcut;have c:=HB.o.2.2.1.below D;have hk1:=HB.o.2.2.1.lt;have hs1:=D.size;have f0:=c.cells.fz 0;have s0:=c.cells.c0;have⟨t0,a8,bd,bl,a7⟩:=info_parts Yq.Nw;have hx1:wr.heap.size<wc.heap.size:=bC wc _ x0;have HX:Hid (Below wr.heap.size wr wc/\aA (w.heap.size+2) wc (w.heap.size+1) (M F R'.length n) R' nx tm/\wc.ownsRow wr.heap.size 130 3 (M (J ⟨g,0,N⟩) d.length l) d.length (aw d)):=⟨D,c,a3⟩;have aj:Hid (∀X:Obj,(wc.alloc X).ownsRow (w.heap.size+2) 140 2 (M F R'.length n) R'.length (aB R')):=λX=>c.row.alloc X
   have al:Hid (∀T,∀j u,[Value.string r,M (J ⟨g,0,N⟩) d.length l][j]?=J u->(wc.alloc (E #[U r,M (J ⟨g,0,N⟩) d.length l] T)).cell? ((⟨wc.heap.size,0,N⟩:Wu).add j)=J u):=λT j u hu=>by
    rw[Addr.add_lit,cA (w:=wc) _ _ wc.heap.size (0+j) Q];simpa using hu
   have bn:Hid (∀w3:Wj,(wc.alloc (E #[U r,M (J ⟨g,0,N⟩) d.length l] 140)).grownBy w3 (lj F R'.length n).ownBlock->w3.cell? ⟨w.heap.size+1,0,N⟩=J (M F R'.length n)/\w3.frozen? ⟨w.heap.size+1,0,N⟩=Z):=λw3 f=>by
    have Ha:=c.alloc (E #[U r,M (J ⟨g,0,N⟩) d.length l] 140);exact⟨f.cell Ha.cells.c0 (λe=>Ha.apart e.s),(bj f ⟨w.heap.size+1,0,N⟩ Ha.lt (λe=>Ha.apart e.s)).t (Ha.cells.fz 0)⟩
   clear D c a3 HV ai HF ab e1 q0 q1 qf hW;go_wp2_with (at_builtin;go_loud (refine wpList_append_lies _ Q _ _ 49 Q (w.heap.size+2) 140 t0 _ 2 40 (Yq.u underlying49) a8 bd bl a7 Q (by decide) (M F R'.length n) R'.length (aB R') Q (aj.o _) ⟨wc.heap.size,0,N⟩ 1 1 [U r,M (J ⟨g,0,N⟩) d.length l] Q Q (al.o _) (by intro u hu;simp at hu;rcases hu with rfl|rfl<;>rfl) (by omega) (by simp only[maxLen];omega) (by omega) (by simp;omega) (wc.heap.size+1) (by simp) ?_);intro g2 cap2 w3 ac f aa av;have⟨y0,y1⟩:=bn.o w3 f)
   have HP:=HB.o.2.2.1.push (key:=r) (h:=d) (v:=M (J ⟨g,0,N⟩) d.length l) (HX.o.1.t (((bR _ wc).alloc (lR _) (E #[U r,M (J ⟨g,0,N⟩) d.length l] 140)).m HX.o.1.size)) ((cI HX.o.2.2 (show w.heap.size+2<=wr.heap.size by omega)).alloc _) (λb G=>(HX.o.2.2.lt b G).1) a1.o.1 f ac (aa.imp id λh=>by simp;omega);have af:Below w.heap.size w w3:=(((HB.o.1.t (HX.o.1.m HB.o.1.size)).alloc (by omega) _).grown f (by simp;omega) (λb e=>by have:=(HX.o.2.1.row.lt b e).1;omega));refine⟨⟨R'.length+1,_,_,y,by simp,HP,?_,?_,af.setCell (p:=⟨w.heap.size+1,0,N⟩) (by simp) _⟩,by simp[intOf];omega⟩
   .have:=a1.o.2;unfold iE at this ⊢;simpa using this
   .refine (((HB.o.2.1.on HX.o.1).on ((bR _ wc).alloc (lR _) _)).grown f (λe=>by have:=(HX.o.2.1.row.lt _ e).1;omega)).grown (bz w3 (w.heap.size+1) 0 _) (by simp)
  .have ar:R'.length=R.length:=by omega
   have⟨s0,s1,s2,sf⟩:=HB.o.2.2.1.cells;have⟨r0,r1,r2,rf⟩:=HB.o.2.1;have rf0:=rf 0;have rf1:=rf 1;have rf2:=rf 2;have HE:Hid (R'.length=R.length):=ar;clear rf sf ar G hc c x;go_wp2_with fail
   refine bodyPost_ret (v:=Qa #[M F R'.length n,I K nx,I K tm]) (by simp[results,results32,go_sem,r0,r1,r2]) Q ?_;have hg:=bU (bU (bz wr w.heap.size 0 (M F R'.length n)) 1 (I K nx)) 2 (I K tm);obtain⟨-,h2,h3,-,-,h6,h7⟩:=HB.o.2.2.1;refine⟨_,R',Q,((HB.o.1.setCell (p:=⟨w.heap.size,0,N⟩) (lR _) _).setCell (p:=⟨w.heap.size,1,N⟩) (lR _) _).setCell (p:=⟨w.heap.size,2,N⟩) (lR _) _,⟨cI (h2.kept hg (nF λe=>by have:=(h2.lt _ e).1;omega)) (by omega),λe z=>cI ((h3 e z).kept hg (nF λe'=>by have:=((h3 e z).lt _ e').1;omega)) (by omega),h6,h7⟩,?_⟩;have:=HB.o.2.2.2;rw[HE.o,g6]at this;exact this
theorem Yq.OU:(Yq.prog.info? 88).map (λi=>(i.zero,i.size,i.bytes))=J (J (Qa #[I K 0,M N 0 0,I K 0,I K 0]),4,48):=by kernel_rfl
theorem aA.PG{sl}{nx tm:pt}(a:aA B w k sl R nx tm)(h:RwB sl R b):b<w.heap.size:=by
 rcases h with h|⟨e,c,h⟩
 .exact (a.row.lt b h).2
 .exact ((a.MC e c).lt b h).2
theorem Ft.PG{sl}(a:Ft B w sl R)(h:RwB sl R b):B<=b:=by
 rcases h with h|⟨e,c,h⟩
 .exact (a.row.lt b h).1
 .exact ((a.MC e c).lt b h).1
theorem PFw.t{w' w''}(h:PFw B k w w')(a:PFw B k w' w''):PFw B k w w'':=
 ⟨a.os.t h.os,a.tape.t h.tape,a.output.t h.output,lT h.size a.size,λb c d=>(a.low b c (lL d h.size)).t (h.low b c d),λg c d=>(a.OO g c (d.same (h.OO g c d))).t (h.OO g c d),λj e=>(a.cells j e).t (h.cells j e),λj=>(a.frozen j).t (h.frozen j)⟩
section
variable {B k:Nat} {w w1 w3:Wj} {P:List PlL} {T:List PlT} {sl vL vT vS:Wx} {R:List bg} {nx tm:pt} {Z:List SvE}
theorem dh.push{z}{y}(F:dh B w k Z (RwB sl R))(d:aA B w k sl R nx tm)(hP:aD B w k P T vL vT)(hBk:B<=k)(c5:w.cell? ⟨k,5,N⟩=J vS)(m:Below w.heap.size w w1)(hS:Ft w.heap.size w1 z.sl z.R)
  (ho:w3.ownsRow B 88 4 (M (J ⟨g,0,N⟩) (Z.length+1) y) (Z.length+1) (fp Z++[I K z.at_,z.sl,I K z.nx,I K z.tm])) (q:w1.grownBy w3 vS.ownBlock) (hgg:vS.ownBlock=J g\/w.heap.size<=g)  (hW:W=w3.setCell ⟨k,5,N⟩ (M (J ⟨g,0,N⟩) (Z.length+1) y)):
  aA B W k sl R nx tm/\aD B W k P T vL vT/\dh B W k (Z++[z]) (RwB sl R)/\PFw B k w W:=by
 have hk:=hP.lt;have⟨v,h1,h2,h3⟩:=F.row;have e:=c5.s.t h1;cases e;have af:g≠k:=by
  grind
 have ai:=bI h2 λb f=>m.block b (h2.lt b f).2
 have X:∀b,vS.ownBlock=J b->TyB w1 b 88:=λb f=>fA ai f
 have hs1:=m.size;have P1:=hP.below m;have L:(lj (J ⟨g,0,N⟩) (Z.length+1) y).ownBlock≠J k:=by simpa[lk]using af
 have aa:=q.block k (by omega) (λe=>h3 e.s);have D:∀j,j≠5->W.cell? ⟨k,j,N⟩=w1.cell? ⟨k,j,N⟩:=λj hj=>by subst hW;exact(cO w3 ⟨k,5,N⟩ ⟨k,j,N⟩ _ (λe=>by have:=n8 Addr.off e;simp only at this;omega)).t (cB (a:=⟨k,j,N⟩) aa)
 have ab:∀j,W.frozen? ⟨k,j,N⟩=w1.frozen? ⟨k,j,N⟩:=λj=>by subst hW;simpa using fB (a:=⟨k,j,N⟩) aa
 have p:∀b c,b≠k->TyB w1 b c->c≠88->W.heap[b]?=w1.heap[b]?:=λb c f r hU=>by subst hW;exact(bS _ _ _ _ f).t (q.block b r.lt λe=>hU (((X b e.s).ne r).s))
 have G:∀b,RwB z.sl z.R b->b≠k/\¬RwB sl R b:=λb f=>by
  have:=hS.PG f;exact⟨by omega,λh=>by have:=d.PG h;omega⟩
 have o:∀ {n l:H} {e:TypeId} {v:Wx} {V:S Wx},w1.ownsRow B e l v n V->v.ownBlock≠J k->e≠88->W.ownsRow B e l v n V:=λh ad A=>bI h λb f=>p b _ (λe=>ad (e▸f)) (fA h f) A
 have u:∀ {n l:H} {e:TypeId} {v:Wx} {V:S Wx},w.ownsRow B e l v n V->w1.ownsRow B e l v n V:=λh=>bI h λb f=>m.block b (h.lt b f).2
 subst hW;refine⟨((d.below m).other q h3 X (by decide) (by decide)).MV 5 _ (by omega),P1.Mr (D 3 (by omega)) (D 4 (by omega)) ab λb c f r hU=>p b c f r (by rcases hU with rfl|rfl|rfl<;>decide),⟨⟨_,cs (q.cell (ag m c5) (λe=>h3 e.s)),?_,L⟩,λx i=>?_,λx i e A=>?_,λx i b f=>?_⟩,⟨q.os.t m.os,q.tape.t m.tape,q.output.t m.output,?_,λb f ac=>?_,λb f r=>?_,λj hj=>(D j (by omega)).t (cB (m.block k hk)),λj=>(ab j).t (fB (m.block k hk))⟩⟩
 .rw [lP,lS,show fp (Z++[z])=fp Z++[I K z.at_,z.sl,I K z.nx,I K z.tm]by simp[fp]];exact iY ho L 5 _
 .rcases dT.1 i with i|i
  .exact o (u (F.Od x i)) (λe=>(F.MV x i k (Qc e)).1 Q) (by decide)
  .rw [ey.1 i];exact o (cI hS.row (by omega)) (λe=>(G k (Qc e)).1 Q) (by decide)
 .rcases dT.1 i with i|i
  .exact o (u (F.MG x i e A)) (λe'=>(F.MV x i k (Qd ⟨e,A,e'⟩)).1 Q) (by decide)
  .rw [ey.1 i]at A;exact o (cI (hS.MC e A) (by omega)) (λe'=>(G k (Qd ⟨e,A,e'⟩)).1 Q) (by decide)
 .rcases dT.1 i with i|i
  .exact F.MV x i b f
  .grind
 .have:=q.size;simp;omega
 .refine ((bS _ _ _ _ (show b≠k by omega)).t (q.block b (by omega) λe=>?_)).t (m.block b ac);have:=(h2.lt b e.s).1;omega
 .exact (p b _ f (r.same (m.block b r.lt)) (by decide)).t (m.block b r.lt)
end
theorem Cq{sl vL vT vA}{nx tm:pt}{st}{L}{Mq}w(c:aA B w k sl R nx tm)(hP:aD B w k P T vL vT)(hK:qL w k vA Mq)(a4:B<=k)(a:Sim st R nx)(SL:eY L P T tm s){Z}(hz:dh B w k Z (RwB sl R))(hq:∀sl' R',iE R R'->Zq (Z++[⟨Mq.length,sl',R',nx,tm⟩]))(hs:s<2199023255300)(hZl:Z.length<=s)o(hk:o.kind=11)(bd:sq)ia ic:
  Calls Yq.prog 9 #[O (J ⟨k,0,N⟩),aJ o,gC ⟨0,0,bd⟩ ia ic] w (cK B k st L Zq s w):=by
 obtain⟨kind,bp,af,eQ,ai,nn,bt⟩:=o;simp only at hk;subst hk;have be:=hP.lt;have⟨i0,a9,bi,bn,a5⟩:=info_parts Yq.OU;have⟨vS,c5,V,av⟩:=hz.row;obtain⟨y,D,rfl,-⟩:=az V;obtain⟨aa,ac,rfl,-⟩:=hK.form;have c7:=hK.c7;have HH:Hid (aA B w k sl R nx tm/\aD B w k P T vL vT/\B<=k/\Sim st R nx/\eY L P T tm s):=⟨c,hP,a4,a,SL⟩;have f:Hid (dh B w k Z (RwB sl R)/\(∀sl' R',iE R R'->Zq (Z++[⟨Mq.length,sl',R',nx,tm⟩]))/\w.ownsRow B 88 4 (M y Z.length D) Z.length (fp Z)/\(lj y Z.length D).ownBlock≠J k):=⟨hz,hq,V,av⟩;have ad:=a.full;have A:=a.MO;have a1:Hid (∀W,Below w.heap.size w W->Calls Yq.prog 32 #[O (J ⟨k,0,N⟩)] W λe w'=>∃sl' R',e=Nm (Qa #[sl',I K nx,I K tm])/\Below W.heap.size W w'/\Ft W.heap.size w' sl' R'/\iE R R'):=λW hb=>by
  have H':=c.below hb;exact qv k 0 sl R nx tm W H'.cells.c0 H'.cells.c1 H'.cells.c2 H'.row H'.MC ad A
 have ar:=hP.fz 5;clear c hP hK a SL hz hq V av ad A;have HS:=em ⟨0,0,bd⟩ ia ic;unfold aG gC at HS;unfold aJ gC;simp only at HS ⊢;go_enter (Yq.nq func9),ntmps9
 go_upto_region 21 with fail
 have⟨W,hW,al⟩:=jQ w 11 bp af eQ ai nn bt (I K 0) (I K 0) (U bd) (M ia 0 ic) (U ⟨#[]⟩);rw[hW];have HW:Hid _:=al;clear hW al;have a0:=ag HW.o.1 c5;have aj:=ag HW.o.1 c7;have hd:Below W.heap.size W W.drew:=(bR _ _).drew;have j:Below w.heap.size w W.drew:=HW.o.1.t (hd.m HW.o.1.size);have bo:Hid (∀ (l:Array Wx) (x:Wj),(callFunc 32 l).run Yq.prog x=.ok (.enter 32 l) x):=λl x=>by go_simp
 have a2:Hid (Calls Yq.prog 32 #[O (J ⟨k,0,N⟩)] W.drew λe w'=>∃v,e=Nm v/\∃q n R',v=Qa #[M q R'.length n,I K nx,I K tm]/\(Below w.heap.size w w'/\Ft w.heap.size w' (M q R'.length n) R'/\iE R R'/\Below W.heap.size W w')):=(a1.o _ j).m (by
  rintro e w' ⟨sl',R',rfl,h1,h2,h3⟩;obtain⟨q,n,rfl,-⟩:=az h2.row;exact⟨_,Q,q,n,R',Q,j.t (h1.m j.size),⟨cI h2.row j.size,λe he=>cI (h2.MC e he) j.size,h2.MF,h2.pw⟩,h3,hd.t (h1.m hd.size)⟩)
 have HC:Hid (∀w1,Below w.heap.size w w1->w1.cell? ⟨k,5,N⟩=J (M y Z.length D)/\w1.cell? ⟨k,7,N⟩=J (M aa Mq.length ac)/\(∀X,(w1.alloc X).ownsRow B 88 4 (M y Z.length D) Z.length (fp Z))/\∀X w3,(w1.alloc X).grownBy w3 (lj y Z.length D).ownBlock->w3.cell? ⟨k,5,N⟩=J (M y Z.length D)/\w3.frozen? ⟨k,5,N⟩=false):=λw1 hb=>by
  have r:∀X,Below w.heap.size w (w1.alloc X):=λX=>hb.alloc hb.size X
  refine⟨ag hb c5,ag hb c7,λX=>bI f.o.2.2.1 λb bq=>(r X).block b (f.o.2.2.1.lt b bq).2,λX w3 hg=>⟨hg.cell (ag (r X) c5) (λe=>f.o.2.2.2 e.s),?_⟩⟩;have a6:=(r X).size;exact((bj hg ⟨k,5,N⟩ (by simp only;omega) (λe=>f.o.2.2.2 e.s)).t ((r X).frozen (p:=⟨k,5,N⟩) be)).t ar
 have a8:W.drew.cell? ⟨k,5,N⟩=J (M y Z.length D):=a0;have bb:W.drew.cell? ⟨k,7,N⟩=J (M aa Mq.length ac):=aj;clear hd j
 go_cut [86] (λ_ x=>∃Z',Zq Z'/\aA B x k sl R nx tm/\aD B x k P T vL vT/\dh B x k Z' (RwB sl R)/\PFw B k w x/\cz x (w.heap.size+1) (I K 0) (I K 0) (U bd) (M ia 0 ic) (U ⟨#[]⟩))
 case first=>
  go_region_law (first
   |(refine bJ Q 32 #[Qe 82] #[51] Q #[O (J ⟨k,0,N⟩)] (by first|(simp[ta];done)|(simp[ta,Act.put];done)|go_simp) (bo.o _ _) _ a2.o ?_;rintro v w1 ⟨q,n,R',rfl,i⟩;obtain⟨d5,d7,-,-⟩:=HC.o w1 i.1;have e5:=au d5;have e7:=au d7;have d:Hid (Below w.heap.size w w1/\Ft w.heap.size w1 (M q R'.length n) R'/\iE R R'/\Below W.heap.size W w1):=i;clear i)
   |(refine step_append_lies _ Q _ _ 54 Q B 88 i0 _ 4 48 (Yq.u underlying54) a9 bi bn a5 Q (by decide) (M y Z.length D) Z.length (fp Z) (by simp[ta]) ((HC.o w1 d.o.1).2.2.1 _) ⟨w1.heap.size,0,N⟩ 1 1 [I K Mq.length,M q R'.length n,I K nx,I K tm] (by simp[ta]) Q (r6 w1 _ _ _ _ _) (by simp[Value.oneCell']) (by omega) (by simp only[maxLen];omega) (by omega) (by have:=d.o.1.size;simp;omega) (w1.heap.size+1) (by simp) ?_;intro g cap' w3 bk ab a7 hlt3;obtain⟨y0,y1⟩:=(HC.o w1 d.o.1).2.2.2 _ w3 ab))
  all_goals
   go_wp2_with fail
  all_goals
   go_meet
   case rel=>
    have bs:=d.o.1.alloc d.o.1.size (E #[I K Mq.length,M q R'.length n,I K nx,I K tm] 88);have a6:=d.o.1.size;obtain⟨X1,X2,X3,X4⟩:=f.o.1.push (z:=⟨Mq.length,M q R'.length n,R',nx,tm⟩) HH.o.1 HH.o.2.1 HH.o.2.2.1 c5 bs ⟨d.o.2.1.row.alloc _,λe he=>(d.o.2.1.MC e he).alloc _,d.o.2.1.MF,d.o.2.1.pw⟩ bk ab (a7.imp id λh=>by omega) Q;refine⟨_,f.o.2.1 _ _ d.o.2.2.1,X1,X2,X3,X4,((HW.o.2.2.on d.o.2.2.2).on ((bR _ w1).alloc (lR _) (E #[I K Mq.length,M q R'.length n,I K nx,I K tm] 88))).block ?_⟩;have a3:=bC W _ HW.o.2.2.c0;have hW3:=d.o.2.2.2.size;simp only at a3;refine(bS _ _ _ _ (show w.heap.size+1≠k by omega)).t (ab.block (w.heap.size+1) (by simp;omega) λe=>?_);have:=(f.o.2.2.1.lt _ e.s).2;omega
 case rest=>
 obtain⟨Z',ap,X1,X2,X3,X4,⟨d0,d1,d2,d3,d4⟩⟩:=hcut;have HX:Hid (Zq Z'/\aA B wc k sl R nx tm/\aD B wc k P T vL vT/\dh B wc k Z' (RwB sl R)/\PFw B k w wc):=⟨ap,X1,X2,X3,X4⟩;clear ap X1 X2 X3 X4 HW a0 aj a8 bb a2 a1 HC c5 c7 ar;go_wp2_with fail
 refine(HS _).m ?_;rintro e w3 ⟨rfl,b3⟩;have G:Hid (Below wc.heap.size wc w3):=b3;clear b3 HS;go_wp2_with fail
 go_ret;have bl:=HX.o.2.1.lt;have F:=PFr.below (B:=B) (k:=k) (Lv:=RwB sl R) bl G.o;exact⟨Q,sl,R,nx,tm,P,T,vL,vT,Z',HX.o.2.1.below G.o,HX.o.2.2.1.below G.o,HH.o.2.2.2.1,HH.o.2.2.2.2.m (by omega),HX.o.2.2.2.2.t F.toPFw,HX.o.1,HX.o.2.2.2.1.Mr F (λ_ _ h=>h)⟩
section
variable {B k:Nat} {w w1:Wj} {P:List PlL} {T:List PlT} {sl sl' vL vT:Wx} {R R':List bg} {nx tm:pt}
theorem aD.Pj(h:aD B w k P T vL vT)j(hj:j<3)v:aD B (w.setCell ⟨k,j,N⟩ v) k P T vL vT:=
 h.Mr (cO w ⟨k,j,N⟩ ⟨k,3,N⟩ v (λe=>by have:=n8 Addr.off e;simp only at this;omega)) (cO w ⟨k,j,N⟩ ⟨k,4,N⟩ v (λe=>by have:=n8 Addr.off e;simp only at this;omega)) (λj=>by simp) λg _ a _ _=>bS _ _ _ _ a
theorem Ft.ref{nx' tm':pt}(a:aA B w k sl R nx tm)(i:aD B w k P T vL vT)(c:B<=k)(h:Below w.heap.size w w1)(d:Ft w.heap.size w1 sl' R'):
  aA B (((w1.setCell ⟨k,0,N⟩ sl').setCell ⟨k,1,N⟩ (I K nx')).setCell ⟨k,2,N⟩ (I K tm')) k sl' R' nx' tm'/\aD B (((w1.setCell ⟨k,0,N⟩ sl').setCell ⟨k,1,N⟩ (I K nx')).setCell ⟨k,2,N⟩ (I K tm')) k P T vL vT/\PFr B k (RwB sl R) w (((w1.setCell ⟨k,0,N⟩ sl').setCell ⟨k,1,N⟩ (I K nx')).setCell ⟨k,2,N⟩ (I K tm')):=by
 have o:=i.lt;have m:=bU (bU (bz w1 k 0 sl') 1 (I K nx')) 2 (I K tm');have n:∀b,RwB sl' R' b->b≠k:=λb p=>by have:=d.PG p;omega
 have l:=λe=>n k (Qc e) Q
 have j:=λe f q=>n k (Qd ⟨e,f,q⟩) Q
 refine⟨⟨(((a.below h).cells.NY sl').N2 _).NP _,cI (d.row.kept m (nF l)) (by omega),λe f=>cI ((d.MC e f).kept m (nF (j e f))) (by omega),l,j,d.MF,d.pw⟩,(((i.below h).Pj 0 (by omega) _).Pj 1 (by omega) _).Pj 2 (by omega) _,(((PFr.below o h).t (PFr.set c 0 (by omega) _)).t (PFr.set c 1 (by omega) _)).t (PFr.set c 2 (by omega) _)⟩
end
def gE(l:PlL):PlL:={l with gone:=Y}
theorem Fu(P:S PlL)(i:H)(a:i<P.length):((P.take i).map gE++P.drop i).set i (gE P[i])=(P.take (i+1)).map gE++P.drop (i+1):=by
 have b:((P.take i).map gE).length=i:=by grind
 rw[List.set_append_right _ _ (by omega),b,Nat.sub_self,tS a,gI,pA];rw[List.drop_eq_getElem_cons a];rfl
theorem LD{vS:Wx}{Z:S SvE}(h:w.ownsRow B 88 4 vS Z.length (fp Z))(i:H)(c:i<Z.length):∃g a,vS=M (J ⟨g,0,N⟩) Z.length a/\w.cell? ⟨g,i*4,N⟩=J (I K Z[i].at_)/\w.cell? ⟨g,i*4+1,N⟩=J Z[i].sl/\w.cell? ⟨g,i*4+1+1,N⟩=J (I K Z[i].nx)/\w.cell? ⟨g,i*4+1+2,N⟩=J (I K Z[i].tm):=by
 obtain⟨g,a,rfl,h1,h2,h3⟩:=cq h (by omega);have hx:∀j,j<4->w.cell? ⟨g,i*4+j,N⟩=[I K Z[i].at_,Z[i].sl,I K Z[i].nx,I K Z[i].tm][j]?:=λj b=>by
  have:=h.cellAt (i*4+j) (by omega);rw[fp,bE 4 _ (λ_=>Q) Z i j c b]at this;exact this
 simp_all
theorem Fv{sl vL vT:Wx}{nx tm:pt}(w:Wj)(a:aA B w k sl R nx tm)(l:aD B w k P T vL vT)(af:B<=k){Z:S SvE}(q:dh B w k Z (RwB sl R))(hZ:∀z∈Z,(∀e∈z.R,e.h≠[])/\totR z.R<=200)(hZl:Z.length<=2199023255340)(hPl:P.length<=2199023255340)(j:H)(hj:j<Z.length)(hu:∀i (hi:i<Z.length),Z[i].at_=Z[j].at_->i=j):
  Calls Yq.prog 33 #[O (J ⟨k,0,N⟩),I K Z[j].at_] w λe w'=>e=Nm (Qb #[])/\∃sl' R',aA B w' k sl' R' Z[j].nx Z[j].tm/\aD B w' k (P.map gE) T vL vT/\dh B w' k Z (RwB sl' R')/\iE Z[j].R R'/\PFw B k w w':=by
 have HH:Hid (aA B w k sl R nx tm/\aD B w k P T vL vT/\dh B w k Z (RwB sl R)/\(∀z∈Z,(∀e∈z.R,e.h≠[])/\totR z.R<=200)/\∀i (hi:i<Z.length),Z[i].at_=Z[j].at_->i=j):=⟨a,l,q,hZ,hu⟩;have hkw:=l.lt;clear a l q hZ hu;obtain⟨X,D⟩:∃X,Z[j].at_=X:=⟨_,Q⟩;have ab:Hid (Z[j].at_=X):=D;rw[D];clear D;go_enter (Yq.nq func33),ntmps33;go_wp2_with fail
 go_loopw [4] (λs4 wr=>∃ (i:H) (sl':Wx) (R':S bg) (d c:pt),i<=Z.length/\s4=I K i/\aA B wr k sl' R' d c/\aD B wr k P T vL vT/\dh B wr k Z (RwB sl' R')/\PFw B k w wr/\(j<i->iE Z[j].R R'/\d=Z[j].nx/\c=Z[j].tm)) (λs4 _=>Z.length-(intOf s4).toNat)
 case atStart=>exact⟨0,sl,R,nx,tm,uc _,Q,HH.o.1,HH.o.2.1,HH.o.2.2.1,(PFr.refl (Lv:=λ_=>True)).toPFw,λh=>sT h (by omega)⟩
 case round=>
  obtain⟨i,sl',R',d,c,aa,rfl,a,l,q,F,hd⟩:=hrel;have⟨vS,c5,u,L⟩:=q.row;obtain⟨sa,sc,rfl,-⟩:=az u;have HX:Hid (aA B wr k sl' R' d c/\aD B wr k P T vL vT/\dh B wr k Z (RwB sl' R')/\PFw B k w wr/\(j<i->iE Z[j].R R'/\d=Z[j].nx/\c=Z[j].tm)):=⟨a,l,q,F,hd⟩;by_cases f:i<Z.length
  .have ap:(i:pt)<Z.length:=by omega
   have⟨g,al,he,a0,a1,a2,a3⟩:=LD u i f;cases he;have hm:=gL f;have A:=qv g (i*4+1) Z[i].sl Z[i].R Z[i].nx Z[i].tm wr a1 a2 a3 (q.Od _ hm) (q.MG _ hm) (HH.o.2.2.2.1 _ hm).1 (HH.o.2.2.2.1 _ hm).2;have k0:=a.cells.c0;have k1:=a.cells.c1;have k2:=a.cells.c2;have f0:=a.cells.fz 0;have f1:=a.cells.fz 1;have f2:=a.cells.fz 2;clear a l q F hd u L;by_cases r:Z[i].at_=X
   .have V:i=j:=HH.o.2.2.2.2 i f (r.t ab.o.s);rw[r]at a0;have y:Hid (i=j):=V;clear V r a1 a2 a3;go_wp2_with (go_at_call 32;refine A.m ?_;clear A;rintro e w1 ⟨s2,R2,rfl,v,hS,ad⟩;have HN:Hid (Below wr.heap.size wr w1/\Ft wr.heap.size w1 s2 R2/\iE Z[i].R R2):=⟨v,hS,ad⟩;obtain⟨sx,sy,rfl,-⟩:=az hS.row;replace k0:=ag v k0;replace k1:=ag v k1;replace k2:=ag v k2;replace f0:=(v.frozen (p:=⟨k,0,N⟩) HX.o.2.1.lt).t f0;replace f1:=(v.frozen (p:=⟨k,1,N⟩) HX.o.2.1.lt).t f1;replace f2:=(v.frozen (p:=⟨k,2,N⟩) HX.o.2.1.lt).t f2;clear v hS ad)
    have⟨X1,X2,X3⟩:=Ft.ref (nx':=Z[i].nx) (tm':=Z[i].tm) HX.o.1 HX.o.2.1 af HN.o.1 HN.o.2.1;refine⟨⟨i+1,_,_,_,_,f,by simp,X1,X2,HX.o.2.2.1.Mr X3 (λb hb h=>by have:=HN.o.2.1.PG h;omega),HX.o.2.2.2.1.t X3.toPFw,λ_=>?_⟩,by simp[intOf];omega⟩;have e:=y.o;subst e;exact⟨HN.o.2.2,Q,Q⟩
   .have hne:¬(Z[i].at_:pt)=(X:pt):=by omega
    have y:Hid (i≠j):=λe=>r (by subst e;exact ab.o)
    clear r a1 a2 a3 A k0 k1 k2 f0 f1 f2;generalize Z[i].at_=ai at *;go_wp2_with fail
    exact⟨⟨i+1,_,_,_,_,f,by simp,HX.o.1,HX.o.2.1,HX.o.2.2.1,HX.o.2.2.2.1,λh=>HX.o.2.2.2.2 (by have:=y.o;omega)⟩,by simp[intOf];omega⟩
  .have G:i=Z.length:=by omega
   subst G;have HJ:Hid (iE Z[j].R R'/\d=Z[j].nx/\c=Z[j].tm):=hd hj;clear a l q F hd u L;go_wp2_with fail
   go_loopw [5] (λs5 wx=>∃i:H,i<=P.length/\s5=I K i/\aA B wx k sl' R' d c/\aD B wx k ((P.take i).map gE++P.drop i) T vL vT/\dh B wx k Z (RwB sl' R')/\PFw B k w wx) (λs5 _=>P.length-(intOf s5).toNat)
   case atStart=>exact⟨0,uc _,Q,HX.o.1,HX.o.2.1,HX.o.2.2.1,HX.o.2.2.2.1⟩
   case round=>
    rename_i wv _;clear c5;obtain⟨i,aa,rfl,a,l,q,F⟩:=hrel;have n:((P.take i).map gE++P.drop i).length=P.length:=by rw[lP,lM,tL,lD];omega
    have c3:=l.c3;have HY:Hid (aA B wr k sl' R' d c/\aD B wr k ((P.take i).map gE++P.drop i) T vL vT/\dh B wr k Z (RwB sl' R')/\PFw B k w wr):=⟨a,l,q,F⟩;obtain⟨la,lc,ac,-⟩:=az l.MR;rw[n]at ac;subst ac;by_cases f:i<P.length
    .have ap:(i:pt)<P.length:=by omega
     obtain⟨g,al,he,-,-,-,-,-,l3⟩:=Aw l.MR i (by omega);rw[n]at he;cases he;have hr:wr.ownsRow B 134 4 (M (J ⟨g,0,N⟩) P.length lc) P.length (dU ((P.take i).map gE++P.drop i)):=by
      have:=l.MR
      rwa [n]at this
     have fz:=hr.frozenAt (i*4+3);clear hr;have x:∀h,((P.take i).map gE++P.drop i)[i]'h=P[i]:=λh=>by
      rw[List.getElem_append_right (by rw[lM,tL];omega)];simp[vf aa]
     clear a l q F;go_wp2_with fail
     have hS:∀vL,vL=lj (J ⟨g,0,N⟩) ((P.take i).map gE++P.drop i).length lc->aD B wr k ((P.take i).map gE++P.drop i) T vL vT->aA B (wr.setCell ⟨g,i*4+3,N⟩ (C Y)) k sl' R' d c/\aD B (wr.setCell ⟨g,i*4+3,N⟩ (C Y)) k ((P.take (i+1)).map gE++P.drop (i+1)) T vL vT/\PFr B k (RwB sl' R') wr (wr.setCell ⟨g,i*4+3,N⟩ (C Y)):=λvL e h=>by
      subst e;rw[<-Fu P i f];exact h.PC HY.o.1 (by omega) (by omega) ⟨by rw[x];rfl,by rw[x];rfl⟩ (by rw[x];rfl)
     obtain⟨X1,X2,X3⟩:=hS _ (by rw[n]) HY.o.2.1;exact⟨⟨i+1,f,by simp,X1,X2,HY.o.2.2.1.Mr X3 (λ_ _ h=>h),HY.o.2.2.2.t X3.toPFw⟩,by simp[intOf];omega⟩
    .have G:i=P.length:=by omega
     subst G;clear a l q F;go_wp2_with fail
     go_end0;refine⟨Q,sl',R',?_,?_,HY.o.2.2.1,HJ.o.1,HY.o.2.2.2⟩
     .rw [<-HJ.o.2.1,<-HJ.o.2.2];exact HY.o.1
     .have:=HY.o.2.1
      rwa [g6,List.drop_length,List.append_nil]at this
theorem Sim.same{st}{R'}{nx:pt}(c:Sim st R nx)(h:iE R R'):Sim st R' nx:=by
 have hl:R'.length=R.length:=by simpa using n8 kr h
 have hget:∀i (m:i<R.length) (o:i<R'.length),R'[i].key=R[i].key/\R'[i].h=R[i].h:=λi m o=>by
  have:=n8 (λl=>l[i]?) h
  grind
 have n:∀e∈R',∃j∈R,e.key=j.key/\e.h=j.h:=λe d=>by
  obtain⟨i,r,rfl⟩:=gM d
  grind
 have hfrom:∀e∈R,∃j∈R',j.key=e.key:=λe d=>by
  obtain⟨i,r,rfl⟩:=gM d
  grind
 have f:totR R'=totR R:=by
  have:=n8 (λl:S (sq×S Ver)=>(l.map λx=>x.2.length).sum) h;simpa[totR,List.map_map,Function.comp_def]using this
 refine⟨c.next,λe d=>?_,?_,λe d=>?_,λk hk=>c.gone k λe d=>?_,by rw[f];exact c.count,by rw[f];exact c.MO⟩
 .obtain ⟨j,m,-,p⟩:=n e d;rw[p];exact c.full j m
 .have m:(R.map λe=>(e.key,e.h)).Pairwise (λa b=>a.1≠b.1):=List.pairwise_map.2 c.keys;rw[<-h]at m
  grind
 .have ⟨j,m,o,p⟩:=n e d;rw[o,p];exact c.here j m
 .grind
theorem Cr(tm:pt)(P:S PlL):opens tm (P.map gE)=[]:=by
 unfold opens;rw[List.filter_eq_nil_iff];intro x hx;have a:x.1∈P.map gE:=by
  grind
 obtain⟨l,-,h⟩:=jp.1 a;rw[<-h];simp[PlL.Mw,gE]
theorem eY.load{L}{P}{T}{tm a:pt}{s}(h:eY L P T tm s)(b:0<=a/\a<=1000*s):eY {L with opened:=[],tm:=a} (P.map gE) T a (s+1):=by
 refine⟨⟨Q,b.1,by have:=b.2;omega⟩,by rw[lM];exact h.begun,by rw[lM];have:=h.OI;omega,by rw[Cr];rfl,λl e=>?_,λt b=>?_,h.told,h.here⟩
 .obtain ⟨i,c,rfl⟩:=jp.1 e;have:=h.lists i c;simp[gE];omega
 .have ⟨c,l,f,d⟩:=h.Mq t b;exact⟨c,gE l,by rw[List.getElem?_map,f];rfl,d⟩
theorem Cs{sl vL vT:Wx}{nx tm:pt}{st2:St}{L:Lg}(w:Wj)(a:aA B w k sl R nx tm)(hP:aD B w k P T vL vT)(A:B<=k)(SL:eY L P T tm s){Z:S SvE}(hz:dh B w k Z (RwB sl R))(hq:Zq Z)(hs:s<2199023255300)(hZl:Z.length<=s)(o:OpD)(hk:o.kind=12)(hZ:∀z∈Z,(∀e∈z.R,e.h≠[])/\totR z.R<=200)(j:H)(hj:j<Z.length)(l:o.src=Z[j].at_)(hu:∀i (hi:i<Z.length),Z[i].at_=Z[j].at_->i=j)(hS:Sim st2 Z[j].R Z[j].nx)(ht:0<=Z[j].tm/\Z[j].tm<=1000*s)(V:Option Wu)(G:H):
  Calls Yq.prog 9 #[O (J ⟨k,0,N⟩),aJ o,gC ⟨0,0,⟨#[]⟩⟩ V G] w (cK B k st2 {L with opened:=[],tm:=Z[j].tm} Zq s w):=by
 obtain⟨kind,u,c,eQ,d,nn,src⟩:=o;simp only at hk l;subst hk;subst l;have p:=hP.lt;have hfew:=SL.OI;have r:=SL.load ht;have HQ:Hid (Sim st2 Z[j].R Z[j].nx/\Zq Z/\eY {L with opened:=[],tm:=Z[j].tm} (P.map gE) T Z[j].tm (s+1)):=⟨hS,hq,r⟩;have HL:Hid (∀W,Below w.heap.size w W->Calls Yq.prog 33 #[O (J ⟨k,0,N⟩),I K Z[j].at_] W λe v=>e=Nm (Qb #[])/\∃sl' R',aA B v k sl' R' Z[j].nx Z[j].tm/\aD B v k (P.map gE) T vL vT/\dh B v k Z (RwB sl' R')/\iE Z[j].R R'/\PFw B k W v):=λW x=>Fv W (a.below x) (hP.below x) A (hz.Mr (PFr.below p x) (λ_ _ h=>h)) hZ (by omega) (by omega) j hj hu
 have HS:=em ⟨0,0,⟨#[]⟩⟩ V G;unfold aG gC at HS;unfold aJ gC;simp only at HS ⊢;clear a hP SL hz hq hZ hu hS r;go_enter (Yq.nq func9),ntmps9
 go_upto_region 24 with fail
 have⟨W,y,b⟩:=jQ w 12 u c eQ d nn Z[j].at_ (I K 0) (I K 0) (U ⟨#[]⟩) (M V 0 G) (U ⟨#[]⟩);rw[y];have HW:Hid _:=b;have q:=HL.o W b.1;have n6:=b.2.1 6;have f:TyB W (w.heap.size+1) 46:=by
  rw[<-y];exact⟨_,_,by rw[show w.heap.size+1=(w.alloc (E #[I K 12,U u,U c,U eQ,U d,I K nn,I K Z[j].at_] 30)).heap.size by simp];exact aN _ _⟩
 have X:Hid (TyB W (w.heap.size+1) 46):=f;clear HL y b f;go_wp2_with fail
 refine q.m ?_;clear q;rintro e w1 ⟨rfl,sl',R',h1,h2,h3,h4,D⟩;obtain⟨d0,d1,d2,d3,d4⟩:=HW.o.2.2.block (D.OO _ (by omega) X.o);have HX:Hid (aA B w1 k sl' R' Z[j].nx Z[j].tm/\aD B w1 k (P.map gE) T vL vT/\dh B w1 k Z (RwB sl' R')/\iE Z[j].R R'/\PFw B k w w1):=⟨h1,h2,h3,h4,(PFr.below (Lv:=λ_=>True) p HW.o.1).toPFw.t D⟩;clear h1 h2 h3 h4 D HW n6;go_wp2_with fail
 refine(HS _).m ?_;rintro e w3 ⟨rfl,b3⟩;have n:Hid (Below w1.heap.size w1 w3):=b3;clear b3 HS;go_wp2_with fail
 go_ret;have F:=PFr.below (B:=B) (k:=k) (Lv:=RwB sl' R') HX.o.1.lt n.o;exact⟨Q,sl',R',_,_,_,T,vL,vT,Z,HX.o.1.below n.o,HX.o.2.1.below n.o,HQ.o.1.same HX.o.2.2.2.1,HQ.o.2.2,HX.o.2.2.2.2.t F.toPFw,HQ.o.2.1,HX.o.2.2.1.Mr F (λ_ _ h=>h)⟩
end
