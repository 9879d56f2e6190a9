/- A part. -/
import Derived.Test.YteidaiooccmmmaaGreatDoorQP18
import Derived.Test.YteidaiooccmmmaaGreatDoorQP17
set_option maxHeartbeats 4000000
set_option maxRecDepth 100000
open Go renaming World->Wj,Value->Wx
namespace Go.Proofs.Qw
open Option renaming none->N,some->J
open Bool renaming true->Y,false->Z
open Value renaming int->I,string->U,slice->M,pointer->O,bool->C
open IntKind renaming i64->K
open Obj renaming cells->E
section
open Go.RowKit
theorem Hu{a:St}{R:List bD}{n:Int}{s:Nat}(S:Sim a R n)(l:Inv a s)(c:gp a)(q:Qy):fe q (R.map mu)=bH q (cz a.f q.p.data.toList)/\(bH q (cz a.f q.p.data.toList)).length<=200:=by
 refine⟨CT S q (λk=>?_) (λk e=>?_),?_⟩
 .rw [List.pairwise_iff_getElem];intro i j m d b;have:=l.sorted k i j b d;simpa[nums,m,d]using this
 .rcases Nat.lt_or_ge 40 k.length with h|h
  .exact absurd (c.long k h) e
  .exact h
 .have h1:(bH q (cz a.f q.p.data.toList)).length<=fH (cz a.f q.p.data.toList):=rf q _ (jo _ _ _);have h2:=vQ q.p.data.toList 41 a.f;have h3:fH (cz a.f q.p.data.toList)=tot (41-q.p.data.toList.length) λk=>a.f (q.p.data.toList++k):=oE _ _ _ _
  have:=c.cnt;have:=c.le;omega
theorem yd{w:Wj}{s b n a:Nat}{e:TypeId}{v:Wx}{xs:List Wx}(h:w.ownsRow b e a v n xs)(l:s<=b):w.ownsRow s e a v n xs:=by
 obtain⟨f,i|⟨g,d,c,rfl,k,j⟩⟩:=h
 .exact ⟨f,.inl i⟩
 .exact ⟨f,.inr ⟨g,d,c,rfl,lT l k,j⟩⟩
def eu(B k:Nat)(sl:Wx)(R:List bD)(nx tm:Int)(L':Lg)(s:Nat)(w:Wj)(e:Ending)(w':Wj):Prop:=
 e=.returned (C Y)/\∃P' T' a b,ax B w' k sl R nx tm/\aF B w' k P' T' a b/\eU L' P' T' tm (s+1)/\PFr B k w w'
theorem eu.mk{B k:Nat}{b:Wx}{R:List bD}{e a:Int}{L':Lg}{s:Nat}{w w':Wj}{P':List PlL}{T':List PlT}{d c:Wx}(i:ax B w' k b R e a)(f:aF B w' k P' T' d c)(j:eU L' P' T' a (s+1))(h:PFr B k w w'):eu B k b R e a L' s w (.returned (C Y)) w':=⟨rfl,P',T',d,c,i,f,j,h⟩
theorem Ai(w:Wj)(a b c d:Wx)(T:TypeId):∀j u,[a,b,c,d][j]?=J u->(w.alloc (E #[a,b,c,d] T)).cell? ((⟨w.heap.size,0,N⟩:Addr).add j)=J u:=by
 intro j u e;rw[Addr.add_lit,zA,cA (w:=w) _ _ w.heap.size j rfl];rw[<-e,<-gT]
theorem wI{B k s:Nat}{sl vL vT:Wx}{R:List bD}{nx V:Int}{P:List PlL}{T:List PlT}{st:St}{L:Lg}(w:Wj)(H:ax B w k sl R nx V)(hP:aF B w k P T vL vT)(bl:B<=k)(S:Sim st R nx)(SL:eU L P T V s)(hV:Inv st s)(hT:gp st)(hs:s<2199023255300)(o:OpD)(Q:Bool)(ck:(o.kind==6)=!Q)(bx:(o.kind==7)=Q)(hd:o.delim.size<=140737488351232)
  (L':Lg) (pg:List ItD) (aa:ByteArray) (cd:Int) (hB:eQ L st.f ⟨Q,o.key,o.delim,o.past⟩ o.n=(L',pg,aa,cd)) (vi:Wx) (hI:∀w',PFr B k w w'->gi w' vi pg):
  Calls Yq.prog 28 #[O (J ⟨k,0,N⟩),aT o,.agg #[I K cd,I K 0,U ⟨#[]⟩,vi,U aa]] w (eu B k sl R nx V L' s w):=by
 have⟨ar,a2⟩:=Hu S hV hT ⟨Q,o.key,o.delim,o.past⟩;have av:=SL.count;rw[un]at av;have b7:=SL.time;have hfew:=SL.few;have af:=hP.lt;have hO:=hB;have bi:=zT L st.f ⟨Q,o.key,o.delim,o.past⟩ o.n _ rfl (lT a2 (by omega));have be:Hid (∀W,Below w.heap.size w W->Calls Yq.prog 58 #[O (J ⟨k,0,N⟩),aT o] W λe w'=>∃v,e=.returned v/\w'.ownsRow W.heap.size 117 3 v (bH ⟨Q,o.key,o.delim,o.past⟩ (cz st.f o.key.data.toList)).length (an (bH ⟨Q,o.key,o.delim,o.past⟩ (cz st.f o.key.data.toList)))/\Below W.heap.size W w'):=λW hb=>by
  have:=Af B k sl R nx V o Q ck bx W (H.below hb) S.lim S.full (λe he=>?_) hd
  .rw [ar]at this;exact this
  .have h1:=S.here e he;rcases Nat.lt_or_ge 40 e.key.data.toList.length with h|h
   .exact absurd ((hT.long _ h).symm.trans h1).symm (S.full e he)
   .simpa using h
 have cb:Hid (∀v,∀p:Nat,1<=p/\p<=20->p<(bH ⟨Q,o.key,o.delim,o.past⟩ (cz st.f o.key.data.toList)).length->eU ⟨L.opened++[ip L st.f ⟨Q,o.key,o.delim,o.past⟩ p],L.begun+1,j7 (dM (L.begun+1) 2) (L.begun+1,2) L.told,L.tm⟩ (P++[⟨bH ⟨Q,o.key,o.delim,o.past⟩ (cz st.f o.key.data.toList),v,p,V+10,Z⟩]) (T++[⟨dM (L.begun+1) 2,P.length,1⟩]) V (s+1)):=λv p hp bw=>SL.push st.f ⟨Q,o.key,o.delim,o.past⟩ p _ v rfl a2 hp bw
 have HH:Hid (ax B w k sl R nx V/\aF B w k P T vL vT/\B<=k/\eU L P T V s/\∀w',PFr B k w w'->gi w' vi pg):=⟨H,hP,bl,SL,hI⟩;have b5:=bi;rw[hB]at bi;have ct:Hid (eQ L st.f ⟨Q,o.key,o.delim,o.past⟩ o.n=(L',pg,aa,cd)):=hB;clear H hP S SL hV hT ar hI hO b5 hB;obtain⟨a7,ap,a0,F,ab,nn,bv⟩:=o;simp only at *;generalize bH ⟨Q,ap,F,ab⟩ (cz st.f ap.data.toList)=a at *;unfold aT at be ⊢;go_enter (Yq.nq Tryz.func28),Tryz.ntmps28
 go_upto_region 1 with fail
 have⟨W,hW,t⟩:=oS w a7 ap a0 F ab nn bv (I K cd) (I K 0) (U ⟨#[]⟩) vi (U aa);rw[hW];have HW:Hid _:=t;have o0:W.cell? ⟨w.heap.size,0,N⟩=J (I K a7):=t.2.1 0;have o1:W.cell? ⟨w.heap.size,1,N⟩=J (U ap):=t.2.1 1;have o2:W.cell? ⟨w.heap.size,2,N⟩=J (U a0):=t.2.1 2;have o3:W.cell? ⟨w.heap.size,3,N⟩=J (U F):=t.2.1 3;have o4:W.cell? ⟨w.heap.size,4,N⟩=J (U ab):=t.2.1 4;have o5:W.cell? ⟨w.heap.size,5,N⟩=J (I K nn):=t.2.1 5;have o6:W.cell? ⟨w.heap.size,6,N⟩=J (I K bv):=t.2.1 6;clear hW t
 go_cut [7] (λs7 wx=>wx.ownsRow w.heap.size 117 3 s7 a.length (an a)/\Below w.heap.size w wx/\wx.cell? ⟨w.heap.size,5,N⟩=J (I K nn)/\cy wx (w.heap.size+1) (I K cd) (I K 0) (U ⟨#[]⟩) vi (U aa))
 case first=>
  have bn:=be.out _ HW.out.1.drew
  go_region_with (go_at_call 58;refine bn.mono ?_;rintro e m ⟨v,rfl,bt,y⟩;have d:Hid (m.ownsRow w.heap.size 117 3 v a.length (an a)/\Below W.heap.size W m):=⟨yd bt HW.out.1.size,((bR _ W).drew).trans y⟩;clear bt y)
  all_goals
   go_wp2_with fail
   go_meet
   case rel=>exact⟨d.out.1,HW.out.1.trans (d.out.2.mono HW.out.1.size),ah d.out.2 o5,HW.out.2.2.on d.out.2⟩
 case rest=>
 clear HW be o0 o1 o2 o3 o4 o5 o6;obtain⟨ad,hb,n5,bo⟩:=hcut;obtain⟨q,r,b8,-⟩:=az ad;rename_i s7;subst b8;have a8:=C4 wc (HH.out.1.below hb) (HH.out.2.1.below hb) (by omega);rw[av]at a8;have HR:Hid (wc.ownsRow w.heap.size 117 3 (M q a.length r) a.length (an a)/\Below w.heap.size w wc/\wc.cell? ⟨w.heap.size,5,N⟩=J (I K nn)/\cy wc (w.heap.size+1) (I K cd) (I K 0) (U ⟨#[]⟩) vi (U aa)):=⟨ad,hb,n5,bo⟩;clear ad hb n5 bo;go_wp2_with fail
 refine a8.mono ?_;rintro e j ⟨rfl,b1⟩;have bs:Below w.heap.size w j:=HR.out.2.1.trans (b1.mono HR.out.2.1.size);have n5:=ah b1 HR.out.2.2.1;have⟨q0,q1,q2,q3,q4⟩:=HR.out.2.2.2.on b1;have HX:Hid (j.ownsRow w.heap.size 117 3 (M q a.length r) a.length (an a)/\Below w.heap.size w j):=⟨HR.out.1.kept (aS b1 N) (none_or _),bs⟩;clear bs b1 HR a8;rcases bi with⟨hn,hE⟩|⟨p,rfl,ca,b0,⟨hl,hE⟩|⟨hl,h3,hE⟩|⟨hl,h3,hE⟩⟩
 .simp only[Prod.mk.injEq]at hE;obtain⟨rfl,rfl,rfl,rfl⟩:=hE;obtain⟨ia,ic,al,-⟩:=(HH.out.2.2.2.2 w PFr.refl).form;rw[lN]at al;subst al;have HC:Hid (∀m,Below j.drew.heap.size j.drew m->cy m (w.heap.size+1) (I K 7) (I K 0) (U ⟨#[]⟩) (M ia 0 ic) (U ⟨#[]⟩)/\Below w.heap.size w m):=λm y=>by
   have b:Below j.heap.size j m:=((bR _ j).drew).trans y;exact⟨cy.on ⟨q0,q1,q2,q3,q4⟩ b,HX.out.2.trans (b.mono HX.out.2.size)⟩
  have HS:=eM ⟨7,0,⟨#[]⟩⟩ ia ic;have HN:=eF 7;unfold aD jy at HS;unfold aD at HN;rcases hn with hn|hn
  .go_upto_region 4 with fail
   go_region_with (first
    |(go_at_call 30;refine(HN _).mono ?_;rintro e m ⟨rfl,y⟩;have⟨⟨d0,d1,d2,d3,d4⟩,A⟩:=HC.out m y;have d:Hid (Below w.heap.size w m):=A;clear y A)
    |(go_at_call 26;refine(HS _).mono ?_;rintro e x ⟨rfl,b3⟩))
   all_goals
    go_wp2_with fail
    go_ret;have i:=d.out.trans (b3.mono d.out.size);exact eu.mk (HH.out.1.below i) (HH.out.2.1.below i) (HH.out.2.2.2.1.mono (by omega)) (PFr.below af i)
  .have hn':¬nn<1:=by omega
   go_upto_region 4 with fail
   go_region_with (first
    |(go_at_call 30;refine(HN _).mono ?_;rintro e m ⟨rfl,y⟩;have⟨⟨d0,d1,d2,d3,d4⟩,A⟩:=HC.out m y;have d:Hid (Below w.heap.size w m):=A;clear y A)
    |(go_at_call 26;refine(HS _).mono ?_;rintro e x ⟨rfl,b3⟩))
   all_goals
    go_wp2_with fail
    go_ret;have i:=d.out.trans (b3.mono d.out.size);exact eu.mk (HH.out.1.below i) (HH.out.2.1.below i) (HH.out.2.2.2.1.mono (by omega)) (PFr.below af i)
 .simp only[Prod.mk.injEq]at hE;obtain⟨rfl,rfl,rfl,rfl⟩:=hE;have bk:¬(p:Int)<1:=by omega
  have bq:¬(20:Int)<p:=by omega
  have bp:(pg.length:Int)<=p:=by omega
  have HS:=mr vi (M q pg.length r) pg j (HH.out.2.2.2.2 j (PFr.below af HX.out.2)) (rC HX.out.1).o (by omega);go_wp2_with fail
  refine HS.mono ?_;rintro e m ⟨rfl,y⟩;have i:=HX.out.2.trans (y.mono HX.out.2.size);have d:Hid (Below w.heap.size w m):=i;have⟨d0,d1,d2,d3,d4⟩:=cy.on ⟨q0,q1,q2,q3,q4⟩ y;clear y i HS q0 q1 q2 q3 q4;go_wp2_with fail
  go_ret;exact eu.mk (HH.out.1.below d.out) (HH.out.2.1.below d.out) (HH.out.2.2.2.1.mono (by omega)) (PFr.below af d.out)
 .simp only[Prod.mk.injEq]at hE;obtain⟨rfl,rfl,rfl,rfl⟩:=hE;obtain⟨ia,ic,al,-⟩:=(HH.out.2.2.2.2 w PFr.refl).form;rw[lN]at al;subst al;have HC:Hid (∀m,Below j.drew.heap.size j.drew m->cy m (w.heap.size+1) (I K 8) (I K 0) (U ⟨#[]⟩) (M ia 0 ic) (U ⟨#[]⟩)/\Below w.heap.size w m):=λm y=>by
   have b:Below j.heap.size j m:=((bR _ j).drew).trans y;exact⟨cy.on ⟨q0,q1,q2,q3,q4⟩ b,HX.out.2.trans (b.mono HX.out.2.size)⟩
  have HS:=eM ⟨8,0,⟨#[]⟩⟩ ia ic;have HN:=eF 8;unfold aD jy at HS;unfold aD at HN;have bk:¬(p:Int)<1:=by omega
  have bq:¬(20:Int)<p:=by omega
  have bp:¬(a.length:Int)<=p:=by omega
  have b6:(3:Int)<=L'.opened.length:=by omega
  go_upto_region 9 with fail
  go_region_with (first
   |(go_at_call 30;refine(HN _).mono ?_;rintro e m ⟨rfl,y⟩;have⟨⟨d0,d1,d2,d3,d4⟩,A⟩:=HC.out m y;have d:Hid (Below w.heap.size w m):=A;clear y A)
   |(go_at_call 26;refine(HS _).mono ?_;rintro e x ⟨rfl,b3⟩))
  all_goals
   go_wp2_with fail
   go_ret;have i:=d.out.trans (b3.mono d.out.size);exact eu.mk (HH.out.1.below i) (HH.out.2.1.below i) (HH.out.2.2.2.1.mono (by omega)) (PFr.below af i)
 .simp only[Prod.mk.injEq]at hE;obtain⟨rfl,rfl,rfl,rfl⟩:=hE;have bk:¬(p:Int)<1:=by omega
  have bq:¬(20:Int)<p:=by omega
  have bp:¬(a.length:Int)<=p:=by omega
  have b6:¬(3:Int)<=L.opened.length:=by omega
  have⟨i0,b9,cc,cj,b4⟩:=info_parts Yq.infoRlst;obtain⟨va,vc,cp,-⟩:=az HH.out.2.1.rowL;subst cp;have P1:=HH.out.2.1.below HX.out.2;have c3:=P1.c3;have hBw:B<=j.heap.size:=by have:=HX.out.2.size;omega
  have a1:Hid (∀X:Obj,(j.alloc X).ownsRow B 134 4 (M va P.length vc) P.length (dU P)):=λX=>P1.rowL.alloc X
  have cm:(j.alloc (E #[M q a.length r,I K p,I K 0,C Z] 134)).cell? ⟨k,3,N⟩=J (M va P.length vc):=ah ((bR _ _).alloc (lR _) _) c3;have ac:Hid (∀x:Wj,(j.alloc (E #[M q a.length r,I K p,I K 0,C Z] 134)).grownBy x (Value.slice va P.length vc).ownBlock->x.cell? ⟨k,3,N⟩=J (M va P.length vc)/\x.frozen? ⟨k,3,N⟩=Z):=λx D=>by
   have P2:=P1.below ((bR _ _).alloc (lR _) (E #[M q a.length r,I K p,I K 0,C Z] 134));exact⟨D.cell P2.c3 (λe=>P2.kL e.symm),(bG D ⟨k,3,N⟩ P2.lt (λe=>P2.kL e.symm)).trans (P2.fz 3)⟩
  have a3:Hid (∀ (g c:Nat) (x:Wj),x.ownsRow B 134 4 (M (J ⟨g,0,N⟩) (P.length+1) c) (P.length+1) (dU P++[M q a.length r,I K p,I K 0,C Z])->(j.alloc (E #[M q a.length r,I K p,I K 0,C Z] 134)).grownBy x (Value.slice va P.length vc).ownBlock->((Value.slice va P.length vc).ownBlock=J g\/g=j.heap.size+1) ->
    ax B (x.setCell ⟨k,3,N⟩ (M (J ⟨g,0,N⟩) (P.length+1) c)) k sl R nx V/\aF B (x.setCell ⟨k,3,N⟩ (M (J ⟨g,0,N⟩) (P.length+1) c)) k (P++[⟨a,M q a.length r,p,0,Z⟩]) T (M (J ⟨g,0,N⟩) (P.length+1) c) vT/\PFr B k w (x.setCell ⟨k,3,N⟩ (M (J ⟨g,0,N⟩) (P.length+1) c)) /\
    cy (x.setCell ⟨k,3,N⟩ (M (J ⟨g,0,N⟩) (P.length+1) c)) (w.heap.size+1) (I K 0) (I K 0) (U ⟨#[]⟩) vi (U (dM (L.begun+1) 2))):=λg c x bd D a9=>by
   have ch:Below w.heap.size w (j.alloc (E #[M q a.length r,I K p,I K 0,C Z] 134)):=HX.out.2.alloc HX.out.2.size _;have a6:=bC j _ q0;simp only at a6;obtain⟨Y1,Y2,Y3⟩:=HH.out.2.1.pushL (l:=⟨a,M q a.length r,p,0,Z⟩) HH.out.1 HH.out.2.2.1 ch ((yd HX.out.1 (by omega)).alloc _) (λe=>by have:=(HX.out.1.lt k e).1;omega) bd D (by
    rcases a9 with h|h
    .exact .inl h
    .exact .inr (by have:=HX.out.2.size;omega))
   refine⟨Y1,Y2,Y3,cy.block ⟨q0,q1,q2,q3,q4⟩ ?_⟩;refine(bS _ _ _ _ (show w.heap.size+1≠k by omega)).trans ?_;refine(D.block (w.heap.size+1) (by simp;omega) (λe=>?_)).trans (bA _ _ _ a6);have:=(HH.out.2.1.rowL.lt _ e.symm).2;omega
  go_upto_region 10 with fail
  go_cut [17,29,60,76] (λ_ _ _ _ wx=>∃g c,ax B wx k sl R nx V/\aF B wx k (P++[⟨a,M q a.length r,p,0,Z⟩]) T (M (J ⟨g,0,N⟩) (P.length+1) c) vT/\PFr B k w wx/\cy wx (w.heap.size+1) (I K 0) (I K 0) (U ⟨#[]⟩) vi (U (dM (L.begun+1) 2)))
  case first=>
   go_region_law (refine step_append_lies _ rfl _ _ 52 rfl B 134 i0 _ 4 48 (Yq.u Tryz.underlying52) b9 cc cj b4 rfl (by decide) (M va P.length vc) P.length (dU P) (by simp[Act.eval]) (a1.out _) ⟨j.heap.size,0,N⟩ 1 1 [M q a.length r,I K p,I K 0,C Z] (by simp[Act.eval]) rfl (Ai j _ _ _ _ _) (by simp[Value.oneCell']) (by omega) (by simp only[maxLen];omega) (by omega) (by simp;omega) (j.heap.size+1) (by simp) ?_;intro g c x bd z a9 hlt3;have D:(j.alloc (E #[M q a.length r,I K p,I K 0,C Z] 134)).grownBy x (Value.slice va P.length vc).ownBlock:=⟨z.os,z.tape,z.output,z.size,z.block⟩;have⟨y0,y1⟩:=ac.out x D)
   all_goals
    go_wp2_with fail
    go_meet
    case rel=>exact⟨g,c,a3.out g c x bd D a9⟩
  case rest=>
  clear a3 ac a1 cm c3 q0 q1 q2 q3 q4;obtain⟨g,c,Y1,Y2,Y3,⟨q0,q1,q2,q3,q4⟩⟩:=hcut;have c3:=Y2.c3;have bb:P.length<(P++[(⟨a,M q a.length r,p,0,Z⟩:PlL)]).length:=by simp
  have hx:(P++[(⟨a,M q a.length r,p,0,Z⟩:PlL)])[P.length]'bb=⟨a,M q a.length r,p,0,Z⟩:=by simp
  have a4:dM (L.begun+1) 2=dM ((P.length+1:Nat):Int) ((1+1:Nat):Int):=by rw[HH.out.2.2.2.1.begun];rfl
  have G:=qq wc.drew (Y1.below (bR _ _).drew) (Y2.below (bR _ _).drew) bl ⟨by simp;omega,by omega⟩ ⟨b7.2.1,by omega⟩ P.length 0 bb (by rw[hx];simp only;omega) vi (dM (L.begun+1) 2) (λw' hf=>by
   rw[hx];simp only[zA,Nat.one_mul,Nat.zero_mul,List.drop_zero];exact HH.out.2.2.2.2 w' ((Y3.trans (PFr.below Y2.lt (bR _ _).drew)).trans hf)) (by
   rw[hx];simp only[zA,Nat.one_mul];rw[if_pos hl];exact⟨nG _ _,by rw[a4];exact HH.out.2.2.2.1.token P.length 1⟩)
  rw[hx]at G;simp only[zA,Nat.one_mul]at G;rw[if_pos hl,fE bb,hx]at G;have HY:Hid (PFr B k w wc.drew):=Y3.trans (PFr.below Y2.lt (bR _ _).drew);have a5:(P++[(⟨a,M q a.length r,p,0,Z⟩:PlL)]).set P.length ⟨a,M q a.length r,p,V+10,Z⟩=P++[⟨a,M q a.length r,p,V+10,Z⟩]:=by
   rw[List.set_append_right _ _ (lR _),Nat.sub_self];rfl
  simp only[a5]at G;have hP1:(P++[(⟨a,M q a.length r,p,0,Z⟩:PlL)]).length=P.length+1:=by simp
  clear hx a4 a5 Y1 Y2 Y3;unfold Ht at G;rw[show((0:Nat):Int)=0 from rfl,<-wrap_small (P.length:Int) (by omega) (by omega)]at G
  go_upto_region 11 with fail
  go_region_with (go_at_call 61;refine G.mono ?_;rintro e w4 ⟨rfl,cl,cr,Z1,Z2,Z3⟩;have HZ:Hid (ax B w4 k sl R nx V/\aF B w4 k (P++[⟨a,M q a.length r,p,V+10,Z⟩]) (T++[⟨dM (L.begun+1) 2,P.length,1⟩]) cl cr/\PFr B k w w4):=⟨Z1,Z2,HY.out.trans Z3⟩;clear Z1 Z2 Z3)
  all_goals
   go_wp2_with fail
   go_ret;exact eu.mk HZ.out.1 HZ.out.2.1 (cb.out _ p ⟨ca,b0⟩ hl) HZ.out.2.2
end
