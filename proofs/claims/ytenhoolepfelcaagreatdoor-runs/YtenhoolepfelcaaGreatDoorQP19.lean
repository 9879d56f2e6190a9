/- A part. -/
import Derived.Test.YtenhoolepfelcaaGreatDoorQP18
import Derived.Test.YtenhoolepfelcaaGreatDoorQP17
set_option maxHeartbeats 4000000
set_option maxRecDepth 100000
open Prod.mk renaming injEq->dT
open Go.Value renaming slice->ey
open Nat renaming one_mul->eV,lt_or_ge->eW
open Go renaming World->Wj,Value->Wx
namespace Go.Proofs.Qw
open _root_ renaming rfl->Q
open _root_ renaming Nat->H,List->S
open Option renaming none->N,some->J
open Bool renaming true->Y,false->Z
open Value renaming int->I,string->U,slice->M,pointer->O,bool->C,agg->Qa
open IntKind renaming i64->K
open Obj renaming cells->E
open Ending renaming returned->Nm
open Or renaming inl->Qc,inr->Qd
section
open Go.RowKit
theorem KD{b}{R}{o}{s}(a:Sim b R o)(m:Inv b s)(d:eH b)q:fQ q (R.map ny)=bV q (bL b.f q.p.data.toList)/\(bV q (bL b.f q.p.data.toList)).length<=200:=by
 refine⟨EY a q (λk=>?_) (λk l=>?_),?_⟩
 .rw [List.pairwise_iff_getElem];intro i j n e c;have:=m.sorted k i j c e;simpa[MJ,n,e]using this
 .rcases eW 40 k.length with h|h
  .exact absurd (d.long k h) l
  .exact h
 .have h1:(bV q (bL b.f q.p.data.toList)).length<=fG (bL b.f q.p.data.toList):=ml q _ (fg _ _ _);have h2:=yi q.p.data.toList 41 b.f;have h3:fG (bL b.f q.p.data.toList)=tot (41-q.p.data.toList.length) λk=>b.f (q.p.data.toList++k):=pS _ _ _ _
  have:=d.cnt;have:=d.le;omega
theorem Ay{w:Wj}{s b n a:H}{e:TypeId}{v:Wx}{xs:S Wx}(h:w.ownsRow b e a v n xs)(l:s<=b):w.ownsRow s e a v n xs:=by
 obtain⟨f,i|⟨g,d,c,rfl,k,j⟩⟩:=h
 .exact ⟨f,Qc i⟩
 .exact ⟨f,Qd ⟨g,d,c,Q,lT l k,j⟩⟩
def eU(B k:H)(sl:Wx)(R:S bg)(nx tm:Int)(L':Lg)(s:H)(w:Wj)(e:Ending)(w':Wj):Prop:=
 e=Nm (C Y)/\∃P' T' a b,aA B w' k sl R nx tm/\aD B w' k P' T' a b/\eY L' P' T' tm (s+1)/\PFr B k (RwB sl R) w w'
theorem eU.mk{B k}{b}{R}{e a}{L'}{s}{w w'}{P'}{T'}{d c}(i:aA B w' k b R e a)(f:aD B w' k P' T' d c)(j:eY L' P' T' a (s+1))(h:PFr B k (RwB b R) w w'):eU B k b R e a L' s w (Nm (C Y)) w':=⟨Q,P',T',d,c,i,f,j,h⟩
theorem r6(w:Wj)(a b c d:Wx)(T:TypeId):∀j u,[a,b,c,d][j]?=J u->(w.alloc (E #[a,b,c,d] T)).cell? ((⟨w.heap.size,0,N⟩:Addr).add j)=J u:=by
 intro j u hj;rw[Addr.add_lit,zA,cA (w:=w) _ _ w.heap.size j Q]
 grind
theorem yU{B k s}{sl vL vT}{R}{nx tm}{P}{T}{st}{L}w(c:aA B w k sl R nx tm)(hP:aD B w k P T vL vT)(bk:B<=k)(a:Sim st R nx)(SL:eY L P T tm s)(hV:Inv st s)(hT:eH st)(hs:s<2199023255300)o vs(cj:(o.kind==6)=!vs)(bw:(o.kind==7)=vs)(hd:o.eQ.size<=140737488351232)
  (L':Lg) (pg:S ItD) (ab:ByteArray) (cd:Int) (hB:fw L st.f ⟨vs,o.key,o.eQ,o.past⟩ o.n=(L',pg,ab,cd)) (vi:Wx) (hI:∀w',PFr B k (RwB sl R) w w'->g8 w' vi pg):
  Calls Yq.prog 28 #[O (J ⟨k,0,N⟩),aJ o,Qa #[I K cd,I K 0,U ⟨#[]⟩,vi,U ab]] w (eU B k sl R nx tm L' s w):=by
 have⟨ap,a1⟩:=KD a hV hT ⟨vs,o.key,o.eQ,o.past⟩;have ar:=SL.count;rw[wD]at ar;have b6:=SL.time;have hfew:=SL.OI;have ai:=hP.lt;have hO:=hB;have be:=B3 L st.f ⟨vs,o.key,o.eQ,o.past⟩ o.n _ Q (lT a1 (by omega));have bd:Hid (∀W,Below w.heap.size w W->Calls Yq.prog 58 #[O (J ⟨k,0,N⟩),aJ o] W λe w'=>∃v,e=Nm v/\w'.ownsRow W.heap.size 117 3 v (bV ⟨vs,o.key,o.eQ,o.past⟩ (bL st.f o.key.data.toList)).length (aq (bV ⟨vs,o.key,o.eQ,o.past⟩ (bL st.f o.key.data.toList)))/\Below W.heap.size W w'):=λW hb=>by
  have:=Cf B k sl R nx tm o vs cj bw W (c.below hb) a.MO a.full (λe he=>?_) hd
  .rw [ap]at this;exact this
  .have h1:=a.here e he;rcases eW 40 e.key.data.toList.length with h|h
   .exact absurd ((hT.long _ h).s.t h1).s (a.full e he)
   .simpa using h
 have ca:Hid (∀v,∀p:H,1<=p/\p<=20->p<(bV ⟨vs,o.key,o.eQ,o.past⟩ (bL st.f o.key.data.toList)).length->eY ⟨L.opened++[iW L st.f ⟨vs,o.key,o.eQ,o.past⟩ p],L.begun+1,lE (eR (L.begun+1) 2) (L.begun+1,2) L.told,L.tm⟩ (P++[⟨bV ⟨vs,o.key,o.eQ,o.past⟩ (bL st.f o.key.data.toList),v,p,tm+10,Z⟩]) (T++[⟨eR (L.begun+1) 2,P.length,1⟩]) tm (s+1)):=λv p hp bv=>SL.push st.f ⟨vs,o.key,o.eQ,o.past⟩ p _ v Q a1 hp bv
 have HH:Hid (aA B w k sl R nx tm/\aD B w k P T vL vT/\B<=k/\eY L P T tm s/\∀w',PFr B k (RwB sl R) w w'->g8 w' vi pg):=⟨c,hP,bk,SL,hI⟩;have b4:=be;rw[hB]at be;have cr:Hid (fw L st.f ⟨vs,o.key,o.eQ,o.past⟩ o.n=(L',pg,ab,cd)):=hB;clear c hP a SL hV hT ap hI hO b4 hB;obtain⟨a6,al,av,eQ,ac,nn,bt⟩:=o;simp only at *;generalize bV ⟨vs,al,eQ,ac⟩ (bL st.f al.data.toList)=Mt at *;unfold aJ at bd ⊢;go_enter (Yq.nq Tryz.func28),Tryz.ntmps28
 go_upto_region 1 with fail
 have⟨W,hW,z⟩:=jQ w a6 al av eQ ac nn bt (I K cd) (I K 0) (U ⟨#[]⟩) vi (U ab);rw[hW];have HW:Hid _:=z;have o0:W.cell? ⟨w.heap.size,0,N⟩=J (I K a6):=z.2.1 0;have o1:W.cell? ⟨w.heap.size,1,N⟩=J (U al):=z.2.1 1;have o2:W.cell? ⟨w.heap.size,2,N⟩=J (U av):=z.2.1 2;have o3:W.cell? ⟨w.heap.size,3,N⟩=J (U eQ):=z.2.1 3;have o4:W.cell? ⟨w.heap.size,4,N⟩=J (U ac):=z.2.1 4;have o5:W.cell? ⟨w.heap.size,5,N⟩=J (I K nn):=z.2.1 5;have o6:W.cell? ⟨w.heap.size,6,N⟩=J (I K bt):=z.2.1 6;clear hW z
 go_cut [7] (λs7 wx=>wx.ownsRow w.heap.size 117 3 s7 Mt.length (aq Mt)/\Below w.heap.size w wx/\wx.cell? ⟨w.heap.size,5,N⟩=J (I K nn)/\cz wx (w.heap.size+1) (I K cd) (I K 0) (U ⟨#[]⟩) vi (U ab))
 case first=>
  have bl:=bd.o _ HW.o.1.drew
  go_region_with (go_at_call 58;refine bl.m ?_;rintro e r ⟨v,rfl,bs,D⟩;have i:Hid (r.ownsRow w.heap.size 117 3 v Mt.length (aq Mt)/\Below W.heap.size W r):=⟨Ay bs HW.o.1.size,((bR _ W).drew).t D⟩;clear bs D)
  all_goals
   go_wp2_with fail
   go_meet
   case rel=>exact⟨i.o.1,HW.o.1.t (i.o.2.m HW.o.1.size),ag i.o.2 o5,HW.o.2.2.on i.o.2⟩
 case rest=>
 clear HW bd o0 o1 o2 o3 o4 o5 o6;obtain⟨af,hb,n5,bn⟩:=hcut;obtain⟨x,y,b7,-⟩:=az af;rename_i s7;subst b7;have a7:=E7 wc (HH.o.1.below hb) (HH.o.2.1.below hb) (by omega);rw[ar]at a7;have HR:Hid (wc.ownsRow w.heap.size 117 3 (M x Mt.length y) Mt.length (aq Mt)/\Below w.heap.size w wc/\wc.cell? ⟨w.heap.size,5,N⟩=J (I K nn)/\cz wc (w.heap.size+1) (I K cd) (I K 0) (U ⟨#[]⟩) vi (U ab)):=⟨af,hb,n5,bn⟩;clear af hb n5 bn;go_wp2_with fail
 refine a7.m ?_;rintro e q ⟨rfl,b1⟩;have bq:Below w.heap.size w q:=HR.o.2.1.t (b1.m HR.o.2.1.size);have n5:=ag b1 HR.o.2.2.1;have⟨q0,q1,q2,q3,q4⟩:=HR.o.2.2.2.on b1;have HX:Hid (q.ownsRow w.heap.size 117 3 (M x Mt.length y) Mt.length (aq Mt)/\Below w.heap.size w q):=⟨HR.o.1.kept (aO b1 N) (dX _),bq⟩;clear bq b1 HR a7;rcases be with⟨hn,hE⟩|⟨p,rfl,b9,bx,⟨hl,hE⟩|⟨hl,h3,hE⟩|⟨hl,h3,hE⟩⟩
 .simp only[dT]at hE;obtain⟨rfl,rfl,rfl,rfl⟩:=hE;obtain⟨ia,ic,aj,-⟩:=(HH.o.2.2.2.2 w PFr.refl).form;rw[lN]at aj;subst aj;have HC:Hid (∀r,Below q.drew.heap.size q.drew r->cz r (w.heap.size+1) (I K 7) (I K 0) (U ⟨#[]⟩) (M ia 0 ic) (U ⟨#[]⟩)/\Below w.heap.size w r):=λr D=>by
   have b:Below q.heap.size q r:=((bR _ q).drew).t D;exact⟨cz.on ⟨q0,q1,q2,q3,q4⟩ b,HX.o.2.t (b.m HX.o.2.size)⟩
  have HS:=em ⟨7,0,⟨#[]⟩⟩ ia ic;have HN:=fk 7;unfold aG gC at HS;unfold aG at HN;rcases hn with hn|hn
  .go_upto_region 4 with fail
   go_region_with (first
    |(go_at_call 30;refine(HN _).m ?_;rintro e r ⟨rfl,D⟩;have⟨⟨d0,d1,d2,d3,d4⟩,G⟩:=HC.o r D;have i:Hid (Below w.heap.size w r):=G;clear D G)
    |(go_at_call 26;refine(HS _).m ?_;rintro e A ⟨rfl,b3⟩))
   all_goals
    go_wp2_with fail
    go_ret;have j:=i.o.t (b3.m i.o.size);exact eU.mk (HH.o.1.below j) (HH.o.2.1.below j) (HH.o.2.2.2.1.m (by omega)) (PFr.below ai j)
  .have hn':¬nn<1:=by omega
   go_upto_region 4 with fail
   go_region_with (first
    |(go_at_call 30;refine(HN _).m ?_;rintro e r ⟨rfl,D⟩;have⟨⟨d0,d1,d2,d3,d4⟩,G⟩:=HC.o r D;have i:Hid (Below w.heap.size w r):=G;clear D G)
    |(go_at_call 26;refine(HS _).m ?_;rintro e A ⟨rfl,b3⟩))
   all_goals
    go_wp2_with fail
    go_ret;have j:=i.o.t (b3.m i.o.size);exact eU.mk (HH.o.1.below j) (HH.o.2.1.below j) (HH.o.2.2.2.1.m (by omega)) (PFr.below ai j)
 .simp only[dT]at hE;obtain⟨rfl,rfl,rfl,rfl⟩:=hE;have bi:¬(p:Int)<1:=by omega
  have bp:¬(20:Int)<p:=by omega
  have bo:(pg.length:Int)<=p:=by omega
  have HS:=nv vi (M x pg.length y) pg q (HH.o.2.2.2.2 q (PFr.below ai HX.o.2)) (tT HX.o.1).o (by omega);go_wp2_with fail
  refine HS.m ?_;rintro e r ⟨rfl,D⟩;have j:=HX.o.2.t (D.m HX.o.2.size);have i:Hid (Below w.heap.size w r):=j;have⟨d0,d1,d2,d3,d4⟩:=cz.on ⟨q0,q1,q2,q3,q4⟩ D;clear D j HS q0 q1 q2 q3 q4;go_wp2_with fail
  go_ret;exact eU.mk (HH.o.1.below i.o) (HH.o.2.1.below i.o) (HH.o.2.2.2.1.m (by omega)) (PFr.below ai i.o)
 .simp only[dT]at hE;obtain⟨rfl,rfl,rfl,rfl⟩:=hE;obtain⟨ia,ic,aj,-⟩:=(HH.o.2.2.2.2 w PFr.refl).form;rw[lN]at aj;subst aj;have HC:Hid (∀r,Below q.drew.heap.size q.drew r->cz r (w.heap.size+1) (I K 8) (I K 0) (U ⟨#[]⟩) (M ia 0 ic) (U ⟨#[]⟩)/\Below w.heap.size w r):=λr D=>by
   have b:Below q.heap.size q r:=((bR _ q).drew).t D;exact⟨cz.on ⟨q0,q1,q2,q3,q4⟩ b,HX.o.2.t (b.m HX.o.2.size)⟩
  have HS:=em ⟨8,0,⟨#[]⟩⟩ ia ic;have HN:=fk 8;unfold aG gC at HS;unfold aG at HN;have bi:¬(p:Int)<1:=by omega
  have bp:¬(20:Int)<p:=by omega
  have bo:¬(Mt.length:Int)<=p:=by omega
  have b5:(3:Int)<=L'.opened.length:=by omega
  go_upto_region 9 with fail
  go_region_with (first
   |(go_at_call 30;refine(HN _).m ?_;rintro e r ⟨rfl,D⟩;have⟨⟨d0,d1,d2,d3,d4⟩,G⟩:=HC.o r D;have i:Hid (Below w.heap.size w r):=G;clear D G)
   |(go_at_call 26;refine(HS _).m ?_;rintro e A ⟨rfl,b3⟩))
  all_goals
   go_wp2_with fail
   go_ret;have j:=i.o.t (b3.m i.o.size);exact eU.mk (HH.o.1.below j) (HH.o.2.1.below j) (HH.o.2.2.2.1.m (by omega)) (PFr.below ai j)
 .simp only[dT]at hE;obtain⟨rfl,rfl,rfl,rfl⟩:=hE;have bi:¬(p:Int)<1:=by omega
  have bp:¬(20:Int)<p:=by omega
  have bo:¬(Mt.length:Int)<=p:=by omega
  have b5:¬(3:Int)<=L.opened.length:=by omega
  have⟨i0,b8,cb,ch,b0⟩:=info_parts Yq.Ou;obtain⟨va,vc,cm,-⟩:=az HH.o.2.1.MR;subst cm;have P1:=HH.o.2.1.below HX.o.2;have c3:=P1.c3;have hBw:B<=q.heap.size:=by have:=HX.o.2.size;omega
  have a0:Hid (∀X:Obj,(q.alloc X).ownsRow B 134 4 (M va P.length vc) P.length (dU P)):=λX=>P1.MR.alloc X
  have cl:(q.alloc (E #[M x Mt.length y,I K p,I K 0,C Z] 134)).cell? ⟨k,3,N⟩=J (M va P.length vc):=ag ((bR _ _).alloc (lR _) _) c3;have ad:Hid (∀A:Wj,(q.alloc (E #[M x Mt.length y,I K p,I K 0,C Z] 134)).grownBy A (ey va P.length vc).ownBlock->A.cell? ⟨k,3,N⟩=J (M va P.length vc)/\A.frozen? ⟨k,3,N⟩=Z):=λA V=>by
   have P2:=P1.below ((bR _ _).alloc (lR _) (E #[M x Mt.length y,I K p,I K 0,C Z] 134));exact⟨V.cell P2.c3 (λe=>P2.kL e.s),(bj V ⟨k,3,N⟩ P2.lt (λe=>P2.kL e.s)).t (P2.fz 3)⟩
  have a2:Hid (∀ (g d:H) (A:Wj),A.ownsRow B 134 4 (M (J ⟨g,0,N⟩) (P.length+1) d) (P.length+1) (dU P++[M x Mt.length y,I K p,I K 0,C Z])->(q.alloc (E #[M x Mt.length y,I K p,I K 0,C Z] 134)).grownBy A (ey va P.length vc).ownBlock->((ey va P.length vc).ownBlock=J g\/g=q.heap.size+1) ->
    aA B (A.setCell ⟨k,3,N⟩ (M (J ⟨g,0,N⟩) (P.length+1) d)) k sl R nx tm/\aD B (A.setCell ⟨k,3,N⟩ (M (J ⟨g,0,N⟩) (P.length+1) d)) k (P++[⟨Mt,M x Mt.length y,p,0,Z⟩]) T (M (J ⟨g,0,N⟩) (P.length+1) d) vT/\PFr B k (RwB sl R) w (A.setCell ⟨k,3,N⟩ (M (J ⟨g,0,N⟩) (P.length+1) d)) /\
    cz (A.setCell ⟨k,3,N⟩ (M (J ⟨g,0,N⟩) (P.length+1) d)) (w.heap.size+1) (I K 0) (I K 0) (U ⟨#[]⟩) vi (U (eR (L.begun+1) 2))):=λg d A bb V a8=>by
   have cc:Below w.heap.size w (q.alloc (E #[M x Mt.length y,I K p,I K 0,C Z] 134)):=HX.o.2.alloc HX.o.2.size _;have a5:=bC q _ q0;simp only at a5;obtain⟨Y1,Y2,Y3⟩:=HH.o.2.1.PD (l:=⟨Mt,M x Mt.length y,p,0,Z⟩) HH.o.1 HH.o.2.2.1 cc ((Ay HX.o.1 (by omega)).alloc _) (λe=>by have:=(HX.o.1.lt k e).1;omega) bb V (by
    rcases a8 with h|h
    .exact Qc h
    .exact Qd (by have:=HX.o.2.size;omega))
   refine⟨Y1,Y2,Y3,cz.block ⟨q0,q1,q2,q3,q4⟩ ?_⟩;refine(bS _ _ _ _ (show w.heap.size+1≠k by omega)).t ?_;refine(V.block (w.heap.size+1) (by simp;omega) (λe=>?_)).t (bA _ _ _ a5);have:=(HH.o.2.1.MR.lt _ e.s).2;omega
  go_upto_region 10 with fail
  go_cut [17,29,60,76] (λ_ _ _ _ wx=>∃g d,aA B wx k sl R nx tm/\aD B wx k (P++[⟨Mt,M x Mt.length y,p,0,Z⟩]) T (M (J ⟨g,0,N⟩) (P.length+1) d) vT/\PFr B k (RwB sl R) w wx/\cz wx (w.heap.size+1) (I K 0) (I K 0) (U ⟨#[]⟩) vi (U (eR (L.begun+1) 2)))
  case first=>
   go_region_law (refine step_append_lies _ Q _ _ 52 Q B 134 i0 _ 4 48 (Yq.u Tryz.underlying52) b8 cb ch b0 Q (by decide) (M va P.length vc) P.length (dU P) (by simp[Act.eval]) (a0.o _) ⟨q.heap.size,0,N⟩ 1 1 [M x Mt.length y,I K p,I K 0,C Z] (by simp[Act.eval]) Q (r6 q _ _ _ _ _) (by simp[Value.oneCell']) (by omega) (by simp only[maxLen];omega) (by omega) (by simp;omega) (q.heap.size+1) (by simp) ?_;intro g d A bb F a8 hlt3;have V:(q.alloc (E #[M x Mt.length y,I K p,I K 0,C Z] 134)).grownBy A (ey va P.length vc).ownBlock:=⟨F.os,F.tape,F.output,F.size,F.block⟩;have⟨y0,y1⟩:=ad.o A V)
   all_goals
    go_wp2_with fail
    go_meet
    case rel=>exact⟨g,d,a2.o g d A bb V a8⟩
  case rest=>
  clear a2 ad a0 cl c3 q0 q1 q2 q3 q4;obtain⟨g,d,Y1,Y2,Y3,⟨q0,q1,q2,q3,q4⟩⟩:=hcut;have c3:=Y2.c3;have a9:P.length<(P++[(⟨Mt,M x Mt.length y,p,0,Z⟩:PlL)]).length:=by simp
  have hx:(P++[(⟨Mt,M x Mt.length y,p,0,Z⟩:PlL)])[P.length]'a9=⟨Mt,M x Mt.length y,p,0,Z⟩:=by simp
  have a3:eR (L.begun+1) 2=eR ((P.length+1:H):Int) ((1+1:H):Int):=by rw[HH.o.2.2.2.1.begun];rfl
  have aa:=rY wc.drew (Y1.below (bR _ _).drew) (Y2.below (bR _ _).drew) bk ⟨by simp;omega,by omega⟩ ⟨b6.2.1,by omega⟩ P.length 0 a9 (by rw[hx];simp only;omega) vi (eR (L.begun+1) 2) (λw' hf=>by
   rw[hx];simp only[zA,eV,Nat.zero_mul,List.drop_zero];exact HH.o.2.2.2.2 w' ((Y3.t (PFr.below Y2.lt (bR _ _).drew)).t hf)) (by
   rw[hx];simp only[zA,eV];rw[if_pos hl];exact⟨oN _ _,by rw[a3];exact HH.o.2.2.2.1.token P.length 1⟩)
  rw[hx]at aa;simp only[zA,eV]at aa;rw[if_pos hl,jP a9,hx]at aa;have HY:Hid (PFr B k (RwB sl R) w wc.drew):=Y3.t (PFr.below Y2.lt (bR _ _).drew);have a4:(P++[(⟨Mt,M x Mt.length y,p,0,Z⟩:PlL)]).set P.length ⟨Mt,M x Mt.length y,p,tm+10,Z⟩=P++[⟨Mt,M x Mt.length y,p,tm+10,Z⟩]:=by
   rw[List.set_append_right _ _ (lR _),Nat.sub_self];rfl
  simp only[a4]at aa;have hP1:(P++[(⟨Mt,M x Mt.length y,p,0,Z⟩:PlL)]).length=P.length+1:=by simp
  clear hx a3 a4 Y1 Y2 Y3;unfold KC at aa;rw[show((0:H):Int)=0 from Q,<-wrap_small (P.length:Int) (by omega) (by omega)]at aa
  go_upto_region 11 with fail
  go_region_with (go_at_call 61;refine aa.m ?_;rintro e w4 ⟨rfl,ck,cp,Z1,Z2,Z3⟩;have HZ:Hid (aA B w4 k sl R nx tm/\aD B w4 k (P++[⟨Mt,M x Mt.length y,p,tm+10,Z⟩]) (T++[⟨eR (L.begun+1) 2,P.length,1⟩]) ck cp/\PFr B k (RwB sl R) w w4):=⟨Z1,Z2,HY.o.t Z3⟩;clear Z1 Z2 Z3)
  all_goals
   go_wp2_with fail
   go_ret;exact eU.mk HZ.o.1 HZ.o.2.1 (ca.o _ p ⟨b9,bx⟩ hl) HZ.o.2.2
end
