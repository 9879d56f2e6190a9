/- A part. -/
import Derived.Test.YteidaiooccmmmaaGreatDoorQP21
set_option maxHeartbeats 4000000
set_option maxRecDepth 100000
open Go renaming Value->Wx
namespace Go.Proofs.Qw
open Option renaming none->N,some->J
open Bool renaming true->Y,false->Z
open Value renaming int->I,string->U,slice->M,pointer->O,bool->C
open IntKind renaming i64->K
open Obj renaming cells->E
variable {a:List ByteArray}
open Tryz
section
open Go.RowKit
theorem C8{B k s:Nat}{sl vL vT vA:Wx}{R:List bD}{nx tm:Int}{P:List PlL}{T:List PlT}{L:Lg}(w:World)(H:ax B w k sl R nx tm)(hP:aF B w k P T vL vT)(hK:rN w k vA a)(b5:B<=k)(SL:eU L P T tm s)(hs:s<2199023255300)(_:a.length<=s)(o:OpD)
  (L':Lg) (pg:List ItD) (u:ByteArray) (cd:Int) (hN:dO L (dQ a o.src o.body)=(L',pg,u,cd)) (vi:Wx) (hI:∀w',PFr B k w w'->gi w' vi pg):
  Calls Yq.prog 29 #[O (J ⟨k,0,N⟩),aT o,.agg #[I K cd,I K 0,U ⟨#[]⟩,vi,U u]] w (eu B k sl R nx tm L' s w):=by
 obtain⟨bp,cl,r,a7,bs,nn,c⟩:=o;simp only at hN ⊢;have a0:=hP.lt;have ch:=SL.time;have hfew:=SL.few;have⟨aa,ac,ca,bv⟩:=hK.form;subst ca;have c7:=hK.c7;obtain⟨va,vc,b6,-⟩:=az hP.rowT;subst b6;have c4:=hP.c4;have HH:Hid (ax B w k sl R nx tm/\aF B w k P T vL (M va T.length vc)/\B<=k/\eU L P T tm s/\∀w',PFr B k w w'->gi w' vi pg):=⟨H,hP,b5,SL,hI⟩;have a5:Hid (a≠[]->∃g,aa=J ⟨g,0,N⟩/\g<w.heap.size/\∀i (hi:i<a.length),w.cell? ⟨g,i*5+4,N⟩=J (U a[i])):=bv;obtain⟨d,a2⟩:∃d,dQ a c r=d:=⟨_,rfl⟩;have a6:Hid (dQ a c r=d):=a2;rw[a2]at hN;have bq:Hid (dO L d=(L',pg,u,cd)):=hN;clear H hP SL hI hK bv a2 hN;unfold aT;go_enter (Yq.nq func29),ntmps29
 go_upto_region 2 with fail
 have⟨W,hW,bd⟩:=oS w bp cl r a7 bs nn c (I K cd) (I K 0) (U ⟨#[]⟩) vi (U u);rw[hW];have HW:Hid _:=bd;have n6:W.cell? ⟨w.heap.size,6,N⟩=J (I K c):=bd.2.1 6;clear hW bd;have bi:=ah HW.out.1 c7
 go_cut [37] (λs37 wx=>s37=C (decide (0<=c/\c<a.length) && !decide (a[c.toNat]?.getD ⟨#[]⟩=⟨#[]⟩))/\Below W.heap.size W wx)
 case first=>
  by_cases Q:0<=c
  .by_cases h2:c<a.length
   .obtain ⟨j,hj⟩:∃j:Nat,c=(j:Int):=⟨c.toNat,by omega⟩;subst hj;have n:j<a.length:=by omega
    obtain⟨g,rfl,hg,hc⟩:=a5.out (by intro e;rw[e]at n;simp at n);have cj:=ah HW.out.1 (hc j n);have bo:Hid (a[((j:Nat):Int).toNat]?.getD ⟨#[]⟩=a[j]):=by
     show _=_;rw[Int.toNat_natCast,eL n];rfl
    have HD:Hid (decide ((0:Int)<=(j:Int)/\(j:Int)<a.length)=Y):=decide_eq_true (by omega);clear hc;generalize a[j]=tj at *;by_cases he:tj=⟨#[]⟩
    .subst he
     go_quiet (fail)
     go_wp2_with fail
     go_meet
     case rel=>
      refine⟨congrArg Value.bool ?_,below_drewN (bR _ _) _⟩;rw[HD.out,bo.out];simp
    .have hte:=jt he;have cc:Hid (decide (tj=⟨#[]⟩)=Z):=decide_eq_false he
     go_quiet (fail)
     go_wp2_with fail
     go_meet
     case rel=>
      refine⟨congrArg Value.bool ?_,below_drewN (bR _ _) _⟩;rw[HD.out,bo.out,cc.out];rfl
   .have h2':decide (c<(a.length:Int))=false:=by simp;omega
    have HD:Hid (decide ((0:Int)<=c/\c<a.length)=Z):=decide_eq_false (by omega)
    go_quiet (fail)
    go_wp2_with fail
    go_meet
    case rel=>
     refine⟨congrArg Value.bool ?_,below_drewN (bR _ _) _⟩;rw[HD.out];rfl
  .have h1':decide (0<=c)=false:=by simp;omega
   have HD:Hid (decide ((0:Int)<=c/\c<a.length)=Z):=decide_eq_false (by omega)
   go_quiet (fail)
   go_wp2_with fail
   go_meet
   case rel=>
    refine⟨congrArg Value.bool ?_,below_drewN (bR _ _) _⟩;rw[HD.out];rfl
 case rest=>
 obtain⟨rfl,p⟩:=hcut;have F:Hid (Below W.heap.size W wc):=p;have ck:=ah p n6;have b9:=ah p bi;have bt:Hid (Below w.heap.size w wc):=HW.out.1.trans (p.mono HW.out.1.size);clear p
 go_upto_if 37 with fail
 go_cut [7] (λs7 wx=>s7=U d/\Below W.heap.size W wx)
 case first=>
  by_cases hc:(0<=c/\c<a.length)/\¬a[c.toNat]?.getD ⟨#[]⟩=⟨#[]⟩
  .have S:(decide (0<=c/\c<a.length) && !decide (a[c.toNat]?.getD ⟨#[]⟩=⟨#[]⟩))=true:=by rw[decide_eq_true hc.1,decide_eq_false hc.2];rfl
   have ht:d=a[c.toNat]?.getD ⟨#[]⟩:=by rw[<-a6.out,dQ,if_pos hc.1,if_neg hc.2]
   obtain⟨j,hj⟩:∃j:Nat,c=(j:Int):=⟨c.toNat,by omega⟩;subst hj;have n:j<a.length:=by omega
   obtain⟨g,rfl,hg,bx⟩:=a5.out (by intro e;rw[e]at n;simp at n);have cj:=ah bt.out (bx j n);have hjI:(j:Int)<a.length:=by omega
   have a9:Hid (d=a[j]):=by
    show d=_;rw[ht,Int.toNat_natCast,eL n];rfl
   rw[S];clear bx S ht hc;generalize a[j]=tj at *;go_wp2_with fail
   go_quiet (fail)
   go_wp2_with fail
   go_meet
   case rel=>exact⟨by rw[a9.out],below_drewN F.out _⟩
  .have S:(decide (0<=c/\c<a.length) && !decide (a[c.toNat]?.getD ⟨#[]⟩=⟨#[]⟩))=false:=by
    by_cases Q:0<=c/\c<a.length
    .have h2:a[c.toNat]?.getD ⟨#[]⟩=⟨#[]⟩:=Classical.byContradiction λh=>hc ⟨Q,h⟩
     rw[h2];simp
    .rw [decide_eq_false Q];rfl
   have a9:Hid (d=r):=by
    show d=r;rw[<-a6.out,dQ];by_cases Q:0<=c/\c<a.length
    .have h2:a[c.toNat]?.getD ⟨#[]⟩=⟨#[]⟩:=Classical.byContradiction λh=>hc ⟨Q,h⟩
     rw[if_pos Q,if_pos h2]
    .rw [if_neg Q]
   rw[S];clear S hc;go_wp2_with fail
   go_meet
   case rel=>exact⟨by rw[a9.out],F.out⟩
 case rest=>
 clear n6 ck c7 bi b9 a5 F bt a6;obtain⟨rfl,p⟩:=hcut;have F:Hid (Below w.heap.size w wc/\cy wc (w.heap.size+1) (I K cd) (I K 0) (U ⟨#[]⟩) vi (U u)):=⟨HW.out.1.trans (p.mono HW.out.1.size),HW.out.2.2.on p⟩;clear p HW;go_wp2_with fail
 go_loopw [8] (λs8 wr=>∃i:Nat,i<=T.length/\s8=I K i/\(∀j (h:j<T.length),j<i->T[j].text≠d)/\Below wc.heap.size wc wr) (λs8 _=>T.length-(intOf s8).toNat)
 case atStart=>exact⟨0,Nat.zero_le _,rfl,λj h hj=>absurd hj (by omega),bR _ _⟩
 case round=>
  obtain⟨i,hin,rfl,av,S⟩:=hrel;have HB:Hid (Below w.heap.size w wr):=F.out.1.trans (S.mono F.out.1.size);have D:Hid (cy wr (w.heap.size+1) (I K cd) (I K 0) (U ⟨#[]⟩) vi (U u)):=F.out.2.on S;have bl:Hid (∀j (h:j<T.length),j<i->T[j].text≠d):=av;have bk:=ah HB.out c4;by_cases a4:i<T.length
  .have hii:(i:Int)<(T.length:Int):=by omega
   obtain⟨g,cap,he,-,-,e0,e1,e2⟩:=FY HH.out.2.1.rowT i a4;cases he;replace e0:=ah HB.out e0;replace e1:=ah HB.out e1;replace e2:=ah HB.out e2;by_cases ht:T[i].text=d
   .have al:=List.getElem_mem a4;obtain⟨-,l,hl,bb⟩:=HH.out.2.2.2.1.toks _ al;have a8:=HH.out.2.2.2.1.next al hl
    have be:=(sL hl).1;have y:=(sL hl).2;have ar:=HH.out.2.2.2.1.lists l (List.mem_of_getElem? hl);have a3:=HH.out.2.2.2.1.token T[i].ls (T[i].pg+1);rw[ht,bq.out]at a8;rw[ht]at e0;have hs:=ur d;have f:=λ(W':World) (z:Below w.heap.size w W')=>j5 W' (HH.out.1.below z) (HH.out.2.1.below z) T[i].ls be
    rw[y]at f;have V:Hid (∀X:Obj,Below w.heap.size w (wr.alloc X)/\Below wr.heap.size wr (wr.alloc X)):=λX=>⟨HB.out.alloc HB.out.size _,(bR _ _).alloc (lR _) _⟩
    generalize T[i]=t at *;obtain⟨tt,tl,tp⟩:=t;simp only at e0 e1 e2 hl bb a8 be y a3 f;clear ht av S al;rcases a8 with⟨ho,hE⟩|⟨ho,L2,hE,ap⟩
    .simp only[Prod.mk.injEq]at hE;obtain⟨rfl,rfl,rfl,rfl⟩:=hE;rw[ho]at f;have q:=f _ (V.out (E #[U d,I K tl,I K tp] 137)).1;clear f;go_wp2_with fail
     refine q.mono ?_;rintro e w1 ⟨rfl,b1⟩;have G:Below wr.heap.size wr w1:=(V.out (E #[U d,I K tl,I K tp] 137)).2.trans (b1.mono (by simp));replace D:Hid (cy w1 (w.heap.size+1) (I K 10) (I K 0) (U ⟨#[]⟩) vi (U ⟨#[]⟩)):=D.out.on G;replace HB:Hid (Below w.heap.size w w1):=HB.out.trans (G.mono HB.out.size);clear b1 G q V e0 e1 e2 bk;obtain⟨ia,ic,ab,-⟩:=(HH.out.2.2.2.2 w PFr.refl).form;rw[lN]at ab;subst ab;have HC:Hid (∀v,Below w1.drew.heap.size w1.drew v->cy v (w.heap.size+1) (I K 10) (I K 0) (U ⟨#[]⟩) (M ia 0 ic) (U ⟨#[]⟩)/\Below w.heap.size w v):=λv b2=>by
      have b:Below w1.heap.size w1 v:=((bR _ w1).drew).trans b2;exact⟨D.out.on b,HB.out.trans (b.mono HB.out.size)⟩
     have HS:=eM ⟨10,0,⟨#[]⟩⟩ ia ic;have HN:=eF 10;unfold aD jy at HS;unfold aD at HN;have⟨q0,q1,q2,q3,q4⟩:=D.out
     go_upto_region 11 with fail
     go_region_with (first
      |(go_at_call 30;refine(HN _).mono ?_;rintro e v ⟨rfl,b2⟩;have⟨⟨d0,d1,d2,d3,d4⟩,ad⟩:=HC.out v b2;have af:Hid (Below w.heap.size w v):=ad;clear b2 ad)
      |(go_at_call 26;refine(HS _).mono ?_;rintro e w3 ⟨rfl,b3⟩))
     all_goals
      go_wp2_with fail
      go_ret;have A:=af.out.trans (b3.mono af.out.size);exact eu.mk (HH.out.1.below A) (HH.out.2.1.below A) (HH.out.2.2.2.1.mono (by omega)) (PFr.below a0 A)
    .simp only[Prod.mk.injEq]at hE;obtain⟨rfl,bw,m,rfl⟩:=hE;rw[ho]at f;have q:=f _ (V.out (E #[U d,I K tl,I K tp] 137)).1;have htp:tp<=200:=by
      have:tp*1<=tp*l.page:=Nat.mul_le_mul_left _ ar.1;omega
     have b4:Hid (∀W',Below w.heap.size w W'->Calls Yq.prog 61 #[O (J ⟨k,0,N⟩),.agg #[I K 0,I K 0,U ⟨#[]⟩,vi,U u],I K tl,I K tp] W' (eu B k sl R nx tm L' s w)):=λW' z=>by
      have h:=qq W' (HH.out.1.below z) (HH.out.2.1.below z) HH.out.2.2.1 ⟨by omega,by omega⟩ ⟨ch.2.1,by omega⟩ tl tp be (by rw[y];exact⟨ar.1,ar.2.1,ar.2.2.1,bb⟩) vi u (λw' hf=>by
       rw[y,<-bw];exact HH.out.2.2.2.2 w' ((PFr.below a0 z).trans hf)) (by
       rw[y];by_cases hm:(tp+1)*l.page<l.its.length
       .rw [if_pos hm]at m ⊢;rw[m];exact⟨nG _ _,a3⟩
       .rw [if_neg hm]at m ⊢;exact m)
      rw[y]at h;refine h.mono ?_;rintro e w' ⟨rfl,vL',vT',Q,h2,h3⟩;refine eu.mk Q (T':=_) h2 ?_ ((PFr.below a0 z).trans h3);by_cases hm:(tp+1)*l.page<l.its.length
      .rw [if_pos hm]at m ap ⊢;rw[m];exact ap
      .rw [if_neg hm]at ap ⊢;exact ap
     clear f bw m ap a3 hl y ar bb;go_wp2_with fail
     refine q.mono ?_;rintro e w1 ⟨rfl,b1⟩;have b0:=(V.out (E #[U d,I K tl,I K tp] 137)).2;have G:Below wr.heap.size wr w1:=b0.trans (b1.mono (by simp));have⟨q0,q1,q2,q3,q4⟩:=D.out.on G;have a1:=b4.out w1 (HB.out.trans (G.mono HB.out.size));have x1:w1.cell? ⟨wr.heap.size,1,N⟩=J (I K tl):=ah b1 (by rw[cA (w:=wr) _ _ wr.heap.size 1 rfl];rfl);have x2:w1.cell? ⟨wr.heap.size,2,N⟩=J (I K tp):=ah b1 (by rw[cA (w:=wr) _ _ wr.heap.size 2 rfl];rfl);clear b1 G b0 q V e0 e1 e2 bk b4;go_wp2_with fail
     refine a1.mono ?_;rintro e w4 ⟨rfl,hz⟩;have HZ:Hid (eu B k sl R nx tm L' s w (.returned (C Y)) w4):=⟨rfl,hz⟩;clear hz a1;go_wp2_with fail
     go_ret;exact HZ.out
   .have hs:=us ht;have b7:Hid (∀X:Obj,Below wc.heap.size wc (wr.alloc X)):=λX=>S.alloc S.size _
    have bn:Hid (∀j (h:j<T.length),j<i+1->T[j].text≠d):=λj h hj=>by
     rcases Nat.lt_or_ge j i with Q|Q
     .exact bl.out j h Q
     .have:j=i:=by omega
      subst this;exact ht
    generalize T[i]=t at *;obtain⟨tt,tl,tp⟩:=t;simp only at e0 e1 e2 hs;clear S av ht;go_wp2_with fail
    exact⟨⟨i+1,a4,by go_num,bn.out,b7.out _⟩,by simp[intOf];omega⟩
  .have b8:i=T.length:=by omega
   subst b8;have cb:dN d L.told=none:=by
    cases e:dN d L.told with
    |none=>rfl
    |some x=>
     obtain⟨t,Q,h2,-⟩:=HH.out.2.2.2.1.told d x.1 x.2 e;obtain⟨j,hj,rfl⟩:=gM Q;exact absurd h2 (bl.out j hj hj)
   have hE:=bq.out;unfold dO at hE;rw[cb]at hE;simp only[Prod.mk.injEq]at hE;obtain⟨rfl,rfl,rfl,rfl⟩:=hE;clear av S;obtain⟨ia,ic,ab,-⟩:=(HH.out.2.2.2.2 w PFr.refl).form;rw[lN]at ab;subst ab;have HC:Hid (∀v,Below wr.drew.heap.size wr.drew v->cy v (w.heap.size+1) (I K 9) (I K 0) (U ⟨#[]⟩) (M ia 0 ic) (U ⟨#[]⟩)/\Below w.heap.size w v):=λv b2=>by
    have b:Below wr.heap.size wr v:=((bR _ wr).drew).trans b2;exact⟨D.out.on b,HB.out.trans (b.mono HB.out.size)⟩
   have HS:=eM ⟨9,0,⟨#[]⟩⟩ ia ic;have HN:=eF 9;unfold aD jy at HS;unfold aD at HN;have⟨q0,q1,q2,q3,q4⟩:=D.out
   go_upto_region 13 with fail
   go_region_with (first
    |(go_at_call 30;refine(HN _).mono ?_;rintro e v ⟨rfl,b2⟩;have⟨⟨d0,d1,d2,d3,d4⟩,ad⟩:=HC.out v b2;have af:Hid (Below w.heap.size w v):=ad;clear b2 ad)
    |(go_at_call 26;refine(HS _).mono ?_;rintro e w3 ⟨rfl,b3⟩))
   all_goals
    go_wp2_with fail
    go_ret;have A:=af.out.trans (b3.mono af.out.size);exact eu.mk (HH.out.1.below A) (HH.out.2.1.below A) (HH.out.2.2.2.1.mono (by omega)) (PFr.below a0 A)
theorem Aq{B k s:Nat}{sl X vT vA:Wx}{R:List bD}{nx F:Int}{P:List PlL}{T:List PlT}{q:St}{L:Lg}(w:World)(H:ax B w k sl R nx F)(x:aF B w k P T X vT)(A:rN w k vA a)(t:B<=k)(S:Sim q R nx)(SL:eU L P T F s)(hs:s<2199023255300)(r:a.length<=s)(o:OpD)(z:o.kind=8)
  (L':Lg) (v:List ItD) (b:ByteArray) (n:Int) (G:dO L (dQ a o.src o.body)=(L',v,b,n)) (p:Wx) (D:∀c,PFr B k w c->gi c p v):
  Calls Yq.prog 9 #[O (J ⟨k,0,N⟩),aT o,.agg #[I K n,I K 0,U ⟨#[]⟩,p,U b]] w (cZ B k q L' s w):=by
 have f:=x.lt;have HL:∀W,Below w.heap.size w W->Calls Yq.prog 29 #[O (J ⟨k,0,N⟩),aT o,.agg #[I K n,I K 0,U ⟨#[]⟩,p,U b]] W λe c=>cZ B k q L' s w e c:=λW j=>by
  refine(C8 W (H.below j) (x.below j) (A.on j) t SL hs r o L' v b n G p (λc hf=>D c ((PFr.below f j).trans hf))).mono ?_;rintro e c ⟨rfl,P',T',vL',vT',h1,V,h3,h4⟩;exact cZ.mk h1 V S h3 ((PFr.below f j).trans h4)
 clear H x A S SL G D;obtain⟨kind,u,i,d,l,nn,y⟩:=o;simp only at z;subst z;unfold aT at HL ⊢;have m:=HL ((w.alloc (E #[I K 8,U u,U i,U d,U l,I K nn,I K y] 30)).alloc (E #[I K n,I K 0,U ⟨#[]⟩,p,U b] 46)) (((bR _ w).alloc (lR _) _).alloc (by simp) _);clear HL;go_enter (Yq.nq func9),ntmps9;go_wp2_with fail
 refine m.mono ?_;rintro e w2 ⟨rfl,h⟩;have HE:Hid (cZ B k q L' s w (.returned (C Y)) w2):=⟨rfl,h⟩;clear h m;go_wp2_with fail
 go_ret;exact HE.out
end
