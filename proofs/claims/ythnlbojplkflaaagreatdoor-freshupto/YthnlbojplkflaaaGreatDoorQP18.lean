/- A part. -/
import Derived.Test.YthnlbojplkflaaaGreatDoorQP17
set_option maxHeartbeats 4000000
set_option maxRecDepth 100000
open _root_ renaming decide_eq_false->dT,Int->ey,congrArg->eV,if_pos->eW,decide_eq_true->gI,if_neg->gL
open Go renaming below_drewN->kr
open Classical renaming byContradiction->lj
open Go renaming Value->Wx
namespace Go.Proofs.Qw
open _root_ renaming rfl->Q
open _root_ renaming Nat->H,List->S
open Option renaming none->N,some->J
open Bool renaming true->Y,false->Z
open Value renaming int->I,string->U,slice->M,pointer->O,bool->C,agg->Rd
open IntKind renaming i64->K
open Obj renaming cells->E
open Ending renaming returned->Rc
variable {Ny:S ByteArray}
open Tryz
section
open Go.RowKit
theorem F6{B k s:H}{sl vL vT vA:Wx}{R:S bz}{nx tm:ey}{P:S PlL}{T:S PlT}{L:Lg}(w:World)(a:aD B w k sl R nx tm)(hP:aH B w k P T vL vT)(hK:rx w k vA Ny)(b5:B<=k)(SL:gh L P T tm s)(hs:s<2199023255300)(_:Ny.length<=s)o
  (L':Lg) (pg:S ItD) (v:ByteArray) (cd:ey) (hN:dY L (eA Ny o.src o.body)=(L',pg,v,cd)) (vi:Wx) (hI:∀w',PFr B k (RwB sl R) w w'->j6 w' vi pg):
  Calls Yq.prog 33 #[O (J ⟨k,0,N⟩),aL o,Rd #[I K cd,I K 0,U ⟨#[]⟩,vi,U v]] w (fh B k sl R nx tm L' s w):=by
 obtain⟨bx,ch,r,fe,be,nn,c⟩:=o;simp only at hN ⊢;have av:=hP.lt;have ca:=SL.time;have hfew:=SL.PN;have⟨aa,ac,b0,bk⟩:=hK.form;subst b0;have c7:=hK.c7;obtain⟨va,vc,b6,-⟩:=ao hP.Ou;subst b6;have c4:=hP.c4;have HH:Hid (aD B w k sl R nx tm/\aH B w k P T vL (M va T.length vc)/\B<=k/\gh L P T tm s/\∀w',PFr B k (RwB sl R) w w'->j6 w' vi pg):=⟨a,hP,b5,SL,hI⟩;have a6:Hid (Ny≠[]->∃g,aa=J ⟨g,0,N⟩/\g<w.heap.size/\∀i (hi:i<Ny.length),w.cell? ⟨g,i*5+4,N⟩=J (U Ny[i])):=bk;obtain⟨d,a2⟩:∃d,eA Ny c r=d:=⟨_,Q⟩;have a8:Hid (eA Ny c r=d):=a2;rw[a2]at hN;have bd:Hid (dY L d=(L',pg,v,cd)):=hN;clear a hP SL hI hK bk a2 hN;unfold aL;go_enter (Yq.nq func33),ntmps33
 go_upto_region 2 with fail
 have⟨W,hW,a4⟩:=kn w bx ch r fe be nn c (I K cd) (I K 0) (U ⟨#[]⟩) vi (U v);rw[hW];have HW:Hid _:=a4;have n6:W.cell? ⟨w.heap.size,6,N⟩=J (I K c):=a4.2.1 6;clear hW a4;have bl:=ag HW.o.1 c7
 go_cut [37] (λs37 wx=>s37=C (decide (0<=c/\c<Ny.length) && !decide (Ny[c.toNat]?.getD ⟨#[]⟩=⟨#[]⟩))/\Below W.heap.size W wx)
 case first=>
  by_cases h1:0<=c
  .by_cases h2:c<Ny.length
   .obtain ⟨j,hj⟩:∃j:H,c=(j:ey):=⟨c.toNat,by omega⟩;subst hj;have p:j<Ny.length:=by omega
    obtain⟨g,rfl,hg,hc⟩:=a6.o (by intro e;rw[e]at p;simp at p);have cj:=ag HW.o.1 (hc j p);have bv:Hid (Ny[((j:H):ey).toNat]?.getD ⟨#[]⟩=Ny[j]):=by
     show _=_;rw[Int.toNat_natCast,eL p];rfl
    have HD:Hid (decide ((0:ey)<=(j:ey)/\(j:ey)<Ny.length)=Y):=gI (by omega);clear hc;generalize Ny[j]=tj at *;by_cases he:tj=⟨#[]⟩
    .subst he
     go_quiet (fail)
     go_wp2_with fail
     go_meet
     case rel=>
      refine⟨eV Value.bool ?_,kr Q9 _⟩;rw[HD.o,bv.o];simp
    .have hte:=iZ he;have b7:Hid (decide (tj=⟨#[]⟩)=Z):=dT he
     go_quiet (fail)
     go_wp2_with fail
     go_meet
     case rel=>
      refine⟨eV Value.bool ?_,kr Q9 _⟩;rw[HD.o,bv.o,b7.o];rfl
   .have h2':decide (c<(Ny.length:ey))=false:=by simp;omega
    have HD:Hid (decide ((0:ey)<=c/\c<Ny.length)=Z):=dT (by omega)
    go_quiet (fail)
    go_wp2_with fail
    go_meet
    case rel=>
     refine⟨eV Value.bool ?_,kr Q9 _⟩;rw[HD.o];rfl
  .have h1':decide (0<=c)=false:=by simp;omega
   have HD:Hid (decide ((0:ey)<=c/\c<Ny.length)=Z):=dT (by omega)
   go_quiet (fail)
   go_wp2_with fail
   go_meet
   case rel=>
    refine⟨eV Value.bool ?_,kr Q9 _⟩;rw[HD.o];rfl
 case rest=>
 obtain⟨rfl,q⟩:=hcut;have D:Hid (Below W.heap.size W wc):=q;have cb:=ag q n6;have cc:=ag q bl;have bi:Hid (Below w.heap.size w wc):=HW.o.1.t (q.m HW.o.1.size);clear q
 go_upto_if 37 with fail
 go_cut [7] (λs7 wx=>s7=U d/\Below W.heap.size W wx)
 case first=>
  by_cases hc:(0<=c/\c<Ny.length)/\¬Ny[c.toNat]?.getD ⟨#[]⟩=⟨#[]⟩
  .have hb:(decide (0<=c/\c<Ny.length) && !decide (Ny[c.toNat]?.getD ⟨#[]⟩=⟨#[]⟩))=true:=by rw[gI hc.1,dT hc.2];rfl
   have ht:d=Ny[c.toNat]?.getD ⟨#[]⟩:=by rw[<-a8.o,eA,eW hc.1,gL hc.2]
   obtain⟨j,hj⟩:∃j:H,c=(j:ey):=⟨c.toNat,by omega⟩;subst hj;have p:j<Ny.length:=by omega
   obtain⟨g,rfl,hg,bq⟩:=a6.o (by intro e;rw[e]at p;simp at p);have cj:=ag bi.o (bq j p);have hjI:(j:ey)<Ny.length:=by omega
   have bb:Hid (d=Ny[j]):=by
    show d=_;rw[ht,Int.toNat_natCast,eL p];rfl
   rw[hb];clear bq hb ht hc;generalize Ny[j]=tj at *;go_wp2_with fail
   go_quiet (fail)
   go_wp2_with fail
   go_meet
   case rel=>exact⟨by rw[bb.o],kr D.o _⟩
  .have hb:(decide (0<=c/\c<Ny.length) && !decide (Ny[c.toNat]?.getD ⟨#[]⟩=⟨#[]⟩))=false:=by
    by_cases h1:0<=c/\c<Ny.length
    .have h2:Ny[c.toNat]?.getD ⟨#[]⟩=⟨#[]⟩:=lj λh=>hc ⟨h1,h⟩
     rw[h2];simp
    .rw [dT h1];rfl
   have bb:Hid (d=r):=by
    show d=r;rw[<-a8.o,eA];by_cases h1:0<=c/\c<Ny.length
    .have h2:Ny[c.toNat]?.getD ⟨#[]⟩=⟨#[]⟩:=lj λh=>hc ⟨h1,h⟩
     rw[eW h1,eW h2]
    .rw [gL h1]
   rw[hb];clear hb hc;go_wp2_with fail
   go_meet
   case rel=>exact⟨by rw[bb.o],D.o⟩
 case rest=>
 clear n6 cb c7 bl cc a6 D bi a8;obtain⟨rfl,q⟩:=hcut;have D:Hid (Below w.heap.size w wc/\cW wc (w.heap.size+1) (I K cd) (I K 0) (U ⟨#[]⟩) vi (U v)):=⟨HW.o.1.t (q.m HW.o.1.size),HW.o.2.2.on q⟩;clear q HW;go_wp2_with fail
 go_loopw [8] (λs8 wr=>∃i:H,i<=T.length/\s8=I K i/\(∀j (h:j<T.length),j<i->T[j].text≠d)/\Below wc.heap.size wc wr) (λs8 _=>T.length-(intOf s8).toNat)
 case atStart=>exact⟨0,Q8,Q,λj h hj=>absurd hj (by omega),Q9⟩
 case round=>
  obtain⟨i,hin,rfl,ar,hb⟩:=hrel;have HB:Hid (Below w.heap.size w wr):=D.o.1.t (hb.m D.o.1.size);have A:Hid (cW wr (w.heap.size+1) (I K cd) (I K 0) (U ⟨#[]⟩) vi (U v)):=D.o.2.on hb;have bo:Hid (∀j (h:j<T.length),j<i->T[j].text≠d):=ar;have bn:=ag HB.o c4;by_cases a5:i<T.length
  .have hii:(i:ey)<(T.length:ey):=by omega
   obtain⟨g,cap,he,-,-,e0,e1,e2⟩:=JQ HH.o.2.1.Ou i a5;cases he;replace e0:=ag HB.o e0;replace e1:=ag HB.o e1;replace e2:=ag HB.o e2;by_cases ht:T[i].text=d
   .have ap:=List.getElem_mem a5;obtain⟨-,l,hl,a1⟩:=HH.o.2.2.2.1.Ny _ ap;have a9:=HH.o.2.2.2.1.next ap hl
    have a7:=(sL hl).1;have F:=(sL hl).2;have af:=HH.o.2.2.2.1.lists l (List.mem_of_getElem? hl);have a3:=HH.o.2.2.2.1.token T[i].ls (T[i].pg+1);rw[ht,bd.o]at a9;rw[ht]at e0;have hs:=xA d;have f:=λ(W':World) (G:Below w.heap.size w W')=>mi W' (HH.o.1.below G) (HH.o.2.1.below G) T[i].ls a7
    rw[F]at f;have ab:Hid (∀X:Obj,Below w.heap.size w (wr.alloc X)/\Below wr.heap.size wr (wr.alloc X)):=λX=>⟨HB.o.alloc HB.o.size _,(Q9).alloc Q0 _⟩
    generalize T[i]=t at *;obtain⟨tt,tl,tp⟩:=t;simp only at e0 e1 e2 hl a1 a9 a7 F a3 f;clear ht ar hb ap;rcases a9 with⟨ho,hE⟩|⟨ho,L2,hE,ad⟩
    .simp only[Prod.mk.injEq]at hE;obtain⟨rfl,rfl,rfl,rfl⟩:=hE;rw[ho]at f;have u:=f _ (ab.o (E #[U d,I K tl,I K tp] 144)).1;clear f;go_wp2_with fail
     refine u.m ?_;rintro e w1 ⟨rfl,b1⟩;have V:Below wr.heap.size wr w1:=(ab.o (E #[U d,I K tl,I K tp] 144)).2.t (b1.m (by simp));replace A:Hid (cW w1 (w.heap.size+1) (I K 10) (I K 0) (U ⟨#[]⟩) vi (U ⟨#[]⟩)):=A.o.on V;replace HB:Hid (Below w.heap.size w w1):=HB.o.t (V.m HB.o.size);clear b1 V u ab e0 e1 e2 bn;obtain⟨ia,ic,ai,-⟩:=(HH.o.2.2.2.2 w PFr.refl).form;rw[lN]at ai;subst ai;have HC:Hid (∀y,Below w1.drew.heap.size w1.drew y->cW y (w.heap.size+1) (I K 10) (I K 0) (U ⟨#[]⟩) (M ia 0 ic) (U ⟨#[]⟩)/\Below w.heap.size w y):=λy b2=>by
      have b:Below w1.heap.size w1 y:=((bR _ w1).drew).t b2;exact⟨A.o.on b,HB.o.t (b.m HB.o.size)⟩
     have HS:=eB ⟨10,0,⟨#[]⟩⟩ ia ic;have HN:=fx 10;unfold aG ii at HS;unfold aG at HN;have⟨q0,q1,q2,q3,q4⟩:=A.o
     go_upto_region 11 with fail
     go_region_with (first
      |(go_at_call 34;refine(HN _).m ?_;rintro e y ⟨rfl,b2⟩;have⟨⟨d0,d1,d2,d3,d4⟩,aj⟩:=HC.o y b2;have al:Hid (Below w.heap.size w y):=aj;clear b2 aj)
      |(go_at_call 30;refine(HS _).m ?_;rintro e w3 ⟨rfl,b3⟩))
     all_goals
      go_wp2_with fail
      go_ret;have z:=al.o.t (b3.m al.o.size);exact fh.mk (HH.o.1.below z) (HH.o.2.1.below z) (HH.o.2.2.2.1.m (by omega)) (PFr.below av z)
    .simp only[Prod.mk.injEq]at hE;obtain⟨rfl,bp,n,rfl⟩:=hE;rw[ho]at f;have u:=f _ (ab.o (E #[U d,I K tl,I K tp] 144)).1;have htp:tp<=200:=by
      have:tp*1<=tp*l.NI:=Nat.mul_le_mul_left _ af.1;omega
     have bw:Hid (∀W',Below w.heap.size w W'->Calls Yq.prog 65 #[O (J ⟨k,0,N⟩),Rd #[I K 0,I K 0,U ⟨#[]⟩,vi,U v],I K tl,I K tp] W' (fh B k sl R nx tm L' s w)):=λW' G=>by
      have h:=sR W' (HH.o.1.below G) (HH.o.2.1.below G) HH.o.2.2.1 ⟨by omega,by omega⟩ ⟨ca.2.1,by omega⟩ tl tp a7 (by rw[F];exact⟨af.1,af.2.1,af.2.2.1,a1⟩) vi v (λw' hf=>by
       rw[F,<-bp];exact HH.o.2.2.2.2 w' ((PFr.below av G).t hf)) (by
       rw[F];by_cases hm:(tp+1)*l.NI<l.NA.length
       .rw [eW hm]at n ⊢;rw[n];exact⟨pq _ _,a3⟩
       .rw [gL hm]at n ⊢;exact n)
      rw[F]at h;refine h.m ?_;rintro e w' ⟨rfl,vL',vT',h1,h2,h3⟩;refine fh.mk h1 (T':=_) h2 ?_ ((PFr.below av G).t h3);by_cases hm:(tp+1)*l.NI<l.NA.length
      .rw [eW hm]at n ad ⊢;rw[n];exact ad
      .rw [gL hm]at ad ⊢;exact ad
     clear f bp n ad a3 hl F af a1;go_wp2_with fail
     refine u.m ?_;rintro e w1 ⟨rfl,b1⟩;have bs:=(ab.o (E #[U d,I K tl,I K tp] 144)).2;have V:Below wr.heap.size wr w1:=bs.t (b1.m (by simp));have⟨q0,q1,q2,q3,q4⟩:=A.o.on V;have a0:=bw.o w1 (HB.o.t (V.m HB.o.size));have x1:w1.cell? ⟨wr.heap.size,1,N⟩=J (I K tl):=ag b1 (by rw[cA (w:=wr) _ _ wr.heap.size 1 Q];rfl);have x2:w1.cell? ⟨wr.heap.size,2,N⟩=J (I K tp):=ag b1 (by rw[cA (w:=wr) _ _ wr.heap.size 2 Q];rfl);clear b1 V bs u ab e0 e1 e2 bn bw;go_wp2_with fail
     refine a0.m ?_;rintro e w4 ⟨rfl,hz⟩;have HZ:Hid (fh B k sl R nx tm L' s w (Rc (C Y)) w4):=⟨Q,hz⟩;clear hz a0;go_wp2_with fail
     go_ret;exact HZ.o
   .have hs:=xB ht;have b8:Hid (∀X:Obj,Below wc.heap.size wc (wr.alloc X)):=λX=>hb.alloc hb.size _
    have bt:Hid (∀j (h:j<T.length),j<i+1->T[j].text≠d):=λj h hj=>by
     rcases Nat.lt_or_ge j i with h1|h1
     .exact bo.o j h h1
     .have:j=i:=by omega
      subst this;exact ht
    generalize T[i]=t at *;obtain⟨tt,tl,tp⟩:=t;simp only at e0 e1 e2 hs;clear hb ar ht;go_wp2_with fail
    exact⟨⟨i+1,a5,by go_num,bt.o,b8.o _⟩,by simp[intOf];omega⟩
  .have b9:i=T.length:=by omega
   subst b9;have b4:ez d L.told=none:=by
    cases e:ez d L.told with
    |none=>rfl
    |some x=>
     obtain⟨t,h1,h2,-⟩:=HH.o.2.2.2.1.told d x.1 x.2 e;obtain⟨j,hj,rfl⟩:=gM h1;exact absurd h2 (bo.o j hj hj)
   have hE:=bd.o;unfold dY at hE;rw[b4]at hE;simp only[Prod.mk.injEq]at hE;obtain⟨rfl,rfl,rfl,rfl⟩:=hE;clear ar hb;obtain⟨ia,ic,ai,-⟩:=(HH.o.2.2.2.2 w PFr.refl).form;rw[lN]at ai;subst ai;have HC:Hid (∀y,Below wr.drew.heap.size wr.drew y->cW y (w.heap.size+1) (I K 9) (I K 0) (U ⟨#[]⟩) (M ia 0 ic) (U ⟨#[]⟩)/\Below w.heap.size w y):=λy b2=>by
    have b:Below wr.heap.size wr y:=((bR _ wr).drew).t b2;exact⟨A.o.on b,HB.o.t (b.m HB.o.size)⟩
   have HS:=eB ⟨9,0,⟨#[]⟩⟩ ia ic;have HN:=fx 9;unfold aG ii at HS;unfold aG at HN;have⟨q0,q1,q2,q3,q4⟩:=A.o
   go_upto_region 13 with fail
   go_region_with (first
    |(go_at_call 34;refine(HN _).m ?_;rintro e y ⟨rfl,b2⟩;have⟨⟨d0,d1,d2,d3,d4⟩,aj⟩:=HC.o y b2;have al:Hid (Below w.heap.size w y):=aj;clear b2 aj)
    |(go_at_call 30;refine(HS _).m ?_;rintro e w3 ⟨rfl,b3⟩))
   all_goals
    go_wp2_with fail
    go_ret;have z:=al.o.t (b3.m al.o.size);exact fh.mk (HH.o.1.below z) (HH.o.2.1.below z) (HH.o.2.2.2.1.m (by omega)) (PFr.below av z)
theorem Dc{B k s}{x vL vT vA}{R}{nx F:ey}{P}{T}{r}{L}(w:World)(c:aD B w k x R nx F)(G:aH B w k P T vL vT)(hK:rx w k vA Ny)(y:B<=k)(b:Sim r R nx)(SL:gh L P T F s){Zq:S SvE->Prop}{a}(hz:ec B w k a (RwB x R))(hq:Zq a)(hs:s<2199023255300)(u:Ny.length<=s)o(hk:o.kind=8)
  (L':Lg) (A:S ItD) (d:ByteArray) (p:ey) (hN:dY L (eA Ny o.src o.body)=(L',A,d,p)) (q:Wx) (hI:∀f,PFr B k (RwB x R) w f->j6 f q A):
  Calls Yq.prog 12 #[O (J ⟨k,0,N⟩),aL o,Rd #[I K p,I K 0,U ⟨#[]⟩,q,U d]] w (cQ B k r L' Zq s w):=by
 have i:=G.lt;have HL:∀W,Below w.heap.size w W->Calls Yq.prog 33 #[O (J ⟨k,0,N⟩),aL o,Rd #[I K p,I K 0,U ⟨#[]⟩,q,U d]] W λe f=>cQ B k r L' Zq s w e f:=λW l=>by
  refine(F6 W (c.below l) (G.below l) (hK.on l) y SL hs u o L' A d p hN q (λf hf=>hI f ((PFr.below i l).t hf))).m ?_;rintro e f ⟨rfl,P',T',vL',vT',h1,X,h3,h4⟩;exact cQ.mk hz hq h1 X b h3 ((PFr.below i l).t h4) (λ_ _ h=>h)
 obtain⟨kind,z,j,fe,n,nn,D⟩:=o;subst hk;unfold aL at HL ⊢;have v:=HL ((w.alloc (E #[I K 8,U z,U j,U fe,U n,I K nn,I K D] 37)).alloc (E #[I K p,I K 0,U ⟨#[]⟩,q,U d] 53)) (((bR _ w).alloc Q0 _).alloc (by simp) _);go_enter (Yq.nq func12),ntmps12;go_wp2_with fail
 refine v.m ?_;rintro e w2 ⟨rfl,h⟩;have HE:Hid (cQ B k r L' Zq s w (Rc (C Y)) w2):=⟨Q,h⟩;go_wp2_with fail
 go_ret;exact HE.o
end
