/- A part. -/
import Derived.Test.YtenhoolepfelcaaGreatDoorQP16
set_option maxHeartbeats 4000000
set_option maxRecDepth 100000
open List renaming isPrefixOf_iff_prefix->dT,getElem_mem->ey,length_pos_iff->eV
open _root_ renaming ByteArray->eW,Int->gI,congrArg->gL
open Go.Value renaming bool->g6,int->jp
open Go renaming Value->Wx
namespace Go.Proofs.Qw
open _root_ renaming rfl->Q
open _root_ renaming Nat->H,List->S
open Option renaming none->N,some->J
open Bool renaming true->Y,false->Z
open Value renaming int->I,string->U,slice->M,pointer->O,bool->C
open IntKind renaming i64->K
open Obj renaming cells->E
open Ending renaming returned->Nm
open Or renaming inl->Qc,inr->Qd
section
open Go.RowKit
theorem Lt{a b:eW}(_:a.size<=b.size):((b.extract 0 a.size).toList==a.toList)=a.data.toList.isPrefixOf b.data.toList:=by
 rw[Bool.eq_iff_iff,beq_iff_eq,dT,List.prefix_iff_eq_take,ByteArray.toList_eq,ByteArray.toList_eq,Lib.extract_data,List.drop_zero,Nat.sub_zero];have e:a.data.toList.length=a.size:=by simp
 grind
theorem Lu{a b:eW}(h:¬a.size<=b.size):a.data.toList.isPrefixOf b.data.toList=false:=by
 cases e:a.data.toList.isPrefixOf b.data.toList with
 |false=>rfl
 |true=>
  have:=(dT.1 e).length_le;simp at this
  grind
theorem E3{q}{k c}(h:aV q k=J c):(⟨c.toArray⟩:eW)≠⟨#[]⟩:=by
 intro e;have e2:=gL (λb:eW=>b.data.toList) e;unfold aV at h;split at h
 .cases h
 .rename_i f;have⟨j,i,e⟩:=Option.map_eq_some_iff.1 h;have a:q.d.data.toList≠[]:=λe=>f (by have:=gL List.length e;simpa using this)
  have h1:=jJ a _ _ i
  simp_all
theorem Au{w:World}{B g b:H}{a:S Ver}{T:TypeId}(h:w.ownsRow B T 3 (M (J ⟨g,0,N⟩) a.length b) a.length (aw a))(j:H)(e:j<a.length):w.cell? ⟨g,j*3,N⟩=J (I K a[j].num)/\w.cell? ⟨g,j*3+2,N⟩=J (C a[j].mark):=by
 have hx:∀i,i<3->w.cell? ⟨g,j*3+i,N⟩=[jp K a[j].num,U a[j].body,C a[j].mark][i]?:=λi d=>by
  have c:=h.cellAt (j*3+i) (by omega);have f:=bE 3 (λv:Ver=>[jp K v.num,U v.body,C v.mark]) (λ_=>Q) a j i e d;rw[aw,f]at c;exact c
 simp_all
theorem E5{w:World}{B g b}{a}{T:TypeId}(h:w.ownsRow B T 3 (M (J ⟨g,0,N⟩) a.length b) a.length (aw a))(hne:0<a.length):w.cell? ⟨g,(a.length-1)*3+2,N⟩=J (C (oo a).mark):=by
 have c:=h.cellAt ((a.length-1)*3+2) (by omega);have d:=bE 3 (λv:Ver=>[jp K v.num,U v.body,C v.mark]) (λ_=>Q) a (a.length-1) 2 (by omega) (by omega);rw[aw,d]at c;unfold oo
 grind
theorem Cf B k sl R(nx tm:gI)o y(bd:(o.kind==6)=!y)(b9:(o.kind==7)=y)(w:World)(a:aA B w k sl R nx tm)(hn:totR R<=200)(ai:∀e∈R,e.h≠[])(hk:∀e∈R,e.key.size<=40)(hd:o.eQ.size<=140737488351232):
  Calls Yq.prog 58 #[O (J ⟨k,0,N⟩),aJ o] w λe w'=>∃v,e=Nm v/\w'.ownsRow w.heap.size 117 3 v (fQ ⟨y,o.key,o.eQ,o.past⟩ (R.map ny)).length (aq (fQ ⟨y,o.key,o.eQ,o.past⟩ (R.map ny)))/\Below w.heap.size w w':=by
 obtain⟨va,vc,rfl,-⟩:=az a.row;have c0:=a.cells.c0;have HH:Hid (aA B w k (M va R.length vc) R nx tm):=a;clear a;obtain⟨r,n,D,eQ,f,nn,al⟩:=o;unfold aJ;simp only at *;obtain⟨q,hq⟩:∃q:Qy,q=⟨y,n,eQ,f⟩:=⟨_,Q⟩;have HQ:Hid (q=⟨y,n,eQ,f⟩):=hq;rw[<-hq];clear hq;go_enter (Yq.nq Tryz.func58),Tryz.ntmps58;go_wp2_with fail
 have HO:Hid (Below w.heap.size w (w.alloc (E #[I K r,U n,U D,U eQ,U f,I K nn,I K al] 30))/\(w.alloc (E #[I K r,U n,U D,U eQ,U f,I K nn,I K al] 30)).cell? ⟨w.heap.size,0,N⟩=J (I K r)/\(w.alloc (E #[I K r,U n,U D,U eQ,U f,I K nn,I K al] 30)).cell? ⟨w.heap.size,1,N⟩=J (U n)/\(w.alloc (E #[I K r,U n,U D,U eQ,U f,I K nn,I K al] 30)).cell? ⟨w.heap.size,3,N⟩=J (U eQ)/\(w.alloc (E #[I K r,U n,U D,U eQ,U f,I K nn,I K al] 30)).cell? ⟨w.heap.size,4,N⟩=J (U f)):=
  ⟨(bR _ w).alloc (lR _) _,by rw[cA (w:=w) _ _ w.heap.size 0 Q];rfl,by rw[cA (w:=w) _ _ w.heap.size 1 Q];rfl,by rw[cA (w:=w) _ _ w.heap.size 3 Q];rfl,by rw[cA (w:=w) _ _ w.heap.size 4 Q];rfl⟩
 generalize w.alloc (E #[I K r,U n,U D,U eQ,U f,I K nn,I K al] 30)=Wz at *;have ds:Hid (∀i,(bZ q R i).length<=200):=λi=>lT (EX q R i ai) hn
 have hR200:R.length<=200:=lT (gB R ai) hn;have b0:Hid ((∀e∈R,e.h≠[])/\(∀e∈R,e.key.size<=40)/\totR R<=200):=⟨ai,hk,hn⟩;clear ai hk hn
 go_loopw [5,6] (λs5 s6 wr=>∃i:H,i<=R.length/\s6=I K i/\wr.ownsRow w.heap.size 117 3 s5 (bZ q R i).length (aq (bZ q R i))/\Below Wz.heap.size Wz wr) (λ_ s6 _=>R.length-(intOf s6).toNat)
 case atStart=>exact⟨0,Nat.zero_le _,Q,World.ownsRow_nil _ _ _ _,bR _ _⟩
 case round=>
  obtain⟨i,hin,rfl,z,hb⟩:=hrel;obtain⟨so,sc,rfl,-⟩:=az z;have ac:Hid (Below Wz.heap.size Wz wr):=hb;have HB:Hid (Below w.heap.size w wr):=HO.o.1.t (hb.m HO.o.1.size);have o0:=ag hb HO.o.2.1;have o1:=ag hb HO.o.2.2.1;have o3:=ag hb HO.o.2.2.2.1;have o4:=ag hb HO.o.2.2.2.2;have c7:=ag HB.o c0;have b4:Hid (wr.ownsRow w.heap.size 117 3 (M so (bZ q R i).length sc) (bZ q R i).length (aq (bZ q R i))):=z;clear z hb;by_cases F:i<R.length
  .obtain ⟨ge,ecap,he,-,hgl,e0,e1⟩:=HH.o.Od i F;cases he;replace e0:=ag HB.o e0;replace e1:=ag HB.o e1;have hii:(i:gI)<R.length:=by omega
   have a6:=Ca q R i F;have da:=b0.o.2.1 _ (ey F);have hs200:R[i].h.length<=200:=lT (rW R i F) b0.o.2.2;have hv:=HH.o.MC _ (ey F);have b3:=b0.o.1 _ (ey F);obtain⟨gv,u,bq,-⟩:=cq hv (eV.2 b3);rw[bq]at e1;have HV:Hid (wr.ownsRow B 130 3 (M (J ⟨gv,0,N⟩) R[i].h.length u) R[i].h.length (aw R[i].h)):=by
    have:=hv.kept (aO HB.o N) (dX _);rw[bq]at this;exact this
   have be:Hid (bZ q R (i+1)=eT q (bZ q R i) (ny R[i])):=a6;have bt:Hid (R[i].h≠[]):=b3;clear hv bq a6 b3;unfold ny at be;generalize R[i].h=d at *;generalize R[i].key=b at *;have ai:=eV.2 bt.o
   go_upto_region 7 with fail
   have ap:Hid (Below wr.heap.size wr (wr.alloc (E #[U b,M (J ⟨gv,0,N⟩) d.length u] 140))/\(wr.alloc (E #[U b,M (J ⟨gv,0,N⟩) d.length u] 140)).cell? ⟨wr.heap.size,0,N⟩=J (U b)/\(wr.alloc (E #[U b,M (J ⟨gv,0,N⟩) d.length u] 140)).cell? ⟨wr.heap.size,1,N⟩=J (M (J ⟨gv,0,N⟩) d.length u)):=
    ⟨(bR _ wr).alloc (lR _) _,by rw[cA (w:=wr) _ _ wr.heap.size 0 Q];rfl,by rw[cA (w:=wr) _ _ wr.heap.size 1 Q];rfl⟩
   generalize wr.alloc (E #[U b,M (J ⟨gv,0,N⟩) d.length u] 140)=Wq at *;have q0:=ap.o.2.1;have q1:=ap.o.2.2;have p1:=ag ap.o.1 o1;clear e0 e1 o0 o1 o3 o4 c7
   go_cut [9] (λs9 wx=>s9=C (n.data.toList.isPrefixOf b.data.toList)/\Below wr.heap.size wr wx/\wx.cell? ⟨wr.heap.size,0,N⟩=J (U b)/\wx.cell? ⟨wr.heap.size,1,N⟩=J (M (J ⟨gv,0,N⟩) d.length u))
   case first=>
    by_cases cr:n.size<=b.size
    .have ck:(n.size:gI)<=b.size:=by omega
     have b6:Hid (((b.extract 0 n.size).toList==n.toList)=n.data.toList.isPrefixOf b.data.toList):=Lt cr
     go_quiet (fail)
     go_wp2_with fail
     go_meet
     case rel=>exact⟨gL g6 b6.o,below_drewN ap.o.1 _,q0,q1⟩
    .have ck:decide ((n.size:gI)<=b.size)=false:=by simp;omega
     have b6:Hid (Z=n.data.toList.isPrefixOf b.data.toList):=(Lu cr).s
     go_quiet (fail)
     go_wp2_with fail
     go_meet
     case rel=>exact⟨gL g6 b6.o,below_drewN ap.o.1 _,q0,q1⟩
   case rest=>
   obtain⟨rfl,b1,q0,q1⟩:=hcut;have a4:Hid (Below wr.heap.size wr wc):=b1;have o0:=ag b1 (ag ac.o HO.o.2.1);have o1:=ag b1 (ag ac.o HO.o.2.2.1);have o3:=ag b1 (ag ac.o HO.o.2.2.2.1);have o4:=ag b1 (ag ac.o HO.o.2.2.2.2);obtain⟨lv,bn⟩:∃lv,lv=oo d:=⟨_,Q⟩;have l2:wc.cell? ⟨gv,((d.length:gI)-1).toNat*3+2,N⟩=J (C lv.mark):=by
    rw[bn,show((d.length:gI)-1).toNat=d.length-1 by omega];exact ag b1 (E5 HV.o ai)
   have c8:wc.cell? ⟨gv,(d.length-1)*3+2,N⟩=J (C lv.mark):=by
    rw[<-l2,show((d.length:gI)-1).toNat=d.length-1 by omega]
   have d2:Hid (lv=oo d):=bn;have HW:Hid (iT q b.data.toList d=(jB f b&&(y || !lv.mark))):=by
    show iT q _ d=_;rw[HQ.o,bn];rfl
   have bi:Hid (∃pb,n.data.toList.isPrefixOf b.data.toList=pb):=⟨_,Q⟩;clear b1 bn p1;generalize b8:n.data.toList.isPrefixOf b.data.toList=pb at *;have bi:Hid (n.data.toList.isPrefixOf b.data.toList=pb):=b8;clear b8
   go_upto_region 8 with fail
   go_cut [72] (λs72 wx=>s72=C (!(pb&&iT q b.data.toList d))/\wx=wc)
   case first=>
    cases pb
    .go_wp2_with fail
     go_meet
     case rel=>exact⟨Q,Q⟩
    .have a7:Hid (∀bl,bl=!(jB f b&&(y || !lv.mark))->g6 bl=C (!(Y&&iT q b.data.toList d))):=λbl h=>by rw[h,HW.o,Bool.true_and]
     by_cases cm:Op.bytesLess b.toList f.toList=Y
     .have ar:Hid (jB f b=Z):=by show jB f b=Z;simp[jB,cm]
      go_wp2_with fail
      go_meet
      case rel=>exact⟨a7.o _ (by rw[ar.o];rfl),Q⟩
     .have cl:Op.bytesLess b.toList f.toList=false:=by simpa using cm
      by_cases bw:b.toList=f.toList
      .have ar:Hid (jB f b=Z):=by show jB f b=Z;simp[jB,bw]
       go_wp2_with fail
       go_meet
       case rel=>exact⟨a7.o _ (by rw[ar.o];rfl),Q⟩
      .have ch:Hid ((b.toList==f.toList)=Z):=by show _=_;simpa using bw
       have ar:Hid (jB f b=Y):=by show jB f b=Y;simp[jB,cl,bw]
       cases y
       .have a5:(r==6)=true:=bd;go_wp2_with fail
        go_meet
        case rel=>exact⟨a7.o _ (by rw[ar.o,ch.o];simp),Q⟩
       .have a5:(r==6)=false:=bd;go_wp2_with fail
        go_meet
        case rel=>exact⟨a7.o _ (by rw[ar.o,ch.o];rfl),Q⟩
   case rest=>
   obtain⟨rfl,rfl⟩:=hcut;have G:Hid (Below Wz.heap.size Wz wc):=ac.o.t (a4.o.m ac.o.size);have a2:Hid (wc.ownsRow w.heap.size 117 3 (M so (bZ q R i).length sc) (bZ q R i).length (aq (bZ q R i))):=b4.o.kept (aO a4.o N) (dX _);have cj:w.heap.size<=wc.heap.size:=lT HB.o.size a4.o.size;have a1:Hid ((bZ q R i).length<=200):=ds.o i;clear l2 c8 HW ap;cases T:(pb&&iT q b.data.toList d)with
   |false=>
    have df:Hid (bZ q R (i+1)=bZ q R i):=by
     show bZ q R (i+1)=bZ q R i;rw[be.o];refine yT ?_;rw[Bool.and_eq_false_iff]at T;rcases T with h|h
     .refine Qc ?_;rw[HQ.o];exact bi.o.t h
     .exact Qd h
    clear T;go_wp2_with fail
    refine⟨⟨i+1,F,by go_num,?_,G.o⟩,by simp[intOf];omega⟩;rw[df.o];exact a2.o
   |true=>
    rw[bT]at T;have a8:Hid (q.p.data.toList.isPrefixOf b.data.toList=Y/\iT q b.data.toList d=Y):=⟨by rw[HQ.o];exact bi.o.t T.1,T.2⟩;have hks:n.size<=40:=by
     have h1:=(dT.1 (bi.o.t T.1)).length_le;simp at h1;exact lT h1 da
    have HP:=EW b n eQ wc (by omega) (by omega) hd;have bb:Hid (cpart b n eQ=match aV q b.data.toList with|none=>⟨#[]⟩|some c=>⟨c.toArray⟩):=by
     show cpart b n eQ=_;unfold cpart aV;rw[HQ.o];rfl
    clear T;cases aa:aV q b.data.toList with
    |some c=>
     have c5:=E3 aa;have bv:Hid (bZ q R (i+1)=bh (bZ q R i) ⟨2,⟨c.toArray⟩,0⟩):=by
      show bZ q R (i+1)=_;rw[be.o];exact tZ a8.o.1 a8.o.2 aa
     have av:cpart b n eQ=⟨c.toArray⟩:=by rw[bb.o,aa]
     rw[av]at HP;have hz:=iD c5;have ad:=Ar w.heap.size _ (bZ q R i) ⟨2,⟨c.toArray⟩,0⟩ wc a2.o cj (by have:=a1.o;omega);unfold itVal at ad;clear av aa bb;generalize(⟨c.toArray⟩:eW)=cb at *;go_wp2_with fail
     refine HP.m ?_;rintro e w1 ⟨rfl,rfl⟩;go_wp2_with fail
     refine ad.m ?_;rintro e w1 ⟨v',rfl,ct,b1⟩;have ca:Hid (w1.ownsRow w.heap.size 117 3 v' (bh (bZ q R i) ⟨2,cb,0⟩).length (aq (bh (bZ q R i) ⟨2,cb,0⟩))/\Below Wz.heap.size Wz w1):=⟨ct,G.o.t (b1.m G.o.size)⟩;clear ct b1 ad HP;go_wp2_with fail
     refine⟨⟨i+1,F,by go_num,?_,ca.o.2⟩,by simp[intOf];omega⟩;rw[bv.o];exact ca.o.1
    |none=>
     have av:cpart b n eQ=⟨#[]⟩:=by rw[bb.o,aa]
     rw[av]at HP;have bv:Hid (bZ q R (i+1)=dY y b.data.toList d (bZ q R i) d.length):=by
      show bZ q R (i+1)=_;rw[be.o,EZ];have:=Cb (l:=bZ q R i) (kh:=(b.data.toList,d)) a8.o.1 a8.o.2 aa;rw[this,HQ.o]
     clear av aa bb;go_wp2_with fail
     refine HP.m ?_;rintro e w1 ⟨rfl,bp⟩;replace bp:=bp.s;subst bp;clear HP;have d0:Hid (wc.ownsRow B 130 3 (M (J ⟨gv,0,N⟩) d.length u) d.length (aw d)):=HV.o.kept (aO a4.o N) (dX _);clear HV a4 ac b4;generalize wr.heap.size=xe at *;have aj:Hid (wc.cell? ⟨xe,0,N⟩=J (U b)/\wc.cell? ⟨xe,1,N⟩=J (M (J ⟨gv,0,N⟩) d.length u)/\wc.cell? ⟨w.heap.size,0,N⟩=J (I K r)/\wc.ownsRow B 130 3 (M (J ⟨gv,0,N⟩) d.length u) d.length (aw d)):=⟨q0,q1,o0,d0.o⟩;have dy:Hid (dY y b.data.toList d (bZ q R i) 0=bZ q R i):=Cc y _ d bt.o _;have c9:Hid (∀j,(dY y b.data.toList d (bZ q R i) j).length<=400):=λj=>by
      have h1:=E2 y b.data.toList d bt.o (bZ q R i) j;have h2:=a1.o;show(dY y b.data.toList d (bZ q R i) j).length<=400;omega
     go_wp2_with fail
     go_loopw [5,11] (λs5 s11 wx=>∃j:H,j<=d.length/\s11=I K j/\wx.ownsRow w.heap.size 117 3 s5 (dY y b.data.toList d (bZ q R i) j).length (aq (dY y b.data.toList d (bZ q R i) j))/\Below wc.heap.size wc wx) (λ_ s11 _=>d.length-(intOf s11).toNat)
     case atStart=>exact⟨0,Nat.zero_le _,Q,by rw[dy.o];exact a2.o,bR _ _⟩
     case round=>
      obtain⟨j,hj,rfl,z,X⟩:=hrel;obtain⟨bo,bs,rfl,-⟩:=az z;have d1:Hid (Below wc.heap.size wc wr):=X;by_cases ab:j<d.length
      .have hjj:(j:gI)<d.length:=by omega
       have a3:Hid (wr.cell? ⟨xe,1,N⟩=J (M (J ⟨gv,0,N⟩) d.length u)/\wr.cell? ⟨w.heap.size,0,N⟩=J (I K r)/\wr.cell? ⟨gv,j*3+2,N⟩=J (C d[j].mark)):=⟨ag X aj.o.2.1,ag X aj.o.2.2.1,ag X (Au aj.o.2.2.2 j ab).2⟩;have r0:=ag X aj.o.1;have r1:=ag X aj.o.2.1;have v0:=ag X (Au aj.o.2.2.2 j ab).1;have b5:Hid (y=Y->dY y b.data.toList d (bZ q R i) (j+1)=bh (dY y b.data.toList d (bZ q R i) j) ⟨if d[j].mark then 4 else 3,b,d[j].num⟩):=λh=>by subst h;exact Ih _ d _ j ab
       have dd:Hid (y=Z->j+1<d.length->dY y b.data.toList d (bZ q R i) (j+1)=dY y b.data.toList d (bZ q R i) j):=λh h2=>by subst h;exact E1 _ d _ j h2
       have c3:Hid (y=Z->j+1=d.length->dY y b.data.toList d (bZ q R i) (j+1)=bh (dY y b.data.toList d (bZ q R i) j) ⟨1,b,d[j].num⟩):=λh h2=>by subst h;exact Cd _ d _ j h2
       have hln:=c9.o j;have dj:w.heap.size<=wr.heap.size:=lT cj X.size;generalize cd:dY y b.data.toList d (bZ q R i) (j+1)=a0 at *;have bk:Hid (dY y b.data.toList d (bZ q R i) (j+1)=a0):=cd;clear cd;generalize dY y b.data.toList d (bZ q R i) j=V at *;have ad:Hid (∀x W',Below wr.heap.size wr W'->Calls Yq.prog 84 #[M bo V.length bs,itVal x] W' λe w'=>∃v',e=Nm v'/\w'.ownsRow w.heap.size 117 3 v' (bh V x).length (aq (bh V x))/\Below wc.heap.size wc w'):=λx W' af=>(Ar w.heap.size _ V x W' (z.kept (aO af N) (dX _)) (lT dj af.size) (by omega)).m λe w' ⟨v',h1,h2,h3⟩=>⟨v',h1,h2,(X.t (af.m X.size)).t (h3.m (lT X.size af.size))⟩
       have b7:Hid (∀W',Below wr.heap.size wr W'->W'.ownsRow w.heap.size 117 3 (M bo V.length bs) V.length (aq V)/\Below wc.heap.size wc W'):=λW' af=>⟨z.kept (aO af N) (dX _),X.t (af.m X.size)⟩
       clear z X;generalize d[j]=vj at *;obtain⟨vn,vb,vm⟩:=vj;simp only at v0 b5 c3 a3
       go_upto_region 15 with fail
       go_cut [12] (λs12 wy=>s12=O (J ⟨wr.heap.size,0,N⟩)/\Below wr.heap.size wr wy/\aY wy wr.heap.size (I K 3) (U b) (I K vn))
       case first=>
        have a9:=ix wr (I K 3) (U b) (I K vn) 117;have ha:Below wr.heap.size wr (wr.alloc (E #[I K 0,U ⟨#[]⟩,I K 0] 117)):=(bR _ _).alloc (lR _) _;have r0':=ag ha r0;have r1':=ag ha r1;have v0':=ag ha v0
        go_region
        all_goals
         go_wp2_with fail
         go_meet
         case rel=>exact⟨Q,((bR _ _).alloc (lR _) _).drew,⟨a9.c0,a9.c1,a9.c2,a9.fz⟩⟩
       case rest=>
       obtain⟨rfl,bY,cY⟩:=hcut;obtain⟨y0,y1,y2,yf⟩:=cY;have yf0:=yf 0;have r1:=ag bY a3.o.1;have k0:=ag bY a3.o.2.1;have v2:=ag bY a3.o.2.2;have A:Hid (Below wr.heap.size wr wc/\(∀v,Below wr.heap.size wr (wc.setCell ⟨wr.heap.size,0,N⟩ v))/\∀v v',Below wr.heap.size wr ((wc.setCell ⟨wr.heap.size,0,N⟩ v).setCell ⟨wr.heap.size,0,N⟩ v')):=⟨bY,λv=>bY.setCell (lR _) v,λv v'=>(bY.setCell (lR _) v).setCell (lR _) v'⟩;have hxk:w.heap.size≠wr.heap.size:=by
        have:=bC wr _ a3.o.2.1;simp only at this;omega
       clear bY yf r0 v0;cases y
       .have a5:(r==6)=true:=bd;have cc:(r==7)=false:=b9;by_cases hl:j+1=d.length
        .have dt:((j:gI)==(d.length:gI)-1)=true:=by simp;omega
         cases vm <;>
         .go_wp2_with fail
          refine(ad.o ⟨1,b,vn⟩ _ (by first|exact A.o.1|exact A.o.2.1 _|exact A.o.2.2 _ _)).m ?_;rintro e w2 ⟨v',rfl,P,b2⟩;have L:Hid (w2.ownsRow w.heap.size 117 3 v' (bh V ⟨1,b,vn⟩).length (aq (bh V ⟨1,b,vn⟩))/\a0=bh V ⟨1,b,vn⟩):=⟨P,c3.o (by first|trivial|rfl) hl⟩;clear P;go_wp2_with fail
          refine⟨⟨j+1,ab,by go_num,?_,b2⟩,by simp[intOf];omega⟩;rw[bk.o,L.o.2];exact L.o.1
        .have dt:((j:gI)==(d.length:gI)-1)=false:=by simp;omega
         have cv:Hid (a0=V):=dd.o (by first|trivial|rfl) (by omega);cases vm <;>
         .go_wp2_with fail
          refine⟨⟨j+1,ab,by go_num,?_,(b7.o _ (by first|exact A.o.1|exact A.o.2.1 _|exact A.o.2.2 _ _)).2⟩,by simp[intOf];omega⟩;rw[bk.o,cv.o];exact(b7.o _ (by first|exact A.o.1|exact A.o.2.1 _|exact A.o.2.2 _ _)).1
       .have a5:(r==6)=false:=bd;have cc:(r==7)=true:=b9;cases vm
        .go_wp2_with fail
         refine(ad.o ⟨3,b,vn⟩ _ (by first|exact A.o.1|exact A.o.2.1 _|exact A.o.2.2 _ _)).m ?_;rintro e w2 ⟨v',rfl,P,b2⟩;have L:Hid (w2.ownsRow w.heap.size 117 3 v' (bh V ⟨3,b,vn⟩).length (aq (bh V ⟨3,b,vn⟩))/\a0=bh V ⟨3,b,vn⟩):=⟨P,b5.o (by first|trivial|rfl)⟩;clear P;go_wp2_with fail
         refine⟨⟨j+1,ab,by go_num,?_,b2⟩,by simp[intOf];omega⟩;rw[bk.o,L.o.2];exact L.o.1
        .go_wp2_with fail
         refine(ad.o ⟨4,b,vn⟩ _ (by first|exact A.o.1|exact A.o.2.1 _|exact A.o.2.2 _ _)).m ?_;rintro e w2 ⟨v',rfl,P,b2⟩;have L:Hid (w2.ownsRow w.heap.size 117 3 v' (bh V ⟨4,b,vn⟩).length (aq (bh V ⟨4,b,vn⟩))/\a0=bh V ⟨4,b,vn⟩):=⟨P,b5.o (by first|trivial|rfl)⟩;clear P;go_wp2_with fail
         refine⟨⟨j+1,ab,by go_num,?_,b2⟩,by simp[intOf];omega⟩;rw[bk.o,L.o.2];exact L.o.1
      .have dc:j=d.length:=by omega
       subst dc;have cp:Hid (wr.ownsRow w.heap.size 117 3 (M bo (dY y b.data.toList d (bZ q R i) d.length).length bs) (dY y b.data.toList d (bZ q R i) d.length).length (aq (dY y b.data.toList d (bZ q R i) d.length))/\Below Wz.heap.size Wz wr):=⟨z,G.o.t (X.m G.o.size)⟩;clear z X;go_wp2_with fail
       refine⟨⟨i+1,F,by go_num,?_,cp.o.2⟩,by simp[intOf];omega⟩;rw[bv.o];exact cp.o.1
  .have c6:i=R.length:=by omega
   subst c6;have c4:Hid (bZ q R R.length=fQ q (R.map ny)):=by
    show bZ q R R.length=_;unfold bZ;rw[List.take_length]
   go_wp2_with fail
   go_ret;refine⟨_,Q,?_,HB.o⟩;rw[<-c4.o];exact b4.o
end
