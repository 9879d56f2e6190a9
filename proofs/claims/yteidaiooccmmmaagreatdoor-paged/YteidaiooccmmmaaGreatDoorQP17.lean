/- A part. -/
import Derived.Test.YteidaiooccmmmaaGreatDoorQP16
set_option maxHeartbeats 4000000
set_option maxRecDepth 100000
open Go renaming Value->Wx
namespace Go.Proofs.Qw
open Option renaming none->N,some->J
open Bool renaming true->Y,false->Z
open Value renaming int->I,string->U,slice->M,pointer->O,bool->C
open IntKind renaming i64->K
open Obj renaming cells->E
section
open Go.RowKit
theorem IJ{a b:ByteArray}(_:a.size<=b.size):((b.extract 0 a.size).toList==a.toList)=a.data.toList.isPrefixOf b.data.toList:=by
 rw[Bool.eq_iff_iff,beq_iff_eq,List.isPrefixOf_iff_prefix,List.prefix_iff_eq_take,ByteArray.toList_eq,ByteArray.toList_eq,Lib.extract_data,List.drop_zero,Nat.sub_zero];have e:a.data.toList.length=a.size:=by simp
 rw[e];exact⟨λh=>h.symm,λh=>h.symm⟩
theorem IK{a b:ByteArray}(h:¬a.size<=b.size):a.data.toList.isPrefixOf b.data.toList=false:=by
 cases e:a.data.toList.isPrefixOf b.data.toList with
 |false=>rfl
 |true=>
  have:=(List.isPrefixOf_iff_prefix.1 e).length_le;simp at this;exact absurd this h
theorem CY{q:Qy}{k c:List UInt8}(h:aU q k=J c):(⟨c.toArray⟩:ByteArray)≠⟨#[]⟩:=by
 intro e;have l:c=[]:=congrArg (λb:ByteArray=>b.data.toList) e;subst l;unfold aU at h;split at h
 .cases h
 .rename_i f;have⟨j,m,e⟩:=Option.map_eq_some_iff.1 h;have a:q.d.data.toList≠[]:=λe=>f (by have:=congrArg List.length e;simpa using this)
  have i:=i8 a _ _ m;have n:=congrArg List.length e;have h3:=List.length_pos_iff.2 a;rw[tL,lN]at n;rw[lD]at i;omega
theorem ya{w:World}{B g b:Nat}{a:List Ver}{T:TypeId}(h:w.ownsRow B T 3 (M (J ⟨g,0,N⟩) a.length b) a.length (aq a))(j:Nat)(f:j<a.length):w.cell? ⟨g,j*3,N⟩=J (I K a[j].num)/\w.cell? ⟨g,j*3+2,N⟩=J (C a[j].mark):=by
 have d:∀i,i<3->w.cell? ⟨g,j*3+i,N⟩=[Value.int K a[j].num,U a[j].body,C a[j].mark][i]?:=λi e=>by
  have c:=h.cellAt (j*3+i) (by omega);have k:=ce 3 (λv:Ver=>[Value.int K v.num,U v.body,C v.mark]) (λ_=>rfl) a j i f e;rw[aq,k]at c;exact c
 exact⟨d 0 (by omega),d 2 (by omega)⟩
theorem CZ{w:World}{B g b:Nat}{a:List Ver}{T:TypeId}(h:w.ownsRow B T 3 (M (J ⟨g,0,N⟩) a.length b) a.length (aq a))(hne:0<a.length):w.cell? ⟨g,(a.length-1)*3+2,N⟩=J (C (nd a).mark):=by
 have c:=h.cellAt ((a.length-1)*3+2) (by omega);have d:=ce 3 (λv:Ver=>[Value.int K v.num,U v.body,C v.mark]) (λ_=>rfl) a (a.length-1) 2 (by omega) (by omega);rw[aq,d]at c;rw[c];unfold nd;rw[List.getLast?_eq_getElem?,eL (l:=a) (i:=a.length-1) (by omega)];rfl
theorem Af(B k:Nat)(sl:Wx)(R:List bD)(nx tm:Int)(o:OpD)(s:Bool)(a9:(o.kind==6)=!s)(b7:(o.kind==7)=s)(w:World)(H:ax B w k sl R nx tm)(hn:totR R<=200)(ab:∀e∈R,e.h≠[])(hk:∀e∈R,e.key.size<=40)(hd:o.delim.size<=140737488351232):
  Calls Yq.prog 58 #[O (J ⟨k,0,N⟩),aT o] w λe w'=>∃v,e=.returned v/\w'.ownsRow w.heap.size 117 3 v (fe ⟨s,o.key,o.delim,o.past⟩ (R.map mu)).length (an (fe ⟨s,o.key,o.delim,o.past⟩ (R.map mu)))/\Below w.heap.size w w':=by
 obtain⟨va,vc,rfl,-⟩:=az H.row;have c0:=H.cells.c0;have HH:Hid (ax B w k (M va R.length vc) R nx tm):=H;clear H;obtain⟨n,m,y,f,d,nn,ad⟩:=o;unfold aT;simp only at *;obtain⟨q,hq⟩:∃q:Qy,q=⟨s,m,f,d⟩:=⟨_,rfl⟩;have HQ:Hid (q=⟨s,m,f,d⟩):=hq;rw[<-hq];clear hq;go_enter (Yq.nq Tryz.func58),Tryz.ntmps58;go_wp2_with fail
 have HO:Hid (Below w.heap.size w (w.alloc (E #[I K n,U m,U y,U f,U d,I K nn,I K ad] 30))/\(w.alloc (E #[I K n,U m,U y,U f,U d,I K nn,I K ad] 30)).cell? ⟨w.heap.size,0,N⟩=J (I K n)/\(w.alloc (E #[I K n,U m,U y,U f,U d,I K nn,I K ad] 30)).cell? ⟨w.heap.size,1,N⟩=J (U m)/\(w.alloc (E #[I K n,U m,U y,U f,U d,I K nn,I K ad] 30)).cell? ⟨w.heap.size,3,N⟩=J (U f)/\(w.alloc (E #[I K n,U m,U y,U f,U d,I K nn,I K ad] 30)).cell? ⟨w.heap.size,4,N⟩=J (U d)):=
  ⟨(bR _ w).alloc (lR _) _,by rw[cA (w:=w) _ _ w.heap.size 0 rfl];rfl,by rw[cA (w:=w) _ _ w.heap.size 1 rfl];rfl,by rw[cA (w:=w) _ _ w.heap.size 3 rfl];rfl,by rw[cA (w:=w) _ _ w.heap.size 4 rfl];rfl⟩
 generalize w.alloc (E #[I K n,U m,U y,U f,U d,I K nn,I K ad] 30)=Wz at *;have df:Hid (∀i,(bJ q R i).length<=200):=λi=>lT (CS q R i ab) hn
 have hR200:R.length<=200:=lT (gl R ab) hn;have bv:Hid ((∀e∈R,e.h≠[])/\(∀e∈R,e.key.size<=40)/\totR R<=200):=⟨ab,hk,hn⟩;clear ab hk hn
 go_loopw [5,6] (λs5 s6 wr=>∃i:Nat,i<=R.length/\s6=I K i/\wr.ownsRow w.heap.size 117 3 s5 (bJ q R i).length (an (bJ q R i))/\Below Wz.heap.size Wz wr) (λ_ s6 _=>R.length-(intOf s6).toNat)
 case atStart=>exact⟨0,Nat.zero_le _,rfl,World.ownsRow_nil _ _ _ _,bR _ _⟩
 case round=>
  obtain⟨i,hin,rfl,t,hb⟩:=hrel;obtain⟨so,sc,rfl,-⟩:=az t;have V:Hid (Below Wz.heap.size Wz wr):=hb;have HB:Hid (Below w.heap.size w wr):=HO.out.1.trans (hb.mono HO.out.1.size);have o0:=ah hb HO.out.2.1;have o1:=ah hb HO.out.2.2.1;have o3:=ah hb HO.out.2.2.2.1;have o4:=ah hb HO.out.2.2.2.2;have c5:=ah HB.out c0;have b0:Hid (wr.ownsRow w.heap.size 117 3 (M so (bJ q R i).length sc) (bJ q R i).length (an (bJ q R i))):=t;clear t hb;by_cases z:i<R.length
  .obtain ⟨ge,ecap,he,-,hgl,e0,e1⟩:=HH.out.ent i z;cases he;replace e0:=ah HB.out e0;replace e1:=ah HB.out e1;have hii:(i:Int)<R.length:=by omega
   have a4:=Aa q R i z;have c8:=bv.out.2.1 _ (List.getElem_mem z);have hs200:R[i].h.length<=200:=lT (uw R i z) bv.out.2.2;have hv:=HH.out.vers _ (List.getElem_mem z);have bw:=bv.out.1 _ (List.getElem_mem z);obtain⟨gv,r,bo,-⟩:=cW hv (List.length_pos_iff.2 bw);rw[bo]at e1;have HV:Hid (wr.ownsRow B 130 3 (M (J ⟨gv,0,N⟩) R[i].h.length r) R[i].h.length (aq R[i].h)):=by
    have:=hv.kept (aS HB.out N) (none_or _);rw[bo]at this;exact this
   have bb:Hid (bJ q R (i+1)=eq q (bJ q R i) (mu R[i])):=a4;have bq:Hid (R[i].h≠[]):=bw;clear hv bo a4 bw;unfold mu at bb;generalize R[i].h=b at *;generalize R[i].key=a at *;have ab:=List.length_pos_iff.2 bq.out
   go_upto_region 7 with fail
   have af:Hid (Below wr.heap.size wr (wr.alloc (E #[U a,M (J ⟨gv,0,N⟩) b.length r] 140))/\(wr.alloc (E #[U a,M (J ⟨gv,0,N⟩) b.length r] 140)).cell? ⟨wr.heap.size,0,N⟩=J (U a)/\(wr.alloc (E #[U a,M (J ⟨gv,0,N⟩) b.length r] 140)).cell? ⟨wr.heap.size,1,N⟩=J (M (J ⟨gv,0,N⟩) b.length r)):=
    ⟨(bR _ wr).alloc (lR _) _,by rw[cA (w:=wr) _ _ wr.heap.size 0 rfl];rfl,by rw[cA (w:=wr) _ _ wr.heap.size 1 rfl];rfl⟩
   generalize wr.alloc (E #[U a,M (J ⟨gv,0,N⟩) b.length r] 140)=Wq at *;have q0:=af.out.2.1;have q1:=af.out.2.2;have p1:=ah af.out.1 o1;clear e0 e1 o0 o1 o3 o4 c5
   go_cut [9] (λs9 wx=>s9=C (m.data.toList.isPrefixOf a.data.toList)/\Below wr.heap.size wr wx/\wx.cell? ⟨wr.heap.size,0,N⟩=J (U a)/\wx.cell? ⟨wr.heap.size,1,N⟩=J (M (J ⟨gv,0,N⟩) b.length r))
   case first=>
    by_cases cm:m.size<=a.size
    .have ch:(m.size:Int)<=a.size:=by omega
     have b4:Hid (((a.extract 0 m.size).toList==m.toList)=m.data.toList.isPrefixOf a.data.toList):=IJ cm
     go_quiet (fail)
     go_wp2_with fail
     go_meet
     case rel=>exact⟨congrArg Value.bool b4.out,below_drewN af.out.1 _,q0,q1⟩
    .have ch:decide ((m.size:Int)<=a.size)=false:=by simp;omega
     have b4:Hid (Z=m.data.toList.isPrefixOf a.data.toList):=(IK cm).symm
     go_quiet (fail)
     go_wp2_with fail
     go_meet
     case rel=>exact⟨congrArg Value.bool b4.out,below_drewN af.out.1 _,q0,q1⟩
   case rest=>
   obtain⟨rfl,b1,q0,q1⟩:=hcut;have a2:Hid (Below wr.heap.size wr wc):=b1;have o0:=ah b1 (ah V.out HO.out.2.1);have o1:=ah b1 (ah V.out HO.out.2.2.1);have o3:=ah b1 (ah V.out HO.out.2.2.2.1);have o4:=ah b1 (ah V.out HO.out.2.2.2.2);obtain⟨lv,bi⟩:∃lv,lv=nd b:=⟨_,rfl⟩;have l2:wc.cell? ⟨gv,((b.length:Int)-1).toNat*3+2,N⟩=J (C lv.mark):=by
    rw[bi,show((b.length:Int)-1).toNat=b.length-1 by omega];exact ah b1 (CZ HV.out ab)
   have c6:wc.cell? ⟨gv,(b.length-1)*3+2,N⟩=J (C lv.mark):=by
    rw[<-l2,show((b.length:Int)-1).toNat=b.length-1 by omega]
   have d1:Hid (lv=nd b):=bi;have HW:Hid (fZ q a.data.toList b=(iX d a&&(s || !lv.mark))):=by
    show fZ q _ b=_;rw[HQ.out,bi];rfl
   have bd:Hid (∃pb,m.data.toList.isPrefixOf a.data.toList=pb):=⟨_,rfl⟩;clear b1 bi p1;generalize b6:m.data.toList.isPrefixOf a.data.toList=pb at *;have bd:Hid (m.data.toList.isPrefixOf a.data.toList=pb):=b6;clear b6
   go_upto_region 8 with fail
   go_cut [72] (λs72 wx=>s72=C (!(pb&&fZ q a.data.toList b))/\wx=wc)
   case first=>
    cases pb
    .go_wp2_with fail
     go_meet
     case rel=>exact⟨rfl,rfl⟩
    .have a5:Hid (∀bl,bl=!(iX d a&&(s || !lv.mark))->Value.bool bl=C (!(Y&&fZ q a.data.toList b))):=λbl h=>by rw[h,HW.out,Bool.true_and]
     by_cases ck:Op.bytesLess a.toList d.toList=Y
     .have al:Hid (iX d a=Z):=by show iX d a=Z;simp[iX,ck]
      go_wp2_with fail
      go_meet
      case rel=>exact⟨a5.out _ (by rw[al.out];rfl),rfl⟩
     .have cj:Op.bytesLess a.toList d.toList=false:=by simpa using ck
      by_cases bt:a.toList=d.toList
      .have al:Hid (iX d a=Z):=by show iX d a=Z;simp[iX,bt]
       go_wp2_with fail
       go_meet
       case rel=>exact⟨a5.out _ (by rw[al.out];rfl),rfl⟩
      .have cc:Hid ((a.toList==d.toList)=Z):=by show _=_;simpa using bt
       have al:Hid (iX d a=Y):=by show iX d a=Y;simp[iX,cj,bt]
       cases s
       .have a3:(n==6)=true:=a9;go_wp2_with fail
        go_meet
        case rel=>exact⟨a5.out _ (by rw[al.out,cc.out];simp),rfl⟩
       .have a3:(n==6)=false:=a9;go_wp2_with fail
        go_meet
        case rel=>exact⟨a5.out _ (by rw[al.out,cc.out];rfl),rfl⟩
   case rest=>
   obtain⟨rfl,rfl⟩:=hcut;have A:Hid (Below Wz.heap.size Wz wc):=V.out.trans (a2.out.mono V.out.size);have a0:Hid (wc.ownsRow w.heap.size 117 3 (M so (bJ q R i).length sc) (bJ q R i).length (an (bJ q R i))):=b0.out.kept (aS a2.out N) (none_or _);have cd:w.heap.size<=wc.heap.size:=lT HB.out.size a2.out.size;have av:Hid ((bJ q R i).length<=200):=df.out i;clear l2 c6 HW af;cases G:(pb&&fZ q a.data.toList b)with
   |false=>
    have dc:Hid (bJ q R (i+1)=bJ q R i):=by
     show bJ q R (i+1)=bJ q R i;rw[bb.out];refine wH ?_;rw[Bool.and_eq_false_iff]at G;rcases G with h|h
     .refine .inl ?_;rw[HQ.out];exact bd.out.trans h
     .exact .inr h
    clear G;go_wp2_with fail
    refine⟨⟨i+1,z,by go_num,?_,A.out⟩,by simp[intOf];omega⟩;rw[dc.out];exact a0.out
   |true=>
    rw[bT]at G;have a6:Hid (q.p.data.toList.isPrefixOf a.data.toList=Y/\fZ q a.data.toList b=Y):=⟨by rw[HQ.out];exact bd.out.trans G.1,G.2⟩;have hks:m.size<=40:=by
     have h1:=(List.isPrefixOf_iff_prefix.1 (bd.out.trans G.1)).length_le;simp at h1;exact lT h1 c8
    have HP:=CR a m f wc (by omega) (by omega) hd;have a8:Hid (cpart a m f=match aU q a.data.toList with|none=>⟨#[]⟩|some c=>⟨c.toArray⟩):=by
     show cpart a m f=_;unfold cpart aU;rw[HQ.out];rfl
    clear G;cases S:aU q a.data.toList with
    |some c=>
     have c3:=CY S;have bs:Hid (bJ q R (i+1)=aZ (bJ q R i) ⟨2,⟨c.toArray⟩,0⟩):=by
      show bJ q R (i+1)=_;rw[bb.out];exact rK a6.out.1 a6.out.2 S
     have ap:cpart a m f=⟨c.toArray⟩:=by rw[a8.out,S]
     rw[ap]at HP;have hz:=jt c3;have X:=xY w.heap.size _ (bJ q R i) ⟨2,⟨c.toArray⟩,0⟩ wc a0.out cd (by have:=av.out;omega);unfold itVal at X;clear ap S a8;generalize(⟨c.toArray⟩:ByteArray)=cb at *;go_wp2_with fail
     refine HP.mono ?_;rintro e w1 ⟨rfl,rfl⟩;go_wp2_with fail
     refine X.mono ?_;rintro e w1 ⟨Q,rfl,cp,b1⟩;have b8:Hid (w1.ownsRow w.heap.size 117 3 Q (aZ (bJ q R i) ⟨2,cb,0⟩).length (an (aZ (bJ q R i) ⟨2,cb,0⟩))/\Below Wz.heap.size Wz w1):=⟨cp,A.out.trans (b1.mono A.out.size)⟩;clear cp b1 X HP;go_wp2_with fail
     refine⟨⟨i+1,z,by go_num,?_,b8.out.2⟩,by simp[intOf];omega⟩;rw[bs.out];exact b8.out.1
    |none=>
     have ap:cpart a m f=⟨#[]⟩:=by rw[a8.out,S]
     rw[ap]at HP;have bs:Hid (bJ q R (i+1)=dI s a.data.toList b (bJ q R i) b.length):=by
      show bJ q R (i+1)=_;rw[bb.out,CU];have:=Ab (l:=bJ q R i) (kh:=(a.data.toList,b)) a6.out.1 a6.out.2 S;rw[this,HQ.out]
     clear ap S a8;go_wp2_with fail
     refine HP.mono ?_;rintro e w1 ⟨rfl,bn⟩;replace bn:=bn.symm;subst bn;clear HP;have dy:Hid (wc.ownsRow B 130 3 (M (J ⟨gv,0,N⟩) b.length r) b.length (aq b)):=HV.out.kept (aS a2.out N) (none_or _);clear HV a2 V b0;generalize wr.heap.size=xe at *;have ac:Hid (wc.cell? ⟨xe,0,N⟩=J (U a)/\wc.cell? ⟨xe,1,N⟩=J (M (J ⟨gv,0,N⟩) b.length r)/\wc.cell? ⟨w.heap.size,0,N⟩=J (I K n)/\wc.ownsRow B 130 3 (M (J ⟨gv,0,N⟩) b.length r) b.length (aq b)):=⟨q0,q1,o0,dy.out⟩;have dt:Hid (dI s a.data.toList b (bJ q R i) 0=bJ q R i):=Ad s _ b bq.out _;have c7:Hid (∀j,(dI s a.data.toList b (bJ q R i) j).length<=400):=λj=>by
      have h1:=CX s a.data.toList b bq.out (bJ q R i) j;have h2:=av.out;show(dI s a.data.toList b (bJ q R i) j).length<=400;omega
     go_wp2_with fail
     go_loopw [5,11] (λs5 s11 wx=>∃j:Nat,j<=b.length/\s11=I K j/\wx.ownsRow w.heap.size 117 3 s5 (dI s a.data.toList b (bJ q R i) j).length (an (dI s a.data.toList b (bJ q R i) j))/\Below wc.heap.size wc wx) (λ_ s11 _=>b.length-(intOf s11).toNat)
     case atStart=>exact⟨0,Nat.zero_le _,rfl,by rw[dt.out];exact a0.out,bR _ _⟩
     case round=>
      obtain⟨j,hj,rfl,t,P⟩:=hrel;obtain⟨bk,bp,rfl,-⟩:=az t;have d0:Hid (Below wc.heap.size wc wr):=P;by_cases T:j<b.length
      .have hjj:(j:Int)<b.length:=by omega
       have a1:Hid (wr.cell? ⟨xe,1,N⟩=J (M (J ⟨gv,0,N⟩) b.length r)/\wr.cell? ⟨w.heap.size,0,N⟩=J (I K n)/\wr.cell? ⟨gv,j*3+2,N⟩=J (C b[j].mark)):=⟨ah P ac.out.2.1,ah P ac.out.2.2.1,ah P (ya ac.out.2.2.2 j T).2⟩;have r0:=ah P ac.out.1;have r1:=ah P ac.out.2.1;have v0:=ah P (ya ac.out.2.2.2 j T).1;have b3:Hid (s=Y->dI s a.data.toList b (bJ q R i) (j+1)=aZ (dI s a.data.toList b (bJ q R i) j) ⟨if b[j].mark then 4 else 3,a,b[j].num⟩):=λh=>by subst h;exact Fq _ b _ j T
       have da:Hid (s=Z->j+1<b.length->dI s a.data.toList b (bJ q R i) (j+1)=dI s a.data.toList b (bJ q R i) j):=λh h2=>by subst h;exact CW _ b _ j h2
       have ct:Hid (s=Z->j+1=b.length->dI s a.data.toList b (bJ q R i) (j+1)=aZ (dI s a.data.toList b (bJ q R i) j) ⟨1,a,b[j].num⟩):=λh h2=>by subst h;exact Ae _ b _ j h2
       have hln:=c7.out j;have dd:w.heap.size<=wr.heap.size:=lT cd P.size;generalize ca:dI s a.data.toList b (bJ q R i) (j+1)=ar at *;have be:Hid (dI s a.data.toList b (bJ q R i) (j+1)=ar):=ca;clear ca;generalize dI s a.data.toList b (bJ q R i) j=L at *;have X:Hid (∀x W',Below wr.heap.size wr W'->Calls Yq.prog 84 #[M bk L.length bp,itVal x] W' λe w'=>∃Q,e=.returned Q/\w'.ownsRow w.heap.size 117 3 Q (aZ L x).length (an (aZ L x))/\Below wc.heap.size wc w'):=λx W' aa=>(xY w.heap.size _ L x W' (t.kept (aS aa N) (none_or _)) (lT dd aa.size) (by omega)).mono λe w' ⟨Q,h1,h2,h3⟩=>⟨Q,h1,h2,(P.trans (aa.mono P.size)).trans (h3.mono (lT P.size aa.size))⟩
       have b5:Hid (∀W',Below wr.heap.size wr W'->W'.ownsRow w.heap.size 117 3 (M bk L.length bp) L.length (an L)/\Below wc.heap.size wc W'):=λW' aa=>⟨t.kept (aS aa N) (none_or _),P.trans (aa.mono P.size)⟩
       clear t P;generalize b[j]=vj at *;obtain⟨vn,vb,vm⟩:=vj;simp only at v0 b3 ct a1
       go_upto_region 15 with fail
       go_cut [12] (λs12 wy=>s12=O (J ⟨wr.heap.size,0,N⟩)/\Below wr.heap.size wr wy/\aW wy wr.heap.size (I K 3) (U a) (I K vn))
       case first=>
        have a7:=gJ wr (I K 3) (U a) (I K vn) 117;have ha:Below wr.heap.size wr (wr.alloc (E #[I K 0,U ⟨#[]⟩,I K 0] 117)):=(bR _ _).alloc (lR _) _;have r0':=ah ha r0;have r1':=ah ha r1;have v0':=ah ha v0
        go_region
        all_goals
         go_wp2_with fail
         go_meet
         case rel=>exact⟨rfl,((bR _ _).alloc (lR _) _).drew,⟨a7.c0,a7.c1,a7.c2,a7.fz⟩⟩
       case rest=>
       obtain⟨rfl,bY,cY⟩:=hcut;obtain⟨y0,y1,y2,yf⟩:=cY;have yf0:=yf 0;have r1:=ah bY a1.out.1;have k0:=ah bY a1.out.2.1;have v2:=ah bY a1.out.2.2;have u:Hid (Below wr.heap.size wr wc/\(∀v,Below wr.heap.size wr (wc.setCell ⟨wr.heap.size,0,N⟩ v))/\∀v Q,Below wr.heap.size wr ((wc.setCell ⟨wr.heap.size,0,N⟩ v).setCell ⟨wr.heap.size,0,N⟩ Q)):=⟨bY,λv=>bY.setCell (lR _) v,λv Q=>(bY.setCell (lR _) v).setCell (lR _) Q⟩;have hxk:w.heap.size≠wr.heap.size:=by
        have:=bC wr _ a1.out.2.1;simp only at this;omega
       clear bY yf r0 v0;cases s
       .have a3:(n==6)=true:=a9;have b9:(n==7)=false:=b7;by_cases hl:j+1=b.length
        .have ds:((j:Int)==(b.length:Int)-1)=true:=by simp;omega
         cases vm <;>
         .go_wp2_with fail
          refine(X.out ⟨1,a,vn⟩ _ (by first|exact u.out.1|exact u.out.2.1 _|exact u.out.2.2 _ _)).mono ?_;rintro e w2 ⟨Q,rfl,F,b2⟩;have D:Hid (w2.ownsRow w.heap.size 117 3 Q (aZ L ⟨1,a,vn⟩).length (an (aZ L ⟨1,a,vn⟩))/\ar=aZ L ⟨1,a,vn⟩):=⟨F,ct.out (by first|trivial|rfl) hl⟩;clear F;go_wp2_with fail
          refine⟨⟨j+1,T,by go_num,?_,b2⟩,by simp[intOf];omega⟩;rw[be.out,D.out.2];exact D.out.1
        .have ds:((j:Int)==(b.length:Int)-1)=false:=by simp;omega
         have cr:Hid (ar=L):=da.out (by first|trivial|rfl) (by omega);cases vm <;>
         .go_wp2_with fail
          refine⟨⟨j+1,T,by go_num,?_,(b5.out _ (by first|exact u.out.1|exact u.out.2.1 _|exact u.out.2.2 _ _)).2⟩,by simp[intOf];omega⟩;rw[be.out,cr.out];exact(b5.out _ (by first|exact u.out.1|exact u.out.2.1 _|exact u.out.2.2 _ _)).1
       .have a3:(n==6)=false:=a9;have b9:(n==7)=true:=b7;cases vm
        .go_wp2_with fail
         refine(X.out ⟨3,a,vn⟩ _ (by first|exact u.out.1|exact u.out.2.1 _|exact u.out.2.2 _ _)).mono ?_;rintro e w2 ⟨Q,rfl,F,b2⟩;have D:Hid (w2.ownsRow w.heap.size 117 3 Q (aZ L ⟨3,a,vn⟩).length (an (aZ L ⟨3,a,vn⟩))/\ar=aZ L ⟨3,a,vn⟩):=⟨F,b3.out (by first|trivial|rfl)⟩;clear F;go_wp2_with fail
         refine⟨⟨j+1,T,by go_num,?_,b2⟩,by simp[intOf];omega⟩;rw[be.out,D.out.2];exact D.out.1
        .go_wp2_with fail
         refine(X.out ⟨4,a,vn⟩ _ (by first|exact u.out.1|exact u.out.2.1 _|exact u.out.2.2 _ _)).mono ?_;rintro e w2 ⟨Q,rfl,F,b2⟩;have D:Hid (w2.ownsRow w.heap.size 117 3 Q (aZ L ⟨4,a,vn⟩).length (an (aZ L ⟨4,a,vn⟩))/\ar=aZ L ⟨4,a,vn⟩):=⟨F,b3.out (by first|trivial|rfl)⟩;clear F;go_wp2_with fail
         refine⟨⟨j+1,T,by go_num,?_,b2⟩,by simp[intOf];omega⟩;rw[be.out,D.out.2];exact D.out.1
      .have c9:j=b.length:=by omega
       subst c9;have cl:Hid (wr.ownsRow w.heap.size 117 3 (M bk (dI s a.data.toList b (bJ q R i) b.length).length bp) (dI s a.data.toList b (bJ q R i) b.length).length (an (dI s a.data.toList b (bJ q R i) b.length))/\Below Wz.heap.size Wz wr):=⟨t,A.out.trans (P.mono A.out.size)⟩;clear t P;go_wp2_with fail
       refine⟨⟨i+1,z,by go_num,?_,cl.out.2⟩,by simp[intOf];omega⟩;rw[bs.out];exact cl.out.1
  .have c4:i=R.length:=by omega
   subst c4;have cv:Hid (bJ q R R.length=fe q (R.map mu)):=by
    show bJ q R R.length=_;unfold bJ;rw[List.take_length]
   go_wp2_with fail
   go_ret;refine⟨_,rfl,?_,HB.out⟩;rw[<-cv.out];exact b0.out
end
