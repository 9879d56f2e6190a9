/- A part. -/
import Derived.Test.YtnapepbdohidgaaGreatDoorQL25
set_option maxHeartbeats 4000000
set_option maxRecDepth 100000
open Go renaming Value->Wx
namespace Go.Proofs.Qw
section
open Go.RowKit
theorem GK {a b:ByteArray}(_:a.size<=b.size):((b.extract 0 a.size).toList==a.toList)=a.data.toList.isPrefixOf b.data.toList:=by
 rw [Bool.eq_iff_iff,beq_iff_eq,List.isPrefixOf_iff_prefix,List.prefix_iff_eq_take,ByteArray.toList_eq,ByteArray.toList_eq,Lib.extract_data,List.drop_zero,Nat.sub_zero];have e:a.data.toList.length=a.size:=by simp
 rw [e];exact ⟨fun h=>h.symm,fun h=>h.symm⟩
theorem GL {a b:ByteArray}(h:¬a.size<=b.size):a.data.toList.isPrefixOf b.data.toList=false:=by
 cases e:a.data.toList.isPrefixOf b.data.toList with
 |false=>rfl
 |true=>
  have:=(List.isPrefixOf_iff_prefix.1 e).length_le;simp at this;exact absurd this h
theorem BF {q:Qy}{k c:List UInt8}(h:aP q k=some c):(⟨c.toArray⟩:ByteArray)≠⟨#[]⟩:=by
 intro e;have e2:c=[]:=congrArg (fun b:ByteArray=>b.data.toList) e;subst e2;unfold aP at h;split at h
 .cases h
 .rename_i hd;obtain ⟨j,a,e⟩:=Option.map_eq_some_iff.1 h;have hdl:q.d.data.toList≠[]:=fun e=>hd (by have:=congrArg List.length e;simpa using this)
  have h1:=iw hdl _ _ a;have h2:=congrArg List.length e;have h3:=List.length_pos_iff.2 hdl;rw [tL,lN] at h2;rw [lD] at h1;omega
theorem wE {w:World}{B g cap:Nat}{hs:List Ver}{T:TypeId}(h:w.ownsRow B T 3 (.slice (some ⟨g,0,none⟩) hs.length cap) hs.length (am hs))(j:Nat)(a:j<hs.length):w.cell? ⟨g,j * 3,none⟩=some (.int .i64 hs[j].num)/\w.cell? ⟨g,j * 3+2,none⟩=some (.bool hs[j].mark):=by
 have hx:∀i,i<3->w.cell? ⟨g,j * 3+i,none⟩=[Value.int .i64 hs[j].num,.string hs[j].body,.bool hs[j].mark][i]?:=fun i b=>by
  have h1:=h.cellAt (j * 3+i) (by omega);have h2:=cu 3 (fun v:Ver=>[Value.int .i64 v.num,.string v.body,.bool v.mark]) (fun _=>rfl) hs j i a b;rw [am,h2] at h1;exact h1
 exact ⟨hx 0 (by omega),hx 2 (by omega)⟩
theorem BG {w:World}{B g cap:Nat}{hs:List Ver}{T:TypeId}(h:w.ownsRow B T 3 (.slice (some ⟨g,0,none⟩) hs.length cap) hs.length (am hs))(hne:0<hs.length):w.cell? ⟨g,(hs.length-1) * 3+2,none⟩=some (.bool (mq hs).mark):=by
 have h1:=h.cellAt ((hs.length-1) * 3+2) (by omega);have h2:=cu 3 (fun v:Ver=>[Value.int .i64 v.num,.string v.body,.bool v.mark]) (fun _=>rfl) hs (hs.length-1) 2 (by omega) (by omega);rw [am,h2] at h1;rw [h1];unfold mq;rw [List.getLast?_eq_getElem?,eL (l:=hs) (i:=hs.length-1) (by omega)];rfl
theorem yH (B k:Nat)(sl:Wx)(R:List br)(nx tm:Int)(o:OpD)(n:Bool)(Y:(o.kind==6)=!n)(a8:(o.kind==7)=n)(w:World)(H:ax B w k sl R nx tm)(hn:totR R<=200)(hne:∀e∈R,e.h≠[])(hk:∀e∈R,e.key.size<=40)(hd:o.delim.size<=140737488351232):
  Calls Yq.prog 83 #[.pointer (some ⟨k,0,none⟩),bh o] w fun e w'=>∃v,e=.returned v/\w'.ownsRow w.heap.size 41 3 v (eJ ⟨n,o.key,o.delim,o.past⟩ (R.map lh)).length (an (eJ ⟨n,o.key,o.delim,o.past⟩ (R.map lh)))/\Below w.heap.size w w':=by
 obtain ⟨va,vc,rfl,-⟩:=aE H.row;have c0:=H.cells.c0;have HH:Hid (ax B w k (.slice va R.length vc) R nx tm):=H;clear H;obtain ⟨f,key,body,d,b,nn,K⟩:=o;unfold bh;simp only at *;obtain ⟨q,hq⟩:∃q:Qy,q=⟨n,key,d,b⟩:=⟨_,rfl⟩;have HQ:Hid (q=⟨n,key,d,b⟩):=hq;rw [<-hq];clear hq;go_enter (Yq.nq Tryz.func83),Tryz.ntmps83;go_wp2_with fail
 have HO:Hid (Below w.heap.size w (w.alloc (.cells #[.int .i64 f,.string key,.string body,.string d,.string b,.int .i64 nn,.int .i64 K] 31))/\(w.alloc (.cells #[.int .i64 f,.string key,.string body,.string d,.string b,.int .i64 nn,.int .i64 K] 31)).cell? ⟨w.heap.size,0,none⟩=some (.int .i64 f)/\(w.alloc (.cells #[.int .i64 f,.string key,.string body,.string d,.string b,.int .i64 nn,.int .i64 K] 31)).cell? ⟨w.heap.size,1,none⟩=some (.string key)/\(w.alloc (.cells #[.int .i64 f,.string key,.string body,.string d,.string b,.int .i64 nn,.int .i64 K] 31)).cell? ⟨w.heap.size,3,none⟩=some (.string d)/\(w.alloc (.cells #[.int .i64 f,.string key,.string body,.string d,.string b,.int .i64 nn,.int .i64 K] 31)).cell? ⟨w.heap.size,4,none⟩=some (.string b)):=
  ⟨(bR _ w).alloc (lR _) _,by rw [cA (w:=w) _ _ w.heap.size 0 rfl];rfl,by rw [cA (w:=w) _ _ w.heap.size 1 rfl];rfl,by rw [cA (w:=w) _ _ w.heap.size 3 rfl];rfl,by rw [cA (w:=w) _ _ w.heap.size 4 rfl];rfl⟩
 generalize w.alloc (.cells #[.int .i64 f,.string key,.string body,.string d,.string b,.int .i64 nn,.int .i64 K] 31)=Wz at *;have bw:Hid (∀i,(bE q R i).length<=200):=fun i=>lT (BA q R i hne) hn
 have hR200:R.length<=200:=lT (gE R hne) hn;have a1:Hid ((∀e∈R,e.h≠[])/\(∀e∈R,e.key.size<=40)/\totR R<=200):=⟨hne,hk,hn⟩;clear hne hk hn
 go_loopw [5,6] (fun s5 s6 wr=>∃i:Nat,i<=R.length/\s6=.int .i64 i/\wr.ownsRow w.heap.size 41 3 s5 (bE q R i).length (an (bE q R i))/\Below Wz.heap.size Wz wr) (fun _ s6 _=>R.length-(intOf s6).toNat)
 case atStart=>exact ⟨0,Nat.zero_le _,rfl,World.ownsRow_nil _ _ _ _,bR _ _⟩
 case round=>
  obtain ⟨i,hin,rfl,hown,hb⟩:=hrel;obtain ⟨so,sc,rfl,-⟩:=aE hown;have C:Hid (Below Wz.heap.size Wz wr):=hb;have HB:Hid (Below w.heap.size w wr):=HO.out.1.trans (hb.mono HO.out.1.size);have o0:=ai hb HO.out.2.1;have o1:=ai hb HO.out.2.2.1;have o3:=ai hb HO.out.2.2.2.1;have o4:=ai hb HO.out.2.2.2.2;have c0':=ai HB.out c0;have a2:Hid (wr.ownsRow w.heap.size 41 3 (.slice so (bE q R i).length sc) (bE q R i).length (an (bE q R i))):=hown;clear hown hb;by_cases s:i<R.length
  .obtain ⟨ge,ecap,he,-,hgl,e0,e1⟩:=HH.out.ent i s;cases he;replace e0:=ai HB.out e0;replace e1:=ai HB.out e1;have hii:(i:Int)<R.length:=by omega
   have hsucc:=yD q R i s;have hek:=a1.out.2.1 _ (List.getElem_mem s);have hs200:R[i].h.length<=200:=lT (sX R i s) a1.out.2.2;have hv:=HH.out.vers _ (List.getElem_mem s);have hhn:=a1.out.1 _ (List.getElem_mem s);obtain ⟨F,m,av,-⟩:=cP hv (List.length_pos_iff.2 hhn);rw [av] at e1;have HV:Hid (wr.ownsRow B 145 3 (.slice (some ⟨F,0,none⟩) R[i].h.length m) R[i].h.length (am R[i].h)):=by
    have:=hv.kept (aS HB.out none) (none_or _);rw [av] at this;exact this
   have Z:Hid (bE q R (i+1)=dX q (bE q R i) (lh R[i])):=hsucc;have a0:Hid (R[i].h≠[]):=hhn;clear hv av hsucc hhn;unfold lh at Z;generalize R[i].h=hs at *;generalize R[i].key=a at *;have hne:=List.length_pos_iff.2 a0.out
   go_upto_region 7 with fail
   have L:Hid (Below wr.heap.size wr (wr.alloc (.cells #[.string a,.slice (some ⟨F,0,none⟩) hs.length m] 154))/\(wr.alloc (.cells #[.string a,.slice (some ⟨F,0,none⟩) hs.length m] 154)).cell? ⟨wr.heap.size,0,none⟩=some (.string a)/\(wr.alloc (.cells #[.string a,.slice (some ⟨F,0,none⟩) hs.length m] 154)).cell? ⟨wr.heap.size,1,none⟩=some (.slice (some ⟨F,0,none⟩) hs.length m)):=
    ⟨(bR _ wr).alloc (lR _) _,by rw [cA (w:=wr) _ _ wr.heap.size 0 rfl];rfl,by rw [cA (w:=wr) _ _ wr.heap.size 1 rfl];rfl⟩
   generalize wr.alloc (.cells #[.string a,.slice (some ⟨F,0,none⟩) hs.length m] 154)=Wq at *;have q0:=L.out.2.1;have q1:=L.out.2.2;have p1:=ai L.out.1 o1;clear e0 e1 o0 o1 o3 o4 c0'
   go_cut [9] (fun s9 wx=>s9=.bool (key.data.toList.isPrefixOf a.data.toList)/\Below wr.heap.size wr wx/\wx.cell? ⟨wr.heap.size,0,none⟩=some (.string a)/\wx.cell? ⟨wr.heap.size,1,none⟩=some (.slice (some ⟨F,0,none⟩) hs.length m))
   case first=>
    by_cases hpl:key.size<=a.size
    .have bd:(key.size:Int)<=a.size:=by omega
     have al:Hid (((a.extract 0 key.size).toList==key.toList)=key.data.toList.isPrefixOf a.data.toList):=GK hpl
     go_quiet (fail)
     go_wp2_with fail
     go_meet
     case rel=>exact ⟨congrArg Value.bool al.out,below_drewN L.out.1 _,q0,q1⟩
    .have bd:decide ((key.size:Int)<=a.size)=false:=by simp;omega
     have al:Hid (false=key.data.toList.isPrefixOf a.data.toList):=(GL hpl).symm
     go_quiet (fail)
     go_wp2_with fail
     go_meet
     case rel=>exact ⟨congrArg Value.bool al.out,below_drewN L.out.1 _,q0,q1⟩
   case rest=>
   obtain ⟨rfl,b1,q0,q1⟩:=hcut;have P:Hid (Below wr.heap.size wr wc):=b1;have o0:=ai b1 (ai C.out HO.out.2.1);have o1:=ai b1 (ai C.out HO.out.2.2.1);have o3:=ai b1 (ai C.out HO.out.2.2.2.1);have o4:=ai b1 (ai C.out HO.out.2.2.2.2);obtain ⟨lv,hlv⟩:∃lv,lv=mq hs:=⟨_,rfl⟩;have l2:wc.cell? ⟨F,((hs.length:Int)-1).toNat * 3+2,none⟩=some (.bool lv.mark):=by
    rw [hlv,show ((hs.length:Int)-1).toNat=hs.length-1 by omega];exact ai b1 (BG HV.out hne)
   have b4:wc.cell? ⟨F,(hs.length-1) * 3+2,none⟩=some (.bool lv.mark):=by
    rw [<-l2,show ((hs.length:Int)-1).toNat=hs.length-1 by omega]
   have b7:Hid (lv=mq hs):=hlv;have HW:Hid (fE q a.data.toList hs=(ir b a&&(n || !lv.mark))):=by
    show fE q _ hs=_;rw [HQ.out,hlv];rfl
   have ab:Hid (∃pb,key.data.toList.isPrefixOf a.data.toList=pb):=⟨_,rfl⟩;clear b1 hlv p1;generalize a6:key.data.toList.isPrefixOf a.data.toList=pb at *;have ab:Hid (key.data.toList.isPrefixOf a.data.toList=pb):=a6;clear a6
   go_upto_region 8 with fail
   go_cut [72] (fun s72 wx=>s72=.bool (!(pb&&fE q a.data.toList hs))/\wx=wc)
   case first=>
    cases pb
    .go_wp2_with fail
     go_meet
     case rel=>exact ⟨rfl,rfl⟩
    .have T:Hid (∀bl,bl=!(ir b a&&(n || !lv.mark))->Value.bool bl=.bool (!(true&&fE q a.data.toList hs))):=fun bl h=>by rw [h,HW.out,Bool.true_and]
     by_cases hbl:Op.bytesLess a.toList b.toList=true
     .have J:Hid (ir b a=false):=by show ir b a=false;simp [ir,hbl]
      go_wp2_with fail
      go_meet
      case rel=>exact ⟨T.out _ (by rw [J.out];rfl),rfl⟩
     .have a7:Op.bytesLess a.toList b.toList=false:=by simpa using hbl
      by_cases ac:a.toList=b.toList
      .have J:Hid (ir b a=false):=by show ir b a=false;simp [ir,ac]
       go_wp2_with fail
       go_meet
       case rel=>exact ⟨T.out _ (by rw [J.out];rfl),rfl⟩
      .have bk:Hid ((a.toList==b.toList)=false):=by show _=_;simpa using ac
       have J:Hid (ir b a=true):=by show ir b a=true;simp [ir,a7,ac]
       cases n
       .have S:(f==6)=true:=Y;go_wp2_with fail
        go_meet
        case rel=>exact ⟨T.out _ (by rw [J.out,bk.out];simp),rfl⟩
       .have S:(f==6)=false:=Y;go_wp2_with fail
        go_meet
        case rel=>exact ⟨T.out _ (by rw [J.out,bk.out];rfl),rfl⟩
   case rest=>
   obtain ⟨rfl,rfl⟩:=hcut;have u:Hid (Below Wz.heap.size Wz wc):=C.out.trans (P.out.mono C.out.size);have O:Hid (wc.ownsRow w.heap.size 41 3 (.slice so (bE q R i).length sc) (bE q R i).length (an (bE q R i))):=a2.out.kept (aS P.out none) (none_or _);have a5:w.heap.size<=wc.heap.size:=lT HB.out.size P.out.size;have M:Hid ((bE q R i).length<=200):=bw.out i;clear l2 b4 HW L;cases hpw:(pb&&fE q a.data.toList hs) with
   |false=>
    have bp:Hid (bE q R (i+1)=bE q R i):=by
     show bE q R (i+1)=bE q R i;rw [Z.out];refine uX ?_;rw [Bool.and_eq_false_iff] at hpw;rcases hpw with h|h
     .refine .inl ?_;rw [HQ.out];exact ab.out.trans h
     .exact .inr h
    clear hpw;go_wp2_with fail
    refine ⟨⟨i+1,s,by go_num,?_,u.out⟩,by simp [intOf];omega⟩;rw [bp.out];exact O.out
   |true=>
    rw [bT] at hpw;have V:Hid (q.p.data.toList.isPrefixOf a.data.toList=true/\fE q a.data.toList hs=true):=⟨by rw [HQ.out];exact ab.out.trans hpw.1,hpw.2⟩;have hks:key.size<=40:=by
     have h1:=(List.isPrefixOf_iff_prefix.1 (ab.out.trans hpw.1)).length_le;simp at h1;exact lT h1 hek
    have HP:=Bz a key d wc (by omega) (by omega) hd;have U:Hid (cpart a key d=match aP q a.data.toList with|none=>⟨#[]⟩|some c=>⟨c.toArray⟩):=by
     show cpart a key d=_;unfold cpart aP;rw [HQ.out];rfl
    clear hpw;cases E:aP q a.data.toList with
    |some c=>
     have hcn:=BF E;have ar:Hid (bE q R (i+1)=aU (bE q R i) ⟨2,⟨c.toArray⟩,0⟩):=by
      show bE q R (i+1)=_;rw [Z.out];exact qC V.out.1 V.out.2 E
     have hcp:cpart a key d=⟨c.toArray⟩:=by rw [U.out,E]
     rw [hcp] at HP;have hz:=kU hcn;have HPU:=wC w.heap.size _ (bE q R i) ⟨2,⟨c.toArray⟩,0⟩ wc O.out a5 (by have:=M.out;omega);unfold itVal at HPU;clear hcp E U;generalize (⟨c.toArray⟩:ByteArray)=cb at *;go_wp2_with fail
     refine HP.mono ?_;rintro e w1 ⟨rfl,rfl⟩;go_wp2_with fail
     refine HPU.mono ?_;rintro e w1 ⟨v',rfl,ho1,b1⟩;have a3:Hid (w1.ownsRow w.heap.size 41 3 v' (aU (bE q R i) ⟨2,cb,0⟩).length (an (aU (bE q R i) ⟨2,cb,0⟩))/\Below Wz.heap.size Wz w1):=⟨ho1,u.out.trans (b1.mono u.out.size)⟩;clear ho1 b1 HPU HP;go_wp2_with fail
     refine ⟨⟨i+1,s,by go_num,?_,a3.out.2⟩,by simp [intOf];omega⟩;rw [ar.out];exact a3.out.1
    |none=>
     have hcp:cpart a key d=⟨#[]⟩:=by rw [U.out,E]
     rw [hcp] at HP;have ar:Hid (bE q R (i+1)=dw n a.data.toList hs (bE q R i) hs.length):=by
      show bE q R (i+1)=_;rw [Z.out,BC];have:=yE (l:=bE q R i) (kh:=(a.data.toList,hs)) V.out.1 V.out.2 E;rw [this,HQ.out]
     clear hcp E U;go_wp2_with fail
     refine HP.mono ?_;rintro e w1 ⟨rfl,hw1⟩;replace hw1:=hw1.symm;subst hw1;clear HP;have bq:Hid (wc.ownsRow B 145 3 (.slice (some ⟨F,0,none⟩) hs.length m) hs.length (am hs)):=HV.out.kept (aS P.out none) (none_or _);clear HV P C a2;generalize wr.heap.size=xe at *;have I:Hid (wc.cell? ⟨xe,0,none⟩=some (.string a)/\wc.cell? ⟨xe,1,none⟩=some (.slice (some ⟨F,0,none⟩) hs.length m)/\wc.cell? ⟨w.heap.size,0,none⟩=some (.int .i64 f)/\wc.ownsRow B 145 3 (.slice (some ⟨F,0,none⟩) hs.length m) hs.length (am hs)):=⟨q0,q1,o0,bq.out⟩;have b3:Hid (dw n a.data.toList hs (bE q R i) 0=bE q R i):=yF n _ hs a0.out _;have bv:Hid (∀j,(dw n a.data.toList hs (bE q R i) j).length<=400):=fun j=>by
      have h1:=BE n a.data.toList hs a0.out (bE q R i) j;have h2:=M.out;show (dw n a.data.toList hs (bE q R i) j).length<=400;omega
     go_wp2_with fail
     go_loopw [5,11] (fun s5 s11 wx=>∃j:Nat,j<=hs.length/\s11=.int .i64 j/\wx.ownsRow w.heap.size 41 3 s5 (dw n a.data.toList hs (bE q R i) j).length (an (dw n a.data.toList hs (bE q R i) j))/\Below wc.heap.size wc wx) (fun _ s11 _=>hs.length-(intOf s11).toNat)
     case atStart=>exact ⟨0,Nat.zero_le _,rfl,by rw [b3.out];exact O.out,bR _ _⟩
     case round=>
      obtain ⟨j,hj,rfl,hown,bx⟩:=hrel;obtain ⟨ap,ad,rfl,-⟩:=aE hown;have b6:Hid (Below wc.heap.size wc wr):=bx;by_cases A:j<hs.length
      .have hjj:(j:Int)<hs.length:=by omega
       have N:Hid (wr.cell? ⟨xe,1,none⟩=some (.slice (some ⟨F,0,none⟩) hs.length m)/\wr.cell? ⟨w.heap.size,0,none⟩=some (.int .i64 f)/\wr.cell? ⟨F,j * 3+2,none⟩=some (.bool hs[j].mark)):=⟨ai bx I.out.2.1,ai bx I.out.2.2.1,ai bx (wE I.out.2.2.2 j A).2⟩;have r0:=ai bx I.out.1;have r1:=ai bx I.out.2.1;have v0:=ai bx (wE I.out.2.2.2 j A).1;have af:Hid (n=true->dw n a.data.toList hs (bE q R i) (j+1)=aU (dw n a.data.toList hs (bE q R i) j) ⟨if hs[j].mark then 4 else 3,a,hs[j].num⟩):=fun h=>by subst h;exact DO _ hs _ j A
       have bo:Hid (n=false->j+1<hs.length->dw n a.data.toList hs (bE q R i) (j+1)=dw n a.data.toList hs (bE q R i) j):=fun h h2=>by subst h;exact BD _ hs _ j h2
       have a4:Hid (n=false->j+1=hs.length->dw n a.data.toList hs (bE q R i) (j+1)=aU (dw n a.data.toList hs (bE q R i) j) ⟨1,a,hs[j].num⟩):=fun h h2=>by subst h;exact yG _ hs _ j h2
       have hln:=bv.out j;have bs:w.heap.size<=wr.heap.size:=lT a5 bx.size;generalize bi:dw n a.data.toList hs (bE q R i) (j+1)=Q at *;have X:Hid (dw n a.data.toList hs (bE q R i) (j+1)=Q):=bi;clear bi;generalize dw n a.data.toList hs (bE q R i) j=y at *;have HPU:Hid (∀x W',Below wr.heap.size wr W'->Calls Yq.prog 109 #[.slice ap y.length ad,itVal x] W' fun e w'=>∃v',e=.returned v'/\w'.ownsRow w.heap.size 41 3 v' (aU y x).length (an (aU y x))/\Below wc.heap.size wc w'):=fun x W' D=>(wC w.heap.size _ y x W' (hown.kept (aS D none) (none_or _)) (lT bs D.size) (by omega)).mono fun e w' ⟨v',h1,h2,h3⟩=>⟨v',h1,h2,(bx.trans (D.mono bx.size)).trans (h3.mono (lT bx.size D.size))⟩
       have HST:Hid (∀W',Below wr.heap.size wr W'->W'.ownsRow w.heap.size 41 3 (.slice ap y.length ad) y.length (an y)/\Below wc.heap.size wc W'):=fun W' D=>⟨hown.kept (aS D none) (none_or _),bx.trans (D.mono bx.size)⟩
       clear hown bx;generalize hs[j]=vj at *;obtain ⟨G,vb,vm⟩:=vj;simp only at v0 af a4 N
       go_upto_region 15 with fail
       go_cut [12] (fun s12 wy=>s12=.pointer (some ⟨wr.heap.size,0,none⟩)/\Below wr.heap.size wr wy/\aQ wy wr.heap.size (.int .i64 3) (.string a) (.int .i64 G))
       case first=>
        have HN3:=fX wr (.int .i64 3) (.string a) (.int .i64 G) 41;have ha:Below wr.heap.size wr (wr.alloc (.cells #[.int .i64 0,.string ⟨#[]⟩,.int .i64 0] 41)):=(bR _ _).alloc (lR _) _;have r0':=ai ha r0;have r1':=ai ha r1;have v0':=ai ha v0
        go_region
        all_goals
         go_wp2_with fail
         go_meet
         case rel=>exact ⟨rfl,((bR _ _).alloc (lR _) _).drew,⟨HN3.c0,HN3.c1,HN3.c2,HN3.fz⟩⟩
       case rest=>
       obtain ⟨rfl,bY,cY⟩:=hcut;obtain ⟨y0,y1,y2,yf⟩:=cY;have yf0:=yf 0;have r1:=ai bY N.out.1;have k0:=ai bY N.out.2.1;have v2:=ai bY N.out.2.2;have r:Hid (Below wr.heap.size wr wc/\(∀v,Below wr.heap.size wr (wc.setCell ⟨wr.heap.size,0,none⟩ v))/\∀v v',Below wr.heap.size wr ((wc.setCell ⟨wr.heap.size,0,none⟩ v).setCell ⟨wr.heap.size,0,none⟩ v')):=⟨bY,fun v=>bY.setCell (lR _) v,fun v v'=>(bY.setCell (lR _) v).setCell (lR _) v'⟩;have hxk:w.heap.size≠wr.heap.size:=by
        have:=bC wr _ N.out.2.1;simp only at this;omega
       clear bY yf r0 v0;cases n
       .have S:(f==6)=true:=Y;have bb:(f==7)=false:=a8;by_cases hl:j+1=hs.length
        .have hl':((j:Int)==(hs.length:Int)-1)=true:=by simp;omega
         cases vm <;>
         .go_wp2_with fail
          refine (HPU.out ⟨1,a,G⟩ _ (by first|exact r.out.1|exact r.out.2.1 _|exact r.out.2.2 _ _)).mono ?_;rintro e w2 ⟨v',rfl,z,b2⟩;have t:Hid (w2.ownsRow w.heap.size 41 3 v' (aU y ⟨1,a,G⟩).length (an (aU y ⟨1,a,G⟩))/\Q=aU y ⟨1,a,G⟩):=⟨z,a4.out (by first|trivial|rfl) hl⟩;clear z;go_wp2_with fail
          refine ⟨⟨j+1,A,by go_num,?_,b2⟩,by simp [intOf];omega⟩;rw [X.out,t.out.2];exact t.out.1
        .have hl':((j:Int)==(hs.length:Int)-1)=false:=by simp;omega
         have be:Hid (Q=y):=bo.out (by first|trivial|rfl) (by omega);cases vm <;>
         .go_wp2_with fail
          refine ⟨⟨j+1,A,by go_num,?_,(HST.out _ (by first|exact r.out.1|exact r.out.2.1 _|exact r.out.2.2 _ _)).2⟩,by simp [intOf];omega⟩;rw [X.out,be.out];exact (HST.out _ (by first|exact r.out.1|exact r.out.2.1 _|exact r.out.2.2 _ _)).1
       .have S:(f==6)=false:=Y;have bb:(f==7)=true:=a8;cases vm
        .go_wp2_with fail
         refine (HPU.out ⟨3,a,G⟩ _ (by first|exact r.out.1|exact r.out.2.1 _|exact r.out.2.2 _ _)).mono ?_;rintro e w2 ⟨v',rfl,z,b2⟩;have t:Hid (w2.ownsRow w.heap.size 41 3 v' (aU y ⟨3,a,G⟩).length (an (aU y ⟨3,a,G⟩))/\Q=aU y ⟨3,a,G⟩):=⟨z,af.out (by first|trivial|rfl)⟩;clear z;go_wp2_with fail
         refine ⟨⟨j+1,A,by go_num,?_,b2⟩,by simp [intOf];omega⟩;rw [X.out,t.out.2];exact t.out.1
        .go_wp2_with fail
         refine (HPU.out ⟨4,a,G⟩ _ (by first|exact r.out.1|exact r.out.2.1 _|exact r.out.2.2 _ _)).mono ?_;rintro e w2 ⟨v',rfl,z,b2⟩;have t:Hid (w2.ownsRow w.heap.size 41 3 v' (aU y ⟨4,a,G⟩).length (an (aU y ⟨4,a,G⟩))/\Q=aU y ⟨4,a,G⟩):=⟨z,af.out (by first|trivial|rfl)⟩;clear z;go_wp2_with fail
         refine ⟨⟨j+1,A,by go_num,?_,b2⟩,by simp [intOf];omega⟩;rw [X.out,t.out.2];exact t.out.1
      .have b5:j=hs.length:=by omega
       subst b5;have a9:Hid (wr.ownsRow w.heap.size 41 3 (.slice ap (dw n a.data.toList hs (bE q R i) hs.length).length ad) (dw n a.data.toList hs (bE q R i) hs.length).length (an (dw n a.data.toList hs (bE q R i) hs.length))/\Below Wz.heap.size Wz wr):=⟨hown,u.out.trans (bx.mono u.out.size)⟩;clear hown bx;go_wp2_with fail
       refine ⟨⟨i+1,s,by go_num,?_,a9.out.2⟩,by simp [intOf];omega⟩;rw [ar.out];exact a9.out.1
  .have b0:i=R.length:=by omega
   subst b0;have bn:Hid (bE q R R.length=eJ q (R.map lh)):=by
    show bE q R R.length=_;unfold bE;rw [List.take_length]
   go_wp2_with fail
   go_ret;refine ⟨_,rfl,?_,HB.out⟩;rw [<-bn.out];exact a2.out
end
