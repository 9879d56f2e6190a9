/- A part. -/
import Derived.Test.YtnapepbdohidgaaGreatDoorQU21
import Derived.Test.YtnapepbdohidgaaGreatDoorQU22
import Derived.Test.YtnapepbdohidgaaGreatDoorQU23
import Derived.Lib.Index
import Derived.Shelf.Lays
import Derived.Shelf.Strings.Search3
import Derived.RangeFuncSeq
import Derived.TacticsInMore
import Derived.RegionIn
import Derived.LoopNIn
import Derived.LoopIn
set_option maxHeartbeats 4000000
set_option maxRecDepth 100000
open Go renaming World->Wz,Value->Wq,undef->Wy
namespace Go.Proofs.Qw
section
open Go
open Go.Conc Go.ConcX Go.ConcX.Gen Go.RowKit
theorem Bq (K:OpD->Prop)(hK:∀ {A:Nat->Prop}{B k0:Nat}{w:Wz}{st:St}{L:Lg}(_:aH A B w k0 st L)(s:Nat)(o:OpD)(_:o.key.size<=maxLen)(_:o.body.size<=maxLen)(_:Inv st s)(_:s<2199023255340)(_:K o)(_:o.kind<6\/12<o.kind),Calls Yq.prog 33 #[.pointer (some ⟨k0,0,none⟩),cj o] w (bg A B k0 w (bz st o).1 L ⟨(bz st o).2.code,(bz st o).2.ver,(bz st o).2.body,[],⟨#[]⟩⟩))(hLd:∀ {A:Nat->Prop}{B k0:Nat}{w:Wz}{st:St}{L:Lg}(_:aH A B w k0 st L)(_:B<=w.heap.size)(o:OpD)(_:K o)(_:o.kind=12)(_:o.body.size<=maxLen)(s g0 cp:Nat)(_:s<2199023255340)(_:w.cell? ⟨k0,8,none⟩=some (.slice (some ⟨g0,0,none⟩) s cp))(ks:List Int)(bs:List ByteArray)(_:DL w k0 g0 s ks bs),Calls Yq.prog 33 #[.pointer (some ⟨k0,0,none⟩),cj o] w (bg A B k0 w (cE st L (cW ks bs o.src o.body)).1 (cE st L (cW ks bs o.src o.body)).2.1 (cE st L (cW ks bs o.src o.body)).2.2))(Qok:Qy->Prop)(hQ:∀q,Qok q->gH q/\gI q)(G:Wz->Prop)(N:Nat)(hN:N<2199023255300)(hGg:∀w',G w'->cI w')(hTok:∀n pg:Int,0<=n->n<=N->0<=pg->pg<=N+1->jY G n pg):sY Qok K G N:=by
 intro A B k0 w st L h hB hG o hk hko hkz hbz s hI hT hL hs g0 cp toks hn c8 ht ks bs hbk;by_cases h12:o.kind=12
 .simp only [lm,if_pos h12];exact (hLd h hB o hk h12 hbz s g0 cp (by omega) c8 ks bs hbk).mono fun e w' h=>.inl h
 simp only [lm,if_neg h12];have hbg:=hL.begun;by_cases h6:o.kind=6
 .simp only [stepA,if_pos h6];obtain ⟨kind,key,body,delim,past,n,src⟩:=o;simp only at h6;subst h6;exact te 6 false ⟨rfl,rfl⟩ Qok hQ h hB hL.len key body delim past n src (hko.q rfl) (hT.sum _) hkz (by omega) G hGg hG (hTok _ _ (by omega) (by omega) (by omega) (by omega))
 by_cases h7:o.kind=7
 .simp only [stepA,if_neg h6,if_pos h7];obtain ⟨kind,key,body,delim,past,n,src⟩:=o;simp only at h7;subst h7;exact th 7 true ⟨rfl,rfl⟩ Qok hQ h hB hL.len key body delim past n src (hko.q7 rfl) (hT.sum _) hkz (by omega) G hGg hG (hTok _ _ (by omega) (by omega) (by omega) (by omega))
 by_cases h8:o.kind=8
 .simp only [stepA,if_neg h6,if_neg h7,if_pos h8];exact uS Qok hQ h hB hL.len o h8 g0 cp toks (by omega) (hn.symm▸c8) ht hL.ok (fun tok n pg e=>by have:=hL.told tok n pg e;omega) G hGg hG (fun tok n pg e _=>by have:=hL.told tok n pg e;exact hTok _ _ (by omega) (by omega) (by omega) (by omega))
 by_cases h9:o.kind=9
 .simp only [stepA,if_neg h6,if_neg h7,if_neg h8,if_pos h9];exact (uP h hB hL.len hL.left o h9).mono fun e w' h=>.inl h
 by_cases h10:o.kind=10
 .simp only [stepA,if_neg h6,if_neg h7,if_neg h8,if_neg h9,if_pos h10];exact (sW h hB hL.len o h10).mono fun e w' h=>.inl h
 by_cases h11:o.kind=11
 .simp only [stepA,if_neg h6,if_neg h7,if_neg h8,if_neg h9,if_neg h10,if_pos h11];exact (uY h hB hI hT (by omega) o h11).mono fun e w' h=>.inl h
 .simp only [stepA,if_neg h6,if_neg h7,if_neg h8,if_neg h9,if_neg h10,if_neg h11];exact (hK h s o hkz hbz hI (by omega) hk (by omega)).mono fun e w' h=>.inl h
theorem tt (Qok:Qy->Prop)(hQ:∀q,Qok q->gH q/\gI q)(G:Wz->Prop)(N:Nat)(hN:N<2199023255300)(hGg:∀w',G w'->cI w')(hTok:∀n pg:Int,0<=n->n<=N->0<=pg->pg<=N+1->jY G n pg):sY Qok Gv G N:=
 Bq Gv (fun h s o h1 h2 h3 h4 _ h6=>yt h s o h1 h2 h3 h4 h6) (fun h hB o _ hk hb s g0 cp hs c8 ks bs hbk=>vn h hB o hk hb s g0 cp hs c8 ks bs hbk) Qok hQ G N hN hGg hTok
theorem Gn {t:ByteArray}(h:t≠⟨#[]⟩):t.toList.isEmpty=false:=by
 rw [ByteArray.toList_eq];cases e:t.data.toList with
 |nil=>exact absurd (ByteArray.ext (Array.toList_inj.1 (e.trans rfl))) h
 |cons a r=>rfl
theorem tu (d:List UInt8):∀s:List UInt8,Lib.index s d=((nM d s).map fun (i:Nat)=>(i:Int)).getD (-1)
 | []=>by
  cases d<;>rfl
 |b::r=>by
  have ih:=tu d r;rw [Lib.index,nM];split
  .rfl
  .cases h:nM d r with
   |none=>
    rw [h] at ih;simp at ih;rw [ih];rfl
   |some i=>
    rw [h] at ih;simp at ih;rw [ih,if_neg (by simp)];simp
def Gp:Prop:=∀ (s sub:ByteArray)(m:Int)(w:Wz),s.size<4294967281->w.cell? ⟨0,0,none⟩=some (.int .i64 m)->Calls Yq.prog 155 #[.string s,.string sub] w fun e w'=>e=.returned (.int .i64 (Lib.index s.data.toList sub.data.toList))/\w'=w
theorem wM (d:List UInt8):∀ (s:List UInt8)(i:Nat),nM d s=some i->i+d.length<=s.length
 | [],i,h=>by
  rw [nM] at h;split at h
  .rename_i e;subst e;cases h;simp
  .cases h
 |b::r,i,h=>by
  rw [nM] at h;split at h
  .rename_i e;cases h;have:=(List.isPrefixOf_iff_prefix.1 e).length_le;simpa using this
  .cases hs:nM d r with
   |none=>rw [hs] at h;cases h
   |some j=>
    rw [hs] at h;cases h;have:=wM d r j hs;simp only [lC];omega
theorem tw (hIx:Gp)(q:Qy):gH q:=by
 by_cases hd0:q.d=⟨#[]⟩
 .exact uE q hd0
 intro k w hgl hk hpre;obtain ⟨m,hm⟩:=hgl;obtain ⟨vs,p,d,af⟩:=q;simp only at hd0 hpre;have hpl:p.size<=k.length:=by have:=hpre.length_le;simpa using this
 obtain ⟨key,hkey⟩:∃key:ByteArray,key=⟨k.toArray⟩:=⟨_,rfl⟩;have hks:key.size=k.length:=by rw [hkey];rfl
 have hex:(key.extract p.size key.size).data.toList=k.drop p.size:=by
  rw [Lib.extract_data,hks,tO (by rw [lD,hkey];simp),hkey]
 have hde:d.toList.isEmpty=false:=Gn hd0;have hC:gG ⟨vs,p,d,af⟩ k=(nM d.data.toList (k.drop p.size)).map fun i=>k.take (p.size+i+d.size):=by
  rw [gG,if_neg];intro e;apply hd0;apply ByteArray.ext;exact Array.eq_empty_of_size_eq_zero e
 have hix:=tu d.data.toList (k.drop p.size);rw [hC];rw [<-hkey];have HIX:Hid (∀W:Wz,W.cell? ⟨0,0,none⟩=some (.int .i64 m)->Calls Yq.prog 155 #[.string (key.extract p.size key.size),.string d] W fun e w'=>e=.returned (.int .i64 (Lib.index (k.drop p.size) d.data.toList))/\w'=W):=fun W hW=>by
  rw [<-hex];exact hIx _ _ m W (by rw [ByteArray.size_extract];omega) hW
 have HW:Hid (Below w.heap.size w (w.alloc (.cells #[.bool vs,.string p,.string d,.string af] 93))):=(bR _ _).alloc (lR _) _;have hm2:(w.alloc (.cells #[.bool vs,.string p,.string d,.string af] 93)).drew.cell? ⟨0,0,none⟩=some (.int .i64 m):=aj HW.out hm;have HKEY:Hid (key=⟨k.toArray⟩/\key.size=k.length):=⟨hkey,hks⟩;have hpk:p.size<=key.size:=by omega
 have hkk:key.size<=1000:=by omega
 clear hex hC hkey hks hpl hk;unfold qV;cases hs:nM d.data.toList (k.drop p.size) with
 |none=>
  rw [hs] at hix;simp at hix;rw [hix] at HIX;go_enter (Yq.nq Tryz.func139),Tryz.ntmps139;go_wp2_with fail
  go_region_with (go_at_call 155;refine (HIX.out _ hm2).mono ?_;rintro e w1 ⟨rfl,rfl⟩)
  all_goals
   go_wp2
   go_ret2
   exact ⟨rfl,HW.out.drew⟩
 |some i=>
  rw [hs] at hix;simp at hix;rw [hix] at HIX;have hle:=wM _ _ _ hs;rw [lD] at hle;have hdl:d.data.toList.length=d.size:=by simp
  have hsz:p.size+i+d.size<=key.size:=by have:=HKEY.out.2;omega
  clear hle hdl;have h0:¬((i:Int)<0):=by omega
  have hw1:wrap64 ((p.size:Int)+i)=(p.size:Int)+i:=by unfold wrap64;omega
  have hw2:wrap64 ((p.size:Int)+i+d.size)=(p.size:Int)+i+d.size:=by unfold wrap64;omega
  go_enter (Yq.nq Tryz.func139),Tryz.ntmps139;go_wp2_with fail
  go_region_with (go_at_call 155;refine (HIX.out _ hm2).mono ?_;rintro e w1 ⟨rfl,rfl⟩)
  all_goals
   go_wp2
   go_ret2
   refine ⟨?_,HW.out.drew⟩;have e:key.extract 0 (p.size+i+d.size)=⟨(k.take (p.size+i+d.size)).toArray⟩:=by rw [Lib.extract_eq,HKEY.out.1];simp
   rw [e];rfl
end
end Go.Proofs.Qw
namespace Go.Proofs
section
open Go.Shelf Go.Lib
def Yq.lays143_ren:Go.Shelf.Ren:=⟨fun| 143=>155| 217=>172| 219=>165| 224=>174| 225=>173| 266=>180| 267=>175| 314=>181|n=>n,fun| 3=>3| 4=>4| 5=>5| 9=>9| 46=>199| 51=>222| 146=>251|n=>n,fun| 1=>0|n=>n⟩
theorem Yq.lays143:Go.Proofs.Lays.n143 Yq.prog Yq.lays143_ren:={
 mixed:=by kernel_rfl
 f143:=(Yq.nq Tryz.func155).trans (congrArg some (by kernel_rfl))
 f217:=(Yq.nq Tryz.func172).trans (congrArg some (by kernel_rfl))
 f219:=(Yq.nq Tryz.func165).trans (congrArg some (by kernel_rfl))
 f224:=(Yq.nq Tryz.func174).trans (congrArg some (by kernel_rfl))
 f225:=(Yq.nq Tryz.func173).trans (congrArg some (by kernel_rfl))
 f266:=(Yq.nq Tryz.func180).trans (congrArg some (by kernel_rfl))
 f267:=(Yq.nq Tryz.func175).trans (congrArg some (by kernel_rfl))
 f314:=(Yq.nq Tryz.func181).trans (congrArg some (by kernel_rfl))
 t3:=(Yq.u Tryz.underlying3)
 a3:=(fun w=>Yq.a (Tryz.isAgg3 w))
 z3:=(fun w=>Yq.s (Tryz.sizeOf3 w))
 v3:=(fun w=>Yq.z (Tryz.zeroValue3 w))
 t4:=(Yq.u Tryz.underlying4)
 a4:=(fun w=>Yq.a (Tryz.isAgg4 w))
 z4:=(fun w=>Yq.s (Tryz.sizeOf4 w))
 v4:=(fun w=>Yq.z (Tryz.zeroValue4 w))
 t5:=(Yq.u Tryz.underlying5)
 a5:=(fun w=>Yq.a (Tryz.isAgg5 w))
 z5:=(fun w=>Yq.s (Tryz.sizeOf5 w))
 v5:=(fun w=>Yq.z (Tryz.zeroValue5 w))
 t9:=(Yq.u Tryz.underlying9)
 a9:=(fun w=>Yq.a (Tryz.isAgg9 w))
 z9:=(fun w=>Yq.s (Tryz.sizeOf9 w))
 v9:=(fun w=>Yq.z (Tryz.zeroValue9 w))
 t46:=(Yq.u Tryz.underlying199)
 a46:=(fun w=>Yq.a (Tryz.isAgg199 w))
 z46:=(fun w=>Yq.s (Tryz.sizeOf199 w))
 v46:=(fun w=>Yq.z (Tryz.zeroValue199 w))
 t51:=(Yq.u Tryz.underlying222)
 a51:=(fun w=>Yq.a (Tryz.isAgg222 w))
 z51:=(fun w=>Yq.s (Tryz.sizeOf222 w))
 v51:=(fun w=>Yq.z (Tryz.zeroValue222 w))
 t146:=(Yq.u Tryz.underlying251)
 a146:=(fun w=>Yq.a (Tryz.isAgg251 w))
 z146:=(fun w=>Yq.s (Tryz.sizeOf251 w))
 v146:=(fun w=>Yq.z (Tryz.zeroValue251 w))
 g1:=by kernel_rfl}
theorem Yq.strings_Index (s sub:ByteArray)(m:Int)(w:Wz)(hs:s.size<4294967281)(hm:w.cell? ⟨0,0,none⟩=some (.int .i64 m)):
  Calls Yq.prog 155 #[.string s,.string sub] w fun e w'=>e=.returned (.int .i64 (Lib.index s.data.toList sub.data.toList))/\w'=w:=Any.strings_Index Yq.lays143 s sub m w hs hm
end
end Go.Proofs
namespace Go.Proofs.Qw
section
open Go
open Go.Conc Go.ConcX Go.ConcX.Gen Go.RowKit
def tz (v:Ver):Wq:=.agg #[.int .i64 v.num,.string v.body,.bool v.mark]
theorem Du (k:List UInt8)(v:Ver)(w:Wz):Calls Yq.prog 157 #[.string ⟨k.toArray⟩,tz v] w fun e w'=>e=.returned (itVal (fJ k v))/\Below w.heap.size w w':=by
 obtain ⟨num,body,mark⟩:=v;have hb:∀c,Below w.heap.size w (((w.alloc (.cells #[.int .i64 num,.string body,.bool mark] 81)).alloc c)):=fun c=>((bR _ _).alloc (lR _) _).alloc (by simp) _
 have HB:Hid (∀c,Below w.heap.size w (((w.alloc (.cells #[.int .i64 num,.string body,.bool mark] 81)).alloc c))):=hb;clear hb;unfold tz;cases mark
 .go_enter (Yq.nq Tryz.func157),Tryz.ntmps157;go_wp2_with fail
  exact bodyPost_ret (v:=.agg #[.int .i64 3,.string ⟨k.toArray⟩,.int .i64 num]) (by simp [results,Tryz.results157,go_sem]) rfl ⟨rfl,HB.out _⟩
 .go_enter (Yq.nq Tryz.func157),Tryz.ntmps157;go_wp2_with fail
  exact bodyPost_ret (v:=.agg #[.int .i64 4,.string ⟨k.toArray⟩,.int .i64 num]) (by simp [results,Tryz.results157,go_sem]) rfl ⟨rfl,HB.out _⟩
theorem vp (hv:Wq)(w:Wz)(hh:∃a n c,hv=.slice a n c):Calls Yq.prog 156 #[hv] w fun e w'=>e=.returned (.func (.func 166) #[] #[ptr w.heap.size])/\w'=w.alloc (.cells #[hv] 114):=by
 obtain ⟨a,n,c,rfl⟩:=hh;go_enter (Yq.nq Tryz.func156),Tryz.ntmps156;go_wp2_with fail
 go_ret;exact ⟨rfl,rfl⟩
theorem Fy (l bx t g cap:Nat)(h:List Ver)(hl:h.length<=1000)(J:List Ver->Wz->Prop)(hbx:bx≠t)(hg:g≠t)
  (hY:∀pre (i:Nat) v X,pre++[v] <+:h.reverse->J pre X->YieldAt (wf none) 0 Yq.prog l #[.int .i64 i,tz v] X fun e X'=>e=.returned (.bool true)/\J (pre++[v]) X'/\dp t X X')
  (W:Wz) {og:Obj} (hog:W.heap[g]?=some og) (hoc:og.isCells=true) (hrow:∀j,j<h.length * 3->W.cell? ⟨g,j,none⟩=(aC h)[j]?) (hb:W.heap[bx]?=some (.cells #[.slice (some ⟨g,0,none⟩) h.length cap] 114)) (h0:J [] W):
  Calls Yq.prog 166 #[.func (.yield l) #[] #[],ptr bx] W fun e W'=>(∃v,e=.returned v)/\J h.reverse W':=by
 have HY:Hid (∀pre (i:Nat) v X,pre++[v] <+:h.reverse->J pre X->YieldAt (wf none) 0 Yq.prog l #[.int .i64 i,tz v] X fun e X'=>e=.returned (.bool true)/\J (pre++[v]) X'/\dp t X X'):=hY;have HW:Hid (W.heap[g]?=some og/\og.isCells=true/\(∀j,j<h.length * 3->W.cell? ⟨g,j,none⟩=(aC h)[j]?)/\W.heap[bx]?=some (.cells #[.slice (some ⟨g,0,none⟩) h.length cap] 114)):=⟨hog,hoc,hrow,hb⟩;have c0:W.cell? ⟨bx,0,none⟩=some (.slice (some ⟨g,0,none⟩) h.length cap):=by simp [World.cell?,hb]
 obtain ⟨n,hn⟩:∃n,n=h.length:=⟨_,rfl⟩;have HN:Hid (n=h.length):=hn;rw [<-hn] at c0 hl;clear hY hog hoc hrow hb hn;unfold ptr;refine (callsIn_wide (n:=0)).1 (callsIn_of_wp (F:=Fence.wide) (Yq.nq Tryz.func166) rfl trivial ?_ rfl);simp only [Tryz.ntmps166,lZ,lC,lN,Nat.reduceAdd,Nat.reduceSub,Array.replicate_succ,Array.replicate_zero,List.push_toArray,List.append_toArray,List.nil_append,List.cons_append]
 gi_wp2_with fail
 gi_loopw [3] (fun s3 wr=>∃j:Nat,j<=n/\s3=.int .i64 ((n:Int)-1-j)/\J (h.reverse.take j) wr/\dp t W wr) (fun s3 _=>(intOf s3+1).toNat)
 case atStart=>
  exact ⟨0,Nat.zero_le _,by simp,h0,dp.refl _ _⟩
 case round=>
  obtain ⟨j,hj,rfl,hJ,hk⟩:=hrel;have hbr:wr.heap[bx]?=some (.cells #[.slice (some ⟨g,0,none⟩) h.length cap] 114):=hk.2.2 bx _ HW.out.2.2.2 rfl hbx;have hgr:wr.heap[g]?=some og:=hk.2.2 g _ HW.out.1 HW.out.2.1 hg;have cb:wr.cell? ⟨bx,0,none⟩=some (.slice (some ⟨g,0,none⟩) n cap):=by rw [HN.out];simp [World.cell?,hbr]
  have HK:Hid (dp t W wr):=hk;clear hbr hk c0;by_cases hlt:j<n
  .obtain ⟨i,hi⟩:∃i,i=n-1-j:=⟨_,rfl⟩;have hii:(n:Int)-1-j=(i:Int):=by omega
   have hin:i<n:=by omega
   have hih:i<h.length:=by rw [<-HN.out];exact hin
   have hjr:j<h.reverse.length:=by rw [List.length_reverse,<-HN.out];exact hlt
   have hvr:h.reverse[j]=h[i]:=by rw [List.getElem_reverse];congr 1;rw [<-HN.out];omega
   have htk:h.reverse.take (j+1)=h.reverse.take j++[h[i]]:=by rw [tS hjr,hvr]
   have hcr:∀c,c<3->wr.cell? ⟨g,i * 3+c,none⟩=(aC h)[i * 3+c]?:=fun c hc=>by
    rw [cB (a:=⟨g,i * 3+c,none⟩) (hgr.trans HW.out.1.symm)];exact HW.out.2.2.1 _ (by omega)
   have hvc:∀c,c<3->(aC h)[i * 3+c]?=[Value.int .i64 h[i].num,.string h[i].body,.bool h[i].mark][c]?:=fun c hc=>dV 3 _ (fun _=>rfl) h i c hih hc
   have k0:=(hcr 0 (by omega)).trans (hvc 0 (by omega));have k1:=(hcr 1 (by omega)).trans (hvc 1 (by omega));have k2:=(hcr 2 (by omega)).trans (hvc 2 (by omega));simp only [gZ,gS,Nat.add_zero] at k0 k1 k2;obtain ⟨fn,tmps,assign,body,hy,hR⟩:=HY.out (h.reverse.take j) i h[i] wr (by rw [<-htk];exact List.take_prefix _ _) hJ;have HTK:Hid (h.reverse.take (j+1)=h.reverse.take j++[h[i]]):=htk;rw [hii];have HI:Hid (i=n-1-j/\(n:Int)-1-j=(i:Int)/\j<n):=⟨hi,hii,hlt⟩;have hi0:(0:Int)<=i:=by omega
   clear hi hii hlt;generalize h[i]=v at *;obtain ⟨num,vb,mk⟩:=v;simp only [tz] at k0 k1 k2 hy hR;clear hcr hvc hgr hvr htk hJ;gi_wp2;refine ⟨rfl,RoundIn.mono (F:=Fence.wide) hR ?_⟩;rintro e W3 ⟨rfl,hJ3,hk3⟩;gi_wp2
   go_roundw
   case rel=>exact ⟨j+1,by have:=HI.out.2.2;omega,by have:=HI.out.2.1;congr 1;omega,by rw [HTK.out];exact hJ3,HK.out.trans hk3⟩
   case measure=>have:=HI.out;simp [intOf]
  .have hjn:j=n:=by omega
   subst hjn;gi_wp2;go_end0;refine ⟨⟨_,rfl⟩,?_⟩;rw [tO (by rw [List.length_reverse,<-HN.out];exact lR _)] at hJ;exact hJ
section
variable {P:Program} {α β:Type}
theorem yO {g:Operand}{ps:Array Tmp}{assign body:Code}{Q:Exit->Act->Wz->Prop}{a:Act}{w:Wz}{n gf:Nat}{lb:Array Wq}{encs:β->Array Wq}(π:β->α)(hg:a.eval g=.func (.func gf) #[] lb)(eg:∀args w,(callFunc gf args).run P w=.ok (.enter gf args) w)(hps:∀x,(encs x).size=ps.size)
  (c t:Nat) (hc:c<w.heap.size) (ht:t<w.heap.size) (I:List α->Wz->Prop) (good:List α->β->Prop) (total:List α)
  (hI:∀pre X Y,I pre X->(∀b,b<w.heap.size->Y.heap[b]?=X.heap[b]?)->X.heap.size<=Y.heap.size->Y.os=X.os->I pre Y) (hIc:∀pre X,I pre X->∃o:Obj,X.heap[c]?=some o/\o.isCells=false) (h0:I [] w) (a₁:β->Nat->Act) (box:β->Obj)
  (hcall:∀ (l:Nat) (J:List α->Wz->Prop) (W:Wz),W.heap.size=w.heap.size+2->(∀b,b<w.heap.size->W.heap[b]?=w.heap[b]?) ->
   (∀pre X Y,J pre X->(∀b,b<w.heap.size+2->Y.heap[b]?=X.heap[b]?)->X.heap.size<=Y.heap.size->Y.os=X.os->J pre Y)->(∀pre X,J pre X->w.heap.size+2<=X.heap.size) ->
   (∀pre x X,good pre x->J pre X->YieldAt (wf none) 0 P l (encs x) X fun e X'=>e=.returned (.bool true)/\J (pre++[π x]) X'/\dp t X X')->J [] W ->
   Calls P gf (#[.func (.yield l) #[] #[]]++lb) W fun e W'=>(∃v,e=.returned v)/\J total W')
  (hassign:∀ (l:Nat) (x:β) (W:Wz) (K:Act->Wz->Prop),K (a₁ x W.heap.size) (W.alloc (box x))->assign.wpIn (wf (some l)) 0 P (Exit.then K (fun _ _ _=>False)) {tmps:=(ps.zip (encs x)).foldl (fun t (p,v)=>t.setIfInBounds p v) a.tmps,defers:=[]} W)
  (hbody:∀ (l:Nat) (pre:List α) (x:β) (b:Nat) (W:Wz),good pre x->I pre W->W.heap[b]?=some (box x)->w.heap.size+2<=b->body.wpIn (wf (some l)) 0 P (fun e _ W'=>e=.normal/\kJ c t W W'/\I (pre++[π x]) W') (a₁ x b) W)
  (hdone:∀ (D:Nat) (W:Wz),w.heap.size<=D->I total W->W.heap[D]?=some (.deferred (some []))->Q .normal {a with defers:={target:=.collected D,args:=#[]} :: a.defers} W):
  (Code.rangeFunc g ps assign body).wpIn (wf none) n P Q a w:=by
 refine wpIn_rangeFunc ?_;intro fn hfn;obtain ⟨rec,hrec⟩:∃rec:LoopState->Loop,rec=fun st=>{state:=st,pending:=none,fn,tmps:=a.tmps,params:=ps,assign,body,defers:=w.heap.size}:=⟨_,rfl⟩
 obtain ⟨W1,hW1⟩:∃W1,(w.alloc (.deferred (some []))).alloc (.loop (rec .ready))=W1:=⟨_,rfl⟩;have hL1:W1.heap[w.heap.size+1]?=some (.loop (rec .ready)):=by
  rw [<-hW1];have:=aN (w.alloc (.deferred (some []))) (.loop (rec .ready));rwa [World.size_alloc] at this
 have hK1:W1.heap[w.heap.size]?=some (.deferred (some [])):=by
  rw [<-hW1];exact (bA _ _ _ (by simp)).trans (aN w _)
 have hold:∀b,b<w.heap.size->W1.heap[b]?=w.heap[b]?:=fun b hb=>by
  rw [<-hW1,bA _ _ _ (by simp;omega),bA _ _ _ hb]
 have hsz1:W1.heap.size=w.heap.size+2:=by rw [<-hW1];simp
 have hI1:I [] W1:=hI _ _ _ h0 hold (by omega) (by rw [<-hW1];rfl);refine ⟨w.heap.size+1,[{target:=.collected w.heap.size,args:=#[]}],W1,{target:=.fn (.func gf) lb,args:=#[.func (.yield (w.heap.size+1)) #[] #[]]},W1,gf,
  #[.func (.yield (w.heap.size+1)) #[] #[]]++lb,W1,?_,?_,fun _ _=>trivial,?_,(fun h=>by cases h),?_⟩
 .rw [<-hW1,hrec];exact run_enterLoop_outer _ _ _ _ _
 .simp only [resolve,hg];simp [go_sem]
 .simp [invoke,go_sem,eg]
 .refine callsIn_wide.2 ((hcall (w.heap.size+1) (fun pre W=>I pre W/\W.heap[w.heap.size+1]?=some (.loop (rec .ready))/\W.heap[w.heap.size]?=some (.deferred (some []))) W1 hsz1 hold (fun pre X Y h h1 h2 h3=>⟨hI pre X Y h.1 (fun b hb=>h1 b (by omega)) h2 h3,(h1 _ (by omega)).trans h.2.1,(h1 _ (by omega)).trans h.2.2⟩) (fun pre X h=>(eS h.2.1).1) ?_ ⟨hI1,hL1,hK1⟩).mono ?_)
  .rintro pre x X hgood ⟨hi,hl,hk⟩;have hlt:w.heap.size+1<X.heap.size:=(eS hl).1;have hy:=run_yield (P:=P) (args:=encs x) hl (by rw [hrec];exact hps x);rw [hrec] at hy;refine ⟨fn,_,assign,body,hy,roundIn_of_wpIn (F:=wf none) trivial (hassign _ x X _ ?_)⟩;obtain ⟨X1,hX1⟩:∃X1,X.alloc (box x)=X1:=⟨_,rfl⟩;have hb1:X1.heap[X.heap.size]?=some (box x):=by rw [<-hX1];exact aN X _
   have ho1:∀b,b<X.heap.size->X1.heap[b]?=X.heap[b]?:=fun b hb=>by rw [<-hX1];exact bA _ _ _ hb
   have hs1:X1.heap.size=X.heap.size+1:=by rw [<-hX1];simp
   have hos1:X1.os=X.os:=by rw [<-hX1];rfl
   rw [hX1];have hkc1:dp t X X1:=⟨by omega,hos1,fun b o hb _ _=>(ho1 b (eS hb).1).trans hb⟩;have hi:I pre X1:=hI _ _ _ hi (fun b hb=>ho1 b (by omega)) (by omega) hos1;have hl:X1.heap[w.heap.size+1]?=some (.loop (rec .ready)):=(ho1 _ hlt).trans hl;have hk:X1.heap[w.heap.size]?=some (.deferred (some [])):=(ho1 _ (by omega)).trans hk;have hbx:w.heap.size+2<=X.heap.size:=by omega
   generalize X.heap.size=bx at *;have hlt:w.heap.size+1<X1.heap.size:=(eS hl).1;refine ⟨_,run_beginRound hl (by rw [hrec]),?_⟩;obtain ⟨X2,hX2⟩:∃X2,X1.putObj (w.heap.size+1) (.loop {rec .ready with state:=.busy})=X2:=⟨_,rfl⟩;have hl2:X2.heap[w.heap.size+1]?=some (.loop {rec .ready with state:=.busy}):=by rw [<-hX2];exact World.putObj_heap_same hlt
   have ho2:∀b,b≠w.heap.size+1->X2.heap[b]?=X1.heap[b]?:=fun b hb=>by rw [<-hX2];exact pO hb
   have hsz2:X2.heap.size=X1.heap.size:=by rw [<-hX2];simp
   have hos2:X2.os=X1.os:=by rw [<-hX2];rfl
   have hi2:I pre X2:=hI _ _ _ hi (fun b hb=>ho2 b (by omega)) (by omega) hos2;have hkc2:dp t X1 X2:=by rw [<-hX2];exact fw hl rfl _
   rw [hX2];refine wpIn_mono (hbody _ pre x bx _ hgood hi2 ((ho2 _ (by omega)).trans hb1) hbx) ?_;rintro e a3 X3 ⟨rfl,hkb,hi3⟩;have hl3:X3.heap[w.heap.size+1]?=some (.loop {rec .ready with state:=.busy}):=(hkb.2.2 _ (by omega) (by omega) (by omega)).trans hl2;have hk3:X3.heap[w.heap.size]?=some (.deferred (some [])):=(hkb.2.2 _ (by omega) (by omega) (by omega)).trans ((ho2 _ (by omega)).trans hk);have her:=run_endRound (P:=P) none hl3;have hfin:({rec .ready with state:=.busy}:Loop)={rec .ready with state:=.busy}:=rfl;have e4:({({rec .ready with state:=.busy}:Loop) with state:=if (none:Option Code).isNone then .ready else .done,pending:=none}:Loop)=rec .ready:=by rw [hrec];rfl
   rw [e4] at her;have hlt3:w.heap.size+1<X3.heap.size:=(eS hl3).1;refine ⟨_,_,her,rfl,⟨hI _ _ _ hi3 (fun b hb=>pO (by omega)) (by simp) rfl,World.putObj_heap_same hlt3,(pO (by omega)).trans hk3⟩,hkc1.trans (hkc2.trans ((hkb.cells (hIc _ _ hi2)).trans (fw hl3 rfl _)))⟩
  .rintro e W2 ⟨⟨v,rfl⟩,hi,hl,hk⟩;have hel:=run_endLoop (P:=P) hl (by rw [hrec];simp);have hpe:(rec .ready).pending=none:=by rw [hrec]
   rw [hpe] at hel;exact ⟨none,_,hel,hdone w.heap.size _ (lR _) (hI _ _ _ hi (fun b hb=>pO (by omega)) (by simp) rfl) ((pO (by omega)).trans hk)⟩
end
noncomputable def DP:Code:=yd (cIn (bB (bB (bB (aZ Tryz.f140)))))
noncomputable def Gq:Array Oper:=nt (cIn DP)
structure WdV (W1:Wz)(c:Nat)(buf:List Wq)(it:Wq)(d:Nat->Bool)(w:Wz):Prop where
 below:d 4=false->Below W1.heap.size W1 w
 done:d 4=true->∃w1,Below W1.heap.size W1 w1/\w=w1.setChan c 1000 (buf++[it]).toArray false (buf.length+1) 0 false
section
variable {W1:Wz} {c:Nat} {buf:List Wq} {it:Wq} {d:Nat->Bool} {w:Wz}
theorem WdV.other (h:WdV W1 c buf it d w){i:Nat}(hi:4≠i):WdV W1 c buf it (dG d i) w:=⟨fun e=>h.below (by rwa [dx hi] at e),fun e=>h.done (by rwa [dx hi] at e)⟩
theorem WdV.more (h:WdV W1 c buf it d w)(h6:d 4=false){X:Wz}(hX:Below w.heap.size w X):WdV W1 c buf it (dG d 3) X:=⟨fun _=>(h.below h6).trans (hX.mono (h.below h6).size),fun e=>by rw [dx (by omega),h6] at e;cases e⟩
theorem WdV.sent (h:WdV W1 c buf it d w)(hw:d 4=false):WdV W1 c buf it (dG d 4) (w.setChan c 1000 (buf.toArray.push it) false (buf.length+1) 0 false):=⟨fun e=>by simp [dG] at e,fun _=>⟨w,h.below hw,by simp⟩⟩
end
theorem Br {id n l:Nat}{Q:Exit->Act->Wz->Prop}{a0:Act}{W:Wz}{b5 b7 b9 c:Nat}{k:List UInt8}{v:Ver}{buf:List Wq}(hs:a0.tmps.size=27)(e5:a0.eval (.tmp 5)=ptr b5)(e7:a0.eval (.tmp 7)=ptr b7)(e9:a0.eval (.tmp 9)=ptr b9)
  (c5:W.cell? ⟨b5,0,none⟩=some (.string ⟨k.toArray⟩)) (c7:W.cell? ⟨b7,0,none⟩=some (.chan (some c))) (c9:W.cell? ⟨b9,0,none⟩=some (.int .i64 v.num)/\W.cell? ⟨b9,1,none⟩=some (.string v.body)/\W.cell? ⟨b9,2,none⟩=some (.bool v.mark)) (hc:W.heap[c]?=some (.chan 1000 buf.toArray false buf.length 0 false)) (hroom:buf.length<1000)
  (hend:∀a w1,a.tmps.size=27->a.defers=a0.defers->Below W.heap.size W w1->Q .normal a (w1.setChan c 1000 (buf++[itVal (fJ k v)]).toArray false (buf.length+1) 0 false)):
  (Code.region id Gq true).wpIn (wf (some l)) n Yq.prog Q a0 W:=by
 obtain ⟨W1,hW1⟩:∃W1:Wz,W1={W with drawn:=W.drawn+1}:=⟨_,rfl⟩;have hb1:Below W.heap.size W W1:=by rw [hW1];exact ⟨rfl,rfl,rfl,lR _,fun _ _=>rfl⟩
 have hsz:W1.heap.size=W.heap.size:=by rw [hW1]
 have k5:W1.cell? ⟨b5,0,none⟩=some (.string ⟨k.toArray⟩):=aj hb1 c5;have k7:W1.cell? ⟨b7,0,none⟩=some (.chan (some c)):=aj hb1 c7;have k90:=aj hb1 c9.1;have k91:=aj hb1 c9.2.1;have k92:=aj hb1 c9.2.2;have hcL:c<W1.heap.size:=by rw [hsz];exact (eS hc).1
 have hc:W1.heap[c]?=some (.chan 1000 buf.toArray false buf.length 0 false):=by rw [hW1];exact hc
 have hroom:buf.toArray.size<1000:=by simpa using hroom
 refine fA (ro:=some l) (a0:=a0) (w0:=W) mixed 23 4
   (fun i=>match i with| 0=>.chan (some c)| 1=>.string ⟨k.toArray⟩| 2=>tz v|_=>itVal (fJ k v))
   (WdV W1 c buf (itVal (fJ k v))) (by omega) (by rfl) (by rfl) (fun listed a w i o hi ho V hdep hcl=>?_) (fun a w h1 h2 h3 h4 h5=>?_) ⟨fun _=>by rw [<-hW1];exact bR _ _,fun e=>by cases e⟩
 .have hlt:i<5:=(cf hi).1;have h60:listed.getD 4 false=false:=by
   cases h:listed.getD 4 false with
   |false=>rfl
   |true=>
    exfalso;have l3:=hcl.dep (j:=4) (k:=3) (by rfl) h;have l0:=hcl.dep (j:=4) (k:=0) (by rfl) h;have l1:=hcl.dep (j:=3) (k:=1) (by rfl) l3;have l2:=hcl.dep (j:=3) (k:=2) (by rfl) l3;have hi2:=(cf hi).2;have hall:∀j,j<5->listed.getD j false=true:=fun j hj=>by
     rcases j with - | - | - | - | - |j;all_goals first|assumption|omega
    have h7:=hall i hlt;have hsz7:i<listed.size:=by rw [V.len];exact hlt
    simp only [gD,eG hsz7,Option.getD_some] at hi2 h7;rw [hi2] at h7;cases h7
  have hw:Below W1.heap.size W1 w:=V.world.below h60;have ho1:=ho;dsimp only [Gq,DP,yd,cIn,aZ,Tryz.f140,fI,bB,nt,Option.getD] at ho1;rcases i with - | - | - | - | - |i
  .simp only [gA,gZ,oI] at ho1;subst ho1;have q0:a.eval (.tmp 7)=ptr b7:=(V.old 7 (by omega)).trans e7;refine am ho rfl (fun c h=>by cases h) (v:=.chan (some c)) (w':=w) (by generalize a.eval=ρ at q0 ⊢;simp [go_sem,q0,ptr,aj hw k7]) ⟨_,rfl,fun _=>rfl,V.world.other (by omega)⟩
  .simp only [gA,gS,gZ,oI,zA] at ho1;subst ho1;have q0:a.eval (.tmp 5)=ptr b5:=(V.old 5 (by omega)).trans e5;refine am ho rfl (fun c h=>by cases h) (v:=.string ⟨k.toArray⟩) (w':=w) (by generalize a.eval=ρ at q0 ⊢;simp [go_sem,q0,ptr,aj hw k5]) ⟨_,rfl,fun _=>rfl,V.world.other (by omega)⟩
  .simp only [gA,gS,gZ,oI,Nat.reduceAdd,zA] at ho1;subst ho1;have q0:a.eval (.tmp 9)=ptr b9:=(V.old 9 (by omega)).trans e9;refine am ho rfl (fun c h=>by cases h) (v:=tz v) (w':=w) (by generalize a.eval=ρ at q0 ⊢;simp [go_sem,q0,ptr,tz,aj hw k90,aj hw k91,aj hw k92]) ⟨_,rfl,fun _=>rfl,V.world.other (by omega)⟩
  .simp only [gA,gS,gZ,oI,Nat.reduceAdd,zA] at ho1;subst ho1;have q0:a.eval (.tmp 24)=.string ⟨k.toArray⟩:=V.new 1 (by omega) (hdep ⟨1,.data⟩ (by simp) rfl);have q1:a.eval (.tmp 25)=tz v:=V.new 2 (by omega) (hdep ⟨2,.data⟩ (by simp) rfl);refine iu (f:=157) (args:=#[.string ⟨k.toArray⟩,tz v]) (w':=w) ho rfl (fun c h=>by cases h) (by have qf:=hfun a rfl 157;generalize a.eval=ρ at q0 q1 qf ⊢;simp [go_sem,q0,q1,qf]) ((Du k v w).mono ?_);rintro e X ⟨rfl,hX⟩;exact ⟨_,rfl,_,rfl,fun _=>rfl,V.world.more h60 hX⟩
  .simp only [gA,gS,gZ,oI,Nat.reduceAdd,zA] at ho1;subst ho1;have q0:a.eval (.tmp 23)=.chan (some c):=V.new 0 (by omega) (hdep ⟨0,.data⟩ (by simp) rfl);have q1:a.eval (.tmp 26)=itVal (fJ k v):=V.new 3 (by omega) (hdep ⟨3,.data⟩ (by simp) rfl);refine nz ho rfl rfl q0 ((hw.block c hcL).trans hc) hroom ?_;exact ⟨_,rfl,fun h=>absurd h (by omega),by rw [q1];exact V.world.sent h60⟩
  .omega
 .obtain ⟨d,hd,hw⟩:=h5;obtain ⟨w1,hb,rfl⟩:=hw.done (hd 4 (by decide));exact hend a w1 (h1.trans hs) h2 (hb1.trans (by rw [hsz] at hb;exact hb))
def ma (n c:Nat)(p d af:ByteArray)(k:List UInt8)(hv x9 x21 x22:Wq):Array Wq:=
 #[.agg #[.bool true,.string p,.string d,.string af],.string ⟨k.toArray⟩,hv,.chan (some c),ptr n,ptr (n+1),Wy,ptr (n+2),Wy,x9,.pointer (some ⟨n,0,none⟩),.bool true,.bool false,Wy,Wy,Wy,Wy,Wy,Wy,hv,.func (.func 166) #[] #[ptr (n+3)],x21,x22,Wy,Wy,Wy,Wy]
def svW (w:Wz)(c:Nat)(p d af:ByteArray)(k:List UInt8)(hv:Wq):Wz:=
 (((w.alloc (.cells #[.bool true,.string p,.string d,.string af] 93)).alloc (.cells #[.string ⟨k.toArray⟩] 9)).alloc (.cells #[.chan (some c)] 210)).alloc (.cells #[hv] 114)
section
variable (w:Wz) (c:Nat) (p d af:ByteArray) (k:List UInt8) (hv:Wq)
theorem eJ:(svW w c p d af k hv).heap.size=w.heap.size+4:=by simp only [svW,World.alloc,Array.size_push]
theorem vq {b:Nat}(h:b<w.heap.size):(svW w c p d af k hv).heap[b]?=w.heap[b]?:=by
 simp only [svW,World.alloc,gP,Array.size_push]
 repeat rw [if_neg (by omega)]
theorem vr (i:Nat)(h:i<4):(svW w c p d af k hv).heap[w.heap.size+i]?=(#[.cells #[.bool true,.string p,.string d,.string af] 93,.cells #[.string ⟨k.toArray⟩] 9,.cells #[.chan (some c)] 210,.cells #[hv] 114]:Array Obj)[i]?:=by
 simp only [svW,World.alloc,gP,Array.size_push];rcases i with - | - | - | - |i;all_goals first|omega|skip
 all_goals
  repeat rw [if_neg (by omega)]
  simp
end
theorem Dv {w:Wz}{a:Addr}{v:Wq}(h:w.cell? a=some v):∃o:Obj,w.heap[a.block]?=some o/\o.isCells=true:=by
 unfold World.cell? at h;cases ho:w.heap[a.block]? with
 |none=>rw [ho] at h;cases h
 |some o=>
  rw [ho] at h;cases o<;>first|exact ⟨_,rfl,rfl⟩|(cases h)
structure SvI (w:Wz)(c:Nat)(k:List UInt8)(buf:List Wq)(w6:Wz)(pre:List Ver)(X:Wz):Prop where
 os:X.os=w.os
 size:w6.heap.size<=X.heap.size
 block:∀b,b<w6.heap.size->b≠c->X.heap[b]?=w6.heap[b]?
 ch:X.heap[c]?=some (.chan 1000 (buf++(pre.map (fJ k)).map itVal).toArray false (buf.length+pre.length) 0 false)
section
attribute [local go_sem] Oper.semAt_some jX
theorem tA (q:Qy)(hvs:q.vs=true):gI q:=by
 intro A k hv h c buf w hh hne hl hc hroom;obtain ⟨vs,p,d,af⟩:=q;simp only at hvs;subst hvs;have hcw:c<w.heap.size:=(eS hc).1;have hki:dW true k h=h.reverse.map (fJ k):=rfl;have hkl:(dW true k h).length=h.length:=by rw [hki];simp
 simp only [hkl] at hroom ⊢;rw [hki];have hvne:aC h≠[]:=by
  cases h with
  |nil=>exact absurd rfl hne
  |cons a r=>simp [aC]
 obtain ⟨a0,cap,rfl,-,hx⟩:=hh;obtain ⟨g,rfl,-,hgl,hrow⟩:=hx hvne;have hvl:(aC h).length=h.length * 3:=eD 3 _ (fun _=>rfl) h;obtain ⟨hv,hhv⟩:∃hv,hv=Value.slice (some ⟨g,0,none⟩) h.length cap:=⟨_,rfl⟩;have hv0:0<(aC h).length:=List.length_pos_iff.2 hvne;obtain ⟨og,hog,hoc⟩:=Dv (a:=⟨g,0,none⟩) ((hrow 0 hv0).trans (eL hv0));have hc6:c<(svW w c p d af k hv).heap.size:=by rw [eJ];omega
 have ht6:w.heap.size<(svW w c p d af k hv).heap.size:=by rw [eJ];omega
 have hgc:g≠c:=fun e=>by
  subst e;rw [hog] at hc;cases hc;cases hoc
 refine (callsIn_wide (n:=0)).1 (callsIn_of_wp_marks (F:=Fence.wide) (Yq.nq Tryz.func140) rfl trivial ?_);refine (wpIn_wide (n:=0)).2 ?_;generalize hQ:bodyPostM Fence.wide 0 Yq.prog Tryz.f140 _=Q;simp only [Tryz.ntmps140,lZ,lC,lN,Nat.reduceAdd,Nat.reduceSub,Array.replicate_succ,Array.replicate_zero,List.push_toArray,List.append_toArray,List.nil_append,List.cons_append];have HQ:Hid (bodyPostM Fence.wide 0 Yq.prog Tryz.f140 _=Q):=hQ;have HX:Hid (w.heap[c]?=some (.chan 1000 buf.toArray false buf.length 0 false)/\buf.length+h.length<=1000/\w.heap[g]?=some og/\og.isCells=true/\(∀j,j<(aC h).length->w.cell? ⟨g,j,none⟩=(aC h)[j]?)):=⟨hc,hroom,hog,hoc,hrow⟩;clear hQ hc hroom hog hoc hrow hki hkl hx;unfold qV;rw [<-hhv];have HHV:Hid (hv=Value.slice (some ⟨g,0,none⟩) h.length cap):=hhv;have hsl:∃a n c,hv=.slice a n c:=⟨_,_,_,hhv⟩;clear hhv;go_wp2_with (go_at_call 156;refine (vp hv _ hsl).mono ?_;rintro e w6 ⟨rfl,rfl⟩)
 refine wpIn_wide.1 (show Code.wpIn (wf none) 0 Yq.prog _ (Exit.inBlock 0 Q) ⟨ma w.heap.size c p d af k hv Wy Wy Wy,[]⟩ (svW w c p d af k hv) from ?_);obtain ⟨hc,hroom,hog,hoc,hrow⟩:=HX.out;have hI0:SvI w c k buf (svW w c p d af k hv) [] (svW w c p d af k hv):=⟨rfl,lR _,fun _ _ _=>rfl,by rw [vq w c p d af k hv hcw,hc];simp⟩;refine yO (α:=Ver) (β:=Nat×Ver) (encs:=fun x=>#[.int .i64 x.1,tz x.2]) (gf:=166) (lb:=#[ptr (w.heap.size+3)]) (fun x=>x.2) rfl (fun args wx=>by go_simp) (fun _=>rfl) c w.heap.size hc6 ht6
  (SvI w c k buf (svW w c p d af k hv)) (fun pre x=>pre++[x.2] <+:h.reverse) h.reverse (fun pre X Y I h1 h2 h3=>⟨h3.trans I.os,lT I.size h2,fun b hb hbc=>(h1 b hb).trans (I.block b hb hbc),(h1 c hc6).trans I.ch⟩) (fun pre X I=>⟨_,I.ch,rfl⟩) hI0
  (fun x b=>⟨ma w.heap.size c p d af k hv (ptr b) (.int .i64 x.1) (tz x.2),[]⟩) (fun x=>.cells #[.int .i64 x.2.num,.string x.2.body,.bool x.2.mark] 81) ?call ?assign ?body ?done
 case call=>
  intro l J W hW1 hW2 hst hsz hy hJ0;have hb3:W.heap[w.heap.size+3]?=some (.cells #[hv] 114):=(hW2 _ (by rw [eJ];omega)).trans (vr w c p d af k hv 3 (by omega));rw [HHV.out] at hb3;have hgW:W.heap[g]?=some og:=(hW2 g (by rw [eJ];omega)).trans ((vq w c p d af k hv hgl).trans hog);exact Fy l (w.heap.size+3) w.heap.size g cap h hl J (by omega) (by omega) (fun pre i v X h1 h2=>hy pre (i,v) X h1 h2) W hgW hoc (fun j hj=>(cB (a:=⟨g,j,none⟩) (hgW.trans hog.symm)).trans (hrow j (by omega))) hb3 hJ0
 case assign=>
  rintro l ⟨i,num,vb,mk⟩ W K hK;have e:(#[21,22].zip #[Value.int .i64 i,tz ⟨num,vb,mk⟩]).foldl (fun t x=>match x with|(p,v)=>t.setIfInBounds p v) (ma w.heap.size c p d af k hv Wy Wy Wy)=ma w.heap.size c p d af k hv Wy (.int .i64 i) (tz ⟨num,vb,mk⟩):=by
   simp [ma]
  show Code.wpIn _ _ _ _ _ ⟨(#[21,22].zip #[Value.int .i64 i,tz ⟨num,vb,mk⟩]).foldl (fun t x=>match x with|(p,v)=>t.setIfInBounds p v) (ma w.heap.size c p d af k hv Wy Wy Wy),[]⟩ _;rw [e];unfold ma tz;unfold ma tz at hK;gi_wp2;exact hK
 case body=>
  rintro l pre ⟨i,v⟩ b W hgood I hb hlt;have hle:(pre++[v]).length<=h.length:=by have:=hgood.length_le;rwa [List.length_reverse] at this
  rw [lP,lS] at hle;have h1:W.heap[w.heap.size+1]?=some (.cells #[.string ⟨k.toArray⟩] 9):=(I.block _ (by rw [eJ];omega) (by omega)).trans (vr w c p d af k hv 1 (by omega));have h2:W.heap[w.heap.size+2]?=some (.cells #[.chan (some c)] 210):=(I.block _ (by rw [eJ];omega) (by omega)).trans (vr w c p d af k hv 2 (by omega));have hch:=I.ch;rw [show buf.length+pre.length=(buf++(pre.map (fJ k)).map itVal).length by simp] at hch;refine wpIn_block (Br (b5:=w.heap.size+1) (b7:=w.heap.size+2) (b9:=b) (k:=k) (v:=v) (buf:=buf++(pre.map (fJ k)).map itVal) (c:=c) rfl rfl rfl rfl (by simp [World.cell?,h1]) (by simp [World.cell?,h2]) ⟨by simp [World.cell?,hb],by simp [World.cell?,hb],by simp [World.cell?,hb]⟩ hch (by simp;omega) (fun a w1 e1 e2 hb1=>?_));have hcW:c<W.heap.size:=by have:=I.size;omega
  refine ⟨rfl,⟨?_,?_,fun x hx hxc _=>?_⟩,?_,?_,fun x hx hxc=>?_,?_⟩
  .rw [wg];exact hb1.size
  .exact hb1.os
  .rw [iQ hxc];exact hb1.block x hx
  .exact hb1.os.trans I.os
  .rw [wg];exact lT I.size hb1.size
  .rw [iQ hxc,hb1.block x (by have:=I.size;omega)];exact I.block x hx hxc
  .rw [kP (by have:=hb1.size;omega)];simp;omega
 case done=>
  intro D W hD I hK;have hQ:=HQ.out;subst hQ;refine ⟨by simp,.inl ⟨_,_,rfl,run_takeDeferred hK,?_⟩⟩;have hnn:∀b,b<(svW w c p d af k hv).heap.size->(W.putObj D (.deferred none)).heap[b]?=W.heap[b]?:=fun b hb=>pO (by omega)
  refine ⟨.tuple #[],by simp [results,Tryz.results140,go_sem],rfl,fun b hb hbc=>?_,?_,?_,?_⟩
  .rw [hnn b (by rw [eJ];omega),I.block b (by rw [eJ];omega) hbc,vq w c p d af k hv hb]
  .have:=I.size;rw [eJ] at this;simp;omega
  .exact I.os
  .rw [hnn c hc6,I.ch];simp
end
theorem Gr:Gp:=fun s sub m w hs hm=>Yq.strings_Index s sub m w hs hm
theorem DQ (q:Qy):gH q/\gI q:=by
 refine ⟨tw Gr q,?_⟩;cases h:q.vs with
 |false=>exact sp q h
 |true=>exact tA q h
end
section
open Go
open Go.RowKit
open Go.Conc Go.ConcX Go.ConcX.Gen
theorem eH.clean {W V:Wz}{D0:Nat->Prop}{v:Wq}{ops:List OpD}(h:eH W v ops)(hc:Clean D0 W V)(τ:Nat->Question->Nat)(d:Nat):eH (V.on τ d) v ops:=by
 obtain ⟨a,cap,rfl,hx⟩:=h.form;refine ⟨⟨a,cap,rfl,fun hne=>?_⟩,h.sized,h.len⟩;obtain ⟨b,off,rfl,hS⟩:=hx hne;refine ⟨b,off,rfl,fun i hi=>?_⟩;obtain ⟨c0,c1,c2,c3,c4,c5,c6⟩:=hS i hi;exact ⟨hc.cell c0 rfl,hc.cell c1 rfl,hc.cell c2 rfl,hc.cell c3 rfl,hc.cell c4 rfl,hc.cell c5 rfl,hc.cell c6 rfl⟩
def Bt (w:Wz):Prop:=cI w/\qo w
theorem Bt.on {w w':Wz}(h:Bt w)(hb:∀b,b<w.heap.size->w'.heap[b]?=w.heap[b]?):Bt w':=⟨h.1.on hb,h.2.on hb⟩
theorem Bt.glob {W V:Wz}(h:Bt W)(hb:∀b,b<Tryz.prog.globals.size->V.heap[b]?=W.heap[b]?):Bt V:=by
 refine ⟨h.1.glob hb,?_⟩;have ht:=h.2;unfold qo Lib.TabIs World.var? at *
 have hg : ∃ g, Yq.prog.globalNamed "internal/strconv.uint64pow10" = some g ∧ g < Tryz.prog.globals.size := ⟨_, show Yq.prog.globalNamed "internal/strconv.uint64pow10" = some 1 by kernel_rfl, of_decide_eq_true (by kernel_rfl)⟩
 obtain ⟨g,e,hlt⟩:=hg;rw [e] at ht ⊢;simp only [Option.bind_some] at ht ⊢;rw [hb g hlt];exact ht
theorem GN {ρ:Ren}{a:Option Addr}(h:∀b,slB a b->ρ b b)(n c:Nat):RV ρ (.slice a n c) (.slice a n c):=by
 cases a with
 |none=>exact .slice n c .none
 |some a=>exact .slice n c (.some ⟨h _ ⟨a,rfl,rfl⟩,rfl,rfl⟩)
theorem Bu (N:Nat)(hN:N<2199023255300):Gk Bt N:=
 tt vk (fun q _=>DQ q) Bt N hN (fun _ h=>h.1) fun n pg h1 h2 h3 h4 l w hG=>EV n pg ⟨h1,by omega⟩ ⟨h3,by omega⟩ l w hG.2
theorem vt (a0:Option Addr)(l0 c0:Nat)(ops:List OpD)(text:ByteArray)(W:Wz)(hsh:W.ShapedOpen Tryz.prog)(htab:qo W)(hS:eH W (.slice a0 l0 c0) ops)(hr0:∀b,slB a0 b->∃c e z,W.heap[b]?=some (.cells c e z))(hk:text.size<=maxLen)(hl0:l0 * 88<=140737488351232):
  Fin Tryz.prog (fun v W'=>v=.bool true/\rE W W') #[G (Frame.enter Tryz.prog 14 #[.slice a0 l0 c0,.string text] .normal) []] W none #[]:=by
 refine @Ei xH xI Gs Ss Rs As (FB vk) env FZ Ex GR ⟨rfl,rfl,rfl,rfl⟩ (Ay vk (fun q _=>DQ q)) EO (ET vk) 14 Tryz.f14 (aZ Tryz.f14) Tryz.func14 (Yq.nq Tryz.func14) (by kernel_rfl) (by kernel_rfl) rfl rfl _ W _ (CL hsh (X:=fun b=>slB a0 b) hr0) (fun ρ h=>?_) (fun V hcl τ dd=>?_)
 .exact RVl.arr (.cons (GN (fun b hb=>h b (.inr hb)) _ _) (.cons (.string _) .nil))
 .have hG:Bt V:=Bt.glob (W:=W) ⟨EX hsh,htab⟩ (hcl.glob hsh);refine (vo (G:=Bt) (N:=l0+20) (Bu _ (by omega)) (by omega) _ _ _ text ops (V.on τ dd) (hS.clean hcl τ dd) hl0 (by omega) hk (fun w' hl=>hG.on hl.block)).mono ?_;rintro e w' (⟨rfl,hl⟩|hst)
  .exact .inl ⟨rfl,hl.os,hl.block⟩
  .exact .inr hst
end
