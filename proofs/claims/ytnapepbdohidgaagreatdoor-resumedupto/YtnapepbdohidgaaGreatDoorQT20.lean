/- A part. -/
import Derived.Test.YtnapepbdohidgaaGreatDoorQT17
import Derived.Test.YtnapepbdohidgaaGreatDoorQT18
import Derived.Test.YtnapepbdohidgaaGreatDoorQT19
import Derived.Lib.Index
import Derived.Shelf.Lays
import Derived.Shelf.Strings.Search3
import Derived.RangeFuncSeq
import Derived.TacticsInMore
import Derived.RegionIn
import Derived.LoopNIn
import Derived.LoopIn
import Derived.JoinedCond
set_option maxHeartbeats 4000000
set_option maxRecDepth 100000
open Go renaming World->Wz,Value->Wq,undef->Wy
namespace Go.Proofs.Qw
section
open Go.Conc Go.ConcX Go.ConcX.Gen Go.RowKit
theorem Ck (K:OpD->Prop)(C:∀ {A:Nat->Prop}{B k0:Nat}{w:Wz}{st:St}{L:Lg}(_:aI A B w k0 st L)(s:Nat)(o:OpD)(_:o.key.size<=maxLen)(_:o.body.size<=maxLen)(_:Inv st s)(_:s<2199023255340)(_:K o)(_:o.kind<6\/12<o.kind),Calls Yq.prog 33 #[.pointer (some ⟨k0,0,none⟩),cE o] w (bi A B k0 w (bf st o).1 L ⟨(bf st o).2.code,(bf st o).2.ver,(bf st o).2.body,[],⟨#[]⟩⟩))(y:∀ {A:Nat->Prop}{B k0:Nat}{w:Wz}{st:St}{L:Lg}(_:aI A B w k0 st L)(_:B<=w.heap.size)(o:OpD)(_:K o)(_:o.kind=12)(_:o.body.size<=maxLen)(s g0 cp:Nat)(_:s<2199023255340)(_:w.cell? ⟨k0,8,none⟩=some (.slice (some ⟨g0,0,none⟩) s cp))(ks:List Int)(bs:List ByteArray)(_:EH w k0 g0 s ks bs),Calls Yq.prog 33 #[.pointer (some ⟨k0,0,none⟩),cE o] w (bi A B k0 w (cF st L (cQ ks bs o.src o.body)).1 (cF st L (cQ ks bs o.src o.body)).2.1 (cF st L (cQ ks bs o.src o.body)).2.2))(Qok:Qy->Prop)(hQ:∀q,Qok q->ii q/\ij q)(G:Wz->Prop)(N:Nat)(hN:N<2199023255300)(k:∀w',G w'->cU w')(b:∀n pg:Int,0<=n->n<=N->0<=pg->pg<=N+1->kE G n pg):uj Qok K G N:=by
 intro A B k0 w st L h j hG o hk r f t s z x d hs g0 cp p hn c8 ht ks bs v;by_cases l:o.kind=12
 .simp only [kI,if_pos l];exact (y h j o hk l t s g0 cp (by omega) c8 ks bs v).mono fun e w' h=>.inl h
 simp only [kI,if_neg l];have hbg:=d.begun;by_cases h6:o.kind=6
 .simp only [stepA,if_pos h6];obtain ⟨u,key,body,a,c,n,src⟩:=o;simp only at h6;subst h6;exact un 6 false ⟨rfl,rfl⟩ Qok hQ h j d.len key body a c n src (r.q rfl) (x.sum _) f (by omega) G k hG (b _ _ (by omega) (by omega) (by omega) (by omega))
 by_cases h7:o.kind=7
 .simp only [stepA,if_neg h6,if_pos h7];obtain ⟨u,key,body,a,c,n,src⟩:=o;simp only at h7;subst h7;exact uo 7 true ⟨rfl,rfl⟩ Qok hQ h j d.len key body a c n src (r.q7 rfl) (x.sum _) f (by omega) G k hG (b _ _ (by omega) (by omega) (by omega) (by omega))
 by_cases h8:o.kind=8
 .simp only [stepA,if_neg h6,if_neg h7,if_pos h8];exact vU Qok hQ h j d.len o h8 g0 cp p (by omega) (hn.symm▸c8) ht d.ok (fun i n pg e=>by have:=d.told i n pg e;omega) G k hG (fun i n pg e _=>by have:=d.told i n pg e;exact b _ _ (by omega) (by omega) (by omega) (by omega))
 by_cases h9:o.kind=9
 .simp only [stepA,if_neg h6,if_neg h7,if_neg h8,if_pos h9];exact (vR h j d.len d.left o h9).mono fun e w' h=>.inl h
 by_cases h10:o.kind=10
 .simp only [stepA,if_neg h6,if_neg h7,if_neg h8,if_neg h9,if_pos h10];exact (ui h j d.len o h10).mono fun e w' h=>.inl h
 by_cases m:o.kind=11
 .simp only [stepA,if_neg h6,if_neg h7,if_neg h8,if_neg h9,if_neg h10,if_pos m];exact (vZ h j z x (by omega) o m).mono fun e w' h=>.inl h
 .simp only [stepA,if_neg h6,if_neg h7,if_neg h8,if_neg h9,if_neg h10,if_neg m];exact (C h s o f t z (by omega) hk (by omega)).mono fun e w' h=>.inl h
theorem ut (Qok:Qy->Prop)(hQ:∀q,Qok q->ii q/\ij q)(G:Wz->Prop)(N:Nat)(e:N<2199023255300)(b:∀w',G w'->cU w')(a:∀n pg:Int,0<=n->n<=N->0<=pg->pg<=N+1->kE G n pg):uj Qok Hk G N:=
 Ck Hk (fun h s o h1 h2 h3 h4 _ h6=>zv h s o h1 h2 h3 h4 h6) (fun h d o _ hk hb s g0 cp hs c8 ks bs c=>wn h d o hk hb s g0 cp hs c8 ks bs c) Qok hQ G N e b a
theorem Hf {t:ByteArray}(h:t≠⟨#[]⟩):t.toList.isEmpty=false:=by
 rw [ByteArray.toList_eq];cases e:t.data.toList with
 |nil=>exact absurd (ByteArray.ext (Array.toList_inj.1 (e.trans rfl))) h
 |cons a r=>rfl
theorem uu (d:List UInt8):∀s:List UInt8,Lib.index s d=((oo d s).map fun (i:Nat)=>(i:Int)).getD (-1)
 | []=>by
  cases d<;>rfl
 |b::r=>by
  have ih:=uu d r;rw [Lib.index,oo];split
  .rfl
  .cases h:oo d r with
   |none=>
    rw [h] at ih;simp at ih;rw [ih];rfl
   |some i=>
    rw [h] at ih;simp at ih;rw [ih,if_neg (by simp)];simp
def Hg:Prop:=∀ (s sub:ByteArray)(m:Int)(w:Wz),s.size<4294967281->w.cell? ⟨0,0,none⟩=some (.int .i64 m)->Calls Yq.prog 155 #[.string s,.string sub] w fun e w'=>e=.returned (.int .i64 (Lib.index s.data.toList sub.data.toList))/\w'=w
theorem xU (d:List UInt8):∀ (s:List UInt8)(i:Nat),oo d s=some i->i+d.length<=s.length
 | [],i,h=>by
  rw [oo] at h;split at h
  .rename_i e;subst e;cases h;simp
  .cases h
 |b::r,i,h=>by
  rw [oo] at h;split at h
  .rename_i e;cases h;have:=(List.isPrefixOf_iff_prefix.1 e).length_le;simpa using this
  .cases hs:oo d r with
   |none=>rw [hs] at h;cases h
   |some j=>
    rw [hs] at h;cases h;have:=xU d r j hs;simp only [List.length_cons];omega
theorem uv (j:Hg)(q:Qy):ii q:=by
 by_cases b:q.d=⟨#[]⟩
 .exact vF q b
 intro k w hgl hk c;obtain ⟨m,hm⟩:=hgl;obtain ⟨l,p,d,af⟩:=q;simp only at b c;have hpl:p.size<=k.length:=by have:=c.length_le;simpa using this
 obtain ⟨key,a⟩:∃key:ByteArray,key=⟨k.toArray⟩:=⟨_,rfl⟩;have hks:key.size=k.length:=by rw [a];rfl
 have h:(key.extract p.size key.size).data.toList=k.drop p.size:=by
  rw [Lib.extract_data,hks,tO (by rw [lD,a];simp),a]
 have hde:d.toList.isEmpty=false:=Hf b;have n:ig ⟨l,p,d,af⟩ k=(oo d.data.toList (k.drop p.size)).map fun i=>k.take (p.size+i+d.size):=by
  rw [ig,if_neg];intro e;apply b;apply ByteArray.ext;exact Array.eq_empty_of_size_eq_zero e
 have hix:=uu d.data.toList (k.drop p.size);rw [n];rw [<-a];have HIX:Hid (∀W:Wz,W.cell? ⟨0,0,none⟩=some (.int .i64 m)->Calls Yq.prog 155 #[.string (key.extract p.size key.size),.string d] W fun e w'=>e=.returned (.int .i64 (Lib.index (k.drop p.size) d.data.toList))/\w'=W):=fun W o=>by
  rw [<-h];exact j _ _ m W (by rw [ByteArray.size_extract];omega) o
 have HW:Hid (Below w.heap.size w (w.alloc (.cells #[.bool l,.string p,.string d,.string af] 93))):=(bR _ _).alloc (lR _) _;have hm2:(w.alloc (.cells #[.bool l,.string p,.string d,.string af] 93)).drew.cell? ⟨0,0,none⟩=some (.int .i64 m):=aj HW.out hm;have f:Hid (key=⟨k.toArray⟩/\key.size=k.length):=⟨a,hks⟩;have hpk:p.size<=key.size:=by omega
 have hkk:key.size<=1000:=by omega
 clear h n a hks hpl hk;unfold qV;cases hs:oo d.data.toList (k.drop p.size) with
 |none=>
  rw [hs] at hix;simp at hix;rw [hix] at HIX;go_enter (Yq.nq Tryz.func139),Tryz.ntmps139;go_wp2_with fail
  go_region_with (go_at_call 155;refine (HIX.out _ hm2).mono ?_;rintro e w1 ⟨rfl,rfl⟩)
  all_goals
   go_wp2
   go_ret2
   exact ⟨rfl,HW.out.drew⟩
 |some i=>
  rw [hs] at hix;simp at hix;rw [hix] at HIX;have hle:=xU _ _ _ hs;rw [lD] at hle;have hdl:d.data.toList.length=d.size:=by simp
  have hsz:p.size+i+d.size<=key.size:=by have:=f.out.2;omega
  clear hle hdl;have h0:¬((i:Int)<0):=by omega
  have hw1:wrap64 ((p.size:Int)+i)=(p.size:Int)+i:=by unfold wrap64;omega
  have hw2:wrap64 ((p.size:Int)+i+d.size)=(p.size:Int)+i+d.size:=by unfold wrap64;omega
  go_enter (Yq.nq Tryz.func139),Tryz.ntmps139;go_wp2_with fail
  go_region_with (go_at_call 155;refine (HIX.out _ hm2).mono ?_;rintro e w1 ⟨rfl,rfl⟩)
  all_goals
   go_wp2
   go_ret2
   refine ⟨?_,HW.out.drew⟩;have e:key.extract 0 (p.size+i+d.size)=⟨(k.take (p.size+i+d.size)).toArray⟩:=by rw [Lib.extract_eq,f.out.1];simp
   rw [e];rfl
end
end Go.Proofs.Qw
namespace Go.Proofs
section
open Go.Shelf Go.Lib
def Yq.lays143_ren:Go.Shelf.Ren:=⟨fun| 143=>155| 217=>172| 219=>165| 224=>174| 225=>173| 266=>180| 267=>175| 314=>181|n=>n,fun| 3=>3| 4=>4| 5=>5| 9=>9| 46=>199| 51=>222| 146=>251|n=>n,fun| 1=>0|n=>n⟩
theorem Yq.lays143:Go.Proofs.Lays.n143 Yq.prog Yq.lays143_ren:={
 mixed:=by kernel_rfl
 f143:=(Yq.nq Tryz.func155).trans (congrArg some (by kernel_rfl))
 f217:=(Yq.nq Tryz.func172).trans (congrArg some (by kernel_rfl))
 f219:=(Yq.nq Tryz.func165).trans (congrArg some (by kernel_rfl))
 f224:=(Yq.nq Tryz.func174).trans (congrArg some (by kernel_rfl))
 f225:=(Yq.nq Tryz.func173).trans (congrArg some (by kernel_rfl))
 f266:=(Yq.nq Tryz.func180).trans (congrArg some (by kernel_rfl))
 f267:=(Yq.nq Tryz.func175).trans (congrArg some (by kernel_rfl))
 f314:=(Yq.nq Tryz.func181).trans (congrArg some (by kernel_rfl))
 t3:=(Yq.u Tryz.underlying3)
 a3:=(fun w=>Yq.a (Tryz.isAgg3 w))
 z3:=(fun w=>Yq.s (Tryz.sizeOf3 w))
 v3:=(fun w=>Yq.z (Tryz.zeroValue3 w))
 t4:=(Yq.u Tryz.underlying4)
 a4:=(fun w=>Yq.a (Tryz.isAgg4 w))
 z4:=(fun w=>Yq.s (Tryz.sizeOf4 w))
 v4:=(fun w=>Yq.z (Tryz.zeroValue4 w))
 t5:=(Yq.u Tryz.underlying5)
 a5:=(fun w=>Yq.a (Tryz.isAgg5 w))
 z5:=(fun w=>Yq.s (Tryz.sizeOf5 w))
 v5:=(fun w=>Yq.z (Tryz.zeroValue5 w))
 t9:=(Yq.u Tryz.underlying9)
 a9:=(fun w=>Yq.a (Tryz.isAgg9 w))
 z9:=(fun w=>Yq.s (Tryz.sizeOf9 w))
 v9:=(fun w=>Yq.z (Tryz.zeroValue9 w))
 t46:=(Yq.u Tryz.underlying199)
 a46:=(fun w=>Yq.a (Tryz.isAgg199 w))
 z46:=(fun w=>Yq.s (Tryz.sizeOf199 w))
 v46:=(fun w=>Yq.z (Tryz.zeroValue199 w))
 t51:=(Yq.u Tryz.underlying222)
 a51:=(fun w=>Yq.a (Tryz.isAgg222 w))
 z51:=(fun w=>Yq.s (Tryz.sizeOf222 w))
 v51:=(fun w=>Yq.z (Tryz.zeroValue222 w))
 t146:=(Yq.u Tryz.underlying251)
 a146:=(fun w=>Yq.a (Tryz.isAgg251 w))
 z146:=(fun w=>Yq.s (Tryz.sizeOf251 w))
 v146:=(fun w=>Yq.z (Tryz.zeroValue251 w))
 g1:=by kernel_rfl}
theorem Yq.strings_Index (s sub:ByteArray)(m:Int)(w:Wz)(hs:s.size<4294967281)(hm:w.cell? ⟨0,0,none⟩=some (.int .i64 m)):
  Calls Yq.prog 155 #[.string s,.string sub] w fun e w'=>e=.returned (.int .i64 (Lib.index s.data.toList sub.data.toList))/\w'=w:=Any.strings_Index Yq.lays143 s sub m w hs hm
end
end Go.Proofs
namespace Go.Proofs.Qw
section
open Go.Conc Go.ConcX Go.ConcX.Gen Go.RowKit
def uw (v:Ver):Wq:=.agg #[.int .i64 v.num,.string v.body,.bool v.mark]
theorem Eo (k:List UInt8)(v:Ver)(w:Wz):Calls Yq.prog 157 #[.string ⟨k.toArray⟩,uw v] w fun e w'=>e=.returned (itVal (gi k v))/\Below w.heap.size w w':=by
 obtain ⟨a,body,mark⟩:=v;have hb:∀c,Below w.heap.size w (((w.alloc (.cells #[.int .i64 a,.string body,.bool mark] 81)).alloc c)):=fun c=>((bR _ _).alloc (lR _) _).alloc (by simp) _
 have HB:Hid (∀c,Below w.heap.size w (((w.alloc (.cells #[.int .i64 a,.string body,.bool mark] 81)).alloc c))):=hb;clear hb;unfold uw;cases mark
 .go_enter (Yq.nq Tryz.func157),Tryz.ntmps157;go_wp2_with fail
  exact bodyPost_ret (v:=.agg #[.int .i64 3,.string ⟨k.toArray⟩,.int .i64 a]) (by simp [results,Tryz.results157,go_sem]) rfl ⟨rfl,HB.out _⟩
 .go_enter (Yq.nq Tryz.func157),Tryz.ntmps157;go_wp2_with fail
  exact bodyPost_ret (v:=.agg #[.int .i64 4,.string ⟨k.toArray⟩,.int .i64 a]) (by simp [results,Tryz.results157,go_sem]) rfl ⟨rfl,HB.out _⟩
theorem wz (hv:Wq)(w:Wz)(b:∃a n c,hv=.slice a n c):Calls Yq.prog 156 #[hv] w fun e w'=>e=.returned (.func (.func 166) #[] #[ptr w.heap.size])/\w'=w.alloc (.cells #[hv] 114):=by
 obtain ⟨a,n,c,rfl⟩:=b;go_enter (Yq.nq Tryz.func156),Tryz.ntmps156;go_wp2_with fail
 go_ret;exact ⟨rfl,rfl⟩
theorem Gp (l bx t g cap:Nat)(h:List Ver)(hl:h.length<=1000)(J:List Ver->Wz->Prop)(A:bx≠t)(hg:g≠t)
  (D:∀pre (i:Nat) v X,pre++[v] <+:h.reverse->J pre X->YieldAt (wf none) 0 Yq.prog l #[.int .i64 i,uw v] X fun e X'=>e=.returned (.bool true)/\J (pre++[v]) X'/\dA t X X')
  (W:Wz) {og:Obj} (o:W.heap[g]?=some og) (p:og.isCells=true) (f:∀j,j<h.length * 3->W.cell? ⟨g,j,none⟩=(aC h)[j]?) (hb:W.heap[bx]?=some (.cells #[.slice (some ⟨g,0,none⟩) h.length cap] 114)) (h0:J [] W):
  Calls Yq.prog 166 #[.func (.yield l) #[] #[],ptr bx] W fun e W'=>(∃v,e=.returned v)/\J h.reverse W':=by
 have HY:Hid (∀pre (i:Nat) v X,pre++[v] <+:h.reverse->J pre X->YieldAt (wf none) 0 Yq.prog l #[.int .i64 i,uw v] X fun e X'=>e=.returned (.bool true)/\J (pre++[v]) X'/\dA t X X'):=D;have HW:Hid (W.heap[g]?=some og/\og.isCells=true/\(∀j,j<h.length * 3->W.cell? ⟨g,j,none⟩=(aC h)[j]?)/\W.heap[bx]?=some (.cells #[.slice (some ⟨g,0,none⟩) h.length cap] 114)):=⟨o,p,f,hb⟩;have c0:W.cell? ⟨bx,0,none⟩=some (.slice (some ⟨g,0,none⟩) h.length cap):=by simp [World.cell?,hb]
 obtain ⟨n,hn⟩:∃n,n=h.length:=⟨_,rfl⟩;have HN:Hid (n=h.length):=hn;rw [<-hn] at c0 hl;clear D o p f hb hn;unfold ptr;refine (callsIn_wide (n:=0)).1 (callsIn_of_wp (F:=Fence.wide) (Yq.nq Tryz.func166) rfl trivial ?_ rfl);simp only [Tryz.ntmps166,lZ,List.length_cons,lN,Nat.reduceAdd,Nat.reduceSub,Array.replicate_succ,Array.replicate_zero,List.push_toArray,List.append_toArray,List.nil_append,List.cons_append]
 gi_wp2_with fail
 gi_loopw [3] (fun s3 wr=>∃j:Nat,j<=n/\s3=.int .i64 ((n:Int)-1-j)/\J (h.reverse.take j) wr/\dA t W wr) (fun s3 _=>(intOf s3+1).toNat)
 case atStart=>
  exact ⟨0,Nat.zero_le _,by simp,h0,dA.refl _ _⟩
 case round=>
  obtain ⟨j,hj,rfl,r,hk⟩:=hrel;have q:wr.heap[bx]?=some (.cells #[.slice (some ⟨g,0,none⟩) h.length cap] 114):=hk.2.2 bx _ HW.out.2.2.2 rfl A;have hgr:wr.heap[g]?=some og:=hk.2.2 g _ HW.out.1 HW.out.2.1 hg;have cb:wr.cell? ⟨bx,0,none⟩=some (.slice (some ⟨g,0,none⟩) n cap):=by rw [HN.out];simp [World.cell?,q]
  have HK:Hid (dA t W wr):=hk;clear q hk c0;by_cases hlt:j<n
  .obtain ⟨i,hi⟩:∃i,i=n-1-j:=⟨_,rfl⟩;have k:(n:Int)-1-j=(i:Int):=by omega
   have s:i<n:=by omega
   have z:i<h.length:=by rw [<-HN.out];exact s
   have y:j<h.reverse.length:=by rw [List.length_reverse,<-HN.out];exact hlt
   have m:h.reverse[j]=h[i]:=by rw [List.getElem_reverse];congr 1;rw [<-HN.out];omega
   have htk:h.reverse.take (j+1)=h.reverse.take j++[h[i]]:=by rw [tS y,m]
   have d:∀c,c<3->wr.cell? ⟨g,i * 3+c,none⟩=(aC h)[i * 3+c]?:=fun c hc=>by
    rw [cB (a:=⟨g,i * 3+c,none⟩) (hgr.trans HW.out.1.symm)];exact HW.out.2.2.1 _ (by omega)
   have b:∀c,c<3->(aC h)[i * 3+c]?=[Value.int .i64 h[i].num,.string h[i].body,.bool h[i].mark][c]?:=fun c hc=>ey 3 _ (fun _=>rfl) h i c z hc
   have k0:=(d 0 (by omega)).trans (b 0 (by omega));have k1:=(d 1 (by omega)).trans (b 1 (by omega));have k2:=(d 2 (by omega)).trans (b 2 (by omega));simp only [gZ,gS,Nat.add_zero] at k0 k1 k2;obtain ⟨fn,tmps,assign,body,hy,C⟩:=HY.out (h.reverse.take j) i h[i] wr (by rw [<-htk];exact List.take_prefix _ _) r;have x:Hid (h.reverse.take (j+1)=h.reverse.take j++[h[i]]):=htk;rw [k];have HI:Hid (i=n-1-j/\(n:Int)-1-j=(i:Int)/\j<n):=⟨hi,k,hlt⟩;have hi0:(0:Int)<=i:=by omega
   clear hi k hlt;generalize h[i]=v at *;obtain ⟨num,vb,mk⟩:=v;simp only [uw] at k0 k1 k2 hy C;clear d b hgr m htk r;gi_wp2;refine ⟨rfl,RoundIn.mono (F:=Fence.wide) C ?_⟩;rintro e W3 ⟨rfl,B,hk3⟩;gi_wp2
   go_roundw
   case rel=>exact ⟨j+1,by have:=HI.out.2.2;omega,by have:=HI.out.2.1;congr 1;omega,by rw [x.out];exact B,HK.out.trans hk3⟩
   case measure=>have:=HI.out;simp [intOf]
  .have u:j=n:=by omega
   subst u;gi_wp2;go_end0;refine ⟨⟨_,rfl⟩,?_⟩;rw [tO (by rw [List.length_reverse,<-HN.out];exact lR _)] at r;exact r
section
variable {P:Program} {α β:Type}
theorem zT {g:Operand}{ps:Array Tmp}{assign body:Code}{Q:Exit->Act->Wz->Prop}{a:Act}{w:Wz}{n gf:Nat}{lb:Array Wq}{encs:β->Array Wq}(π:β->α)(hg:a.eval g=.func (.func gf) #[] lb)(eg:∀args w,(callFunc gf args).run P w=.ok (.enter gf args) w)(U:∀x,(encs x).size=ps.size)
  (c t:Nat) (hc:c<w.heap.size) (ht:t<w.heap.size) (I:List α->Wz->Prop) (u:List α->β->Prop) (j:List α)
  (G:∀pre X Y,I pre X->(∀b,b<w.heap.size->Y.heap[b]?=X.heap[b]?)->X.heap.size<=Y.heap.size->Y.os=X.os->I pre Y) (T:∀pre X,I pre X->∃o:Obj,X.heap[c]?=some o/\o.isCells=false) (h0:I [] w) (a₁:β->Nat->Act) (q:β->Obj)
  (B:∀ (l:Nat) (J:List α->Wz->Prop) (W:Wz),W.heap.size=w.heap.size+2->(∀b,b<w.heap.size->W.heap[b]?=w.heap[b]?) ->
   (∀pre X Y,J pre X->(∀b,b<w.heap.size+2->Y.heap[b]?=X.heap[b]?)->X.heap.size<=Y.heap.size->Y.os=X.os->J pre Y)->(∀pre X,J pre X->w.heap.size+2<=X.heap.size) ->
   (∀pre x X,u pre x->J pre X->YieldAt (wf none) 0 P l (encs x) X fun e X'=>e=.returned (.bool true)/\J (pre++[π x]) X'/\dA t X X')->J [] W ->
   Calls P gf (#[.func (.yield l) #[] #[]]++lb) W fun e W'=>(∃v,e=.returned v)/\J j W')
  (m:∀ (l:Nat) (x:β) (W:Wz) (K:Act->Wz->Prop),K (a₁ x W.heap.size) (W.alloc (q x))->assign.wpIn (wf (some l)) 0 P (Exit.then K (fun _ _ _=>False)) {tmps:=(ps.zip (encs x)).foldl (fun t (p,v)=>t.setIfInBounds p v) a.tmps,defers:=[]} W)
  (E:∀ (l:Nat) (pre:List α) (x:β) (b:Nat) (W:Wz),u pre x->I pre W->W.heap[b]?=some (q x)->w.heap.size+2<=b->body.wpIn (wf (some l)) 0 P (fun e _ W'=>e=.normal/\lE c t W W'/\I (pre++[π x]) W') (a₁ x b) W)
  (z:∀ (D:Nat) (W:Wz),w.heap.size<=D->I j W->W.heap[D]?=some (.deferred (some []))->Q .normal {a with defers:={target:=.collected D,args:=#[]} :: a.defers} W):
  (Code.rangeFunc g ps assign body).wpIn (wf none) n P Q a w:=by
 refine wpIn_rangeFunc ?_;intro fn hfn;obtain ⟨d,f⟩:∃d:LoopState->Loop,d=fun st=>{state:=st,pending:=none,fn,tmps:=a.tmps,params:=ps,assign,body,defers:=w.heap.size}:=⟨_,rfl⟩
 obtain ⟨W1,hW1⟩:∃W1,(w.alloc (.deferred (some []))).alloc (.loop (d .ready))=W1:=⟨_,rfl⟩;have R:W1.heap[w.heap.size+1]?=some (.loop (d .ready)):=by
  rw [<-hW1];have:=aN (w.alloc (.deferred (some []))) (.loop (d .ready));rwa [World.size_alloc] at this
 have hK1:W1.heap[w.heap.size]?=some (.deferred (some [])):=by
  rw [<-hW1];exact (bA _ _ _ (by simp)).trans (aN w _)
 have r:∀b,b<w.heap.size->W1.heap[b]?=w.heap[b]?:=fun b hb=>by
  rw [<-hW1,bA _ _ _ (by simp;omega),bA _ _ _ hb]
 have L:W1.heap.size=w.heap.size+2:=by rw [<-hW1];simp
 have hI1:I [] W1:=G _ _ _ h0 r (by omega) (by rw [<-hW1];rfl);refine ⟨w.heap.size+1,[{target:=.collected w.heap.size,args:=#[]}],W1,{target:=.fn (.func gf) lb,args:=#[.func (.yield (w.heap.size+1)) #[] #[]]},W1,gf,
  #[.func (.yield (w.heap.size+1)) #[] #[]]++lb,W1,?_,?_,fun _ _=>trivial,?_,(fun h=>by cases h),?_⟩
 .rw [<-hW1,f];exact run_enterLoop_outer _ _ _ _ _
 .simp only [resolve,hg];simp [go_sem]
 .simp [invoke,go_sem,eg]
 .refine callsIn_wide.2 ((B (w.heap.size+1) (fun pre W=>I pre W/\W.heap[w.heap.size+1]?=some (.loop (d .ready))/\W.heap[w.heap.size]?=some (.deferred (some []))) W1 L r (fun pre X Y h h1 h2 h3=>⟨G pre X Y h.1 (fun b hb=>h1 b (by omega)) h2 h3,(h1 _ (by omega)).trans h.2.1,(h1 _ (by omega)).trans h.2.2⟩) (fun pre X h=>(eS h.2.1).1) ?_ ⟨hI1,R,hK1⟩).mono ?_)
  .rintro pre x X A ⟨hi,hl,hk⟩;have hlt:w.heap.size+1<X.heap.size:=(eS hl).1;have hy:=run_yield (P:=P) (args:=encs x) hl (by rw [f];exact U x);rw [f] at hy;refine ⟨fn,_,assign,body,hy,roundIn_of_wpIn (F:=wf none) trivial (m _ x X _ ?_)⟩;obtain ⟨X1,k⟩:∃X1,X.alloc (q x)=X1:=⟨_,rfl⟩;have hb1:X1.heap[X.heap.size]?=some (q x):=by rw [<-k];exact aN X _
   have ho1:∀b,b<X.heap.size->X1.heap[b]?=X.heap[b]?:=fun b hb=>by rw [<-k];exact bA _ _ _ hb
   have hs1:X1.heap.size=X.heap.size+1:=by rw [<-k];simp
   have s:X1.os=X.os:=by rw [<-k];rfl
   rw [k];have M:dA t X X1:=⟨by omega,s,fun b o hb _ _=>(ho1 b (eS hb).1).trans hb⟩;have hi:I pre X1:=G _ _ _ hi (fun b hb=>ho1 b (by omega)) (by omega) s;have hl:X1.heap[w.heap.size+1]?=some (.loop (d .ready)):=(ho1 _ hlt).trans hl;have hk:X1.heap[w.heap.size]?=some (.deferred (some [])):=(ho1 _ (by omega)).trans hk;have ab:w.heap.size+2<=X.heap.size:=by omega
   generalize X.heap.size=bx at *;have hlt:w.heap.size+1<X1.heap.size:=(eS hl).1;refine ⟨_,run_beginRound hl (by rw [f]),?_⟩;obtain ⟨X2,i⟩:∃X2,X1.putObj (w.heap.size+1) (.loop {d .ready with state:=.busy})=X2:=⟨_,rfl⟩;have V:X2.heap[w.heap.size+1]?=some (.loop {d .ready with state:=.busy}):=by rw [<-i];exact World.putObj_heap_same hlt
   have y:∀b,b≠w.heap.size+1->X2.heap[b]?=X1.heap[b]?:=fun b hb=>by rw [<-i];exact pO hb
   have hsz2:X2.heap.size=X1.heap.size:=by rw [<-i];simp
   have H:X2.os=X1.os:=by rw [<-i];rfl
   have hi2:I pre X2:=G _ _ _ hi (fun b hb=>y b (by omega)) (by omega) H;have O:dA t X1 X2:=by rw [<-i];exact fQ hl rfl _
   rw [i];refine wpIn_mono (E _ pre x bx _ A hi2 ((y _ (by omega)).trans hb1) ab) ?_;rintro e a3 X3 ⟨rfl,hkb,Z⟩;have C:X3.heap[w.heap.size+1]?=some (.loop {d .ready with state:=.busy}):=(hkb.2.2 _ (by omega) (by omega) (by omega)).trans V;have hk3:X3.heap[w.heap.size]?=some (.deferred (some [])):=(hkb.2.2 _ (by omega) (by omega) (by omega)).trans ((y _ (by omega)).trans hk);have her:=run_endRound (P:=P) none C;have hfin:({d .ready with state:=.busy}:Loop)={d .ready with state:=.busy}:=rfl;have e4:({({d .ready with state:=.busy}:Loop) with state:=if (none:Option Code).isNone then .ready else .done,pending:=none}:Loop)=d .ready:=by rw [f];rfl
   rw [e4] at her;have N:w.heap.size+1<X3.heap.size:=(eS C).1;refine ⟨_,_,her,rfl,⟨G _ _ _ Z (fun b hb=>pO (by omega)) (by simp) rfl,World.putObj_heap_same N,(pO (by omega)).trans hk3⟩,M.trans (O.trans ((hkb.cells (T _ _ hi2)).trans (fQ C rfl _)))⟩
  .rintro e W2 ⟨⟨v,rfl⟩,hi,hl,hk⟩;have hel:=run_endLoop (P:=P) hl (by rw [f];simp);have S:(d .ready).pending=none:=by rw [f]
   rw [S] at hel;exact ⟨none,_,hel,z w.heap.size _ (lR _) (G _ _ _ hi (fun b hb=>pO (by omega)) (by simp) rfl) ((pO (by omega)).trans hk)⟩
end
noncomputable def EL:Code:=zh (cIn (cy (cy (cy (bu Tryz.f140)))))
noncomputable def Hh:Array Oper:=nW (cIn EL)
structure WdV (W1:Wz)(c:Nat)(buf:List Wq)(it:Wq)(d:Nat->Bool)(w:Wz):Prop where
 below:d 4=false->Below W1.heap.size W1 w
 done:d 4=true->∃w1,Below W1.heap.size W1 w1/\w=w1.setChan c 1000 (buf++[it]).toArray false (buf.length+1) 0 false
section
variable {W1:Wz} {c:Nat} {buf:List Wq} {it:Wq} {d:Nat->Bool} {w:Wz}
theorem WdV.other (h:WdV W1 c buf it d w){i:Nat}(hi:4≠i):WdV W1 c buf it (dR d i) w:=⟨fun e=>h.below (by rwa [dI hi] at e),fun e=>h.done (by rwa [dI hi] at e)⟩
theorem WdV.more (h:WdV W1 c buf it d w)(h6:d 4=false){X:Wz}(hX:Below w.heap.size w X):WdV W1 c buf it (dR d 3) X:=⟨fun _=>(h.below h6).trans (hX.mono (h.below h6).size),fun e=>by rw [dI (by omega),h6] at e;cases e⟩
theorem WdV.sent (h:WdV W1 c buf it d w)(hw:d 4=false):WdV W1 c buf it (dR d 4) (w.setChan c 1000 (buf.toArray.push it) false (buf.length+1) 0 false):=⟨fun e=>by simp [dR] at e,fun _=>⟨w,h.below hw,by simp⟩⟩
end
theorem Cl {id n l:Nat}{Q:Exit->Act->Wz->Prop}{a0:Act}{W:Wz}{b5 b7 b9 c:Nat}{k:List UInt8}{v:Ver}{buf:List Wq}(hs:a0.tmps.size=27)(e5:a0.eval (.tmp 5)=ptr b5)(y:a0.eval (.tmp 7)=ptr b7)(x:a0.eval (.tmp 9)=ptr b9)
  (c5:W.cell? ⟨b5,0,none⟩=some (.string ⟨k.toArray⟩)) (t:W.cell? ⟨b7,0,none⟩=some (.chan (some c))) (s:W.cell? ⟨b9,0,none⟩=some (.int .i64 v.num)/\W.cell? ⟨b9,1,none⟩=some (.string v.body)/\W.cell? ⟨b9,2,none⟩=some (.bool v.mark)) (hc:W.heap[c]?=some (.chan 1000 buf.toArray false buf.length 0 false)) (hroom:buf.length<1000)
  (hend:∀a w1,a.tmps.size=27->a.defers=a0.defers->Below W.heap.size W w1->Q .normal a (w1.setChan c 1000 (buf++[itVal (gi k v)]).toArray false (buf.length+1) 0 false)):
  (Code.region id Hh true).wpIn (wf (some l)) n Yq.prog Q a0 W:=by
 obtain ⟨W1,hW1⟩:∃W1:Wz,W1={W with drawn:=W.drawn+1}:=⟨_,rfl⟩;have hb1:Below W.heap.size W W1:=by rw [hW1];exact ⟨rfl,rfl,rfl,lR _,fun _ _=>rfl⟩
 have hsz:W1.heap.size=W.heap.size:=by rw [hW1]
 have k5:W1.cell? ⟨b5,0,none⟩=some (.string ⟨k.toArray⟩):=aj hb1 c5;have u:W1.cell? ⟨b7,0,none⟩=some (.chan (some c)):=aj hb1 t;have k90:=aj hb1 s.1;have k91:=aj hb1 s.2.1;have k92:=aj hb1 s.2.2;have r:c<W1.heap.size:=by rw [hsz];exact (eS hc).1
 have hc:W1.heap[c]?=some (.chan 1000 buf.toArray false buf.length 0 false):=by rw [hW1];exact hc
 have hroom:buf.toArray.size<1000:=by simpa using hroom
 refine fT (ro:=some l) (a0:=a0) (w0:=W) mixed 23 4
   (fun i=>match i with| 0=>.chan (some c)| 1=>.string ⟨k.toArray⟩| 2=>uw v|_=>itVal (gi k v))
   (WdV W1 c buf (itVal (gi k v))) (by omega) (by rfl) (by rfl) (fun listed a w i o hi ho V b hcl=>?_) (fun a w h1 h2 h3 h4 h5=>?_) ⟨fun _=>by rw [<-hW1];exact bR _ _,fun e=>by cases e⟩
 .have hlt:i<5:=(cz hi).1;have m:listed.getD 4 false=false:=by
   cases h:listed.getD 4 false with
   |false=>rfl
   |true=>
    exfalso;have l3:=hcl.dep (j:=4) (k:=3) (by rfl) h;have l0:=hcl.dep (j:=4) (k:=0) (by rfl) h;have l1:=hcl.dep (j:=3) (k:=1) (by rfl) l3;have l2:=hcl.dep (j:=3) (k:=2) (by rfl) l3;have hi2:=(cz hi).2;have p:∀j,j<5->listed.getD j false=true:=fun j hj=>by
     rcases j with - | - | - | - | - |j;all_goals first|assumption|omega
    have h7:=p i hlt;have q:i<listed.size:=by rw [V.len];exact hlt
    simp only [gD,eG q,Option.getD_some] at hi2 h7;rw [hi2] at h7;cases h7
  have hw:Below W1.heap.size W1 w:=V.world.below m;have ho1:=ho;dsimp only [Hh,EL,zh,cIn,bu,Tryz.f140,gN,cy,nW,Option.getD] at ho1;rcases i with - | - | - | - | - |i
  .simp only [gA,gZ,oI] at ho1;subst ho1;have q0:a.eval (.tmp 7)=ptr b7:=(V.old 7 (by omega)).trans y;refine an ho rfl (fun c h=>by cases h) (v:=.chan (some c)) (w':=w) (by generalize a.eval=ρ at q0 ⊢;simp [go_sem,q0,ptr,aj hw u]) ⟨_,rfl,fun _=>rfl,V.world.other (by omega)⟩
  .simp only [gA,gS,gZ,oI,zA] at ho1;subst ho1;have q0:a.eval (.tmp 5)=ptr b5:=(V.old 5 (by omega)).trans e5;refine an ho rfl (fun c h=>by cases h) (v:=.string ⟨k.toArray⟩) (w':=w) (by generalize a.eval=ρ at q0 ⊢;simp [go_sem,q0,ptr,aj hw k5]) ⟨_,rfl,fun _=>rfl,V.world.other (by omega)⟩
  .simp only [gA,gS,gZ,oI,Nat.reduceAdd,zA] at ho1;subst ho1;have q0:a.eval (.tmp 9)=ptr b9:=(V.old 9 (by omega)).trans x;refine an ho rfl (fun c h=>by cases h) (v:=uw v) (w':=w) (by generalize a.eval=ρ at q0 ⊢;simp [go_sem,q0,ptr,uw,aj hw k90,aj hw k91,aj hw k92]) ⟨_,rfl,fun _=>rfl,V.world.other (by omega)⟩
  .simp only [gA,gS,gZ,oI,Nat.reduceAdd,zA] at ho1;subst ho1;have q0:a.eval (.tmp 24)=.string ⟨k.toArray⟩:=V.new 1 (by omega) (b ⟨1,.data⟩ (by simp) rfl);have q1:a.eval (.tmp 25)=uw v:=V.new 2 (by omega) (b ⟨2,.data⟩ (by simp) rfl);refine iO (f:=157) (args:=#[.string ⟨k.toArray⟩,uw v]) (w':=w) ho rfl (fun c h=>by cases h) (by have qf:=hfun a rfl 157;generalize a.eval=ρ at q0 q1 qf ⊢;simp [go_sem,q0,q1,qf]) ((Eo k v w).mono ?_);rintro e X ⟨rfl,hX⟩;exact ⟨_,rfl,_,rfl,fun _=>rfl,V.world.more m hX⟩
  .simp only [gA,gS,gZ,oI,Nat.reduceAdd,zA] at ho1;subst ho1;have q0:a.eval (.tmp 23)=.chan (some c):=V.new 0 (by omega) (b ⟨0,.data⟩ (by simp) rfl);have q1:a.eval (.tmp 26)=itVal (gi k v):=V.new 3 (by omega) (b ⟨3,.data⟩ (by simp) rfl);refine n9 ho rfl rfl q0 ((hw.block c r).trans hc) hroom ?_;exact ⟨_,rfl,fun h=>absurd h (by omega),by rw [q1];exact V.world.sent m⟩
  .omega
 .obtain ⟨d,hd,hw⟩:=h5;obtain ⟨w1,hb,rfl⟩:=hw.done (hd 4 (by decide));exact hend a w1 (h1.trans hs) h2 (hb1.trans (by rw [hsz] at hb;exact hb))
def mH (n c:Nat)(p d af:ByteArray)(k:List UInt8)(hv e b a:Wq):Array Wq:=
 #[.agg #[.bool true,.string p,.string d,.string af],.string ⟨k.toArray⟩,hv,.chan (some c),ptr n,ptr (n+1),Wy,ptr (n+2),Wy,e,.pointer (some ⟨n,0,none⟩),.bool true,.bool false,Wy,Wy,Wy,Wy,Wy,Wy,hv,.func (.func 166) #[] #[ptr (n+3)],b,a,Wy,Wy,Wy,Wy]
def svW (w:Wz)(c:Nat)(p d af:ByteArray)(k:List UInt8)(hv:Wq):Wz:=
 (((w.alloc (.cells #[.bool true,.string p,.string d,.string af] 93)).alloc (.cells #[.string ⟨k.toArray⟩] 9)).alloc (.cells #[.chan (some c)] 210)).alloc (.cells #[hv] 114)
section
variable (w:Wz) (c:Nat) (p d af:ByteArray) (k:List UInt8) (hv:Wq)
theorem ff:(svW w c p d af k hv).heap.size=w.heap.size+4:=by simp only [svW,World.alloc,Array.size_push]
theorem wA {b:Nat}(h:b<w.heap.size):(svW w c p d af k hv).heap[b]?=w.heap[b]?:=by
 simp only [svW,World.alloc,gP,Array.size_push]
 repeat rw [if_neg (by omega)]
theorem wB (i:Nat)(h:i<4):(svW w c p d af k hv).heap[w.heap.size+i]?=(#[.cells #[.bool true,.string p,.string d,.string af] 93,.cells #[.string ⟨k.toArray⟩] 9,.cells #[.chan (some c)] 210,.cells #[hv] 114]:Array Obj)[i]?:=by
 simp only [svW,World.alloc,gP,Array.size_push];rcases i with - | - | - | - |i;all_goals first|omega|skip
 all_goals
  repeat rw [if_neg (by omega)]
  simp
end
theorem Ep {w:Wz}{a:Addr}{v:Wq}(h:w.cell? a=some v):∃o:Obj,w.heap[a.block]?=some o/\o.isCells=true:=by
 unfold World.cell? at h;cases ho:w.heap[a.block]? with
 |none=>rw [ho] at h;cases h
 |some o=>
  rw [ho] at h;cases o<;>first|exact ⟨_,rfl,rfl⟩|(cases h)
structure SvI (w:Wz)(c:Nat)(k:List UInt8)(buf:List Wq)(w6:Wz)(pre:List Ver)(X:Wz):Prop where
 os:X.os=w.os
 size:w6.heap.size<=X.heap.size
 block:∀b,b<w6.heap.size->b≠c->X.heap[b]?=w6.heap[b]?
 ch:X.heap[c]?=some (.chan 1000 (buf++(pre.map (gi k)).map itVal).toArray false (buf.length+pre.length) 0 false)
section
attribute [local go_sem] Oper.semAt_some kD
theorem ux (q:Qy)(M:q.vs=true):ij q:=by
 intro A k hv h c buf w hh hne hl hc hroom;obtain ⟨vs,p,d,af⟩:=q;simp only at M;subst M;have ab:c<w.heap.size:=(eS hc).1;have z:ez true k h=h.reverse.map (gi k):=rfl;have hkl:(ez true k h).length=h.length:=by rw [z];simp
 simp only [hkl] at hroom ⊢;rw [z];have y:aC h≠[]:=by
  cases h with
  |nil=>exact absurd rfl hne
  |cons a r=>simp [aC]
 obtain ⟨a0,cap,rfl,-,hx⟩:=hh;obtain ⟨g,rfl,-,hgl,f⟩:=hx y;have hvl:(aC h).length=h.length * 3:=eZ 3 _ (fun _=>rfl) h;obtain ⟨hv,s⟩:∃hv,hv=Value.slice (some ⟨g,0,none⟩) h.length cap:=⟨_,rfl⟩;have N:0<(aC h).length:=List.length_pos_iff.2 y;obtain ⟨og,m,o⟩:=Ep (a:=⟨g,0,none⟩) ((f 0 N).trans (List.getElem?_eq_getElem N));have B:c<(svW w c p d af k hv).heap.size:=by rw [ff];omega
 have V:w.heap.size<(svW w c p d af k hv).heap.size:=by rw [ff];omega
 have hgc:g≠c:=fun e=>by
  subst e;rw [m] at hc;cases hc;cases o
 refine (callsIn_wide (n:=0)).1 (callsIn_of_wp_marks (F:=Fence.wide) (Yq.nq Tryz.func140) rfl trivial ?_);refine (wpIn_wide (n:=0)).2 ?_;generalize hQ:bodyPostM Fence.wide 0 Yq.prog Tryz.f140 _=Q;simp only [Tryz.ntmps140,lZ,List.length_cons,lN,Nat.reduceAdd,Nat.reduceSub,Array.replicate_succ,Array.replicate_zero,List.push_toArray,List.append_toArray,List.nil_append,List.cons_append];have HQ:Hid (bodyPostM Fence.wide 0 Yq.prog Tryz.f140 _=Q):=hQ;have HX:Hid (w.heap[c]?=some (.chan 1000 buf.toArray false buf.length 0 false)/\buf.length+h.length<=1000/\w.heap[g]?=some og/\og.isCells=true/\(∀j,j<(aC h).length->w.cell? ⟨g,j,none⟩=(aC h)[j]?)):=⟨hc,hroom,m,o,f⟩;clear hQ hc hroom m o f z hkl hx;unfold qV;rw [<-s];have U:Hid (hv=Value.slice (some ⟨g,0,none⟩) h.length cap):=s;have ad:∃a n c,hv=.slice a n c:=⟨_,_,_,s⟩;clear s;go_wp2_with (go_at_call 156;refine (wz hv _ ad).mono ?_;rintro e w6 ⟨rfl,rfl⟩)
 refine wpIn_wide.1 (show Code.wpIn (wf none) 0 Yq.prog _ (Exit.inBlock 0 Q) ⟨mH w.heap.size c p d af k hv Wy Wy Wy,[]⟩ (svW w c p d af k hv) from ?_);obtain ⟨hc,hroom,m,o,f⟩:=HX.out;have R:SvI w c k buf (svW w c p d af k hv) [] (svW w c p d af k hv):=⟨rfl,lR _,fun _ _ _=>rfl,by rw [wA w c p d af k hv ab,hc];simp⟩;refine zT (α:=Ver) (β:=Nat×Ver) (encs:=fun x=>#[.int .i64 x.1,uw x.2]) (gf:=166) (lb:=#[ptr (w.heap.size+3)]) (fun x=>x.2) rfl (fun args wx=>by go_simp) (fun _=>rfl) c w.heap.size B V
  (SvI w c k buf (svW w c p d af k hv)) (fun pre x=>pre++[x.2] <+:h.reverse) h.reverse (fun pre X Y I h1 h2 h3=>⟨h3.trans I.os,lT I.size h2,fun b hb E=>(h1 b hb).trans (I.block b hb E),(h1 c B).trans I.ch⟩) (fun pre X I=>⟨_,I.ch,rfl⟩) R
  (fun x b=>⟨mH w.heap.size c p d af k hv (ptr b) (.int .i64 x.1) (uw x.2),[]⟩) (fun x=>.cells #[.int .i64 x.2.num,.string x.2.body,.bool x.2.mark] 81) ?call ?assign ?body ?done
 case call=>
  intro l J W hW1 L hst hsz hy T;have hb3:W.heap[w.heap.size+3]?=some (.cells #[hv] 114):=(L _ (by rw [ff];omega)).trans (wB w c p d af k hv 3 (by omega));rw [U.out] at hb3;have H:W.heap[g]?=some og:=(L g (by rw [ff];omega)).trans ((wA w c p d af k hv hgl).trans m);exact Gp l (w.heap.size+3) w.heap.size g cap h hl J (by omega) (by omega) (fun pre i v X h1 h2=>hy pre (i,v) X h1 h2) W H o (fun j hj=>(cB (a:=⟨g,j,none⟩) (H.trans m.symm)).trans (f j (by omega))) hb3 T
 case assign=>
  rintro l ⟨i,G,Z,S⟩ W K P;have e:(#[21,22].zip #[Value.int .i64 i,uw ⟨G,Z,S⟩]).foldl (fun t x=>match x with|(p,v)=>t.setIfInBounds p v) (mH w.heap.size c p d af k hv Wy Wy Wy)=mH w.heap.size c p d af k hv Wy (.int .i64 i) (uw ⟨G,Z,S⟩):=by
   simp [mH]
  show Code.wpIn _ _ _ _ _ ⟨(#[21,22].zip #[Value.int .i64 i,uw ⟨G,Z,S⟩]).foldl (fun t x=>match x with|(p,v)=>t.setIfInBounds p v) (mH w.heap.size c p d af k hv Wy Wy Wy),[]⟩ _;rw [e];unfold mH uw;unfold mH uw at P;gi_wp2;exact P
 case body=>
  rintro l pre ⟨i,v⟩ b W C I hb hlt;have hle:(pre++[v]).length<=h.length:=by have:=C.length_le;rwa [List.length_reverse] at this
  rw [lP,lS] at hle;have h1:W.heap[w.heap.size+1]?=some (.cells #[.string ⟨k.toArray⟩] 9):=(I.block _ (by rw [ff];omega) (by omega)).trans (wB w c p d af k hv 1 (by omega));have h2:W.heap[w.heap.size+2]?=some (.cells #[.chan (some c)] 210):=(I.block _ (by rw [ff];omega) (by omega)).trans (wB w c p d af k hv 2 (by omega));have hch:=I.ch;rw [show buf.length+pre.length=(buf++(pre.map (gi k)).map itVal).length by simp] at hch;refine wpIn_block (Cl (b5:=w.heap.size+1) (b7:=w.heap.size+2) (b9:=b) (k:=k) (v:=v) (buf:=buf++(pre.map (gi k)).map itVal) (c:=c) rfl rfl rfl rfl (by simp [World.cell?,h1]) (by simp [World.cell?,h2]) ⟨by simp [World.cell?,hb],by simp [World.cell?,hb],by simp [World.cell?,hb]⟩ hch (by simp;omega) (fun a w1 e1 e2 hb1=>?_));have hcW:c<W.heap.size:=by have:=I.size;omega
  refine ⟨rfl,⟨?_,?_,fun x hx u _=>?_⟩,?_,?_,fun x hx u=>?_,?_⟩
  .rw [xl];exact hb1.size
  .exact hb1.os
  .rw [jf u];exact hb1.block x hx
  .exact hb1.os.trans I.os
  .rw [xl];exact lT I.size hb1.size
  .rw [jf u,hb1.block x (by have:=I.size;omega)];exact I.block x hx u
  .rw [lJ (by have:=hb1.size;omega)];simp;omega
 case done=>
  intro D W hD I P;have hQ:=HQ.out;subst hQ;refine ⟨by simp,.inl ⟨_,_,rfl,run_takeDeferred P,?_⟩⟩;have O:∀b,b<(svW w c p d af k hv).heap.size->(W.putObj D (.deferred none)).heap[b]?=W.heap[b]?:=fun b hb=>pO (by omega)
  refine ⟨.tuple #[],by simp [results,Tryz.results140,go_sem],rfl,fun b hb E=>?_,?_,?_,?_⟩
  .rw [O b (by rw [ff];omega),I.block b (by rw [ff];omega) E,wA w c p d af k hv hb]
  .have:=I.size;rw [ff] at this;simp;omega
  .exact I.os
  .rw [O c B,I.ch];simp
end
theorem Hi:Hg:=fun s sub m w hs hm=>Yq.strings_Index s sub m w hs hm
theorem EM (q:Qy):ii q/\ij q:=by
 refine ⟨uv Hi q,?_⟩;cases h:q.vs with
 |false=>exact tG q h
 |true=>exact ux q h
end
section
open Go.RowKit
open Go.Conc Go.ConcX Go.ConcX.Gen
theorem cN.clean {W V:Wz}{D0:Nat->Prop}{v:Wq}{ops:List OpD}(h:cN W v ops)(hc:Clean D0 W V)(τ:Nat->Question->Nat)(d:Nat):cN (V.on τ d) v ops:=by
 obtain ⟨a,cap,rfl,hx⟩:=h.form;refine ⟨⟨a,cap,rfl,fun hne=>?_⟩,h.sized,h.len⟩;obtain ⟨b,off,rfl,hS⟩:=hx hne;refine ⟨b,off,rfl,fun i hi=>?_⟩;obtain ⟨c0,c1,c2,c3,c4,c5,c6⟩:=hS i hi;exact ⟨hc.cell c0 rfl,hc.cell c1 rfl,hc.cell c2 rfl,hc.cell c3 rfl,hc.cell c4 rfl,hc.cell c5 rfl,hc.cell c6 rfl⟩
def Cm (w:Wz):Prop:=cU w/\ri w
theorem Cm.on {w w':Wz}(h:Cm w)(hb:∀b,b<w.heap.size->w'.heap[b]?=w.heap[b]?):Cm w':=⟨h.1.on hb,h.2.on hb⟩
theorem Cm.glob {W V:Wz}(h:Cm W)(hb:∀b,b<Tryz.prog.globals.size->V.heap[b]?=W.heap[b]?):Cm V:=by
 refine ⟨h.1.glob hb,?_⟩;have ht:=h.2;unfold ri Lib.TabIs World.var? at *
 have hg : ∃ g, Yq.prog.globalNamed "internal/strconv.uint64pow10" = some g ∧ g < Tryz.prog.globals.size := ⟨_, show Yq.prog.globalNamed "internal/strconv.uint64pow10" = some 1 by kernel_rfl, of_decide_eq_true (by kernel_rfl)⟩
 obtain ⟨g,e,hlt⟩:=hg;rw [e] at ht ⊢;simp only [Option.bind_some] at ht ⊢;rw [hb g hlt];exact ht
theorem Gq {ρ:Ren}{a:Option Addr}(h:∀b,slB a b->ρ b b)(n c:Nat):RV ρ (.slice a n c) (.slice a n c):=by
 cases a with
 |none=>exact .slice n c .none
 |some a=>exact .slice n c (.some ⟨h _ ⟨a,rfl,rfl⟩,rfl,rfl⟩)
theorem Cn (N:Nat)(a:N<2199023255300):Hc Cm N:=
 ut uB (fun q _=>EM q) Cm N a (fun _ h=>h.1) fun n pg h1 h2 h3 h4 l w hG=>FT n pg ⟨h1,by omega⟩ ⟨h3,by omega⟩ l w hG.2
end
section
open Go.RowKit
open Go.Conc Go.ConcX Go.ConcX.Gen
open Go.Proofs.YtnapepbdohidgaaGreatDoor.Rows
theorem Er {H:Type}(d:DataW H):1<=uptoBulk d:=by
 cases d with
 |lit l=>cases l<;>simp [uptoBulk]
 |_=>simp [uptoBulk]
theorem rC {H:Type}:∀l:List (DataW H),l.length<=uptoBulkAll l
 | []=>Nat.zero_le _
 |d::r=>by
  have h1:=rC r;have h2:=Er d;rw [uptoBulkAll,List.length_cons];omega
theorem rD {H:Type}{b:TypeId×Wq->H}{W:Wz}{a:Option Addr}{len cap:Nat}{d:DataW H}{p:List MemPlace}(h:DataW.Trod b Tryz.prog W 0 (fun _=>true) true 22 (.slice a len cap) d p):len<=uptoBulk d:=by
 obtain ⟨fuel,hf⟩:=h;have hf2:DataW.trod b Tryz.prog W 0 (fun _=>true) true fuel 22 [.slice a len cap]=some (d,p):=by simpa [Value.cells] using hf
 have:=xr (B:=88 * uptoBulk d) hf2 (fun elems spare he=>by
  have c:d=.slice elems spare:=he;rw [c,uptoBulk];have h1:=rC elems;have h2:=rC spare;omega)
 omega
theorem Co {H:Type}{c:TypeId×Wq->H}{os:Os}(l:os.Started){m:FuncId}{fn:Func}{s:ChangeSpec}{f:List (String×DataW Unit)}(F:Tryz.prog.funcs[m]?=some fn)
  (w0:Wz) (a:Array Wq) (B:w0.os=os) (q:(w0.forCall (fun _ _=>0) ⟨#[],a,[]⟩).Shaped Tryz.prog) (hok0:Input.okWideB Tryz.prog (w0.forCall (fun _ _=>0) ⟨#[],a,[]⟩) m ⟨#[],a,[]⟩=true)
  (n:(match DataW.whole c Tryz.prog (w0.forCall (fun _ _=>0) ⟨#[],a,[]⟩).memory fn.params.toList s.vars false a.toList 8 with|some x=>uptoSmall H (x.1++x.2.1)|Option.none=>false)=true)
  (A:s.sizedB c Tryz.prog fn false (w0.forCall (fun _ _=>0) ⟨#[],a,[]⟩).memory a 8=true) (hl0:laidMetH Tryz.prog f (w0.forCall (fun _ _=>0) ⟨#[],a,[]⟩).memory)
  (d:∀ (W:Wz) (base:Nat) (args:Array Wq) (r gs:List (DataW H)) (b:List MemPlace),W.ShapedOpen Tryz.prog->(∀ (j:Nat) t v,fn.params[j]?=some t->args[j]?=some v->Value.okWide Tryz.prog W .any base t v)->DataW.Whole c Tryz.prog fn.params.toList s.vars false W args.toList r gs b->(DataW.weightsEach Tryz.prog (fn.params.toList++s.plain.varTypes Tryz.prog) (r++gs)).all (·<=reachBytes)=true->uptoSmall H (r++gs)=true->laidMetH Tryz.prog f W->Fin Tryz.prog (fun v W'=>s.post c Tryz.prog fn false true false false W args v W') #[G (Frame.enter Tryz.prog m args .normal) []] W none #[]):
  ReturnsInLeavingWide {} Tryz.checked os m .any (fun w args=>((OpenSpec.upto s).pre c Tryz.prog fn [] false w args/\laidMetH Tryz.prog f w)/\sizedMet c Tryz.prog fn (OpenSpec.upto s) false w args) (s.post c Tryz.prog fn false true false false):=by
 have k:(OpenSpec.upto s).cond=some uptoSmall:=rfl;refine returnsInLeavingWide_of_good (C:=Tryz.checked) Id l ?_ ?_
 .cases hx:DataW.whole c Tryz.prog (w0.forCall (fun _ _=>0) ⟨#[],a,[]⟩).memory fn.params.toList s.vars false a.toList 8 with
  |none=>rw [hx] at n;cases n
  |some x=>
   rw [hx] at n;refine ⟨w0,fun _ _=>0,⟨#[],a,[]⟩,B,q,(Input.okWide_of_okWideB (base:=0) hok0).1,(Input.okWide_of_okWideB hok0).2,⟨⟨(OpenSpec.pre_some k [] false _ _).2 ⟨x.1,x.2.1,x.2.2,DataW.Whole_of_whole hx,rfl,n⟩,hl0⟩,(show sizedMet c Tryz.prog fn (OpenSpec.ofChange s) false _ _ from sizedMet_of_sizedB A)⟩,?_⟩;simp only [Assume.holds];exact ⟨by simp,by simp,fun h=>by simp at h,by simp,by simp⟩
 .intro w tape i _ E _ hok p _;obtain ⟨_,_,_,D,u,_,_,_,_,z⟩:=hok;have e:D=fn:=oJ (u.symm.trans F);subst e;obtain ⟨⟨hp,hx⟩,hz⟩:=p;obtain ⟨r,gs,b,hw,-,hk⟩:=(OpenSpec.pre_some k [] false _ _).1 hp;obtain ⟨N,y,o,w',t',e1,e2,e3,e4⟩:=d (w.forCall tape i) w.heap.size i.args r gs b E z (DataW.Whole.of_heap (w':=w.forCall tape i) (by rfl) hw) (hz.weights hw) hk (hx.of_heap (by rfl));exact ⟨N,y,o,w',t',e1,e2,e3,e4.mono fun v hp=>ChangeSpec.post_blind hp⟩
end
section
open Go.RowKit
open Go.Conc Go.ConcX Go.ConcX.Gen
theorem wC (a0 f a2:Option Addr)(l0 c0 l1 c1 l2 c2:Nat)(ops0 ops1 ops2:List OpD)(W:Wz)(a:W.ShapedOpen Tryz.prog)(d:ri W)(hS0:cN W (.slice a0 l0 c0) ops0)(m:cN W (.slice f l1 c1) ops1)(l:cN W (.slice a2 l2 c2) ops2)(k:∀b,slB a0 b->∃c e z,W.heap[b]?=some (.cells c e z))(j:∀b,slB f b->∃c e z,W.heap[b]?=some (.cells c e z))(hr2:∀b,slB a2 b->∃c e z,W.heap[b]?=some (.cells c e z))(hl:l0+l1+l2<=1048576):
  Fin Tryz.prog (fun v W'=>v=.bool true/\sP W W') #[G (Frame.enter Tryz.prog 13 #[.slice a0 l0 c0,.slice f l1 c1,.slice a2 l2 c2] .normal) []] W none #[]:=by
 refine @Ff yL yM Gs Ss Rs As (Gu uB) env GS Fy H5 ⟨rfl,rfl,rfl,rfl⟩ (Bp uB (fun q _=>EM q)) FO (FS uB) 13 Tryz.f13 (bu Tryz.f13) Tryz.func13 (Yq.nq Tryz.func13) (by kernel_rfl) (by kernel_rfl) rfl rfl _ W _ (DH a (X:=fun b=>slB a0 b\/slB f b\/slB a2 b) (fun b hb=>hb.elim (k b) fun hb=>hb.elim (j b) (hr2 b))) (fun ρ h=>?_) (fun V hcl τ i=>?_)
 .exact RVl.arr (.cons (Gq (fun b hb=>h b (.inr (.inl hb))) _ _) (.cons (Gq (fun b hb=>h b (.inr (.inr (.inl hb)))) _ _) (.cons (Gq (fun b hb=>h b (.inr (.inr (.inr hb)))) _ _) .nil)))
 .have hG:Cm V:=Cm.glob (W:=W) ⟨FV a,d⟩ (hcl.glob a);refine (wv (G:=Cm) (N:=l0+l1+l2+20) (Cn _ (by omega)) (by omega) _ _ _ _ _ _ _ _ _ ops0 ops1 ops2 (V.on τ i) (hS0.clean hcl τ i) (m.clean hcl τ i) (l.clean hcl τ i) (by omega) (by omega) (by omega) (by omega) (fun w' hl=>hG.on hl.block)).mono ?_;rintro e w' (⟨rfl,hl⟩|hst)
  .exact .inl ⟨rfl,hl.os,hl.block⟩
  .exact .inr hst
end
