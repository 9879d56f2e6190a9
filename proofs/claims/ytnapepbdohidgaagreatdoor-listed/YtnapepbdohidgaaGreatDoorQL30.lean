/- A part. -/
import Derived.Test.YtnapepbdohidgaaGreatDoorQL17
import Derived.Test.YtnapepbdohidgaaGreatDoorQL18
import Derived.Test.YtnapepbdohidgaaGreatDoorQL29
import Derived.Lib.Index
import Derived.Shelf.Lays
import Derived.Shelf.Strings.Search3
import Derived.RangeFuncSeq
import Derived.TacticsInMore
import Derived.RegionIn
import Derived.LoopNIn
import Derived.LoopIn
set_option maxHeartbeats 4000000
set_option maxRecDepth 100000
open Go renaming World->Wj,Value->Wx,undef->Wo
namespace Go.Proofs.Qw
section
open Go.Conc Go.ConcX Go.ConcX.Gen Go.RowKit
theorem GN {t:ByteArray}(h:t≠⟨#[]⟩):t.toList.isEmpty=false:=by
 rw [ByteArray.toList_eq];cases e:t.data.toList with
 |nil=>exact absurd (ByteArray.ext (Array.toList_inj.1 (e.trans rfl))) h
 |cons a r=>rfl
theorem tj (d:List UInt8):∀s:List UInt8,Lib.index s d=((dj d s).map fun (i:Nat)=>(i:Int)).getD (-1)
 | []=>by
  cases d<;>rfl
 |b::r=>by
  have ih:=tj d r;rw [Lib.index,dj];split
  .rfl
  .cases h:dj d r with
   |none=>
    rw [h] at ih;simp at ih;rw [ih];rfl
   |some i=>
    rw [h] at ih;simp at ih;rw [ih,if_neg (by simp)];simp
def GO:Prop:=∀ (s sub:ByteArray)(m:Int)(w:Wj),s.size<4294967281->w.cell? ⟨0,0,none⟩=some (.int .i64 m)->Calls Yq.prog 155 #[.string s,.string sub] w fun e w'=>e=.returned (.int .i64 (Lib.index s.data.toList sub.data.toList))/\w'=w
theorem wH (d:List UInt8):∀ (s:List UInt8)(i:Nat),dj d s=some i->i+d.length<=s.length
 | [],i,h=>by
  rw [dj] at h;split at h
  .rename_i e;subst e;cases h;simp
  .cases h
 |b::r,i,h=>by
  rw [dj] at h;split at h
  .rename_i e;cases h;have:=(List.isPrefixOf_iff_prefix.1 e).length_le;simpa using this
  .cases hs:dj d r with
   |none=>rw [hs] at h;cases h
   |some j=>
    rw [hs] at h;cases h;have:=wH d r j hs;simp only [lC];omega
theorem tq (r:GO)(q:Qy):jl q:=by
 by_cases b:q.d=⟨#[]⟩
 .exact uy q b
 intro k w n hk f;obtain ⟨m,hm⟩:=n;obtain ⟨o,p,d,af⟩:=q;simp only at b f;have hpl:p.size<=k.length:=by have:=f.length_le;simpa using this
 obtain ⟨key,a⟩:∃key:ByteArray,key=⟨k.toArray⟩:=⟨_,rfl⟩;have j:key.size=k.length:=by rw [a];rfl
 have l:(key.extract p.size key.size).data.toList=k.drop p.size:=by
  rw [Lib.extract_data,j,tO (by rw [lD,a];simp),a]
 have hde:d.toList.isEmpty=false:=GN b;have s:aP ⟨o,p,d,af⟩ k=(dj d.data.toList (k.drop p.size)).map fun i=>k.take (p.size+i+d.size):=by
  rw [aP,if_neg];intro e;apply b;apply ByteArray.ext;exact Array.eq_empty_of_size_eq_zero e
 have hix:=tj d.data.toList (k.drop p.size);rw [s];rw [<-a];have c:Hid (∀W:Wj,W.cell? ⟨0,0,none⟩=some (.int .i64 m)->Calls Yq.prog 155 #[.string (key.extract p.size key.size),.string d] W fun e w'=>e=.returned (.int .i64 (Lib.index (k.drop p.size) d.data.toList))/\w'=W):=fun W t=>by
  rw [<-l];exact r _ _ m W (by rw [ByteArray.size_extract];omega) t
 have HW:Hid (Below w.heap.size w (w.alloc (.cells #[.bool o,.string p,.string d,.string af] 93))):=(bR _ _).alloc (lR _) _;have hm2:(w.alloc (.cells #[.bool o,.string p,.string d,.string af] 93)).drew.cell? ⟨0,0,none⟩=some (.int .i64 m):=ai HW.out hm;have h:Hid (key=⟨k.toArray⟩/\key.size=k.length):=⟨a,j⟩;have hpk:p.size<=key.size:=by omega
 have hkk:key.size<=1000:=by omega
 clear l s a j hpl hk;unfold qV;cases hs:dj d.data.toList (k.drop p.size) with
 |none=>
  rw [hs] at hix;simp at hix;rw [hix] at c;go_enter (Yq.nq Tryz.func139),Tryz.ntmps139;go_wp2_with fail
  go_region_with (go_at_call 155;refine (c.out _ hm2).mono ?_;rintro e w1 ⟨rfl,rfl⟩)
  all_goals
   go_wp2
   go_ret2
   exact ⟨rfl,HW.out.drew⟩
 |some i=>
  rw [hs] at hix;simp at hix;rw [hix] at c;have hle:=wH _ _ _ hs;rw [lD] at hle;have hdl:d.data.toList.length=d.size:=by simp
  have hsz:p.size+i+d.size<=key.size:=by have:=h.out.2;omega
  clear hle hdl;have h0:¬((i:Int)<0):=by omega
  have hw1:wrap64 ((p.size:Int)+i)=(p.size:Int)+i:=by unfold wrap64;omega
  have hw2:wrap64 ((p.size:Int)+i+d.size)=(p.size:Int)+i+d.size:=by unfold wrap64;omega
  go_enter (Yq.nq Tryz.func139),Tryz.ntmps139;go_wp2_with fail
  go_region_with (go_at_call 155;refine (c.out _ hm2).mono ?_;rintro e w1 ⟨rfl,rfl⟩)
  all_goals
   go_wp2
   go_ret2
   refine ⟨?_,HW.out.drew⟩;have e:key.extract 0 (p.size+i+d.size)=⟨(k.take (p.size+i+d.size)).toArray⟩:=by rw [Lib.extract_eq,h.out.1];simp
   rw [e];rfl
end
end Go.Proofs.Qw
namespace Go.Proofs
section
open Go.Shelf Go.Lib
def Yq.lays143_ren:Go.Shelf.Ren:=⟨fun| 143=>155| 217=>172| 219=>165| 224=>174| 225=>173| 266=>180| 267=>175| 314=>181|n=>n,fun| 3=>3| 4=>4| 5=>5| 9=>9| 46=>199| 51=>222| 146=>251|n=>n,fun| 1=>0|n=>n⟩
theorem Yq.lays143:Go.Proofs.Lays.n143 Yq.prog Yq.lays143_ren:={
 mixed:=by kernel_rfl
 f143:=(Yq.nq Tryz.func155).trans (congrArg some (by kernel_rfl))
 f217:=(Yq.nq Tryz.func172).trans (congrArg some (by kernel_rfl))
 f219:=(Yq.nq Tryz.func165).trans (congrArg some (by kernel_rfl))
 f224:=(Yq.nq Tryz.func174).trans (congrArg some (by kernel_rfl))
 f225:=(Yq.nq Tryz.func173).trans (congrArg some (by kernel_rfl))
 f266:=(Yq.nq Tryz.func180).trans (congrArg some (by kernel_rfl))
 f267:=(Yq.nq Tryz.func175).trans (congrArg some (by kernel_rfl))
 f314:=(Yq.nq Tryz.func181).trans (congrArg some (by kernel_rfl))
 t3:=(Yq.u Tryz.underlying3)
 a3:=(fun w=>Yq.a (Tryz.isAgg3 w))
 z3:=(fun w=>Yq.s (Tryz.sizeOf3 w))
 v3:=(fun w=>Yq.z (Tryz.zeroValue3 w))
 t4:=(Yq.u Tryz.underlying4)
 a4:=(fun w=>Yq.a (Tryz.isAgg4 w))
 z4:=(fun w=>Yq.s (Tryz.sizeOf4 w))
 v4:=(fun w=>Yq.z (Tryz.zeroValue4 w))
 t5:=(Yq.u Tryz.underlying5)
 a5:=(fun w=>Yq.a (Tryz.isAgg5 w))
 z5:=(fun w=>Yq.s (Tryz.sizeOf5 w))
 v5:=(fun w=>Yq.z (Tryz.zeroValue5 w))
 t9:=(Yq.u Tryz.underlying9)
 a9:=(fun w=>Yq.a (Tryz.isAgg9 w))
 z9:=(fun w=>Yq.s (Tryz.sizeOf9 w))
 v9:=(fun w=>Yq.z (Tryz.zeroValue9 w))
 t46:=(Yq.u Tryz.underlying199)
 a46:=(fun w=>Yq.a (Tryz.isAgg199 w))
 z46:=(fun w=>Yq.s (Tryz.sizeOf199 w))
 v46:=(fun w=>Yq.z (Tryz.zeroValue199 w))
 t51:=(Yq.u Tryz.underlying222)
 a51:=(fun w=>Yq.a (Tryz.isAgg222 w))
 z51:=(fun w=>Yq.s (Tryz.sizeOf222 w))
 v51:=(fun w=>Yq.z (Tryz.zeroValue222 w))
 t146:=(Yq.u Tryz.underlying251)
 a146:=(fun w=>Yq.a (Tryz.isAgg251 w))
 z146:=(fun w=>Yq.s (Tryz.sizeOf251 w))
 v146:=(fun w=>Yq.z (Tryz.zeroValue251 w))
 g1:=by kernel_rfl}
theorem Yq.strings_Index (s sub:ByteArray)(m:Int)(w:Wj)(hs:s.size<4294967281)(hm:w.cell? ⟨0,0,none⟩=some (.int .i64 m)):
  Calls Yq.prog 155 #[.string s,.string sub] w fun e w'=>e=.returned (.int .i64 (Lib.index s.data.toList sub.data.toList))/\w'=w:=Any.strings_Index Yq.lays143 s sub m w hs hm
end
end Go.Proofs
namespace Go.Proofs.Qw
section
open Go.Conc Go.ConcX Go.ConcX.Gen Go.RowKit
def tu (v:Ver):Wx:=.agg #[.int .i64 v.num,.string v.body,.bool v.mark]
theorem DU (k:List UInt8)(v:Ver)(w:Wj):Calls Yq.prog 157 #[.string ⟨k.toArray⟩,tu v] w fun e w'=>e=.returned (itVal (ec k v))/\Below w.heap.size w w':=by
 obtain ⟨a,body,mark⟩:=v;have hb:∀c,Below w.heap.size w (((w.alloc (.cells #[.int .i64 a,.string body,.bool mark] 81)).alloc c)):=fun c=>((bR _ _).alloc (lR _) _).alloc (by simp) _
 have HB:Hid (∀c,Below w.heap.size w (((w.alloc (.cells #[.int .i64 a,.string body,.bool mark] 81)).alloc c))):=hb;clear hb;unfold tu;cases mark
 .go_enter (Yq.nq Tryz.func157),Tryz.ntmps157;go_wp2_with fail
  exact bodyPost_ret (v:=.agg #[.int .i64 3,.string ⟨k.toArray⟩,.int .i64 a]) (by simp [results,Tryz.results157,go_sem]) rfl ⟨rfl,HB.out _⟩
 .go_enter (Yq.nq Tryz.func157),Tryz.ntmps157;go_wp2_with fail
  exact bodyPost_ret (v:=.agg #[.int .i64 4,.string ⟨k.toArray⟩,.int .i64 a]) (by simp [results,Tryz.results157,go_sem]) rfl ⟨rfl,HB.out _⟩
theorem ve (hv:Wx)(w:Wj)(b:∃a n c,hv=.slice a n c):Calls Yq.prog 156 #[hv] w fun e w'=>e=.returned (.func (.func 166) #[] #[ptr w.heap.size])/\w'=w.alloc (.cells #[hv] 114):=by
 obtain ⟨a,n,c,rfl⟩:=b;go_enter (Yq.nq Tryz.func156),Tryz.ntmps156;go_wp2_with fail
 go_ret;exact ⟨rfl,rfl⟩
theorem FU (l bx t g cap:Nat)(h:List Ver)(hl:h.length<=1000)(J:List Ver->Wj->Prop)(x:bx≠t)(hg:g≠t)
  (C:∀pre (i:Nat) v X,pre++[v] <+:h.reverse->J pre X->YieldAt (wf none) 0 Yq.prog l #[.int .i64 i,tu v] X fun e X'=>e=.returned (.bool true)/\J (pre++[v]) X'/\dR t X X')
  (W:Wj) {og:Obj} (p:W.heap[g]?=some og) (m:og.isCells=true) (hrow:∀j,j<h.length * 3->W.cell? ⟨g,j,none⟩=(am h)[j]?) (hb:W.heap[bx]?=some (.cells #[.slice (some ⟨g,0,none⟩) h.length cap] 114)) (h0:J [] W):
  Calls Yq.prog 166 #[.func (.yield l) #[] #[],ptr bx] W fun e W'=>(∃v,e=.returned v)/\J h.reverse W':=by
 have HY:Hid (∀pre (i:Nat) v X,pre++[v] <+:h.reverse->J pre X->YieldAt (wf none) 0 Yq.prog l #[.int .i64 i,tu v] X fun e X'=>e=.returned (.bool true)/\J (pre++[v]) X'/\dR t X X'):=C;have HW:Hid (W.heap[g]?=some og/\og.isCells=true/\(∀j,j<h.length * 3->W.cell? ⟨g,j,none⟩=(am h)[j]?)/\W.heap[bx]?=some (.cells #[.slice (some ⟨g,0,none⟩) h.length cap] 114)):=⟨p,m,hrow,hb⟩;have c0:W.cell? ⟨bx,0,none⟩=some (.slice (some ⟨g,0,none⟩) h.length cap):=by simp [World.cell?,hb]
 obtain ⟨n,hn⟩:∃n,n=h.length:=⟨_,rfl⟩;have HN:Hid (n=h.length):=hn;rw [<-hn] at c0 hl;clear C p m hrow hb hn;unfold ptr;refine (callsIn_wide (n:=0)).1 (callsIn_of_wp (F:=Fence.wide) (Yq.nq Tryz.func166) rfl trivial ?_ rfl);simp only [Tryz.ntmps166,lZ,lC,lN,Nat.reduceAdd,Nat.reduceSub,Array.replicate_succ,Array.replicate_zero,List.push_toArray,List.append_toArray,List.nil_append,List.cons_append]
 gi_wp2_with fail
 gi_loopw [3] (fun s3 wr=>∃j:Nat,j<=n/\s3=.int .i64 ((n:Int)-1-j)/\J (h.reverse.take j) wr/\dR t W wr) (fun s3 _=>(intOf s3+1).toNat)
 case atStart=>
  exact ⟨0,Nat.zero_le _,by simp,h0,dR.refl _ _⟩
 case round=>
  obtain ⟨j,hj,rfl,q,hk⟩:=hrel;have k:wr.heap[bx]?=some (.cells #[.slice (some ⟨g,0,none⟩) h.length cap] 114):=hk.2.2 bx _ HW.out.2.2.2 rfl x;have hgr:wr.heap[g]?=some og:=hk.2.2 g _ HW.out.1 HW.out.2.1 hg;have cb:wr.cell? ⟨bx,0,none⟩=some (.slice (some ⟨g,0,none⟩) n cap):=by rw [HN.out];simp [World.cell?,k]
  have HK:Hid (dR t W wr):=hk;clear k hk c0;by_cases hlt:j<n
  .obtain ⟨i,A⟩:∃i,i=n-1-j:=⟨_,rfl⟩;have f:(n:Int)-1-j=(i:Int):=by omega
   have hin:i<n:=by omega
   have u:i<h.length:=by rw [<-HN.out];exact hin
   have r:j<h.reverse.length:=by rw [List.length_reverse,<-HN.out];exact hlt
   have o:h.reverse[j]=h[i]:=by rw [List.getElem_reverse];congr 1;rw [<-HN.out];omega
   have htk:h.reverse.take (j+1)=h.reverse.take j++[h[i]]:=by rw [tS r,o]
   have b:∀c,c<3->wr.cell? ⟨g,i * 3+c,none⟩=(am h)[i * 3+c]?:=fun c hc=>by
    rw [cB (a:=⟨g,i * 3+c,none⟩) (hgr.trans HW.out.1.symm)];exact HW.out.2.2.1 _ (by omega)
   have d:∀c,c<3->(am h)[i * 3+c]?=[Value.int .i64 h[i].num,.string h[i].body,.bool h[i].mark][c]?:=fun c hc=>cu 3 _ (fun _=>rfl) h i c u hc
   have k0:=(b 0 (by omega)).trans (d 0 (by omega));have k1:=(b 1 (by omega)).trans (d 1 (by omega));have k2:=(b 2 (by omega)).trans (d 2 (by omega));simp only [gZ,gS,Nat.add_zero] at k0 k1 k2;obtain ⟨fn,tmps,assign,body,hy,B⟩:=HY.out (h.reverse.take j) i h[i] wr (by rw [<-htk];exact List.take_prefix _ _) q;have s:Hid (h.reverse.take (j+1)=h.reverse.take j++[h[i]]):=htk;rw [f];have HI:Hid (i=n-1-j/\(n:Int)-1-j=(i:Int)/\j<n):=⟨A,f,hlt⟩;have hi0:(0:Int)<=i:=by omega
   clear A f hlt;generalize h[i]=v at *;obtain ⟨num,vb,mk⟩:=v;simp only [tu] at k0 k1 k2 hy B;clear b d hgr o htk q;gi_wp2;refine ⟨rfl,RoundIn.mono (F:=Fence.wide) B ?_⟩;rintro e W3 ⟨rfl,y,hk3⟩;gi_wp2
   go_roundw
   case rel=>exact ⟨j+1,by have:=HI.out.2.2;omega,by have:=HI.out.2.1;congr 1;omega,by rw [s.out];exact y,HK.out.trans hk3⟩
   case measure=>have:=HI.out;simp [intOf]
  .have z:j=n:=by omega
   subst z;gi_wp2;go_end0;refine ⟨⟨_,rfl⟩,?_⟩;rw [tO (by rw [List.length_reverse,<-HN.out];exact lR _)] at q;exact q
section
variable {P:Program} {α β:Type}
theorem yN {g:Operand}{ps:Array Tmp}{assign body:Code}{Q:Exit->Act->Wj->Prop}{a:Act}{w:Wj}{n gf:Nat}{lb:Array Wx}{encs:β->Array Wx}(π:β->α)(hg:a.eval g=.func (.func gf) #[] lb)(eg:∀args w,(callFunc gf args).run P w=.ok (.enter gf args) w)(U:∀x,(encs x).size=ps.size)
  (c t:Nat) (hc:c<w.heap.size) (ht:t<w.heap.size) (I:List α->Wj->Prop) (s:List α->β->Prop) (m:List α)
  (H:∀pre X Y,I pre X->(∀b,b<w.heap.size->Y.heap[b]?=X.heap[b]?)->X.heap.size<=Y.heap.size->Y.os=X.os->I pre Y) (V:∀pre X,I pre X->∃o:Obj,X.heap[c]?=some o/\o.isCells=false) (h0:I [] w) (a₁:β->Nat->Act) (r:β->Obj)
  (E:∀ (l:Nat) (J:List α->Wj->Prop) (W:Wj),W.heap.size=w.heap.size+2->(∀b,b<w.heap.size->W.heap[b]?=w.heap[b]?) ->
   (∀pre X Y,J pre X->(∀b,b<w.heap.size+2->Y.heap[b]?=X.heap[b]?)->X.heap.size<=Y.heap.size->Y.os=X.os->J pre Y)->(∀pre X,J pre X->w.heap.size+2<=X.heap.size) ->
   (∀pre x X,s pre x->J pre X->YieldAt (wf none) 0 P l (encs x) X fun e X'=>e=.returned (.bool true)/\J (pre++[π x]) X'/\dR t X X')->J [] W ->
   Calls P gf (#[.func (.yield l) #[] #[]]++lb) W fun e W'=>(∃v,e=.returned v)/\J m W')
  (q:∀ (l:Nat) (x:β) (W:Wj) (K:Act->Wj->Prop),K (a₁ x W.heap.size) (W.alloc (r x))->assign.wpIn (wf (some l)) 0 P (Exit.then K (fun _ _ _=>False)) {tmps:=(ps.zip (encs x)).foldl (fun t (p,v)=>t.setIfInBounds p v) a.tmps,defers:=[]} W)
  (B:∀ (l:Nat) (pre:List α) (x:β) (b:Nat) (W:Wj),s pre x->I pre W->W.heap[b]?=some (r x)->w.heap.size+2<=b->body.wpIn (wf (some l)) 0 P (fun e _ W'=>e=.normal/\kJ c t W W'/\I (pre++[π x]) W') (a₁ x b) W)
  (C:∀ (D:Nat) (W:Wj),w.heap.size<=D->I m W->W.heap[D]?=some (.deferred (some []))->Q .normal {a with defers:={target:=.collected D,args:=#[]} :: a.defers} W):
  (Code.rangeFunc g ps assign body).wpIn (wf none) n P Q a w:=by
 refine wpIn_rangeFunc ?_;intro fn hfn;obtain ⟨d,f⟩:∃d:LoopState->Loop,d=fun st=>{state:=st,pending:=none,fn,tmps:=a.tmps,params:=ps,assign,body,defers:=w.heap.size}:=⟨_,rfl⟩
 obtain ⟨W1,j⟩:∃W1,(w.alloc (.deferred (some []))).alloc (.loop (d .ready))=W1:=⟨_,rfl⟩;have ac:W1.heap[w.heap.size+1]?=some (.loop (d .ready)):=by
  rw [<-j];have:=aN (w.alloc (.deferred (some []))) (.loop (d .ready));rwa [World.size_alloc] at this
 have hK1:W1.heap[w.heap.size]?=some (.deferred (some [])):=by
  rw [<-j];exact (bA _ _ _ (by simp)).trans (aN w _)
 have y:∀b,b<w.heap.size->W1.heap[b]?=w.heap[b]?:=fun b hb=>by
  rw [<-j,bA _ _ _ (by simp;omega),bA _ _ _ hb]
 have N:W1.heap.size=w.heap.size+2:=by rw [<-j];simp
 have hI1:I [] W1:=H _ _ _ h0 y (by omega) (by rw [<-j];rfl);refine ⟨w.heap.size+1,[{target:=.collected w.heap.size,args:=#[]}],W1,{target:=.fn (.func gf) lb,args:=#[.func (.yield (w.heap.size+1)) #[] #[]]},W1,gf,
  #[.func (.yield (w.heap.size+1)) #[] #[]]++lb,W1,?_,?_,fun _ _=>trivial,?_,(fun h=>by cases h),?_⟩
 .rw [<-j,f];exact run_enterLoop_outer _ _ _ _ _
 .simp only [resolve,hg];simp [go_sem]
 .simp [invoke,go_sem,eg]
 .refine callsIn_wide.2 ((E (w.heap.size+1) (fun pre W=>I pre W/\W.heap[w.heap.size+1]?=some (.loop (d .ready))/\W.heap[w.heap.size]?=some (.deferred (some []))) W1 N y (fun pre X Y h h1 h2 h3=>⟨H pre X Y h.1 (fun b hb=>h1 b (by omega)) h2 h3,(h1 _ (by omega)).trans h.2.1,(h1 _ (by omega)).trans h.2.2⟩) (fun pre X h=>(eS h.2.1).1) ?_ ⟨hI1,ac,hK1⟩).mono ?_)
  .rintro pre x X A ⟨M,hl,hk⟩;have hlt:w.heap.size+1<X.heap.size:=(eS hl).1;have hy:=run_yield (P:=P) (args:=encs x) hl (by rw [f];exact U x);rw [f] at hy;refine ⟨fn,_,assign,body,hy,roundIn_of_wpIn (F:=wf none) trivial (q _ x X _ ?_)⟩;obtain ⟨X1,k⟩:∃X1,X.alloc (r x)=X1:=⟨_,rfl⟩;have af:X1.heap[X.heap.size]?=some (r x):=by rw [<-k];exact aN X _
   have ho1:∀b,b<X.heap.size->X1.heap[b]?=X.heap[b]?:=fun b hb=>by rw [<-k];exact bA _ _ _ hb
   have hs1:X1.heap.size=X.heap.size+1:=by rw [<-k];simp
   have u:X1.os=X.os:=by rw [<-k];rfl
   rw [k];have R:dR t X X1:=⟨by omega,u,fun b o hb _ _=>(ho1 b (eS hb).1).trans hb⟩;have M:I pre X1:=H _ _ _ M (fun b hb=>ho1 b (by omega)) (by omega) u;have hl:X1.heap[w.heap.size+1]?=some (.loop (d .ready)):=(ho1 _ hlt).trans hl;have hk:X1.heap[w.heap.size]?=some (.deferred (some [])):=(ho1 _ (by omega)).trans hk;have ab:w.heap.size+2<=X.heap.size:=by omega
   generalize X.heap.size=bx at *;have hlt:w.heap.size+1<X1.heap.size:=(eS hl).1;refine ⟨_,run_beginRound hl (by rw [f]),?_⟩;obtain ⟨X2,i⟩:∃X2,X1.putObj (w.heap.size+1) (.loop {d .ready with state:=.busy})=X2:=⟨_,rfl⟩;have ad:X2.heap[w.heap.size+1]?=some (.loop {d .ready with state:=.busy}):=by rw [<-i];exact World.putObj_heap_same hlt
   have z:∀b,b≠w.heap.size+1->X2.heap[b]?=X1.heap[b]?:=fun b hb=>by rw [<-i];exact pO hb
   have hsz2:X2.heap.size=X1.heap.size:=by rw [<-i];simp
   have O:X2.os=X1.os:=by rw [<-i];rfl
   have hi2:I pre X2:=H _ _ _ M (fun b hb=>z b (by omega)) (by omega) O;have S:dR t X1 X2:=by rw [<-i];exact fv hl rfl _
   rw [i];refine wpIn_mono (B _ pre x bx _ A hi2 ((z _ (by omega)).trans af) ab) ?_;rintro e a3 X3 ⟨rfl,hkb,Z⟩;have G:X3.heap[w.heap.size+1]?=some (.loop {d .ready with state:=.busy}):=(hkb.2.2 _ (by omega) (by omega) (by omega)).trans ad;have hk3:X3.heap[w.heap.size]?=some (.deferred (some [])):=(hkb.2.2 _ (by omega) (by omega) (by omega)).trans ((z _ (by omega)).trans hk);have her:=run_endRound (P:=P) none G;have hfin:({d .ready with state:=.busy}:Loop)={d .ready with state:=.busy}:=rfl;have e4:({({d .ready with state:=.busy}:Loop) with state:=if (none:Option Code).isNone then .ready else .done,pending:=none}:Loop)=d .ready:=by rw [f];rfl
   rw [e4] at her;have L:w.heap.size+1<X3.heap.size:=(eS G).1;refine ⟨_,_,her,rfl,⟨H _ _ _ Z (fun b hb=>pO (by omega)) (by simp) rfl,World.putObj_heap_same L,(pO (by omega)).trans hk3⟩,R.trans (S.trans ((hkb.cells (V _ _ hi2)).trans (fv G rfl _)))⟩
  .rintro e W2 ⟨⟨v,rfl⟩,M,hl,hk⟩;have hel:=run_endLoop (P:=P) hl (by rw [f];simp);have T:(d .ready).pending=none:=by rw [f]
   rw [T] at hel;exact ⟨none,_,hel,C w.heap.size _ (lR _) (H _ _ _ M (fun b hb=>pO (by omega)) (by simp) rfl) ((pO (by omega)).trans hk)⟩
end
noncomputable def Eo:Code:=C3 (cIn (dr (dr (dr (cF Tryz.f140)))))
noncomputable def GP:Array Oper:=qG (cIn Eo)
structure WdV (W1:Wj)(c:Nat)(buf:List Wx)(it:Wx)(d:Nat->Bool)(w:Wj):Prop where
 below:d 4=false->Below W1.heap.size W1 w
 done:d 4=true->∃w1,Below W1.heap.size W1 w1/\w=w1.setChan c 1000 (buf++[it]).toArray false (buf.length+1) 0 false
section
variable {W1:Wj} {c:Nat} {buf:List Wx} {it:Wx} {d:Nat->Bool} {w:Wj}
theorem WdV.other (h:WdV W1 c buf it d w){i:Nat}(a:4≠i):WdV W1 c buf it (dQ d i) w:=⟨fun e=>h.below (by rwa [dG a] at e),fun e=>h.done (by rwa [dG a] at e)⟩
theorem WdV.more (h:WdV W1 c buf it d w)(h6:d 4=false){X:Wj}(a:Below w.heap.size w X):WdV W1 c buf it (dQ d 3) X:=⟨fun _=>(h.below h6).trans (a.mono (h.below h6).size),fun e=>by rw [dG (by omega),h6] at e;cases e⟩
theorem WdV.sent (h:WdV W1 c buf it d w)(hw:d 4=false):WdV W1 c buf it (dQ d 4) (w.setChan c 1000 (buf.toArray.push it) false (buf.length+1) 0 false):=⟨fun e=>by simp [dQ] at e,fun _=>⟨w,h.below hw,by simp⟩⟩
end
theorem BL {id n l:Nat}{Q:Exit->Act->Wj->Prop}{a0:Act}{W:Wj}{b5 b7 b9 c:Nat}{k:List UInt8}{v:Ver}{buf:List Wx}(hs:a0.tmps.size=27)(e5:a0.eval (.tmp 5)=ptr b5)(B:a0.eval (.tmp 7)=ptr b7)(A:a0.eval (.tmp 9)=ptr b9)
  (c5:W.cell? ⟨b5,0,none⟩=some (.string ⟨k.toArray⟩)) (z:W.cell? ⟨b7,0,none⟩=some (.chan (some c))) (t:W.cell? ⟨b9,0,none⟩=some (.int .i64 v.num)/\W.cell? ⟨b9,1,none⟩=some (.string v.body)/\W.cell? ⟨b9,2,none⟩=some (.bool v.mark)) (hc:W.heap[c]?=some (.chan 1000 buf.toArray false buf.length 0 false)) (hroom:buf.length<1000)
  (hend:∀a w1,a.tmps.size=27->a.defers=a0.defers->Below W.heap.size W w1->Q .normal a (w1.setChan c 1000 (buf++[itVal (ec k v)]).toArray false (buf.length+1) 0 false)):
  (Code.region id GP true).wpIn (wf (some l)) n Yq.prog Q a0 W:=by
 obtain ⟨W1,p⟩:∃W1:Wj,W1={W with drawn:=W.drawn+1}:=⟨_,rfl⟩;have m:Below W.heap.size W W1:=by rw [p];exact ⟨rfl,rfl,rfl,lR _,fun _ _=>rfl⟩
 have hsz:W1.heap.size=W.heap.size:=by rw [p]
 have k5:W1.cell? ⟨b5,0,none⟩=some (.string ⟨k.toArray⟩):=ai m c5;have y:W1.cell? ⟨b7,0,none⟩=some (.chan (some c)):=ai m z;have k90:=ai m t.1;have k91:=ai m t.2.1;have k92:=ai m t.2.2;have u:c<W1.heap.size:=by rw [hsz];exact (eS hc).1
 have hc:W1.heap[c]?=some (.chan 1000 buf.toArray false buf.length 0 false):=by rw [p];exact hc
 have hroom:buf.toArray.size<1000:=by simpa using hroom
 refine lJ (ro:=some l) (a0:=a0) (w0:=W) mixed 23 4
   (fun i=>match i with| 0=>.chan (some c)| 1=>.string ⟨k.toArray⟩| 2=>tu v|_=>itVal (ec k v))
   (WdV W1 c buf (itVal (ec k v))) (by omega) (by rfl) (by rfl) (fun listed a w i o x ho V b hcl=>?_) (fun a w h1 h2 h3 h4 h5=>?_) ⟨fun _=>by rw [<-p];exact bR _ _,fun e=>by cases e⟩
 .have hlt:i<5:=(cX x).1;have q:listed.getD 4 false=false:=by
   cases h:listed.getD 4 false with
   |false=>rfl
   |true=>
    exfalso;have l3:=hcl.dep (j:=4) (k:=3) (by rfl) h;have l0:=hcl.dep (j:=4) (k:=0) (by rfl) h;have l1:=hcl.dep (j:=3) (k:=1) (by rfl) l3;have l2:=hcl.dep (j:=3) (k:=2) (by rfl) l3;have hi2:=(cX x).2;have r:∀j,j<5->listed.getD j false=true:=fun j hj=>by
     rcases j with - | - | - | - | - |j;all_goals first|assumption|omega
    have h7:=r i hlt;have s:i<listed.size:=by rw [V.len];exact hlt
    simp only [gD,eG s,Option.getD_some] at hi2 h7;rw [hi2] at h7;cases h7
  have hw:Below W1.heap.size W1 w:=V.world.below q;have ho1:=ho;dsimp only [GP,Eo,C3,cIn,cF,Tryz.f140,jc,dr,qG,Option.getD] at ho1;rcases i with - | - | - | - | - |i
  .simp only [gA,gZ,oI] at ho1;subst ho1;have q0:a.eval (.tmp 7)=ptr b7:=(V.old 7 (by omega)).trans B;refine aq ho rfl (fun c h=>by cases h) (v:=.chan (some c)) (w':=w) (by generalize a.eval=ρ at q0 ⊢;simp [go_sem,q0,ptr,ai hw y]) ⟨_,rfl,fun _=>rfl,V.world.other (by omega)⟩
  .simp only [gA,gS,gZ,oI,zA] at ho1;subst ho1;have q0:a.eval (.tmp 5)=ptr b5:=(V.old 5 (by omega)).trans e5;refine aq ho rfl (fun c h=>by cases h) (v:=.string ⟨k.toArray⟩) (w':=w) (by generalize a.eval=ρ at q0 ⊢;simp [go_sem,q0,ptr,ai hw k5]) ⟨_,rfl,fun _=>rfl,V.world.other (by omega)⟩
  .simp only [gA,gS,gZ,oI,Nat.reduceAdd,zA] at ho1;subst ho1;have q0:a.eval (.tmp 9)=ptr b9:=(V.old 9 (by omega)).trans A;refine aq ho rfl (fun c h=>by cases h) (v:=tu v) (w':=w) (by generalize a.eval=ρ at q0 ⊢;simp [go_sem,q0,ptr,tu,ai hw k90,ai hw k91,ai hw k92]) ⟨_,rfl,fun _=>rfl,V.world.other (by omega)⟩
  .simp only [gA,gS,gZ,oI,Nat.reduceAdd,zA] at ho1;subst ho1;have q0:a.eval (.tmp 24)=.string ⟨k.toArray⟩:=V.new 1 (by omega) (b ⟨1,.data⟩ (by simp) rfl);have q1:a.eval (.tmp 25)=tu v:=V.new 2 (by omega) (b ⟨2,.data⟩ (by simp) rfl);refine nB (f:=157) (args:=#[.string ⟨k.toArray⟩,tu v]) (w':=w) ho rfl (fun c h=>by cases h) (by have qf:=hfun a rfl 157;generalize a.eval=ρ at q0 q1 qf ⊢;simp [go_sem,q0,q1,qf]) ((DU k v w).mono ?_);rintro e X ⟨rfl,C⟩;exact ⟨_,rfl,_,rfl,fun _=>rfl,V.world.more q C⟩
  .simp only [gA,gS,gZ,oI,Nat.reduceAdd,zA] at ho1;subst ho1;have q0:a.eval (.tmp 23)=.chan (some c):=V.new 0 (by omega) (b ⟨0,.data⟩ (by simp) rfl);have q1:a.eval (.tmp 26)=itVal (ec k v):=V.new 3 (by omega) (b ⟨3,.data⟩ (by simp) rfl);refine nC ho rfl rfl q0 ((hw.block c u).trans hc) hroom ?_;exact ⟨_,rfl,fun h=>absurd h (by omega),by rw [q1];exact V.world.sent q⟩
  .omega
 .obtain ⟨d,hd,hw⟩:=h5;obtain ⟨w1,hb,rfl⟩:=hw.done (hd 4 (by decide));exact hend a w1 (h1.trans hs) h2 (m.trans (by rw [hsz] at hb;exact hb))
def ma (n c:Nat)(p d af:ByteArray)(k:List UInt8)(hv e b a:Wx):Array Wx:=
 #[.agg #[.bool true,.string p,.string d,.string af],.string ⟨k.toArray⟩,hv,.chan (some c),ptr n,ptr (n+1),Wo,ptr (n+2),Wo,e,.pointer (some ⟨n,0,none⟩),.bool true,.bool false,Wo,Wo,Wo,Wo,Wo,Wo,hv,.func (.func 166) #[] #[ptr (n+3)],b,a,Wo,Wo,Wo,Wo]
def svW (w:Wj)(c:Nat)(p d af:ByteArray)(k:List UInt8)(hv:Wx):Wj:=
 (((w.alloc (.cells #[.bool true,.string p,.string d,.string af] 93)).alloc (.cells #[.string ⟨k.toArray⟩] 9)).alloc (.cells #[.chan (some c)] 210)).alloc (.cells #[hv] 114)
section
variable (w:Wj) (c:Nat) (p d af:ByteArray) (k:List UInt8) (hv:Wx)
theorem eK:(svW w c p d af k hv).heap.size=w.heap.size+4:=by simp only [svW,World.alloc,Array.size_push]
theorem vg {b:Nat}(h:b<w.heap.size):(svW w c p d af k hv).heap[b]?=w.heap[b]?:=by
 simp only [svW,World.alloc,gP,Array.size_push]
 repeat rw [if_neg (by omega)]
theorem vh (i:Nat)(h:i<4):(svW w c p d af k hv).heap[w.heap.size+i]?=(#[.cells #[.bool true,.string p,.string d,.string af] 93,.cells #[.string ⟨k.toArray⟩] 9,.cells #[.chan (some c)] 210,.cells #[hv] 114]:Array Obj)[i]?:=by
 simp only [svW,World.alloc,gP,Array.size_push];rcases i with - | - | - | - |i;all_goals first|omega|skip
 all_goals
  repeat rw [if_neg (by omega)]
  simp
end
theorem DV {w:Wj}{a:Addr}{v:Wx}(h:w.cell? a=some v):∃o:Obj,w.heap[a.block]?=some o/\o.isCells=true:=by
 unfold World.cell? at h;cases ho:w.heap[a.block]? with
 |none=>rw [ho] at h;cases h
 |some o=>
  rw [ho] at h;cases o<;>first|exact ⟨_,rfl,rfl⟩|(cases h)
structure SvI (w:Wj)(c:Nat)(k:List UInt8)(buf:List Wx)(w6:Wj)(pre:List Ver)(X:Wj):Prop where
 os:X.os=w.os
 size:w6.heap.size<=X.heap.size
 block:∀b,b<w6.heap.size->b≠c->X.heap[b]?=w6.heap[b]?
 ch:X.heap[c]?=some (.chan 1000 (buf++(pre.map (ec k)).map itVal).toArray false (buf.length+pre.length) 0 false)
section
attribute [local go_sem] Oper.semAt_some jU
theorem tw (q:Qy)(N:q.vs=true):jm q:=by
 intro A k hv h c buf w hh hne hl hc hroom;obtain ⟨vs,p,d,af⟩:=q;simp only at N;subst N;have ab:c<w.heap.size:=(eS hc).1;have C:bc true k h=h.reverse.map (ec k):=rfl;have H:(bc true k h).length=h.length:=by rw [C];simp
 simp only [H] at hroom ⊢;rw [C];have y:am h≠[]:=by
  cases h with
  |nil=>exact absurd rfl hne
  |cons a r=>simp [am]
 obtain ⟨a0,cap,rfl,-,hx⟩:=hh;obtain ⟨g,rfl,-,V,hrow⟩:=hx y;have hvl:(am h).length=h.length * 3:=gt 3 _ (fun _=>rfl) h;obtain ⟨hv,u⟩:∃hv,hv=Value.slice (some ⟨g,0,none⟩) h.length cap:=⟨_,rfl⟩;have M:0<(am h).length:=List.length_pos_iff.2 y;obtain ⟨og,m,o⟩:=DV (a:=⟨g,0,none⟩) ((hrow 0 M).trans (eL M));have B:c<(svW w c p d af k hv).heap.size:=by rw [eK];omega
 have ac:w.heap.size<(svW w c p d af k hv).heap.size:=by rw [eK];omega
 have hgc:g≠c:=fun e=>by
  subst e;rw [m] at hc;cases hc;cases o
 refine (callsIn_wide (n:=0)).1 (callsIn_of_wp_marks (F:=Fence.wide) (Yq.nq Tryz.func140) rfl trivial ?_);refine (wpIn_wide (n:=0)).2 ?_;generalize hQ:bodyPostM Fence.wide 0 Yq.prog Tryz.f140 _=Q;simp only [Tryz.ntmps140,lZ,lC,lN,Nat.reduceAdd,Nat.reduceSub,Array.replicate_succ,Array.replicate_zero,List.push_toArray,List.append_toArray,List.nil_append,List.cons_append];have HQ:Hid (bodyPostM Fence.wide 0 Yq.prog Tryz.f140 _=Q):=hQ;have HX:Hid (w.heap[c]?=some (.chan 1000 buf.toArray false buf.length 0 false)/\buf.length+h.length<=1000/\w.heap[g]?=some og/\og.isCells=true/\(∀j,j<(am h).length->w.cell? ⟨g,j,none⟩=(am h)[j]?)):=⟨hc,hroom,m,o,hrow⟩;clear hQ hc hroom m o hrow C H hx;unfold qV;rw [<-u];have S:Hid (hv=Value.slice (some ⟨g,0,none⟩) h.length cap):=u;have Z:∃a n c,hv=.slice a n c:=⟨_,_,_,u⟩;clear u;go_wp2_with (go_at_call 156;refine (ve hv _ Z).mono ?_;rintro e w6 ⟨rfl,rfl⟩)
 refine wpIn_wide.1 (show Code.wpIn (wf none) 0 Yq.prog _ (Exit.inBlock 0 Q) ⟨ma w.heap.size c p d af k hv Wo Wo Wo,[]⟩ (svW w c p d af k hv) from ?_);obtain ⟨hc,hroom,m,o,hrow⟩:=HX.out;have U:SvI w c k buf (svW w c p d af k hv) [] (svW w c p d af k hv):=⟨rfl,lR _,fun _ _ _=>rfl,by rw [vg w c p d af k hv ab,hc];simp⟩;refine yN (α:=Ver) (β:=Nat×Ver) (encs:=fun x=>#[.int .i64 x.1,tu x.2]) (gf:=166) (lb:=#[ptr (w.heap.size+3)]) (fun x=>x.2) rfl (fun args wx=>by go_simp) (fun _=>rfl) c w.heap.size B ac
  (SvI w c k buf (svW w c p d af k hv)) (fun pre x=>pre++[x.2] <+:h.reverse) h.reverse (fun pre X Y I h1 h2 h3=>⟨h3.trans I.os,lT I.size h2,fun b hb G=>(h1 b hb).trans (I.block b hb G),(h1 c B).trans I.ch⟩) (fun pre X I=>⟨_,I.ch,rfl⟩) U
  (fun x b=>⟨ma w.heap.size c p d af k hv (ptr b) (.int .i64 x.1) (tu x.2),[]⟩) (fun x=>.cells #[.int .i64 x.2.num,.string x.2.body,.bool x.2.mark] 81) ?call ?assign ?body ?done
 case call=>
  intro l J W hW1 O hst hsz hy T;have hb3:W.heap[w.heap.size+3]?=some (.cells #[hv] 114):=(O _ (by rw [eK];omega)).trans (vh w c p d af k hv 3 (by omega));rw [S.out] at hb3;have L:W.heap[g]?=some og:=(O g (by rw [eK];omega)).trans ((vg w c p d af k hv V).trans m);exact FU l (w.heap.size+3) w.heap.size g cap h hl J (by omega) (by omega) (fun pre i v X h1 h2=>hy pre (i,v) X h1 h2) W L o (fun j hj=>(cB (a:=⟨g,j,none⟩) (L.trans m.symm)).trans (hrow j (by omega))) hb3 T
 case assign=>
  rintro l ⟨i,E,vb,mk⟩ W K R;have e:(#[21,22].zip #[Value.int .i64 i,tu ⟨E,vb,mk⟩]).foldl (fun t x=>match x with|(p,v)=>t.setIfInBounds p v) (ma w.heap.size c p d af k hv Wo Wo Wo)=ma w.heap.size c p d af k hv Wo (.int .i64 i) (tu ⟨E,vb,mk⟩):=by
   simp [ma]
  show Code.wpIn _ _ _ _ _ ⟨(#[21,22].zip #[Value.int .i64 i,tu ⟨E,vb,mk⟩]).foldl (fun t x=>match x with|(p,v)=>t.setIfInBounds p v) (ma w.heap.size c p d af k hv Wo Wo Wo),[]⟩ _;rw [e];unfold ma tu;unfold ma tu at R;gi_wp2;exact R
 case body=>
  rintro l pre ⟨i,v⟩ b W z I hb hlt;have hle:(pre++[v]).length<=h.length:=by have:=z.length_le;rwa [List.length_reverse] at this
  rw [lP,lS] at hle;have h1:W.heap[w.heap.size+1]?=some (.cells #[.string ⟨k.toArray⟩] 9):=(I.block _ (by rw [eK];omega) (by omega)).trans (vh w c p d af k hv 1 (by omega));have h2:W.heap[w.heap.size+2]?=some (.cells #[.chan (some c)] 210):=(I.block _ (by rw [eK];omega) (by omega)).trans (vh w c p d af k hv 2 (by omega));have hch:=I.ch;rw [show buf.length+pre.length=(buf++(pre.map (ec k)).map itVal).length by simp] at hch;refine wpIn_block (BL (b5:=w.heap.size+1) (b7:=w.heap.size+2) (b9:=b) (k:=k) (v:=v) (buf:=buf++(pre.map (ec k)).map itVal) (c:=c) rfl rfl rfl rfl (by simp [World.cell?,h1]) (by simp [World.cell?,h2]) ⟨by simp [World.cell?,hb],by simp [World.cell?,hb],by simp [World.cell?,hb]⟩ hch (by simp;omega) (fun a w1 e1 e2 f=>?_));have hcW:c<W.heap.size:=by have:=I.size;omega
  refine ⟨rfl,⟨?_,?_,fun x hx s _=>?_⟩,?_,?_,fun x hx s=>?_,?_⟩
  .rw [vX];exact f.size
  .exact f.os
  .rw [iN s];exact f.block x hx
  .exact f.os.trans I.os
  .rw [vX];exact lT I.size f.size
  .rw [iN s,f.block x (by have:=I.size;omega)];exact I.block x hx s
  .rw [kN (by have:=f.size;omega)];simp;omega
 case done=>
  intro D W hD I R;have hQ:=HQ.out;subst hQ;refine ⟨by simp,.inl ⟨_,_,rfl,run_takeDeferred R,?_⟩⟩;have P:∀b,b<(svW w c p d af k hv).heap.size->(W.putObj D (.deferred none)).heap[b]?=W.heap[b]?:=fun b hb=>pO (by omega)
  refine ⟨.tuple #[],by simp [results,Tryz.results140,go_sem],rfl,fun b hb G=>?_,?_,?_,?_⟩
  .rw [P b (by rw [eK];omega),I.block b (by rw [eK];omega) G,vg w c p d af k hv hb]
  .have:=I.size;rw [eK] at this;simp;omega
  .exact I.os
  .rw [P c B,I.ch];simp
end
theorem GQ:GO:=fun s sub m w hs hm=>Yq.strings_Index s sub m w hs hm
theorem Ep (q:Qy):jl q/\jm q:=by
 refine ⟨tq GQ q,?_⟩;cases h:q.vs with
 |false=>exact r9 q h
 |true=>exact tw q h
end
section
open Go.RowKit
open Go.Conc Go.ConcX Go.ConcX.Gen
theorem gB.clean {W V:Wj}{D0:Nat->Prop}{v:Wx}{ops:List OpD}(h:gB W v ops)(hc:Clean D0 W V)(τ:Nat->Question->Nat)(d:Nat):gB (V.on τ d) v ops:=by
 obtain ⟨a,cap,rfl,hx⟩:=h.form;refine ⟨⟨a,cap,rfl,fun hne=>?_⟩,h.sized,h.len⟩;obtain ⟨b,off,rfl,hS⟩:=hx hne;refine ⟨b,off,rfl,fun i c=>?_⟩;obtain ⟨c0,c1,c2,c3,c4,c5,c6⟩:=hS i c;exact ⟨hc.cell c0 rfl,hc.cell c1 rfl,hc.cell c2 rfl,hc.cell c3 rfl,hc.cell c4 rfl,hc.cell c5 rfl,hc.cell c6 rfl⟩
def BM (w:Wj):Prop:=dJ w/\qp w
theorem BM.on {w w':Wj}(h:BM w)(hb:∀b,b<w.heap.size->w'.heap[b]?=w.heap[b]?):BM w':=⟨h.1.on hb,h.2.on hb⟩
theorem BM.glob {W V:Wj}(h:BM W)(hb:∀b,b<Tryz.prog.globals.size->V.heap[b]?=W.heap[b]?):BM V:=by
 refine ⟨h.1.glob hb,?_⟩;have ht:=h.2;unfold qp Lib.TabIs World.var? at *
 have hg : ∃ g, Yq.prog.globalNamed "internal/strconv.uint64pow10" = some g ∧ g < Tryz.prog.globals.size := ⟨_, show Yq.prog.globalNamed "internal/strconv.uint64pow10" = some 1 by kernel_rfl, of_decide_eq_true (by kernel_rfl)⟩
 obtain ⟨g,e,hlt⟩:=hg;rw [e] at ht ⊢;simp only [Option.bind_some] at ht ⊢;rw [hb g hlt];exact ht
theorem Hc {ρ:Ren}{a:Option Addr}(h:∀b,slB a b->ρ b b)(n c:Nat):RV ρ (.slice a n c) (.slice a n c):=by
 cases a with
 |none=>exact .slice n c .none
 |some a=>exact .slice n c (.some ⟨h _ ⟨a,rfl,rfl⟩,rfl,rfl⟩)
end
section
open Go.Conc Go.ConcX Go.ConcX.Gen Go.RowKit
def yO (o:OpD):Prop:=o.kind<8\/12<o.kind
theorem yP (Qok:Qy->Prop)(hQ:∀q,Qok q->jl q/\jm q)(G:Wj->Prop)(N:Nat)(hN:N<2199023255300)(j:∀w',G w'->dJ w')(c:∀n pg:Int,0<=n->n<=N->0<=pg->pg<=N+1->qo G n pg):jZ Qok yO G N:=by
 intro A B k0 w st L h p t o hk i f m s u r l hs g0 cp toks hn c8 ht ks bs hbk;have hbg:=l.begun;unfold yO at hk;simp only [uL,if_neg (show ¬o.kind=12 by omega)];by_cases h6:o.kind=6
 .simp only [stepA,if_pos h6];obtain ⟨k,key,body,a,b,n,d⟩:=o;simp only at h6;subst h6;exact sI 6 false ⟨rfl,rfl⟩ Qok hQ h p l.len key body a b n d (i.q rfl) (r.sum _) f (by omega) G j t (c _ _ (by omega) (by omega) (by omega) (by omega))
 by_cases h7:o.kind=7
 .simp only [stepA,if_neg h6,if_pos h7];obtain ⟨k,key,body,a,b,n,d⟩:=o;simp only at h7;subst h7;exact sJ 7 true ⟨rfl,rfl⟩ Qok hQ h p l.len key body a b n d (i.q7 rfl) (r.sum _) f (by omega) G j t (c _ _ (by omega) (by omega) (by omega) (by omega))
 .simp only [stepA,if_neg h6,if_neg h7,if_neg (show ¬o.kind=8 by omega),if_neg (show ¬o.kind=9 by omega),if_neg (show ¬o.kind=10 by omega),if_neg (show ¬o.kind=11 by omega)];exact (yl h s o f m u (by omega) (by omega)).mono fun e w' h=>.inl h
end
section
open Go.RowKit
theorem BN (ops:List OpD):∀d:Dk,∃l,(ops.foldl gg d).al=d.al++l:=by
 induction ops with
 |nil=>intro d;exact ⟨[],by simp⟩
 |cons o r ih=>
  intro d;obtain ⟨l,e⟩:=ih (gg d o);exact ⟨(stepA d.st d.L d.toks o).2.2::l,by rw [List.foldl_cons,e];simp [gg]⟩
theorem nV (ops:List OpD)(i:Nat)(a:i<ops.length):jt (ops.take (i+1))=gg (jt (ops.take i)) ops[i]:=by
 rw [tS a,A2]
theorem FV (ops:List OpD)(i:Nat)(a:i<ops.length):(jt ops).al[i]?=some (stepA (jt (ops.take i)).st (jt (ops.take i)).L (jt (ops.take i)).toks ops[i]).2.2:=by
 have e:jt ops=(ops.drop (i+1)).foldl gg (jt (ops.take (i+1))):=by
  conv=>lhs;rw [<-List.take_append_drop (i+1) ops]
  unfold jt;rw [List.foldl_append]
 obtain ⟨l,h⟩:=BN (ops.drop (i+1)) (jt (ops.take (i+1)));rw [e,h,nV ops i a];have hl:(jt (ops.take i)).al.length=i:=by rw [wm,tL];omega
 rw [aL (by simp [gg,hl])];unfold gg;rw [aR (by omega),hl,Nat.sub_self];rfl
theorem BO (st:St)(L:Lg)(a:List ByteArray)(o:OpD)(_:0<=st.last):(stepA st L a o).1.last<=st.last+1:=by
 have h1:(ay st o).1.last<=st.last+1:=by
  unfold ay;simp only
  repeat' split
  all_goals simp only [cw,bG]
  all_goals omega
 unfold stepA
 repeat' split
 all_goals first
  |exact h1
  |(simp only;omega)
theorem DW (ops:List OpD)(hk:∀o∈ops,jY yu o/\o.key.size<=maxLen):∀i,i<=ops.length->(jt (ops.take i)).st.last<=i:=fun i=>by
 induction i with
 |zero=>intro _;simp [jt,dk0,st0]
 |succ i ih=>
  intro hi;have h1:=ih (by omega);have h0:=(wn (ops.take i) (fun o ho=>hk o (List.mem_of_mem_take ho))).i.last0;rw [nV ops i (by omega)];have:=BO (jt (ops.take i)).st (jt (ops.take i)).L (jt (ops.take i)).toks (ops[i]'(by omega)) h0;show (stepA _ _ _ _).1.last<=_;omega
theorem BP (a:Option Addr)(cap ga:Nat)(w:Wj):
  Calls Yq.prog 32 #[.slice a 0 cap,.slice (some ⟨ga,0,none⟩) 0 0] w fun e w'=>e=.returned (.bool true)/\Below w.heap.size w w':=by
 go_enter (Yq.nq Tryz.func32),Tryz.ntmps32;go_wp2_with fail
 refine wp_loop_rounds 1 ?_;rw [rounds_succ];go_wp2;go_ret;exact ⟨rfl,(bR _ _).alloc (lR _) _⟩
theorem DX (b off cap ga:Nat)(ops:List OpD)(zs:List (jX×Wx))(w:Wj)(hS:gz w b off ops)(f:ops.length * 88<=140737488351232)(hz:zs.map (·.1)=(jt ops).al)(hA:∀j,j<ops.length * 5->w.cell? ⟨ga,j,none⟩=(aZ zs)[j]?)(p:∀z∈zs,j3 w z.2 z.1.items)(hk:∀o∈ops,yO o/\o.key.size<=maxLen/\o.delim.size<=140737488351232)(_:ops.length<2199023255300):
  Calls Yq.prog 32 #[.slice (some ⟨b,off,none⟩) ops.length cap,.slice (some ⟨ga,0,none⟩) ops.length ops.length] w fun e w'=>e=.returned (.bool true)/\Below w.heap.size w w':=by
 have n:zs.length=ops.length:=by
  have:=congrArg List.length hz;rw [lM,wm] at this;exact this
 have d:∀o∈ops,jY yu o/\o.key.size<=maxLen:=fun o ho=>⟨⟨by have:=(hk o ho).1;unfold yO at this;omega,fun _=>trivial,fun _=>trivial⟩,(hk o ho).2.1⟩
 refine DT b off cap ga ops zs (fun i=>((jt (ops.take i)).st,(jt (ops.take i)).L)) w hS f n hA (fun z hz=>?_) rfl ?_
 .obtain ⟨a,c,e,-⟩:=(p z hz).form;exact ⟨a,_,c,e⟩
 .intro i k h W sl vL vT R nx tm P T hb H hP S SL;have hmem:=List.getElem_mem k;have l:(ops.take i).length=i:=by rw [tL];omega
  have hinv:=wn (ops.take i) (fun o ho=>d o (List.mem_of_mem_take ho));rw [l] at hinv;have m:zs[i].1=(stepA (jt (ops.take i)).st (jt (ops.take i)).L (jt (ops.take i)).toks ops[i]).2.2:=by
   have h1:=FV ops i k;rw [<-hz,List.getElem?_map,eL h] at h1;exact oJ h1
  have hit:=p _ (List.getElem_mem h);rw [m] at hit ⊢;have hst:=BK W H hP (lR _) S SL hinv.i (DW ops d i (by omega)) hinv.t (by omega) ops[i] (hk _ hmem).1 (hk _ hmem).2.2 (jt (ops.take i)).toks zs[i].2 (fun w' hf=>hit.left (au.below (hf.to hb hb.size)));simp only [nV ops i k];exact hst
theorem BQ {a:Int}{Pp:OpD->Prop}(ops:List OpD)(h:∀l,∀o∈ops,Pp (ll a l o)):∀o∈et a ops,Pp o:=by
 have:∀ (ops l:List OpD),(∀l,∀o∈ops,Pp (ll a l o))->(∀o∈l,Pp o)->∀o∈ops.foldl (fun l o=>l++[ll a l o]) l,Pp o:=fun ops=>by
  induction ops with
  |nil=>intro l _ hl;exact hl
  |cons x r ih=>
   intro l h hl;refine ih _ (fun l o ho=>h l o (by simp [ho])) fun o ho=>?_
   rcases List.mem_append.1 ho with ho|ho
   .exact hl o ho
   .rw [List.mem_singleton.1 ho];exact h l x (by simp)
 exact this ops [] h (by simp)
theorem told7 (ops:List OpD)(hz:Sized ops)(hd:∀o∈ops,o.delim.size<=140737488351232):∀o∈et 7 ops,yO o/\(o.key.size<=maxLen/\o.body.size<=maxLen)/\o.delim.size<=140737488351232:=by
 refine BQ ops fun l o ho=>?_
 unfold ll;split
 .exact ⟨.inl (by show (2:Int)<8;omega),⟨by simp only [maxLen];decide,by simp only [maxLen];decide⟩,by decide⟩
 .rename_i h;refine ⟨?_,hz o ho,hd o ho⟩;have:¬(7<o.kind/\o.kind<=12):=fun h2=>h (.inl h2)
  unfold yO;omega
theorem DY {G:Wj->Prop}{N:Nat}(f:jZ yu yO G N)(C:N<2199023255300)(a:Option Addr)(n cap:Nat)(ops:List OpD)(w:Wj)(h:gB w (.slice a n cap) ops)(hn:n * 88<=140737488351232)(u:n<=N)(hd:∀o∈ops,o.delim.size<=140737488351232)(B:∀w',au w w'->G w'):
  Calls Yq.prog 15 #[.slice a n cap,.int .i64 7] w fun e w'=>(e=.returned (.bool true)/\au w w')\/Stop yu e w':=by
 have k:n=ops.length:=by
  obtain ⟨a',p,he,_⟩:=h.form;cases he;rfl
 have HS:Hid (gB w (.slice a n cap) ops/\n=ops.length):=⟨h,k⟩;have HA:Hid (jZ yu yO G N/\N<2199023255300/\n<=N/\(∀w',au w w'->G w')/\∀o∈et 7 ops,yO o/\(o.key.size<=maxLen/\o.body.size<=maxLen)/\o.delim.size<=140737488351232):=⟨f,C,u,B,told7 ops h.sized hd⟩;have hl:(et 7 ops).length=n:=by rw [ti];exact k.symm
 clear h k f B hd;go_enter (Yq.nq Tryz.func15),Tryz.ntmps15;go_wp2_with fail
 refine (DS 7 a n cap ops w HS.out.1 hn).mono ?_;rintro e w1 ⟨v',rfl,c,b1⟩;have S1:gB w1 v' (et 7 ops):=uI c hl.symm (fun o ho=>(HA.out.2.2.2.2 o ho).2.1) (by omega);obtain ⟨t,q,rfl,-⟩:=aE c;have HX:Hid (gB w1 (.slice t n q) (et 7 ops)/\au w w1):=⟨S1,au.below b1⟩;clear c S1 b1;generalize et 7 ops=s at *;by_cases hne:s=[]
 .subst hne;rw [lN] at hl;subst hl;go_wp2_with fail
  refine (FB t q w1).mono ?_;rintro e w2 ⟨g,rfl,-,v⟩;have HB:Hid (au w w2):=HX.out.2.trans (au.below v);clear v;go_wp2_with fail
  refine (BP t q g w2).mono ?_;rintro e w3 ⟨rfl,m⟩;have i:Hid (au w w3):=HB.out.trans (au.below m);clear m;go_wp2_with fail
  go_ret;exact .inl ⟨rfl,i.out⟩
 .have HR:=DC yu yO G N HA.out.1 _ s w1 (fun w' hl=>HA.out.2.2.2.1 w' (HX.out.2.trans hl)) HX.out.1 hne (by omega) HA.out.2.1 (fun o ho=>⟨by have:=(HA.out.2.2.2.2 o ho).1;unfold yO at this;omega,fun _=>trivial,fun _=>trivial⟩) (fun o ho=>(HA.out.2.2.2.2 o ho).1);go_wp2_with fail
  refine HR.mono ?_;clear HR;rintro e w2 (⟨A,zs,rfl,l,hown,d,-,l2⟩|hst)
  rotate_left
  .obtain ⟨x,y,r,rfl,hst⟩:=hst;exact ⟨rfl,.inr ⟨x,y,r,rfl,hst⟩⟩
  obtain ⟨a',p,he,hx⟩:=(HX.out.1.left l2).form;obtain ⟨b,off,rfl,hS⟩:=hx hne;rw [hl] at he;cases he;have HF:=DX b off q w1.heap.size s zs w2 hS (by rw [hl];exact hn) l (fun j D=>hown.cellAt j D) (fun z hz=>(d z hz).its) (fun o ho=>⟨(HA.out.2.2.2.2 o ho).1,(HA.out.2.2.2.2 o ho).2.1.1,(HA.out.2.2.2.2 o ho).2.2⟩) (by omega);have HB:Hid (au w w2):=HX.out.2.trans l2;rw [hl] at HF ⊢;clear hown d l hS hx l2;go_wp2_with fail
  refine HF.mono ?_;rintro e w3 ⟨rfl,m⟩;have i:Hid (au w w3):=HB.out.trans (au.below m);clear m HF;go_wp2_with fail
  go_ret;exact .inl ⟨rfl,i.out⟩
theorem yQ {G:Wj->Prop}{N:Nat}(b:jZ yu yO G N)(f:N<2199023255300)(a:Option Addr)(n cap:Nat)(ops:List OpD)(w:Wj)(h:gB w (.slice a n cap) ops)(hn:n * 88<=140737488351232)(c:n<=N)(hd:∀o∈ops,o.delim.size<=140737488351232)(d:∀w',au w w'->G w'):
  Calls Yq.prog 6 #[.slice a n cap] w fun e w'=>(e=.returned (.bool true)/\au w w')\/Stop yu e w':=by
 have HR:=DY b f a n cap ops w h hn c hd d;clear h b hd d;go_enter (Yq.nq Tryz.func6),Tryz.ntmps6;go_wp2_with fail
 refine HR.mono ?_;rintro e w1 (⟨rfl,b1⟩|hst)
 .go_wp2_with fail
  go_ret;exact .inl ⟨rfl,b1⟩
 .obtain ⟨x,y,r,rfl,hst⟩:=hst;exact ⟨rfl,.inr ⟨x,y,r,rfl,hst⟩⟩
end
section
open Go.RowKit
open Go.Conc Go.ConcX Go.ConcX.Gen
theorem FW (N:Nat)(b:N<2199023255300):jZ yu yO BM N:=
 yP yu (fun q _=>Ep q) BM N b (fun _ h=>h.1) fun n pg h1 h2 h3 h4 l w a=>Fy n pg ⟨h1,by omega⟩ ⟨h3,by omega⟩ l w a.2
theorem yR (a0:Option Addr)(l0 c0:Nat)(ops:List OpD)(W:Wj)(a:W.ShapedOpen Tryz.prog)(d:qp W)(hS:gB W (.slice a0 l0 c0) ops)(f:∀b,slB a0 b->∃c e z,W.heap[b]?=some (.cells c e z))(hd:∀o∈ops,o.delim.size<=140737488351232)(i:l0 * 88<=140737488351232):
  Fin Tryz.prog (fun v W'=>v=.bool true/\rD W W') #[G (Frame.enter Tryz.prog 6 #[.slice a0 l0 c0] .normal) []] W none #[]:=by
 refine @EQ xF xG Gs Ss Rs As (FZ yu) env Gm E6 Hg ⟨rfl,rfl,rfl,rfl⟩ (AD yu (fun q _=>Ep q)) Fq (Fx yu) 6 Tryz.f6 (cF Tryz.f6) Tryz.func6 (Yq.nq Tryz.func6) (by kernel_rfl) (by kernel_rfl) rfl rfl _ W _ (Dd a (X:=fun b=>slB a0 b) f) (fun ρ h=>?_) (fun V hcl τ j=>?_)
 .exact RVl.arr (.cons (Hc (fun b hb=>h b (.inr hb)) _ _) .nil)
 .have k:BM V:=BM.glob (W:=W) ⟨FA a,d⟩ (hcl.glob a);refine (yQ (G:=BM) (N:=l0+1) (FW _ (by omega)) (by omega) _ _ _ ops (V.on τ j) (hS.clean hcl τ j) i (by omega) hd (fun w' hl=>k.on hl.block)).mono ?_;rintro e w' (⟨rfl,hl⟩|hst)
  .exact .inl ⟨rfl,hl.os,hl.block⟩
  .exact .inr hst
end
