/- A part. -/
import Derived.Test.YteidaiooccmmmaaGreatDoorQP09
import Derived.Test.YteidaiooccmmmaaGreatDoorQP10
import Derived.Test.YteidaiooccmmmaaGreatDoorQP22
import Derived.Lib.Index
import Derived.Shelf.Lays
import Derived.Shelf.Strings.Search3
import Derived.RangeFuncSeq
import Derived.TacticsInMore
import Derived.RegionIn
import Derived.LoopNIn
import Derived.LoopIn
set_option maxHeartbeats 4000000
set_option maxRecDepth 100000
open Go renaming World->Wj,Value->Wx,undef->Wo
namespace Go.Proofs.Qw
open Option renaming none->N,some->J
open Bool renaming true->Y,false->Z
open Value renaming int->I,string->U,slice->M,pointer->O,bool->C
open IntKind renaming i64->K
open Obj renaming cells->E
variable {Q:Exit->Act->Wj->Prop}
section
open Go.Conc Go.ConcX Go.ConcX.Gen Go.RowKit
theorem IN{t:ByteArray}(h:t≠⟨#[]⟩):t.toList.isEmpty=false:=by
 rw[ByteArray.toList_eq];cases e:t.data.toList with
 |nil=>exact absurd (ByteArray.ext (Array.toList_inj.1 (e.trans rfl))) h
 |cons a r=>rfl
theorem uD(d:List UInt8):∀s:List UInt8,Lib.index s d=((dx d s).map λ(i:Nat)=>(i:Int)).getD (-1)
 | []=>by
  cases d<;>rfl
 |b::r=>by
  have ih:=uD d r;rw[Lib.index,dx];split
  .rfl
  .cases h:dx d r with
   |none=>
    rw[h]at ih;simp at ih;rw[ih];rfl
   |some i=>
    rw[h]at ih;simp at ih;rw[ih,if_neg (by simp)];simp
def IP:Prop:=∀ (s a:ByteArray)(m:Int)(w:Wj),s.size<4294967281->w.cell? ⟨0,0,N⟩=J (I K m)->Calls Yq.prog 130 #[U s,U a] w λe b=>e=.returned (I K (Lib.index s.data.toList a.data.toList))/\b=w
theorem ye(d:List UInt8):∀ (s:List UInt8)(i:Nat),dx d s=J i->i+d.length<=s.length
 | [],i,h=>by
  rw[dx]at h;split at h
  .rename_i e;subst e;cases h;simp
  .cases h
 |b::r,i,h=>by
  rw[dx]at h;split at h
  .rename_i e;cases h;have:=(List.isPrefixOf_iff_prefix.1 e).length_le;simpa using this
  .cases a:dx d r with
   |none=>rw[a]at h;cases h
   |some j=>
    rw[a]at h;cases h;have:=ye d r j a;simp only[lC];omega
theorem uE(x:IP)(q:Qy):ig q:=by
 by_cases f:q.d=⟨#[]⟩
 .exact vS q f
 intro k w z G j;obtain⟨m,H⟩:=z;obtain⟨y,p,d,af⟩:=q;simp only at f j;have t:p.size<=k.length:=by have:=j.length_le;simpa using this
 obtain⟨a,b⟩:∃a:ByteArray,a=⟨k.toArray⟩:=⟨_,rfl⟩;have n:a.size=k.length:=by rw[b];rfl
 have o:(a.extract p.size a.size).data.toList=k.drop p.size:=by
  rw[Lib.extract_data,n,tO (by rw[lD,b];simp),b]
 have hde:d.toList.isEmpty=false:=IN f;have A:aU ⟨y,p,d,af⟩ k=(dx d.data.toList (k.drop p.size)).map λi=>k.take (p.size+i+d.size):=by
  rw[aU,if_neg];intro e;apply f;apply ByteArray.ext;exact Array.eq_empty_of_size_eq_zero e
 have c:=uD d.data.toList (k.drop p.size);rw[A];rw[<-b];have h:Hid (∀W:Wj,W.cell? ⟨0,0,N⟩=J (I K m)->Calls Yq.prog 130 #[U (a.extract p.size a.size),U d] W λe D=>e=.returned (I K (Lib.index (k.drop p.size) d.data.toList))/\D=W):=λW F=>by
  rw[<-o];exact x _ _ m W (by rw[ByteArray.size_extract];omega) F
 have HW:Hid (Below w.heap.size w (w.alloc (E #[C y,U p,U d,U af] 74))):=(bR _ _).alloc (lR _) _;have s:(w.alloc (E #[C y,U p,U d,U af] 74)).drew.cell? ⟨0,0,N⟩=J (I K m):=ah HW.out H;have l:Hid (a=⟨k.toArray⟩/\a.size=k.length):=⟨b,n⟩;have hpk:p.size<=a.size:=by omega
 have hkk:a.size<=1000:=by omega
 clear o A b n t G;unfold qV;cases u:dx d.data.toList (k.drop p.size)with
 |none=>
  rw[u]at c;simp at c;rw[c]at h;go_enter (Yq.nq Tryz.func114),Tryz.ntmps114;go_wp2_with fail
  go_region_with (go_at_call 130;refine(h.out _ s).mono ?_;rintro e B ⟨rfl,rfl⟩)
  all_goals
   go_wp2
   go_ret2
   exact⟨rfl,HW.out.drew⟩
 |some i=>
  rw[u]at c;simp at c;rw[c]at h;have r:=ye _ _ _ u;rw[lD]at r;have v:d.data.toList.length=d.size:=by simp
  have hsz:p.size+i+d.size<=a.size:=by have:=l.out.2;omega
  clear r v;have h0:¬((i:Int)<0):=by omega
  have hw1:wrap64 ((p.size:Int)+i)=(p.size:Int)+i:=by unfold wrap64;omega
  have hw2:wrap64 ((p.size:Int)+i+d.size)=(p.size:Int)+i+d.size:=by unfold wrap64;omega
  go_enter (Yq.nq Tryz.func114),Tryz.ntmps114;go_wp2_with fail
  go_region_with (go_at_call 130;refine(h.out _ s).mono ?_;rintro e B ⟨rfl,rfl⟩)
  all_goals
   go_wp2
   go_ret2
   refine⟨?_,HW.out.drew⟩;have e:a.extract 0 (p.size+i+d.size)=⟨(k.take (p.size+i+d.size)).toArray⟩:=by rw[Lib.extract_eq,l.out.1];simp
   rw[e];rfl
end
end Go.Proofs.Qw
namespace Go.Proofs
open Option renaming none->N,some->J
open Bool renaming true->Y,false->Z
open Value renaming int->I,string->U,slice->M,pointer->O,bool->C
open IntKind renaming i64->K
open Obj renaming cells->E
variable {Q:Exit->Act->Wj->Prop}
section
open Go.Shelf Go.Lib
def Yq.lays143_ren:Go.Shelf.Ren:=⟨λ| 143=>130| 217=>147| 219=>140| 224=>149| 225=>148| 266=>155| 267=>150| 314=>156|n=>n,λ| 3=>3| 4=>4| 5=>5| 9=>9| 46=>186| 51=>209| 146=>238|n=>n,λ| 1=>0|n=>n⟩
theorem Yq.lays143:Go.Proofs.Lays.n143 Yq.prog Yq.lays143_ren:={
 mixed:=by kernel_rfl
 f143:=(Yq.nq Tryz.func130).trans (congrArg J (by kernel_rfl))
 f217:=(Yq.nq Tryz.func147).trans (congrArg J (by kernel_rfl))
 f219:=(Yq.nq Tryz.func140).trans (congrArg J (by kernel_rfl))
 f224:=(Yq.nq Tryz.func149).trans (congrArg J (by kernel_rfl))
 f225:=(Yq.nq Tryz.func148).trans (congrArg J (by kernel_rfl))
 f266:=(Yq.nq Tryz.func155).trans (congrArg J (by kernel_rfl))
 f267:=(Yq.nq Tryz.func150).trans (congrArg J (by kernel_rfl))
 f314:=(Yq.nq Tryz.func156).trans (congrArg J (by kernel_rfl))
 t3:=(Yq.u Tryz.underlying3)
 a3:=(λw=>Yq.a (Tryz.isAgg3 w))
 z3:=(λw=>Yq.s (Tryz.sizeOf3 w))
 v3:=(λw=>Yq.z (Tryz.zeroValue3 w))
 t4:=(Yq.u Tryz.underlying4)
 a4:=(λw=>Yq.a (Tryz.isAgg4 w))
 z4:=(λw=>Yq.s (Tryz.sizeOf4 w))
 v4:=(λw=>Yq.z (Tryz.zeroValue4 w))
 t5:=(Yq.u Tryz.underlying5)
 a5:=(λw=>Yq.a (Tryz.isAgg5 w))
 z5:=(λw=>Yq.s (Tryz.sizeOf5 w))
 v5:=(λw=>Yq.z (Tryz.zeroValue5 w))
 t9:=(Yq.u Tryz.underlying9)
 a9:=(λw=>Yq.a (Tryz.isAgg9 w))
 z9:=(λw=>Yq.s (Tryz.sizeOf9 w))
 v9:=(λw=>Yq.z (Tryz.zeroValue9 w))
 t46:=(Yq.u Tryz.underlying186)
 a46:=(λw=>Yq.a (Tryz.isAgg186 w))
 z46:=(λw=>Yq.s (Tryz.sizeOf186 w))
 v46:=(λw=>Yq.z (Tryz.zeroValue186 w))
 t51:=(Yq.u Tryz.underlying209)
 a51:=(λw=>Yq.a (Tryz.isAgg209 w))
 z51:=(λw=>Yq.s (Tryz.sizeOf209 w))
 v51:=(λw=>Yq.z (Tryz.zeroValue209 w))
 t146:=(Yq.u Tryz.underlying238)
 a146:=(λw=>Yq.a (Tryz.isAgg238 w))
 z146:=(λw=>Yq.s (Tryz.sizeOf238 w))
 v146:=(λw=>Yq.z (Tryz.zeroValue238 w))
 g1:=by kernel_rfl}
theorem Yq.strings_Index(s a:ByteArray)(m:Int)(w:Wj)(b:s.size<4294967281)(d:w.cell? ⟨0,0,N⟩=J (I K m)):
  Calls Yq.prog 130 #[U s,U a] w λe c=>e=.returned (I K (Lib.index s.data.toList a.data.toList))/\c=w:=Any.strings_Index Yq.lays143 s a m w b d
end
end Go.Proofs
namespace Go.Proofs.Qw
open Option renaming none->N,some->J
open Bool renaming true->Y,false->Z
open Value renaming int->I,string->U,slice->M,pointer->O,bool->C
open IntKind renaming i64->K
open Obj renaming cells->E
variable {Q:Exit->Act->Wj->Prop}
section
open Go.Conc Go.ConcX Go.ConcX.Gen Go.RowKit
def uF(v:Ver):Wx:=.agg #[I K v.num,U v.body,C v.mark]
theorem Fx(k:List UInt8)(v:Ver)(w:Wj):Calls Yq.prog 132 #[U ⟨k.toArray⟩,uF v] w λe h=>e=.returned (itVal (eD k v))/\Below w.heap.size w h:=by
 obtain⟨b,d,a⟩:=v;have f:∀c,Below w.heap.size w (((w.alloc (E #[I K b,U d,C a] 62)).alloc c)):=λc=>((bR _ _).alloc (lR _) _).alloc (by simp) _
 have HB:Hid (∀c,Below w.heap.size w (((w.alloc (E #[I K b,U d,C a] 62)).alloc c))):=f;clear f;unfold uF;cases a
 .go_enter (Yq.nq Tryz.func132),Tryz.ntmps132;go_wp2_with fail
  exact bodyPost_ret (v:=.agg #[I K 3,U ⟨k.toArray⟩,I K b]) (by simp[results,Tryz.results132,go_sem]) rfl ⟨rfl,HB.out _⟩
 .go_enter (Yq.nq Tryz.func132),Tryz.ntmps132;go_wp2_with fail
  exact bodyPost_ret (v:=.agg #[I K 4,U ⟨k.toArray⟩,I K b]) (by simp[results,Tryz.results132,go_sem]) rfl ⟨rfl,HB.out _⟩
theorem wM(hv:Wx)(w:Wj)(d:∃a n c,hv=M a n c):Calls Yq.prog 131 #[hv] w λe b=>e=.returned (.func (.func 141) #[] #[ptr w.heap.size])/\b=w.alloc (E #[hv] 96):=by
 obtain⟨a,n,c,rfl⟩:=d;go_enter (Yq.nq Tryz.func131),Tryz.ntmps131;go_wp2_with fail
 go_ret;exact⟨rfl,rfl⟩
theorem Hv(l m t g d:Nat)(h:List Ver)(hl:h.length<=1000)(b:List Ver->Wj->Prop)(H:m≠t)(hg:g≠t)
  (hY:∀pre (i:Nat) v X,pre++[v] <+:h.reverse->b pre X->YieldAt (wf N) 0 Yq.prog l #[I K i,uF v] X λe X'=>e=.returned (C Y)/\b (pre++[v]) X'/\dL t X X')
  (W:Wj) {u:Obj} (A:W.heap[g]?=J u) (s:u.isCells=Y) (o:∀j,j<h.length*3->W.cell? ⟨g,j,N⟩=(aq h)[j]?) (G:W.heap[m]?=J (E #[M (J ⟨g,0,N⟩) h.length d] 96)) (h0:b [] W):
  Calls Yq.prog 141 #[.func (.yield l) #[] #[],ptr m] W λe W'=>(∃v,e=.returned v)/\b h.reverse W':=by
 have HY:Hid (∀pre (i:Nat) v X,pre++[v] <+:h.reverse->b pre X->YieldAt (wf N) 0 Yq.prog l #[I K i,uF v] X λe X'=>e=.returned (C Y)/\b (pre++[v]) X'/\dL t X X'):=hY;have HW:Hid (W.heap[g]?=J u/\u.isCells=Y/\(∀j,j<h.length*3->W.cell? ⟨g,j,N⟩=(aq h)[j]?)/\W.heap[m]?=J (E #[M (J ⟨g,0,N⟩) h.length d] 96)):=⟨A,s,o,G⟩;have c0:W.cell? ⟨m,0,N⟩=J (M (J ⟨g,0,N⟩) h.length d):=by simp[World.cell?,G]
 obtain⟨n,V⟩:∃n,n=h.length:=⟨_,rfl⟩;have HN:Hid (n=h.length):=V;rw[<-V]at c0 hl;clear hY A s o G V;unfold ptr;refine(callsIn_wide (n:=0)).1 (callsIn_of_wp (F:=Fence.wide) (Yq.nq Tryz.func141) rfl trivial ?_ rfl);simp only[Tryz.ntmps141,lZ,lC,lN,Nat.reduceAdd,Nat.reduceSub,Array.replicate_succ,Array.replicate_zero,List.push_toArray,List.append_toArray,List.nil_append,List.cons_append]
 gi_wp2_with fail
 gi_loopw [3] (λs3 wr=>∃j:Nat,j<=n/\s3=I K ((n:Int)-1-j)/\b (h.reverse.take j) wr/\dL t W wr) (λs3 _=>(intOf s3+1).toNat)
 case atStart=>
  exact⟨0,Nat.zero_le _,by simp,h0,dL.refl _ _⟩
 case round=>
  obtain⟨j,hj,rfl,D,B⟩:=hrel;have y:wr.heap[m]?=J (E #[M (J ⟨g,0,N⟩) h.length d] 96):=B.2.2 m _ HW.out.2.2.2 rfl H;have z:wr.heap[g]?=J u:=B.2.2 g _ HW.out.1 HW.out.2.1 hg;have cb:wr.cell? ⟨m,0,N⟩=J (M (J ⟨g,0,N⟩) n d):=by rw[HN.out];simp[World.cell?,y]
  have HK:Hid (dL t W wr):=B;clear y B c0;by_cases p:j<n
  .obtain ⟨i,hi⟩:∃i,i=n-1-j:=⟨_,rfl⟩;have r:(n:Int)-1-j=(i:Int):=by omega
   have S:i<n:=by omega
   have P:i<h.length:=by rw[<-HN.out];exact S
   have aa:j<h.reverse.length:=by rw[List.length_reverse,<-HN.out];exact p
   have x:h.reverse[j]=h[i]:=by rw[List.getElem_reverse];congr 1;rw[<-HN.out];omega
   have q:h.reverse.take (j+1)=h.reverse.take j++[h[i]]:=by rw[tS aa,x]
   have k:∀c,c<3->wr.cell? ⟨g,i*3+c,N⟩=(aq h)[i*3+c]?:=λc hc=>by
    rw[cB (a:=⟨g,i*3+c,N⟩) (z.trans HW.out.1.symm)];exact HW.out.2.2.1 _ (by omega)
   have f:∀c,c<3->(aq h)[i*3+c]?=[Value.int K h[i].num,U h[i].body,C h[i].mark][c]?:=λc hc=>ce 3 _ (λ_=>rfl) h i c P hc
   have k0:=(k 0 (by omega)).trans (f 0 (by omega));have k1:=(k 1 (by omega)).trans (f 1 (by omega));have k2:=(k 2 (by omega)).trans (f 2 (by omega));simp only[gZ,gS,Nat.add_zero]at k0 k1 k2;have⟨fn,tmps,assign,body,hy,hR⟩:=HY.out (h.reverse.take j) i h[i] wr (by rw[<-q];exact List.take_prefix _ _) D;have L:Hid (h.reverse.take (j+1)=h.reverse.take j++[h[i]]):=q;rw[r];have HI:Hid (i=n-1-j/\(n:Int)-1-j=(i:Int)/\j<n):=⟨hi,r,p⟩;have hi0:(0:Int)<=i:=by omega
   clear hi r p;generalize h[i]=v at *;obtain⟨num,vb,mk⟩:=v;simp only[uF]at k0 k1 k2 hy hR;clear k f z x q D;gi_wp2;refine⟨rfl,RoundIn.mono (F:=Fence.wide) hR ?_⟩;rintro e W3 ⟨rfl,Q,T⟩;gi_wp2
   go_roundw
   case rel=>exact⟨j+1,by have:=HI.out.2.2;omega,by have:=HI.out.2.1;congr 1;omega,by rw[L.out];exact Q,HK.out.trans T⟩
   case measure=>have:=HI.out;simp[intOf]
  .have R:j=n:=by omega
   subst R;gi_wp2;go_end0;refine⟨⟨_,rfl⟩,?_⟩;rw[tO (by rw[List.length_reverse,<-HN.out];exact lR _)]at D;exact D
section
variable {P:Program} {α β:Type}
theorem Ar{g:Operand}{ps:Array Tmp}{assign body:Code}{a:Act}{w:Wj}{n gf:Nat}{lb:Array Wx}{encs:β->Array Wx}(π:β->α)(hg:a.eval g=.func (.func gf) #[] lb)(eg:∀R w,(callFunc gf R).run P w=.ok (.enter gf R) w)(bl:∀x,(encs x).size=ps.size)
  (c t:Nat) (hc:c<w.heap.size) (ht:t<w.heap.size) (d:List α->Wj->Prop) (L:List α->β->Prop) (A:List α)
  (hI:∀k X f,d k X->(∀b,b<w.heap.size->f.heap[b]?=X.heap[b]?)->X.heap.size<=f.heap.size->f.os=X.os->d k f) (a8:∀k X,d k X->∃o:Obj,X.heap[c]?=J o/\o.isCells=Z) (h0:d [] w) (S:β->Nat->Act) (B:β->Obj)
  (ap:∀ (l:Nat) (i:List α->Wj->Prop) (W:Wj),W.heap.size=w.heap.size+2->(∀b,b<w.heap.size->W.heap[b]?=w.heap[b]?) ->
   (∀k X f,i k X->(∀b,b<w.heap.size+2->f.heap[b]?=X.heap[b]?)->X.heap.size<=f.heap.size->f.os=X.os->i k f)->(∀k X,i k X->w.heap.size+2<=X.heap.size) ->
   (∀k x X,L k x->i k X->YieldAt (wf N) 0 P l (encs x) X λe X'=>e=.returned (.bool Y)/\i (k++[π x]) X'/\dL t X X')->i [] W ->
   Calls P gf (#[.func (.yield l) #[] #[]]++lb) W λe W'=>(∃v,e=.returned v)/\i A W')
  (z:∀ (l:Nat) (x:β) (W:Wj) (j:Act->Wj->Prop),j (S x W.heap.size) (W.alloc (B x))->assign.wpIn (wf (J l)) 0 P (Exit.then j (λ_ _ _=>False)) {tmps:=(ps.zip (encs x)).foldl (λt (p,v)=>t.setIfInBounds p v) a.tmps,defers:=[]} W)
  (al:∀ (l:Nat) (k:List α) (x:β) (b:Nat) (W:Wj),L k x->d k W->W.heap[b]?=J (B x)->w.heap.size+2<=b->body.wpIn (wf (J l)) 0 P (λe _ W'=>e=.normal/\lO c t W W'/\d (k++[π x]) W') (S x b) W)
  (ac:∀ (D:Nat) (W:Wj),w.heap.size<=D->d A W->W.heap[D]?=J (.deferred (J []))->Q .normal {a with defers:={target:=.collected D,args:=#[]} :: a.defers} W):
  (Code.rangeFunc g ps assign body).wpIn (wf N) n P Q a w:=by
 refine wpIn_rangeFunc ?_;intro fn hfn;obtain⟨m,q⟩:∃m:LoopState->Loop,m=λst=>{state:=st,pending:=N,fn,tmps:=a.tmps,params:=ps,assign,body,defers:=w.heap.size}:=⟨_,rfl⟩
 obtain⟨W1,r⟩:∃W1,(w.alloc (.deferred (J []))).alloc (.loop (m .ready))=W1:=⟨_,rfl⟩;have be:W1.heap[w.heap.size+1]?=J (.loop (m .ready)):=by
  rw[<-r];have:=aN (w.alloc (.deferred (J []))) (.loop (m .ready));rwa [World.size_alloc]at this
 have bp:W1.heap[w.heap.size]?=J (.deferred (J [])):=by
  rw[<-r];exact(bA _ _ _ (by simp)).trans (aN w _)
 have V:∀b,b<w.heap.size->W1.heap[b]?=w.heap[b]?:=λb u=>by
  rw[<-r,bA _ _ _ (by simp;omega),bA _ _ _ u]
 have a6:W1.heap.size=w.heap.size+2:=by rw[<-r];simp
 have bi:d [] W1:=hI _ _ _ h0 V (by omega) (by rw[<-r];rfl);refine⟨w.heap.size+1,[{target:=.collected w.heap.size,args:=#[]}],W1,{target:=.fn (.func gf) lb,args:=#[.func (.yield (w.heap.size+1)) #[] #[]]},W1,gf,
  #[.func (.yield (w.heap.size+1)) #[] #[]]++lb,W1,?_,?_,λ_ _=>trivial,?_,(λh=>by cases h),?_⟩
 .rw [<-r,q];exact run_enterLoop_outer _ _ _ _ _
 .simp only[resolve,hg];simp[go_sem]
 .simp [invoke,go_sem,eg]
 .refine callsIn_wide.2 ((ap (w.heap.size+1) (λk W=>d k W/\W.heap[w.heap.size+1]?=J (.loop (m .ready))/\W.heap[w.heap.size]?=J (.deferred (J []))) W1 a6 V (λk X f h h1 h2 h3=>⟨hI k X f h.1 (λb u=>h1 b (by omega)) h2 h3,(h1 _ (by omega)).trans h.2.1,(h1 _ (by omega)).trans h.2.2⟩) (λk X h=>(eS h.2.1).1) ?_ ⟨bi,be,bp⟩).mono ?_)
  .rintro k x X ab ⟨hi,H,hk⟩;have aa:w.heap.size+1<X.heap.size:=(eS H).1;have hy:=run_yield (P:=P) (args:=encs x) H (by rw[q];exact bl x);rw[q]at hy;refine⟨fn,_,assign,body,hy,roundIn_of_wpIn (F:=wf N) trivial (z _ x X _ ?_)⟩;obtain⟨X1,y⟩:∃X1,X.alloc (B x)=X1:=⟨_,rfl⟩;have bo:X1.heap[X.heap.size]?=J (B x):=by rw[<-y];exact aN X _
   have G:∀b,b<X.heap.size->X1.heap[b]?=X.heap[b]?:=λb u=>by rw[<-y];exact bA _ _ _ u
   have hs1:X1.heap.size=X.heap.size+1:=by rw[<-y];simp
   have T:X1.os=X.os:=by rw[<-y];rfl
   rw[y];have av:dL t X X1:=⟨by omega,T,λb o u _ _=>(G b (eS u).1).trans u⟩;have hi:d k X1:=hI _ _ _ hi (λb u=>G b (by omega)) (by omega) T;have H:X1.heap[w.heap.size+1]?=J (.loop (m .ready)):=(G _ aa).trans H;have hk:X1.heap[w.heap.size]?=J (.deferred (J [])):=(G _ (by omega)).trans hk;have bd:w.heap.size+2<=X.heap.size:=by omega
   generalize X.heap.size=bx at *;have aa:w.heap.size+1<X1.heap.size:=(eS H).1;refine⟨_,run_beginRound H (by rw[q]),?_⟩;obtain⟨X2,s⟩:∃X2,X1.putObj (w.heap.size+1) (.loop {m .ready with state:=.busy})=X2:=⟨_,rfl⟩;have bb:X2.heap[w.heap.size+1]?=J (.loop {m .ready with state:=.busy}):=by rw[<-s];exact World.putObj_heap_same aa
   have ar:∀b,b≠w.heap.size+1->X2.heap[b]?=X1.heap[b]?:=λb u=>by rw[<-s];exact pO u
   have hsz2:X2.heap.size=X1.heap.size:=by rw[<-s];simp
   have a1:X2.os=X1.os:=by rw[<-s];rfl
   have a2:d k X2:=hI _ _ _ hi (λb u=>ar b (by omega)) (by omega) a1;have a5:dL t X1 X2:=by rw[<-s];exact fQ H rfl _
   rw[s];refine wpIn_mono (al _ k x bx _ ab a2 ((ar _ (by omega)).trans bo) bd) ?_;rintro e a3 X3 ⟨rfl,af,bn⟩;have ad:X3.heap[w.heap.size+1]?=J (.loop {m .ready with state:=.busy}):=(af.2.2 _ (by omega) (by omega) (by omega)).trans bb;have bk:X3.heap[w.heap.size]?=J (.deferred (J [])):=(af.2.2 _ (by omega) (by omega) (by omega)).trans ((ar _ (by omega)).trans hk);have a0:=run_endRound (P:=P) N ad;have hfin:({m .ready with state:=.busy}:Loop)={m .ready with state:=.busy}:=rfl;have e4:({({m .ready with state:=.busy}:Loop)with state:=if(N:Option Code).isNone then .ready else .done,pending:=N}:Loop)=m .ready:=by rw[q];rfl
   rw[e4]at a0;have a7:w.heap.size+1<X3.heap.size:=(eS ad).1;refine⟨_,_,a0,rfl,⟨hI _ _ _ bn (λb u=>pO (by omega)) (by simp) rfl,World.putObj_heap_same a7,(pO (by omega)).trans bk⟩,av.trans (a5.trans ((af.cells (a8 _ _ a2)).trans (fQ ad rfl _)))⟩
  .rintro e W2 ⟨⟨v,rfl⟩,hi,H,hk⟩;have a4:=run_endLoop (P:=P) H (by rw[q];simp);have a9:(m .ready).pending=none:=by rw[q]
   rw[a9]at a4;exact⟨N,_,a4,ac w.heap.size _ (lR _) (hI _ _ _ hi (λb u=>pO (by omega)) (by simp) rfl) ((pO (by omega)).trans hk)⟩
end
noncomputable def FZ:Code:=Es (cIn (dh (dh (dh (bV Tryz.f115)))))
noncomputable def IQ:Array Oper:=oW (cIn FZ)
structure WdV (W1:Wj)(c:Nat)(buf:List Wx)(it:Wx)(d:Nat->Bool)(w:Wj):Prop where
 below:d 4=Z->Below W1.heap.size W1 w
 done:d 4=Y->∃w1,Below W1.heap.size W1 w1/\w=w1.setChan c 1000 (buf++[it]).toArray Z (buf.length+1) 0 Z
section
variable {W1:Wj} {c:Nat} {buf:List Wx} {it:Wx} {d:Nat->Bool} {w:Wj}
theorem WdV.other(h:WdV W1 c buf it d w){n:Nat}(a:4≠n):WdV W1 c buf it (ed d n) w:=⟨λe=>h.below (by rwa [dX a]at e),λe=>h.done (by rwa [dX a]at e)⟩
theorem WdV.more(h:WdV W1 c buf it d w)(a:d 4=Z){X:Wj}(b:Below w.heap.size w X):WdV W1 c buf it (ed d 3) X:=⟨λ_=>(h.below a).trans (b.mono (h.below a).size),λe=>by rw[dX (by omega),a]at e;cases e⟩
theorem WdV.sent(h:WdV W1 c buf it d w)(a:d 4=Z):WdV W1 c buf it (ed d 4) (w.setChan c 1000 (buf.toArray.push it) Z (buf.length+1) 0 Z):=⟨λe=>by simp[ed]at e,λ_=>⟨w,h.below a,by simp⟩⟩
end
theorem C9{gf n l:Nat}{z:Act}{W:Wj}{b5 b7 b9 c:Nat}{k:List UInt8}{v:Ver}{buf:List Wx}(hs:z.tmps.size=27)(e5:z.eval (.tmp 5)=ptr b5)(e7:z.eval (.tmp 7)=ptr b7)(e9:z.eval (.tmp 9)=ptr b9)
  (c5:W.cell? ⟨b5,0,N⟩=J (U ⟨k.toArray⟩)) (c7:W.cell? ⟨b7,0,N⟩=J (.chan (J c))) (c9:W.cell? ⟨b9,0,N⟩=J (I K v.num)/\W.cell? ⟨b9,1,N⟩=J (U v.body)/\W.cell? ⟨b9,2,N⟩=J (C v.mark)) (S:W.heap[c]?=J (.chan 1000 buf.toArray Z buf.length 0 Z)) (p:buf.length<1000)
  (D:∀a P,a.tmps.size=27->a.defers=z.defers->Below W.heap.size W P->Q .normal a (P.setChan c 1000 (buf++[itVal (eD k v)]).toArray Z (buf.length+1) 0 Z)):
  (Code.region gf IQ Y).wpIn (wf (J l)) n Yq.prog Q z W:=by
 obtain⟨W1,t⟩:∃W1:Wj,W1={W with drawn:=W.drawn+1}:=⟨_,rfl⟩;have s:Below W.heap.size W W1:=by rw[t];exact⟨rfl,rfl,rfl,lR _,λ_ _=>rfl⟩
 have G:W1.heap.size=W.heap.size:=by rw[t]
 have k5:W1.cell? ⟨b5,0,N⟩=J (U ⟨k.toArray⟩):=ah s c5;have k7:W1.cell? ⟨b7,0,N⟩=J (.chan (J c)):=ah s c7;have ac:=ah s c9.1;have ab:=ah s c9.2.1;have T:=ah s c9.2.2;have aa:c<W1.heap.size:=by rw[G];exact(eS S).1
 have S:W1.heap[c]?=J (.chan 1000 buf.toArray Z buf.length 0 Z):=by rw[t];exact S
 have p:buf.toArray.size<1000:=by simpa using p
 refine fS (ro:=J l) (a0:=z) (w0:=W) mixed 23 4
   (λi=>match i with| 0=>.chan (J c)| 1=>U ⟨k.toArray⟩| 2=>uF v|_=>itVal (eD k v))
   (WdV W1 c buf (itVal (eD k v))) (by omega) (by rfl) (by rfl) (λb a w i o hi A V q u=>?_) (λa w h1 h2 h3 h4 h5=>?_) ⟨λ_=>by rw[<-t];exact bR _ _,λe=>by cases e⟩
 .have B:i<5:=(cR hi).1;have y:b.getD 4 Z=false:=by
   cases h:b.getD 4 Z with
   |false=>rfl
   |true=>
    exfalso;have l3:=u.dep (j:=4) (k:=3) (by rfl) h;have l0:=u.dep (j:=4) (k:=0) (by rfl) h;have l1:=u.dep (j:=3) (k:=1) (by rfl) l3;have l2:=u.dep (j:=3) (k:=2) (by rfl) l3;have F:=(cR hi).2;have L:∀j,j<5->b.getD j Z=true:=λj hj=>by
     rcases j with - | - | - | - | - |j;all_goals first|assumption|omega
    have h7:=L i B;have H:i<b.size:=by rw[V.len];exact B
    simp only[gD,eG H,Option.getD_some]at F h7;rw[F]at h7;cases h7
  have x:Below W1.heap.size W1 w:=V.world.below y;have m:=A;dsimp only[IQ,FZ,Es,cIn,bV,Tryz.f115,iz,dh,oW,Option.getD]at m;rcases i with - | - | - | - | - |i
  .simp only[gA,gZ,oI]at m;subst m;have r:a.eval (.tmp 7)=ptr b7:=(V.old 7 (by omega)).trans e7;refine ao A rfl (λc h=>by cases h) (v:=.chan (J c)) (w':=w) (by generalize a.eval=ρ at r ⊢;simp[go_sem,r,ptr,ah x k7]) ⟨_,rfl,λ_=>rfl,V.world.other (by omega)⟩
  .simp only[gA,gS,gZ,oI,zA]at m;subst m;have r:a.eval (.tmp 5)=ptr b5:=(V.old 5 (by omega)).trans e5;refine ao A rfl (λc h=>by cases h) (v:=U ⟨k.toArray⟩) (w':=w) (by generalize a.eval=ρ at r ⊢;simp[go_sem,r,ptr,ah x k5]) ⟨_,rfl,λ_=>rfl,V.world.other (by omega)⟩
  .simp only[gA,gS,gZ,oI,Nat.reduceAdd,zA]at m;subst m;have r:a.eval (.tmp 9)=ptr b9:=(V.old 9 (by omega)).trans e9;refine ao A rfl (λc h=>by cases h) (v:=uF v) (w':=w) (by generalize a.eval=ρ at r ⊢;simp[go_sem,r,ptr,uF,ah x ac,ah x ab,ah x T]) ⟨_,rfl,λ_=>rfl,V.world.other (by omega)⟩
  .simp only[gA,gS,gZ,oI,Nat.reduceAdd,zA]at m;subst m;have r:a.eval (.tmp 24)=U ⟨k.toArray⟩:=V.new 1 (by omega) (q ⟨1,.data⟩ (by simp) rfl);have R:a.eval (.tmp 25)=uF v:=V.new 2 (by omega) (q ⟨2,.data⟩ (by simp) rfl);refine iT (f:=132) (args:=#[U ⟨k.toArray⟩,uF v]) (w':=w) A rfl (λc h=>by cases h) (by have qf:=hfun a rfl 132;generalize a.eval=ρ at r R qf ⊢;simp[go_sem,r,R,qf]) ((Fx k v w).mono ?_);rintro e X ⟨rfl,hX⟩;exact⟨_,rfl,_,rfl,λ_=>rfl,V.world.more y hX⟩
  .simp only[gA,gS,gZ,oI,Nat.reduceAdd,zA]at m;subst m;have r:a.eval (.tmp 23)=.chan (J c):=V.new 0 (by omega) (q ⟨0,.data⟩ (by simp) rfl);have R:a.eval (.tmp 26)=itVal (eD k v):=V.new 3 (by omega) (q ⟨3,.data⟩ (by simp) rfl);refine ov A rfl rfl r ((x.block c aa).trans S) p ?_;exact⟨_,rfl,λh=>absurd h (by omega),by rw[R];exact V.world.sent y⟩
  .omega
 .obtain ⟨d,hd,x⟩:=h5;obtain⟨P,hb,rfl⟩:=x.done (hd 4 (by decide));exact D a P (h1.trans hs) h2 (s.trans (by rw[G]at hb;exact hb))
def mV(n c:Nat)(p d af:ByteArray)(k:List UInt8)(hv e b a:Wx):Array Wx:=
 #[.agg #[C Y,U p,U d,U af],U ⟨k.toArray⟩,hv,.chan (J c),ptr n,ptr (n+1),Wo,ptr (n+2),Wo,e,O (J ⟨n,0,N⟩),C Y,C Z,Wo,Wo,Wo,Wo,Wo,Wo,hv,.func (.func 141) #[] #[ptr (n+3)],b,a,Wo,Wo,Wo,Wo]
def svW(w:Wj)(c:Nat)(p d af:ByteArray)(k:List UInt8)(hv:Wx):Wj:=
 (((w.alloc (E #[C Y,U p,U d,U af] 74)).alloc (E #[U ⟨k.toArray⟩] 9)).alloc (E #[.chan (J c)] 197)).alloc (E #[hv] 96)
section
variable (w:Wj) (c:Nat) (p d af:ByteArray) (k:List UInt8) (hv:Wx)
theorem ff:(svW w c p d af k hv).heap.size=w.heap.size+4:=by simp only[svW,World.alloc,Array.size_push]
theorem wN{n:Nat}(h:n<w.heap.size):(svW w c p d af k hv).heap[n]?=w.heap[n]?:=by
 simp only[svW,World.alloc,gP,Array.size_push]
 repeat rw[if_neg (by omega)]
theorem wO(i:Nat)(h:i<4):(svW w c p d af k hv).heap[w.heap.size+i]?=(#[E #[C Y,U p,U d,U af] 74,E #[U ⟨k.toArray⟩] 9,E #[.chan (J c)] 197,E #[hv] 96]:Array Obj)[i]?:=by
 simp only[svW,World.alloc,gP,Array.size_push];rcases i with - | - | - | - |i;all_goals first|omega|skip
 all_goals
  repeat rw[if_neg (by omega)]
  simp
end
theorem Fy{w:Wj}{a:Addr}{v:Wx}(h:w.cell? a=J v):∃o:Obj,w.heap[a.block]?=J o/\o.isCells=true:=by
 unfold World.cell? at h;cases b:w.heap[a.block]? with
 |none=>rw[b]at h;cases h
 |some o=>
  rw[b]at h;cases o<;>first|exact⟨_,rfl,rfl⟩|(cases h)
structure SvI (w:Wj)(c:Nat)(k:List UInt8)(buf:List Wx)(w6:Wj)(pre:List Ver)(X:Wj):Prop where
 os:X.os=w.os
 size:w6.heap.size<=X.heap.size
 block:∀b,b<w6.heap.size->b≠c->X.heap[b]?=w6.heap[b]?
 ch:X.heap[c]?=J (.chan 1000 (buf++(pre.map (eD k)).map itVal).toArray Z (buf.length+pre.length) 0 Z)
section
attribute [local go_sem] Oper.semAt_some kP
theorem uG(q:Qy)(a1:q.vs=Y):ii q:=by
 intro A k hv h c buf w hh a5 hl hc y;obtain⟨vs,p,d,af⟩:=q;simp only at a1;subst a1;have a6:c<w.heap.size:=(eS hc).1;have V:bj Y k h=h.reverse.map (eD k):=rfl;have ap:(bj Y k h).length=h.length:=by rw[V];simp
 simp only[ap]at y ⊢;rw[V];have S:aq h≠[]:=by
  cases h with
  |nil=>exact absurd rfl a5
  |cons a r=>simp[aq]
 obtain⟨a0,ac,rfl,-,hx⟩:=hh;obtain⟨g,rfl,-,bi,z⟩:=hx S;have hvl:(aq h).length=h.length*3:=fO 3 _ (λ_=>rfl) h;obtain⟨hv,P⟩:∃hv,hv=Value.slice (J ⟨g,0,N⟩) h.length ac:=⟨_,rfl⟩;have ar:0<(aq h).length:=List.length_pos_iff.2 S;have⟨og,G,H⟩:=Fy (a:=⟨g,0,N⟩) ((z 0 ar).trans (eL ar));have ad:c<(svW w c p d af k hv).heap.size:=by rw[ff];omega
 have a8:w.heap.size<(svW w c p d af k hv).heap.size:=by rw[ff];omega
 have hgc:g≠c:=λe=>by
  subst e;rw[G]at hc;cases hc;cases H
 refine(callsIn_wide (n:=0)).1 (callsIn_of_wp_marks (F:=Fence.wide) (Yq.nq Tryz.func115) rfl trivial ?_);refine(wpIn_wide (n:=0)).2 ?_;generalize hQ:bodyPostM Fence.wide 0 Yq.prog Tryz.f115 _=Q;simp only[Tryz.ntmps115,lZ,lC,lN,Nat.reduceAdd,Nat.reduceSub,Array.replicate_succ,Array.replicate_zero,List.push_toArray,List.append_toArray,List.nil_append,List.cons_append];have HQ:Hid (bodyPostM Fence.wide 0 Yq.prog Tryz.f115 _=Q):=hQ;have HX:Hid (w.heap[c]?=J (.chan 1000 buf.toArray Z buf.length 0 Z)/\buf.length+h.length<=1000/\w.heap[g]?=J og/\og.isCells=Y/\(∀j,j<(aq h).length->w.cell? ⟨g,j,N⟩=(aq h)[j]?)):=⟨hc,y,G,H,z⟩;clear hQ hc y G H z V ap hx;unfold qV;rw[<-P];have bd:Hid (hv=Value.slice (J ⟨g,0,N⟩) h.length ac):=P;have a7:∃a n c,hv=M a n c:=⟨_,_,_,P⟩;clear P;go_wp2_with (go_at_call 131;refine(wM hv _ a7).mono ?_;rintro e w6 ⟨rfl,rfl⟩)
 refine wpIn_wide.1 (show Code.wpIn (wf N) 0 Yq.prog _ (Exit.inBlock 0 Q) ⟨mV w.heap.size c p d af k hv Wo Wo Wo,[]⟩ (svW w c p d af k hv)from ?_);have⟨hc,y,G,H,z⟩:=HX.out;have a9:SvI w c k buf (svW w c p d af k hv) [] (svW w c p d af k hv):=⟨rfl,lR _,λ_ _ _=>rfl,by rw[wN w c p d af k hv a6,hc];simp⟩;refine Ar (α:=Ver) (β:=Nat×Ver) (encs:=λx=>#[I K x.1,uF x.2]) (gf:=141) (lb:=#[ptr (w.heap.size+3)]) (λx=>x.2) rfl (λargs wx=>by go_simp) (λ_=>rfl) c w.heap.size ad a8
  (SvI w c k buf (svW w c p d af k hv)) (λu x=>u++[x.2] <+:h.reverse) h.reverse (λu X s f h1 h2 h3=>⟨h3.trans f.os,lT f.size h2,λb L T=>(h1 b L).trans (f.block b L T),(h1 c ad).trans f.ch⟩) (λu X f=>⟨_,f.ch,rfl⟩) a9
  (λx b=>⟨mV w.heap.size c p d af k hv (ptr b) (I K x.1) (uF x.2),[]⟩) (λx=>E #[I K x.2.num,U x.2.body,C x.2.mark] 62) ?call ?assign ?body ?done
 case call=>
  intro l m W hW1 al hst hsz hy bb;have a3:W.heap[w.heap.size+3]?=J (E #[hv] 96):=(al _ (by rw[ff];omega)).trans (wO w c p d af k hv 3 (by omega));rw[bd.out]at a3;have av:W.heap[g]?=J og:=(al g (by rw[ff];omega)).trans ((wN w c p d af k hv bi).trans G);exact Hv l (w.heap.size+3) w.heap.size g ac h hl m (by omega) (by omega) (λu i v X h1 h2=>hy u (i,v) X h1 h2) W av H (λj hj=>(cB (a:=⟨g,j,N⟩) (av.trans G.symm)).trans (z j (by omega))) a3 bb
 case assign=>
  rintro l ⟨i,ab,vb,mk⟩ W o hK;have e:(#[21,22].zip #[Value.int K i,uF ⟨ab,vb,mk⟩]).foldl (λt x=>match x with|(p,v)=>t.setIfInBounds p v) (mV w.heap.size c p d af k hv Wo Wo Wo)=mV w.heap.size c p d af k hv Wo (I K i) (uF ⟨ab,vb,mk⟩):=by
   simp[mV]
  show Code.wpIn _ _ _ _ _ ⟨(#[21,22].zip #[Value.int K i,uF ⟨ab,vb,mk⟩]).foldl (λt x=>match x with|(p,v)=>t.setIfInBounds p v) (mV w.heap.size c p d af k hv Wo Wo Wo),[]⟩ _;rw[e];unfold mV uF;unfold mV uF at hK;gi_wp2;exact hK
 case body=>
  rintro l u ⟨i,v⟩ b W aa f L hlt;have be:(u++[v]).length<=h.length:=by have:=aa.length_le;rwa [List.length_reverse]at this
  rw[lP,lS]at be;have h1:W.heap[w.heap.size+1]?=J (E #[U ⟨k.toArray⟩] 9):=(f.block _ (by rw[ff];omega) (by omega)).trans (wO w c p d af k hv 1 (by omega));have h2:W.heap[w.heap.size+2]?=J (E #[.chan (J c)] 197):=(f.block _ (by rw[ff];omega) (by omega)).trans (wO w c p d af k hv 2 (by omega));have a4:=f.ch;rw[show buf.length+u.length=(buf++(u.map (eD k)).map itVal).length by simp]at a4;refine wpIn_block (C9 (b5:=w.heap.size+1) (b7:=w.heap.size+2) (b9:=b) (k:=k) (v:=v) (buf:=buf++(u.map (eD k)).map itVal) (c:=c) rfl rfl rfl rfl (by simp[World.cell?,h1]) (by simp[World.cell?,h2]) ⟨by simp[World.cell?,L],by simp[World.cell?,L],by simp[World.cell?,L]⟩ a4 (by simp;omega) (λa w1 e1 e2 B=>?_));have hcW:c<W.heap.size:=by have:=f.size;omega
  refine⟨rfl,⟨?_,?_,λx hx R _=>?_⟩,?_,?_,λx hx R=>?_,?_⟩
  .rw [xI];exact B.size
  .exact B.os
  .rw [jq R];exact B.block x hx
  .exact B.os.trans f.os
  .rw [xI];exact lT f.size B.size
  .rw [jq R,B.block x (by have:=f.size;omega)];exact f.block x hx R
  .rw [ma (by have:=B.size;omega)];simp;omega
 case done=>
  intro D W hD f hK;have hQ:=HQ.out;subst hQ;refine⟨by simp,.inl ⟨_,_,rfl,run_takeDeferred hK,?_⟩⟩;have a2:∀b,b<(svW w c p d af k hv).heap.size->(W.putObj D (.deferred N)).heap[b]?=W.heap[b]?:=λb L=>pO (by omega)
  refine⟨.tuple #[],by simp[results,Tryz.results115,go_sem],rfl,λb L T=>?_,?_,?_,?_⟩
  .rw [a2 b (by rw[ff];omega),f.block b (by rw[ff];omega) T,wN w c p d af k hv L]
  .have:=f.size;rw[ff]at this;simp;omega
  .exact f.os
  .rw [a2 c ad,f.ch];simp
end
theorem IR:IP:=λs a m w b c=>Yq.strings_Index s a m w b c
theorem F0(q:Qy):ig q/\ii q:=by
 refine⟨uE IR q,?_⟩;cases h:q.vs with
 |false=>exact tJ q h
 |true=>exact uG q h
end
section
open Go.RowKit
open Go.Conc Go.ConcX Go.ConcX.Gen
theorem il.clean{W V:Wj}{D0:Nat->Prop}{v:Wx}{ops:List OpD}(h:il W v ops)(c:Clean D0 W V)(n:Nat->Question->Nat)(d:Nat):il (V.on n d) v ops:=by
 obtain⟨a,j,rfl,t⟩:=h.form;refine⟨⟨a,j,rfl,λe=>?_⟩,h.sized,h.len⟩;obtain⟨b,f,rfl,l⟩:=t e;refine⟨b,f,rfl,λi s=>?_⟩;have⟨r,u,k,m,q,o,p⟩:=l i s;exact⟨c.cell r rfl,c.cell u rfl,c.cell k rfl,c.cell m rfl,c.cell q rfl,c.cell o rfl,c.cell p rfl⟩
def Da(w:Wj):Prop:=dn w/\rm w
theorem Da.on{w w':Wj}(h:Da w)(a:∀b,b<w.heap.size->w'.heap[b]?=w.heap[b]?):Da w':=⟨h.1.on a,h.2.on a⟩
theorem Da.glob{W V:Wj}(h:Da W)(hb:∀b,b<Tryz.prog.globals.size->V.heap[b]?=W.heap[b]?):Da V:=by
 refine⟨h.1.glob hb,?_⟩;have ht:=h.2;unfold rm Lib.TabIs World.var? at *
 have hg : ∃ g, Yq.prog.globalNamed "internal/strconv.uint64pow10" = J g ∧ g < Tryz.prog.globals.size := ⟨_, show Yq.prog.globalNamed "internal/strconv.uint64pow10" = J 1 by kernel_rfl, of_decide_eq_true (by kernel_rfl)⟩
 obtain⟨g,e,hlt⟩:=hg;rw[e]at ht ⊢;simp only[Option.bind_some]at ht ⊢;rw[hb g hlt];exact ht
theorem Jf{d:Ren}{a:Option Addr}(h:∀b,slB a b->d b b)(n c:Nat):RV d (.slice a n c) (.slice a n c):=by
 cases a with
 |none=>exact .slice n c .none
 |some a=>exact .slice n c (.some ⟨h _ ⟨a,rfl,rfl⟩,rfl,rfl⟩)
end
section
open Go.Conc Go.ConcX Go.ConcX.Gen Go.RowKit
def Jg(o:OpD):Prop:=o.kind<8\/12<o.kind
theorem At(Qok:Qy->Prop)(y:∀q,Qok q->ig q/\ii q)(G:Wj->Prop)(N:Nat)(hN:N<2199023255300)(m:∀u,G u->dn u)(d:∀n t:Int,0<=n->n<=N->0<=t->t<=N+1->kQ G n t):jF Qok Jg G N:=by
 intro A B k0 w st L h F z o P k j v s H D x hs g0 cp toks hn c8 ht ks bs hbk;have hbg:=x.begun;unfold Jg at P;simp only[pe,if_neg (show¬o.kind=12 by omega)];by_cases l:o.kind=6
 .simp only[stepA,if_pos l];obtain⟨p,f,b,a,c,n,i⟩:=o;simp only at l;subst l;exact uh 6 Z ⟨rfl,rfl⟩ Qok y h F x.len f b a c n i (k.q rfl) (D.sum _) j (by omega) G m z (d _ _ (by omega) (by omega) (by omega) (by omega))
 by_cases r:o.kind=7
 .simp only[stepA,if_neg l,if_pos r];obtain⟨p,f,b,a,c,n,i⟩:=o;simp only at r;subst r;exact ui 7 Y ⟨rfl,rfl⟩ Qok y h F x.len f b a c n i (k.q7 rfl) (D.sum _) j (by omega) G m z (d _ _ (by omega) (by omega) (by omega) (by omega))
 .simp only[stepA,if_neg l,if_neg r,if_neg (show¬o.kind=8 by omega),if_neg (show¬o.kind=9 by omega),if_neg (show¬o.kind=10 by omega),if_neg (show¬o.kind=11 by omega)];exact(zI h s o j v H (by omega) (by omega)).mono λe u h=>.inl h
def fF(o:OpD):Prop:=o.kind<11\/12<o.kind
theorem uH(Qok:Qy->Prop)(D:∀q,Qok q->ig q/\ii q)(G:Wj->Prop)(N:Nat)(hN:N<2199023255300)(k:∀m,G m->dn m)(b:∀n d:Int,0<=n->n<=N->0<=d->d<=N+1->kQ G n d):jF Qok fF G N:=by
 intro A B k0 w st L h p F o X t x u s R hT a V P Q c H y z S T r;have hbg:=a.begun;unfold fF at X;have i:¬o.kind=12:=by omega
 by_cases l:o.kind=8
 .simp only[pe,if_neg i,stepA,if_neg (show¬o.kind=6 by omega),if_neg (show¬o.kind=7 by omega),if_pos l];exact wm Qok D h p a.len o l P Q c (by omega) (H.symm▸y) z a.ok (λf n d e=>by have:=a.told f n d e;omega) G k F (λf n d e _=>by have:=a.told f n d e;exact b _ _ (by omega) (by omega) (by omega) (by omega))
 by_cases v:o.kind=9
 .simp only[pe,if_neg i,stepA,if_neg (show¬o.kind=6 by omega),if_neg (show¬o.kind=7 by omega),if_neg l,if_pos v];exact(wk h p a.len a.left o v).mono λe m h=>.inl h
 by_cases j:o.kind=10
 .simp only[pe,if_neg i,stepA,if_neg (show¬o.kind=6 by omega),if_neg (show¬o.kind=7 by omega),if_neg l,if_neg v,if_pos j];exact(ue h p a.len o j).mono λe m h=>.inl h
 .exact At Qok D G N hN k b h p F o (by unfold Jg;omega) t x u R hT a V P Q c H y z S T r
end
section
open Go.RowKit
theorem uI(a:List OpD):∀d:Dk,∃l,(a.foldl gg d).al=d.al++l:=by
 induction a with
 |nil=>intro d;exact⟨[],by simp⟩
 |cons o r ih=>
  intro d;have⟨l,e⟩:=ih (gg d o);exact⟨(stepA d.st d.L d.toks o).2.2::l,by rw[List.foldl_cons,e];simp[gg]⟩
theorem oT(a:List OpD)(i:Nat)(b:i<a.length):ir (a.take (i+1))=gg (ir (a.take i)) a[i]:=by
 rw[tS b,Cn]
theorem Hw(a:List OpD)(i:Nat)(c:i<a.length):(ir a).al[i]?=J (stepA (ir (a.take i)).st (ir (a.take i)).L (ir (a.take i)).toks a[i]).2.2:=by
 have e:ir a=(a.drop (i+1)).foldl gg (ir (a.take (i+1))):=by
  conv=>lhs;rw[<-List.take_append_drop (i+1) a]
  unfold ir;rw[List.foldl_append]
 have⟨l,h⟩:=uI (a.drop (i+1)) (ir (a.take (i+1)));rw[e,h,oT a i c];have b:(ir (a.take i)).al.length=i:=by rw[nF,tL];omega
 rw[aL (by simp[gg,b])];unfold gg;rw[aR (by omega),b,Nat.sub_self];rfl
theorem Db(b:St)(L:Lg)(a:List ByteArray)(o:OpD)(_:0<=b.last):(stepA b L a o).1.last<=b.last+1:=by
 have c:(aA b o).1.last<=b.last+1:=by
  unfold aA;simp only
  repeat' split
  all_goals simp only[cJ,bL]
  all_goals omega
 unfold stepA
 repeat' split
 all_goals first
  |exact c
  |(simp only;omega)
theorem Fz(a:List OpD)(c:∀o∈a,kV zQ o/\o.key.size<=maxLen):∀i,i<=a.length->(ir (a.take i)).st.last<=i:=λi=>by
 induction i with
 |zero=>intro _;simp[ir,dk0,st0]
 |succ i ih=>
  intro hi;have h1:=ih (by omega);have d:=(xT (a.take i) (λo b=>c o (List.mem_of_mem_take b))).i.last0;rw[oT a i (by omega)];have:=Db (ir (a.take i)).st (ir (a.take i)).L (ir (a.take i)).toks (a[i]'(by omega)) d;show(stepA _ _ _ _).1.last<=_;omega
theorem Dc(a:Option Addr)(b c:Nat)(w:Wj):
  Calls Yq.prog 7 #[M a 0 b,M (J ⟨c,0,N⟩) 0 0] w λe d=>e=.returned (C Y)/\Below w.heap.size w d:=by
 go_enter (Yq.nq Tryz.func7),Tryz.ntmps7;go_wp2_with fail
 refine wp_loop_rounds 1 ?_;rw[rounds_succ];go_wp2;go_ret;exact⟨rfl,(bR _ _).alloc (lR _) _⟩
theorem Dd{b:Int}{Pp:OpD->Prop}(a:List OpD)(h:∀l,∀o∈a,Pp (mw b l o)):∀o∈eN b a,Pp o:=by
 have:∀ (a l:List OpD),(∀l,∀o∈a,Pp (mw b l o))->(∀o∈l,Pp o)->∀o∈a.foldl (λl o=>l++[mw b l o]) l,Pp o:=λa=>by
  induction a with
  |nil=>intro l _ d;exact d
  |cons x r ih=>
   intro l h d;refine ih _ (λl o c=>h l o (by simp[c])) λo c=>?_
   rcases List.mem_append.1 c with c|c
   .exact d o c
   .rw [List.mem_singleton.1 c];exact h l x (by simp)
 exact this a [] h (by simp)
theorem wP{gf k s:Nat}{X G vT Q:Wx}{R:List bD}{D y:Int}{P:List PlL}{T:List PlT}{b:St}{L:Lg}{a:List ByteArray}(w:Wj)(H:ax gf w k X R D y)(p:aF gf w k P T G vT)(hK:rN w k Q a)(d:gf<=k)(S:Sim b R D)(SL:eU L P T y s)(hV:Inv b s)(h:b.last<=s)(hT:gp b)(r:L.opened.length<=3)(m:s<2199023255300)(q:a.length<=s)(o:OpD)(V:fF o)(F:o.delim.size<=140737488351232)(l:Wx)
  (c:∀v,PFr gf k w v->gi v l (stepA b L a o).2.2.items):
  Calls Yq.prog 9 #[O (J ⟨k,0,N⟩),aT o,IL (stepA b L a o).2.2 l] w (cZ gf k (stepA b L a o).1 (stepA b L a o).2.1 s w):=by
 by_cases x:o.kind=8
 .have e:stepA b L a o=(b,(dO L (dQ a o.src o.body)).1,Cm (dO L (dQ a o.src o.body))):=by simp[stepA,x]
  rw[e]at c ⊢;obtain⟨L',t,f,u,A⟩:∃L' t f u,dO L (dQ a o.src o.body)=(L',t,f,u):=⟨_,_,_,_,rfl⟩;rw[A]at c ⊢;exact Aq w H p hK d S SL m q o x L' t f u A l c
 by_cases z:o.kind=9
 .have e:stepA b L a o=(b,(eR L o.n).1,⟨(eR L o.n).2,0,⟨#[]⟩,[],⟨#[]⟩⟩):=by simp[stepA,z]
  rw[e]at c ⊢;obtain⟨ia,ic,i,-⟩:=(c w PFr.refl).form;rw[lN]at i;subst i;exact Am w H p d S SL m o z ia ic
 by_cases j:o.kind=10
 .have e:stepA b L a o=(b,L,⟨0,b.count,⟨#[]⟩,L.opened.map fU,⟨#[]⟩⟩):=by simp[stepA,j]
  rw[e]at c ⊢;exact wL w H p S SL m r o j l c
 .exact C6 w H p d S SL hV h hT m o (by unfold fF at V;omega) F a l c
theorem FA(a:List OpD)(i:Nat):(ir a).al.take i=(ir (a.take i)).al:=by
 have e:ir a=(a.drop i).foldl gg (ir (a.take i)):=by
  conv=>lhs;rw[<-List.take_append_drop i a]
  unfold ir;rw[List.foldl_append]
 have⟨l,h⟩:=uI (a.drop i) (ir (a.take i));rw[e,h];have b:(ir (a.take i)).al.length=(a.take i).length:=nF _;by_cases d:i<=a.length
 .rw [tL,Nat.min_eq_left d]at b;rw[List.take_append_of_le_length (by omega),tO (by omega)]
 .have c:a.drop i=[]:=List.drop_eq_nil_iff.2 (by omega);rw[c]at h;have f:l=[]:=by
   have:=congrArg List.length h;simp at this;exact this
  rw[f,List.append_nil,tO];rw[b,tL];omega
theorem Au(b m u B:Nat)(d:List OpD)(h:List (j8×Wx))(w:Wj)(hS:ij w b m d)(s:d.length*88<=140737488351232)(x:h.map (·.1)=(ir d).al)(hA:∀j,j<d.length*5->w.cell? ⟨B,j,N⟩=(bg h)[j]?)(hI:∀z∈h,gi w z.2 z.1.items)(A:∀o∈d,fF o/\o.key.size<=maxLen/\o.delim.size<=140737488351232):
  Calls Yq.prog 7 #[M (J ⟨b,m,N⟩) d.length u,M (J ⟨B,0,N⟩) d.length d.length] w λe w'=>e=.returned (C Y)/\Below w.heap.size w w':=by
 have X:h.length=d.length:=by
  have:=congrArg List.length x;rw[lM,nF]at this;exact this
 have p:∀o∈d,kV zQ o/\o.key.size<=maxLen:=λo y=>⟨⟨by have:=(A o y).1;unfold fF at this;omega,λ_=>trivial,λ_=>trivial⟩,(A o y).2.1⟩
 refine Fw b m u B d h (λi=>((ir (d.take i)).st,(ir (d.take i)).L)) w hS s X hA (λz x=>?_) rfl ?_
 .obtain ⟨a,c,e,-⟩:=(hI z x).form;exact⟨a,_,c,e⟩
 .intro i Q q W sl vL vT R nx tm P T hb H hP S SL vA hK;have k:=List.getElem_mem Q;have n:(d.take i).length=i:=by rw[tL];omega
  have f:=xT (d.take i) (λo y=>p o (List.mem_of_mem_take y));rw[n]at f;have D:h[i].1=(stepA (ir (d.take i)).st (ir (d.take i)).L (ir (d.take i)).toks d[i]).2.2:=by
   have v:=Hw d i Q;rw[<-x,List.getElem?_map,eL q]at v;exact oJ v
  have F:(h.take i).map (·.1.tok)=(ir (d.take i)).toks:=by
   have v:=FA d i;rw[<-x,<-List.map_take]at v;unfold Dk.toks;rw[<-v,List.map_map];rfl
  rw[F]at hK;have r:=hI _ (List.getElem_mem q);rw[D]at r ⊢;have G:(ir (d.take i)).toks.length<=i:=by
   unfold Dk.toks;rw[lM,nF,n];exact lR _
  have V:=wP W H hP hK (lR _) S SL f.i (Fz d p i (by omega)) f.t f.l.len (by omega) G d[i] (A _ k).1 (A _ k).2.2 h[i].2 (λw' hf=>r.left (au.below (hf.to hb hb.size)));simp only[oT d i Q];exact V
theorem IS(a:List OpD)(e:Sized a)(c:∀o∈a,o.delim.size<=140737488351232):∀o∈eN 10 a,fF o/\(o.key.size<=maxLen/\o.body.size<=maxLen)/\o.delim.size<=140737488351232:=by
 refine Dd a λl o b=>?_
 unfold mw;split
 .exact ⟨.inl (by show(9:Int)<11;omega),⟨by simp only[maxLen];decide,by simp only[maxLen];decide⟩,by decide⟩
 .rename_i h;refine⟨?_,e o b,c o b⟩;have:¬(10<o.kind/\o.kind<=12):=λd=>h (.inl d)
  unfold fF;omega
theorem Av{G:Wj->Prop}{c:Nat}(t:jF zQ fF G c)(hN:c<2199023255300)(a:Option Addr)(n l:Nat)(d:List OpD)(w:Wj)(h:il w (M a n l) d)(hn:n*88<=140737488351232)(aa:n<=c)(hd:∀o∈d,o.delim.size<=140737488351232)(hG:∀k,au w k->G k):
  Calls Yq.prog 4 #[M a n l,I K 10] w λe k=>(e=.returned (C Y)/\au w k)\/Stop zQ e k:=by
 have D:n=d.length:=by
  have⟨a',H,S,_⟩:=h.form;cases S;rfl
 have HS:Hid (il w (M a n l) d/\n=d.length):=⟨h,D⟩;have HA:Hid (jF zQ fF G c/\c<2199023255300/\n<=c/\(∀k,au w k->G k)/\∀o∈eN 10 d,fF o/\(o.key.size<=maxLen/\o.body.size<=maxLen)/\o.delim.size<=140737488351232):=⟨t,hN,aa,hG,IS d h.sized hd⟩;have q:(eN 10 d).length=n:=by rw[uC];exact D.symm
 clear h D t hG hd;go_enter (Yq.nq Tryz.func4),Tryz.ntmps4;go_wp2_with fail
 refine(Fv 10 a n l d w HS.out.1 hn).mono ?_;rintro e F ⟨v',rfl,f,b1⟩;have S1:il F v' (eN 10 d):=wn f q.symm (λo m=>(HA.out.2.2.2.2 o m).2.1) (by omega);obtain⟨X,R,rfl,-⟩:=az f;have HX:Hid (il F (M X n R) (eN 10 d)/\au w F):=⟨S1,au.below b1⟩;clear f S1 b1;generalize eN 10 d=s at *;by_cases u:s=[]
 .subst u;rw[lN]at q;subst q;go_wp2_with fail
  refine(G6 X R F).mono ?_;rintro e Q ⟨g,rfl,-,b2⟩;have HB:Hid (au w Q):=HX.out.2.trans (au.below b2);clear b2;go_wp2_with fail
  refine(Dc X R g Q).mono ?_;rintro e T ⟨rfl,L⟩;have B:Hid (au w T):=HB.out.trans (au.below L);clear L;go_wp2_with fail
  go_ret;exact .inl ⟨rfl,B.out⟩
 .have HR:=Fb zQ fF G c HA.out.1 _ s F (λk q=>HA.out.2.2.2.1 k (HX.out.2.trans q)) HX.out.1 u (by omega) HA.out.2.1 (λo m=>⟨by have:=(HA.out.2.2.2.2 o m).1;unfold fF at this;omega,λ_=>trivial,λ_=>trivial⟩) (λo m=>(HA.out.2.2.2.2 o m).1);go_wp2_with fail
  refine HR.mono ?_;clear HR;rintro e Q (⟨A,zs,rfl,P,p,i,-,l2⟩|v)
  rotate_left
  .obtain ⟨x,y,r,rfl,v⟩:=v;exact⟨rfl,.inr ⟨x,y,r,rfl,v⟩⟩
  have⟨a',H,S,hx⟩:=(HX.out.1.left l2).form;obtain⟨b,V,rfl,hS⟩:=hx u;rw[q]at S;cases S;have HF:=Au b V R F.heap.size s zs Q hS (by rw[q];exact hn) P (λj hj=>p.cellAt j hj) (λz hz=>(i z hz).its) (λo m=>⟨(HA.out.2.2.2.2 o m).1,(HA.out.2.2.2.2 o m).2.1.1,(HA.out.2.2.2.2 o m).2.2⟩);have HB:Hid (au w Q):=HX.out.2.trans l2;rw[q]at HF ⊢;clear p i P hS hx l2;go_wp2_with fail
  refine HF.mono ?_;rintro e T ⟨rfl,L⟩;have B:Hid (au w T):=HB.out.trans (au.below L);clear L HF;go_wp2_with fail
  go_ret;exact .inl ⟨rfl,B.out⟩
theorem De{G:Wj->Prop}{N:Nat}(b:jF zQ fF G N)(p:N<2199023255300)(a:Option Addr)(n f:Nat)(d:List OpD)(w:Wj)(h:il w (M a n f) d)(q:n*88<=140737488351232)(j:n<=N)(k:∀o∈d,o.delim.size<=140737488351232)(l:∀i,au w i->G i):
  Calls Yq.prog 3 #[M a n f] w λe i=>(e=.returned (C Y)/\au w i)\/Stop zQ e i:=by
 have HR:=Av b p a n f d w h q j k l;clear h b k l;go_enter (Yq.nq Tryz.func3),Tryz.ntmps3;go_wp2_with fail
 refine HR.mono ?_;rintro e w1 (⟨rfl,m⟩|c)
 .go_wp2_with fail
  go_ret;exact .inl ⟨rfl,m⟩
 .obtain ⟨x,y,r,rfl,c⟩:=c;exact⟨rfl,.inr ⟨x,y,r,rfl,c⟩⟩
end
section
open Go.RowKit
open Go.Conc Go.ConcX Go.ConcX.Gen
theorem Df(N:Nat)(d:N<2199023255300):jF zQ fF Da N:=
 uH zQ (λq _=>F0 q) Da N d (λ_ h=>h.1) λn b a h2 c h4 l w e=>G3 n b ⟨a,by omega⟩ ⟨c,by omega⟩ l w e.2
theorem Dg(l:Option Addr)(j t:Nat)(a:List OpD)(W:Wj)(d:W.ShapedOpen Tryz.prog)(f:rm W)(B:il W (M l j t) a)(m:∀b,slB l b->∃c e z,W.heap[b]?=J (E c e z))(u:∀o∈a,o.delim.size<=140737488351232)(n:j*88<=140737488351232):
  Fin Tryz.prog (λv W'=>v=C Y/\sU W W') #[G (Frame.enter Tryz.prog 3 #[M l j t] .normal) []] W none #[]:=by
 refine @Gt yV yW Gs Ss Rs As (Hz zQ) env In GH Jk ⟨rfl,rfl,rfl,rfl⟩ (BM zQ (λq _=>F0 q)) GX (G2 zQ) 3 Tryz.f3 (bV Tryz.f3) Tryz.func3 (Yq.nq Tryz.func3) (by kernel_rfl) (by kernel_rfl) rfl rfl _ W _ (EC d (X:=λb=>slB l b) m) (λρ h=>?_) (λV i r s=>?_)
 .exact RVl.arr (.cons (Jf (λb y=>h b (.inr y)) _ _) .nil)
 .have A:Da V:=Da.glob (W:=W) ⟨G5 d,f⟩ (i.glob d);refine(De (G:=Da) (N:=j+1) (Df _ (by omega)) (by omega) _ _ _ a (V.on r s) (B.clean i r s) n (by omega) u (λx k=>A.on k.block)).mono ?_;rintro e x (⟨rfl,k⟩|p)
  .exact .inl ⟨rfl,k.os,k.block⟩
  .exact .inr p
end
