/- A part. -/
import Derived.Test.YthnlbojplkflaaaGreatDoorQP09
import Derived.Test.YthnlbojplkflaaaGreatDoorQP10
import Derived.Test.YthnlbojplkflaaaGreatDoorQP18
import Derived.Lib.Index
import Derived.Shelf.Lays
import Derived.Shelf.Strings.Search3
import Derived.RangeFuncSeq
import Derived.TacticsInMore
import Derived.RegionIn
import Derived.LoopNIn
import Derived.LoopIn
set_option maxHeartbeats 4000000
set_option maxRecDepth 100000
open _root_ renaming if_neg->dT,ByteArray->ey,congrArg->eV,Int->eW,UInt8->gI,if_pos->gL,Array->kr,absurd->lj,Option->lk
open Go.World renaming cell?->nF,putObj_heap_same->n8,alloc->pt
open List renaming length_reverse->sq,append_toArray->sT,push_toArray->tb,cons_append->tn,nil_append->uc
open Go.Lib renaming index->vf
open Array renaming size_push->vx,replicate_succ->wz,replicate_zero->xb
open Go.Proofs.Tryz renaming results136->xc,f119->xt,ntmps118->xv,ntmps136->yz,func118->Rj,func136->Rk
open Go renaming World->Wj,Value->Wx,undef->Wo
namespace Go.Proofs.Qw
open _root_ renaming rfl->Q
open _root_ renaming Nat->H,List->S
open Option renaming none->N,some->J
open Bool renaming true->Y,false->Z
open Value renaming int->I,string->U,slice->M,pointer->O,bool->C,agg->Rd,tuple->Re
open IntKind renaming i64->K
open Obj renaming cells->E
open Ending renaming returned->Rc
open Or renaming inl->Rf
open Operand renaming tmp->Rh
variable {b j:Exit->Act->Wj->Prop}
section
open Go.Conc Go.ConcX Go.ConcX.Gen Go.RowKit
theorem F7(a:OpD->Prop)(hK:∀ {A:H->Prop}{B i:H}{w:Wj}{b:St}{L:Lg}(_:bh A B w i b L)(s:H)(o:OpD)(_:o.key.size<=maxLen)(_:o.body.size<=maxLen)(_:Inv b s)(_:s<2199023255340)(_:a o)(_:o.kind<6\/12<o.kind),Calls Yq.prog 11 #[O (J ⟨i,0,none⟩),aL o] w (cf A B i w (aE b o).1 L ⟨(aE b o).2.code,(aE b o).2.NP,(aE b o).2.body,[],⟨#[]⟩⟩))(ac:∀ {A:H->Prop}{B i:H}{w:Wj}{b:St}{L:Lg}(_:bh A B w i b L)(_:B<=w.heap.size)(o:OpD)(_:a o)(_:o.kind=12)(_:o.body.size<=maxLen)(s g0 cp:H)(_:s<2199023255340)(_:w.cell? ⟨i,8,none⟩=J (M (J ⟨g0,0,none⟩) s cp))(F:S eW)(P:S ey)(_:JH w i g0 s F P),Calls Yq.prog 11 #[O (J ⟨i,0,none⟩),aL o] w (cf A B i w (dD b L (dQ F P o.src o.body)).1 (dD b L (dQ F P o.src o.body)).2.1 (dD b L (dQ F P o.src o.body)).2.2))(Qok:Qy->Prop)(hQ:∀q,Qok q->jB q/\jC q)(G:Wj->Prop)(N:H)(hN:N<2199023255300)(y:∀l,G l->dH l)(f:∀n v:eW,0<=n->n<=N->0<=v->v<=N+1->mO G n v):xi Qok a G N:=by
 intro A B i w b L h z hG o hk aa t X s hI hT j hs g0 cp Ny hn c8 ht F P ad;by_cases p:o.kind=12
 simp[nP,gL p];exact(ac h z o hk p X s g0 cp (by omega) c8 F P ad).m λe l h=>Rf h
 simp[nP,dT p];have hbg:=j.begun;by_cases V:o.kind=6
 simp[NC];obtain⟨ab,u,c,fe,d,n,D⟩:=o;subst V;exact xj 6 Z ⟨Q,Q⟩ Qok hQ h z j.len u c fe d n D (aa.q Q) (hT.sum _) t (by omega) G y hG (f _ _ (by omega) (by omega) (by omega) (by omega));by_cases R:o.kind=7
 simp[NC];obtain⟨ab,u,c,fe,d,n,D⟩:=o;subst R;exact xl 7 Y ⟨Q,Q⟩ Qok hQ h z j.len u c fe d n D (aa.q7 Q) (hT.sum _) t (by omega) G y hG (f _ _ (by omega) (by omega) (by omega) (by omega));by_cases T:o.kind=8
 simp[NC,dT V,dT R,gL T];exact zo Qok hQ h z j.len o T g0 cp Ny (by omega) (hn.s▸c8) ht j.ok (λx n v e=>by have:=j.told x n v e;omega) G y hG (λx n v e _=>by have:=j.told x n v e;exact f _ _ (by omega) (by omega) (by omega) (by omega));by_cases h9:o.kind=9
 simp[NC,dT V,dT R,dT T,gL h9];exact(zk h z j.len j.left o h9).m λe l h=>Rf h
 by_cases k:o.kind=10
 simp[NC,dT V,dT R,dT T,dT h9,gL k];exact(xh h z j.len o k).m λe l h=>Rf h
 by_cases r:o.kind=11
 simp[NC,dT V,dT R,dT T,dT h9,dT k,gL r];exact(zr h z hI hT (by omega) o r).m λe l h=>Rf h
 simp[NC,dT V,dT R,dT T,dT h9,dT k,dT r];exact(hK h s o t X hI (by omega) hk (by omega)).m λe l h=>Rf h
theorem Mv{t:ey}(h:t≠⟨#[]⟩):t.toList.isEmpty=false:=by
 rw[ByteArray.toList_eq];cases e:t.data.toList with
 |nil=>exact lj (ByteArray.ext (Array.toList_inj.1 (e.t Q))) h
 |cons a r=>rfl
theorem xK d:∀s:S gI,vf s d=((dO d s).map λ(i:H)=>(i:eW)).getD (-1)
 | []=>by
  cases d<;>rfl
 |b::r=>by
  have ih:=xK d r;rw[vf,dO];split
  .rfl
  .cases h:dO d r with
   |none=>
    rw[h]at ih;simp at ih;rw[ih];rfl
   |some i=>
    rw[h]at ih;simp at ih;rw[ih,dT (by simp)];simp
def Mw:Prop:=∀ (s a:ey)(m:eW)(w:Wj),s.size<4294967281->w.cell? ⟨0,0,N⟩=J (I K m)->Calls Yq.prog 134 #[U s,U a] w λe b=>e=Rc (I K (vf s.data.toList a.data.toList))/\b=w
theorem Bi d:∀ (s:S gI)(i:H),dO d s=J i->i+d.length<=s.length
 | [],i,h=>by
  rw[dO]at h;split at h
  .rename_i e;subst e;cases h;simp
  .cases h
 |b::r,i,h=>by
  rw[dO]at h;split at h
  .rename_i e;cases h;have:=(List.isPrefixOf_iff_prefix.1 e).length_le;simpa using this
  .cases a:dO d r with
   |none=>rw[a]at h;cases h
   |some j=>
    rw[a]at h;cases h;have:=Bi d r j a;simp only[lC];omega
theorem xL(y:Mw)q:jB q:=by
 by_cases f:q.d=⟨#[]⟩
 exact yV q f;intro k w A L j;obtain⟨m,P⟩:=A;obtain⟨z,p,d,af⟩:=q;simp only at f j;have u:p.size<=k.length:=by have:=j.length_le;simpa using this
 obtain⟨a,b⟩:∃a:ey,a=⟨k.toArray⟩:=⟨_,Q⟩;have n:a.size=k.length:=by rw[b];rfl
 have r:(a.extract p.size a.size).data.toList=k.drop p.size:=by
  rw[Lib.extract_data,n,tO (by rw[lD,b];simp),b]
 have hde:d.toList.isEmpty=false:=Mv f;have B:bc ⟨z,p,d,af⟩ k=(dO d.data.toList (k.drop p.size)).map λi=>k.take (p.size+i+d.size):=by
  rw[bc,dT];intro e;apply f;apply ByteArray.ext;exact Array.eq_empty_of_size_eq_zero e
 have c:=xK d.data.toList (k.drop p.size);rw[B];rw[<-b];have h:Hid (∀W:Wj,W.cell? ⟨0,0,N⟩=J (I K m)->Calls Yq.prog 134 #[U (a.extract p.size a.size),U d] W λe F=>e=Rc (I K (vf (k.drop p.size) d.data.toList))/\F=W):=λW G=>by
  rw[<-r];exact y _ _ m W (by rw[ByteArray.size_extract];omega) G
 have HW:Hid (Below w.heap.size w (w.alloc (E #[C z,U p,U d,U af] 84))):=(Q9).alloc Q0 _;have t:(w.alloc (E #[C z,U p,U d,U af] 84)).drew.cell? ⟨0,0,N⟩=J (I K m):=ag HW.o P;have l:=bJ b n;have hpk:p.size<=a.size:=by omega
 have hkk:a.size<=1000:=by omega
 clear r B b n u L;unfold qV;cases v:dO d.data.toList (k.drop p.size)with
 |none=>
  rw[v]at c;simp at c;rw[c]at h;go_enter (Yq.nq Rj),xv;go_wp2_with fail
  go_region_with (go_at_call 134;refine(h.o _ t).m ?_;rintro e D ⟨rfl,rfl⟩)
  all_goals
   go_wp2
   go_ret2
   exact⟨Q,HW.o.drew⟩
 |some i=>
  rw[v]at c;simp at c;rw[c]at h;have s:=Bi _ _ _ v;rw[lD]at s;have x:d.data.toList.length=d.size:=by simp
  have hsz:p.size+i+d.size<=a.size:=by have:=l.o.2;omega
  clear s x;have h0:¬((i:eW)<0):=by omega
  have hw1:wrap64 ((p.size:eW)+i)=(p.size:eW)+i:=by unfold wrap64;omega
  have hw2:wrap64 ((p.size:eW)+i+d.size)=(p.size:eW)+i+d.size:=by unfold wrap64;omega
  go_enter (Yq.nq Rj),xv;go_wp2_with fail
  go_region_with (go_at_call 134;refine(h.o _ t).m ?_;rintro e D ⟨rfl,rfl⟩)
  all_goals
   go_wp2
   go_ret2
   refine⟨?_,HW.o.drew⟩;have e:a.extract 0 (p.size+i+d.size)=⟨(k.take (p.size+i+d.size)).toArray⟩:=by rw[Lib.extract_eq,l.o.1];simp
   rw[e];rfl
end
end Go.Proofs.Qw
namespace Go.Proofs
open _root_ renaming rfl->Q
open _root_ renaming Nat->H,List->S
open Option renaming none->N,some->J
open Bool renaming true->Y,false->Z
open Value renaming int->I,string->U,slice->M,pointer->O,bool->C,agg->Rd,tuple->Re
open IntKind renaming i64->K
open Obj renaming cells->E
open Ending renaming returned->Rc
open Or renaming inl->Rf
open Operand renaming tmp->Rh
variable {b j:Exit->Act->Wj->Prop}
section
open Go.Shelf Go.Lib
def Yq.OT:Go.Shelf.Ren:=⟨λ| 143=>134| 217=>151| 219=>144| 224=>153| 225=>152| 266=>159| 267=>154| 314=>160|n=>n,λ| 3=>3| 4=>4| 5=>5| 9=>9| 46=>193| 51=>216| 146=>245|n=>n,λ| 1=>0|n=>n⟩
theorem Yq.PT:Go.Proofs.Lays.n143 Yq.prog Yq.OT:={
 mixed:=by kernel_rfl
 f143:=(Yq.nq Tryz.func134).t (eV J (by kernel_rfl))
 f217:=(Yq.nq Tryz.func151).t (eV J (by kernel_rfl))
 f219:=(Yq.nq Tryz.func144).t (eV J (by kernel_rfl))
 f224:=(Yq.nq Tryz.func153).t (eV J (by kernel_rfl))
 f225:=(Yq.nq Tryz.func152).t (eV J (by kernel_rfl))
 f266:=(Yq.nq Tryz.func159).t (eV J (by kernel_rfl))
 f267:=(Yq.nq Tryz.func154).t (eV J (by kernel_rfl))
 f314:=(Yq.nq Tryz.func160).t (eV J (by kernel_rfl))
 t3:=(Yq.u Tryz.underlying3)
 a3:=(λw=>Yq.a (Tryz.isAgg3 w))
 z3:=(λw=>Yq.s (Tryz.sizeOf3 w))
 v3:=(λw=>Yq.z (Tryz.zeroValue3 w))
 t4:=(Yq.u Tryz.underlying4)
 a4:=(λw=>Yq.a (Tryz.isAgg4 w))
 z4:=(λw=>Yq.s (Tryz.sizeOf4 w))
 v4:=(λw=>Yq.z (Tryz.zeroValue4 w))
 t5:=(Yq.u Tryz.underlying5)
 a5:=(λw=>Yq.a (Tryz.isAgg5 w))
 z5:=(λw=>Yq.s (Tryz.sizeOf5 w))
 v5:=(λw=>Yq.z (Tryz.zeroValue5 w))
 t9:=(Yq.u Tryz.underlying9)
 a9:=(λw=>Yq.a (Tryz.isAgg9 w))
 z9:=(λw=>Yq.s (Tryz.sizeOf9 w))
 v9:=(λw=>Yq.z (Tryz.zeroValue9 w))
 t46:=(Yq.u Tryz.underlying193)
 a46:=(λw=>Yq.a (Tryz.isAgg193 w))
 z46:=(λw=>Yq.s (Tryz.sizeOf193 w))
 v46:=(λw=>Yq.z (Tryz.zeroValue193 w))
 t51:=(Yq.u Tryz.underlying216)
 a51:=(λw=>Yq.a (Tryz.isAgg216 w))
 z51:=(λw=>Yq.s (Tryz.sizeOf216 w))
 v51:=(λw=>Yq.z (Tryz.zeroValue216 w))
 t146:=(Yq.u Tryz.underlying245)
 a146:=(λw=>Yq.a (Tryz.isAgg245 w))
 z146:=(λw=>Yq.s (Tryz.sizeOf245 w))
 v146:=(λw=>Yq.z (Tryz.zeroValue245 w))
 g1:=by kernel_rfl}
theorem Yq.strings_Index(s a:ey)(m:eW)w(b:s.size<4294967281)(d:w.cell? ⟨0,0,N⟩=J (I K m)):
  Calls Yq.prog 134 #[U s,U a] w λe c=>e=Rc (I K (vf s.data.toList a.data.toList))/\c=w:=Any.strings_Index Yq.PT s a m w b d
end
end Go.Proofs
namespace Go.Proofs.Qw
open _root_ renaming rfl->Q
open _root_ renaming Nat->H,List->S
open Option renaming none->N,some->J
open Bool renaming true->Y,false->Z
open Value renaming int->I,string->U,slice->M,pointer->O,bool->C,agg->Rd,tuple->Re
open IntKind renaming i64->K
open Obj renaming cells->E
open Ending renaming returned->Rc
open Or renaming inl->Rf
open Operand renaming tmp->Rh
variable {b j:Exit->Act->Wj->Prop}
section
open Go.Conc Go.ConcX Go.ConcX.Gen Go.RowKit
def zL(v:Ver):Wx:=Rd #[I K v.num,U v.body,C v.mark]
theorem Ji k v w:Calls Yq.prog 136 #[U ⟨k.toArray⟩,zL v] w λe h=>e=Rc (itVal (fR k v))/\Below w.heap.size w h:=by
 obtain⟨b,d,a⟩:=v;have f:∀c,Below w.heap.size w (((w.alloc (E #[I K b,U d,C a] 72)).alloc c)):=λc=>((Q9).alloc Q0 _).alloc (by simp) _
 have HB:=aq f;unfold zL;cases a;go_enter (Yq.nq Rk),yz;go_wp2_with fail
 exact bodyPost_ret (v:=Rd #[I K 3,U ⟨k.toArray⟩,I K b]) (by simp[results,xc,go_sem]) Q ⟨Q,HB.o _⟩;go_enter (Yq.nq Rk),yz;go_wp2_with fail
 exact bodyPost_ret (v:=Rd #[I K 4,U ⟨k.toArray⟩,I K b]) (by simp[results,xc,go_sem]) Q ⟨Q,HB.o _⟩
theorem zM hv w(d:∃a n c,hv=M a n c):Calls Yq.prog 135 #[hv] w λe b=>e=Rc (.func (.func 145) #[] #[ptr w.heap.size])/\b=w.alloc (E #[hv] 105):=by
 obtain⟨a,n,c,rfl⟩:=d;go_enter (Yq.nq Tryz.func135),Tryz.ntmps135;go_wp2_with fail
 go_ret;exact⟨Q,Q⟩
theorem LA l q t g f h(hl:h.length<=1000)(b:S Ver->Wj->Prop)(T:q≠t)(hg:g≠t)
  (hY:∀pre (i:H) v X,pre++[v] <+:h.reverse->b pre X->YieldAt (wf N) 0 Yq.prog l #[I K i,zL v] X λe X'=>e=Rc (C Y)/\b (pre++[v]) X'/\eN t X X')
  (W:Wj) {P:Obj} (D:W.heap[g]?=J P) (y:P.isCells=Y) (p:∀j,j<h.length*3->W.cell? ⟨g,j,N⟩=(aA h)[j]?) (R:W.heap[q]?=J (E #[M (J ⟨g,0,N⟩) h.length f] 105)) (h0:b [] W):
  Calls Yq.prog 145 #[.func (.yield l) #[] #[],ptr q] W λe W'=>(∃v,e=Rc v)/\b h.reverse W':=by
 have HY:=aq hY;have HW:=ig D y p R;have c0:W.cell? ⟨q,0,N⟩=J (M (J ⟨g,0,N⟩) h.length f):=by simp[nF,R]
 obtain⟨n,hn⟩:∃n,n=h.length:=⟨_,Q⟩;have HN:=aq hn;rw[<-hn]at c0 hl;clear hY D y p R hn;unfold ptr;refine(callsIn_wide (n:=0)).1 (callsIn_of_wp (F:=Fence.wide) (Yq.nq Tryz.func145) Q trivial ?_ Q);simp only[Tryz.ntmps145,lZ,lC,lN,Nat.reduceAdd,Nat.reduceSub,wz,xb,tb,sT,uc,tn]
 gi_wp2_with fail
 gi_loopw [3] (λs3 wr=>∃j:H,j<=n/\s3=I K ((n:eW)-1-j)/\b (h.reverse.take j) wr/\eN t W wr) (λs3 _=>(intOf s3+1).toNat)
 case atStart=>
  exact⟨0,Q8,by simp,h0,eN.refl _ _⟩
 case round=>
  obtain⟨j,hj,rfl,L,G⟩:=hrel;have A:wr.heap[q]?=J (E #[M (J ⟨g,0,N⟩) h.length f] 105):=G.2.2 q _ HW.o.2.2.2 Q T;have B:wr.heap[g]?=J P:=G.2.2 g _ HW.o.1 HW.o.2.1 hg;have cb:wr.cell? ⟨q,0,N⟩=J (M (J ⟨g,0,N⟩) n f):=by rw[HN.o];simp[nF,A]
  have HK:=aq G;clear A G c0;by_cases r:j<n
  obtain⟨i,hi⟩:∃i,i=n-1-j:=⟨_,Q⟩;have x:(n:eW)-1-j=(i:eW):=by omega
  have ad:i<n:=by omega
  have aa:i<h.length:=by rw[<-HN.o];exact ad
  have ai:j<h.reverse.length:=by rw[sq,<-HN.o];exact r
  have z:h.reverse[j]=h[i]:=by rw[List.getElem_reverse];congr 1;rw[<-HN.o];omega
  have u:h.reverse.take (j+1)=h.reverse.take j++[h[i]]:=by rw[tS ai,z]
  have k:∀c,c<3->wr.cell? ⟨g,i*3+c,N⟩=(aA h)[i*3+c]?:=λc hc=>by
   rw[cB (a:=⟨g,i*3+c,N⟩) (B.t HW.o.1.s)];exact HW.o.2.2.1 _ (by omega)
  have d:∀c,c<3->(aA h)[i*3+c]?=[Value.int K h[i].num,U h[i].body,C h[i].mark][c]?:=λc hc=>bL 3 _ (λ_=>Q) h i c aa hc
  have k0:=(k 0 (by omega)).t (d 0 (by omega));have k1:=(k 1 (by omega)).t (d 1 (by omega));have k2:=(k 2 (by omega)).t (d 2 (by omega));simp only[gZ,gS,Nat.add_zero]at k0 k1 k2;have⟨fn,tmps,assign,body,hy,hR⟩:=HY.o (h.reverse.take j) i h[i] wr (by rw[<-u];exact List.take_prefix _ _) L;have V:=aq u;rw[x];have HI:=eM hi x r;have hi0:(0:eW)<=i:=by omega
  clear hi x r;generalize h[i]=v at *;obtain⟨num,vb,mk⟩:=v;simp only[zL]at k0 k1 k2 hy hR;clear k d B z u L;gi_wp2;refine⟨Q,RoundIn.m (F:=Fence.wide) hR ?_⟩;rintro e W3 ⟨rfl,ab,af⟩;gi_wp2
  go_roundw
  case rel=>exact⟨j+1,by have:=HI.o.2.2;omega,by have:=HI.o.2.1;congr 1;omega,by rw[V.o];exact ab,HK.o.t af⟩
  case measure=>have:=HI.o;simp[intOf]
  have ac:j=n:=by omega
  subst ac;gi_wp2;go_end0;refine⟨⟨_,Q⟩,?_⟩;rw[tO (by rw[sq,<-HN.o];exact Q0)]at L;exact L
section
variable {P:Program} {α β:Type}
theorem Dd{g:Operand}{ps:kr Tmp}{assign body:Code}{a:Act}{w:Wj}{n gf:H}{lb:kr Wx}{encs:β->kr Wx}(π:β->α)(hg:a.eval g=.func (.func gf) #[] lb)(eg:∀V w,(callFunc gf V).run P w=.ok (.enter gf V) w)(bk:∀x,(encs x).size=ps.size)
  (c t:H) (hc:c<w.heap.size) (ht:t<w.heap.size) (f:S α->Wj->Prop) (Oi:S α->β->Prop) (G:S α)
  (hI:∀q X d,f q X->(∀b,b<w.heap.size->d.heap[b]?=X.heap[b]?)->X.heap.size<=d.heap.size->d.os=X.os->f q d) (a9:∀q X,f q X->∃o:Obj,X.heap[c]?=J o/\o.isCells=Z) (h0:f [] w) (aa:β->H->Act) (L:β->Obj)
  (ar:∀ (l:H) (i:S α->Wj->Prop) (W:Wj),W.heap.size=w.heap.size+2->(∀b,b<w.heap.size->W.heap[b]?=w.heap[b]?) ->
   (∀q X d,i q X->(∀b,b<w.heap.size+2->d.heap[b]?=X.heap[b]?)->X.heap.size<=d.heap.size->d.os=X.os->i q d)->(∀q X,i q X->w.heap.size+2<=X.heap.size) ->
   (∀q x X,Oi q x->i q X->YieldAt (wf N) 0 P l (encs x) X λe X'=>e=Rc (C Y)/\i (q++[π x]) X'/\eN t X X')->i [] W ->
   Calls P gf (#[.func (.yield l) #[] #[]]++lb) W λe W'=>(∃v,e=Rc v)/\i G W')
  (B:∀ (l:H) (x:β) (W:Wj) (k:Act->Wj->Prop),k (aa x W.heap.size) (W.alloc (L x))->assign.wpIn (wf (J l)) 0 P (Exit.then k (λ_ _ _=>False)) {tmps:=(ps.zip (encs x)).foldl (λt (p,v)=>t.setIfInBounds p v) a.tmps,defers:=[]} W)
  (ap:∀ (l:H) (q:S α) (x:β) (b:H) (W:Wj),Oi q x->f q W->W.heap[b]?=J (L x)->w.heap.size+2<=b->body.wpIn (wf (J l)) 0 P (λe _ W'=>e=.normal/\oO c t W W'/\f (q++[π x]) W') (aa x b) W)
  (ai:∀ (D:H) (W:Wj),w.heap.size<=D->f G W->W.heap[D]?=J (.deferred (J []))->j .normal {a with defers:={target:=.collected D,args:=#[]} :: a.defers} W):
  (Code.rangeFunc g ps assign body).wpIn (wf N) n P j a w:=by
 refine wpIn_rangeFunc ?_;intro fn hfn;obtain⟨r,s⟩:∃r:LoopState->Loop,r=λst=>{state:=st,pending:=N,fn,tmps:=a.tmps,params:=ps,assign,body,defers:=w.heap.size}:=⟨_,Q⟩
 obtain⟨W1,u⟩:∃W1,(w.alloc (.deferred (J []))).alloc (.loop (r .ready))=W1:=⟨_,Q⟩;have be:W1.heap[w.heap.size+1]?=J (.loop (r .ready)):=by
  rw[<-u];have:=aN (w.alloc (.deferred (J []))) (.loop (r .ready));rwa [World.size_alloc]at this
 have bo:W1.heap[w.heap.size]?=J (.deferred (J [])):=by
  rw[<-u];exact(Rb (by simp)).t (aN w _)
 have ac:∀b,b<w.heap.size->W1.heap[b]?=w.heap[b]?:=λb z=>by
  rw[<-u,Rb (by simp;omega),Rb z]
 have a7:W1.heap.size=w.heap.size+2:=by rw[<-u];simp
 refine⟨w.heap.size+1,[{target:=.collected w.heap.size,args:=#[]}],W1,{target:=.fn (.func gf) lb,args:=#[.func (.yield (w.heap.size+1)) #[] #[]]},W1,gf,
  #[.func (.yield (w.heap.size+1)) #[] #[]]++lb,W1,?_,?_,λ_ _=>trivial,?_,(λh=>by cases h),?_⟩
 .rw [<-u,s];exact run_enterLoop_outer _ _ _ _ _
 .simp [resolve,hg];simp[go_sem]
 .simp [invoke,go_sem,eg]
 .refine callsIn_wide.2 ((ar (w.heap.size+1) (λq W=>f q W/\W.heap[w.heap.size+1]?=J (.loop (r .ready))/\W.heap[w.heap.size]?=J (.deferred (J []))) W1 a7 ac (λq X d h h1 h2 h3=>⟨hI q X d h.1 (λb z=>h1 b (by omega)) h2 h3,(h1 _ (by omega)).t h.2.1,(h1 _ (by omega)).t h.2.2⟩) (λq X h=>(eS h.2.1).1) ?_ ⟨hI _ _ _ h0 ac (by omega) (by rw[<-u];rfl),be,bo⟩).m ?_)
  .rintro q x X af ⟨hi,T,hk⟩;have ad:=(eS T).1;have hy:=run_yield (P:=P) (args:=encs x) T (by rw[s];exact bk x);rw[s]at hy;refine⟨fn,_,assign,body,hy,roundIn_of_wpIn (F:=wf N) trivial (B _ x X _ ?_)⟩;obtain⟨X1,A⟩:∃X1,X.alloc (L x)=X1:=⟨_,Q⟩;have bn:X1.heap[X.heap.size]?=J (L x):=by rw[<-A];exact aN X _
   have R:∀b,b<X.heap.size->X1.heap[b]?=X.heap[b]?:=λb z=>by rw[<-A];exact Rb z
   have hs1:X1.heap.size=X.heap.size+1:=by rw[<-A];simp
   have ab:X1.os=X.os:=by rw[<-A];rfl
   rw[A];have a0:eN t X X1:=⟨by omega,ab,λb o z _ _=>(R b (eS z).1).t z⟩;have hi:=hI _ _ _ hi (λb z=>R b (by omega)) (by omega) ab;have T:=(R _ ad).t T;generalize X.heap.size=bx at *;have ad:=(eS T).1;refine⟨_,run_beginRound T (by rw[s]),?_⟩;obtain⟨X2,y⟩:∃X2,X1.putObj (w.heap.size+1) (.loop {r .ready with state:=.busy})=X2:=⟨_,Q⟩;have bd:X2.heap[w.heap.size+1]?=J (.loop {r .ready with state:=.busy}):=by rw[<-y];exact n8 ad
   have av:∀b,b≠w.heap.size+1->X2.heap[b]?=X1.heap[b]?:=λb z=>by rw[<-y];exact pO z
   have hsz2:X2.heap.size=X1.heap.size:=by rw[<-y];simp
   have a2:X2.os=X1.os:=by rw[<-y];rfl
   have a4:=hI _ _ _ hi (λb z=>av b (by omega)) (by omega) a2;have a6:eN t X1 X2:=by rw[<-y];exact ip T Q _
   rw[y];refine wpIn_mono (ap _ q x bx _ af a4 ((av _ (by omega)).t bn) (by omega)) ?_;rintro e a3 X3 ⟨rfl,al,bl⟩;have aj:=(al.2.2 _ (by omega) (by omega) (by omega)).t bd;have bi:=(al.2.2 _ (by omega) (by omega) (by omega)).t ((av _ (by omega)).t ((R _ (by omega)).t hk));have a1:=run_endRound (P:=P) N aj;have hfin:({r .ready with state:=.busy}:Loop)={r .ready with state:=.busy}:=rfl;have e4:({({r .ready with state:=.busy}:Loop)with state:=if(N:lk Code).isNone then .ready else .done,pending:=N}:Loop)=r .ready:=by rw[s];rfl
   rw[e4]at a1;have a8:=(eS aj).1;refine⟨_,_,a1,Q,⟨hI _ _ _ bl (λb z=>pO (by omega)) (by simp) Q,n8 a8,(pO (by omega)).t bi⟩,a0.t (a6.t ((al.cells (a9 _ _ a4)).t (ip aj Q _)))⟩
  .rintro e W2 ⟨⟨v,rfl⟩,hi,T,hk⟩;have a5:=run_endLoop (P:=P) T (by rw[s];simp);have bb:(r .ready).pending=none:=by rw[s]
   rw[bb]at a5;exact⟨N,_,a5,ai w.heap.size _ Q0 (hI _ _ _ hi (λb z=>pO (by omega)) (by simp) Q) ((pO (by omega)).t hk)⟩
end
noncomputable def JR:Code:=Cp (cIn (dr (dr (dr (cD xt)))))
noncomputable def Mx:kr Oper:=qh (cIn JR)
structure WdV (W1:Wj)(c:H)(buf:S Wx)(it:Wx)(d:H->Bool)(w:Wj):Prop where
 below:d 4=Z->Below W1.heap.size W1 w
 done:d 4=Y->∃w1,Below W1.heap.size W1 w1/\w=w1.setChan c 1000 (buf++[it]).toArray Z (buf.length+1) 0 Z
section
variable {W1:Wj} {c:Nat} {buf:List Wx} {it:Wx} {d:Nat->Bool} {w:Wj}
theorem WdV.other(h:WdV W1 c buf it d w){n}(a:4≠n):WdV W1 c buf it (fj d n) w:=⟨λe=>h.below (by rwa [eH a]at e),λe=>h.done (by rwa [eH a]at e)⟩
theorem WdV.more(h:WdV W1 c buf it d w)(a:d 4=Z){X}(b:Below w.heap.size w X):WdV W1 c buf it (fj d 3) X:=⟨λ_=>(h.below a).t (b.m (h.below a).size),λe=>by rw[eH (by omega),a]at e;cases e⟩
theorem WdV.NQ(h:WdV W1 c buf it d w)(a:d 4=Z):WdV W1 c buf it (fj d 4) (w.setChan c 1000 (buf.toArray.push it) Z (buf.length+1) 0 Z):=⟨λe=>by simp[fj]at e,λ_=>⟨w,h.below a,by simp⟩⟩
end
theorem F8{gf n l}{D}{W}{b5 b7 b9 c}{k}{v}{buf}(hs:D.tmps.size=27)(e5:D.eval (Rh 5)=ptr b5)(e7:D.eval (Rh 7)=ptr b7)(e9:D.eval (Rh 9)=ptr b9)
  (c5:W.cell? ⟨b5,0,N⟩=J (U ⟨k.toArray⟩)) (c7:W.cell? ⟨b7,0,N⟩=J (.chan (J c))) (c9:W.cell? ⟨b9,0,N⟩=J (I K v.num)/\W.cell? ⟨b9,1,N⟩=J (U v.body)/\W.cell? ⟨b9,2,N⟩=J (C v.mark)) (hc:W.heap[c]?=J (.chan 1000 buf.toArray Z buf.length 0 Z)) (B:buf.length<1000)
  (L:∀a w1,a.tmps.size=27->a.defers=D.defers->Below W.heap.size W w1->b .normal a (w1.setChan c 1000 (buf++[itVal (fR k v)]).toArray Z (buf.length+1) 0 Z)):
  (Code.region gf Mx Y).wpIn (wf (J l)) n Yq.prog b D W:=by
 obtain⟨W1,x⟩:∃W1:Wj,W1={W with drawn:=W.drawn+1}:=⟨_,Q⟩;have s:Below W.heap.size W W1:=by rw[x];exact⟨Q,Q,Q,Q0,λ_ _=>Q⟩
 have R:W1.heap.size=W.heap.size:=by rw[x]
 have aa:c<W1.heap.size:=by rw[R];exact(eS hc).1
 have hc:W1.heap[c]?=J (.chan 1000 buf.toArray Z buf.length 0 Z):=by rw[x];exact hc
 refine ir (ro:=J l) (a0:=D) (w0:=W) mixed 23 4
   (λi=>match i with| 0=>.chan (J c)| 1=>U ⟨k.toArray⟩| 2=>zL v|_=>itVal (fR k v))
   (WdV W1 c buf (itVal (fR k v))) (by omega) (by rfl) (by rfl) (λq a w i o hi F V r y=>?_) (λa w h1 h2 h3 h4 h5=>?_) ⟨λ_=>by rw[<-x];exact Q9,λe=>by cases e⟩
 have G:i<5:=(dn hi).1;have A:q.getD 4 Z=false:=by
  cases h:q.getD 4 Z with
  |false=>rfl
  |true=>
   exfalso;have l3:=y.dep (j:=4) (k:=3) (by rfl) h;have l0:=y.dep (j:=4) (k:=0) (by rfl) h;have l1:=y.dep (j:=3) (k:=1) (by rfl) l3;have l2:=y.dep (j:=3) (k:=2) (by rfl) l3;have P:=(dn hi).2;have T:∀j,j<5->q.getD j Z=true:=λj hj=>by
    rcases j with - | - | - | - | - |j;all_goals first|assumption|omega
   have h7:=T i G;simp[eG (by rw[V.len];exact G)]at P h7;rw[P]at h7;cases h7
 have z:=V.world.below A;have p:=F;dsimp only[Mx,JR,Cp,cIn,cD,xt,i8,dr,qh,Option.getD]at p;rcases i with - | - | - | - | - |i;simp at p;subst p;have u:=(V.old 7 (by omega)).t e7;refine ay F rfl (λc h=>by cases h) (v:=.chan (J c)) (w':=w) (by generalize a.eval=ρ at u ⊢;simp[go_sem,u,ptr,ag z (ag s c7)]) ⟨_,Q,λ_=>Q,V.world.other (by omega)⟩;simp at p;subst p;have u:=(V.old 5 (by omega)).t e5;refine ay F Q (λc h=>by cases h) (v:=U ⟨k.toArray⟩) (w':=w) (by generalize a.eval=ρ at u ⊢;simp[go_sem,u,ptr,ag z (ag s c5)]) ⟨_,Q,λ_=>Q,V.world.other (by omega)⟩;simp at p;subst p;have u:=(V.old 9 (by omega)).t e9;refine ay F Q (λc h=>by cases h) (v:=zL v) (w':=w) (by generalize a.eval=ρ at u ⊢;simp[go_sem,u,ptr,zL,ag z (ag s c9.1),ag z (ag s c9.2.1),ag z (ag s c9.2.2)]) ⟨_,Q,λ_=>Q,V.world.other (by omega)⟩;simp at p;subst p;have u:=V.new 1 (by omega) (r ⟨1,.data⟩ (by simp) Q);have q1:=V.new 2 (by omega) (r ⟨2,.data⟩ (by simp) Q);refine jQ (f:=136) (args:=#[U ⟨k.toArray⟩,zL v]) (w':=w) F Q (λc h=>by cases h) (by have qf:=hfun a Q 136;generalize a.eval=ρ at u q1 qf ⊢;simp[go_sem,u,q1,qf]) ((Ji k v w).m ?_);rintro e X ⟨rfl,hX⟩;exact⟨_,Q,_,Q,λ_=>Q,V.world.more A hX⟩;simp at p;subst p;exact qm F Q Q (V.new 0 (by omega) (r ⟨0,.data⟩ (by simp) Q)) ((z.block c aa).t hc) (by simpa using B) ⟨_,Q,λh=>lj h (by omega),by rw[(V.new 3 (by omega) (r ⟨3,.data⟩ (by simp) Q))];exact V.world.NQ A⟩;omega;obtain⟨d,hd,z⟩:=h5;obtain⟨w1,hb,rfl⟩:=z.done (hd 4 (by decide));exact L a w1 (h1.t hs) h2 (s.t (by rw[R]at hb;exact hb))
def oA(n c:H)(p d af:ey)(k:S gI)(hv e b a:Wx):kr Wx:=
 #[Rd #[C Y,U p,U d,U af],U ⟨k.toArray⟩,hv,.chan (J c),ptr n,ptr (n+1),Wo,ptr (n+2),Wo,e,O (J ⟨n,0,N⟩),C Y,C Z,Wo,Wo,Wo,Wo,Wo,Wo,hv,.func (.func 145) #[] #[ptr (n+3)],b,a,Wo,Wo,Wo,Wo]
def svW(w:Wj)(c:H)(p d af:ey)(k:S gI)(hv:Wx):Wj:=
 (((w.alloc (E #[C Y,U p,U d,U af] 84)).alloc (E #[U ⟨k.toArray⟩] 9)).alloc (E #[.chan (J c)] 204)).alloc (E #[hv] 105)
section
variable (w:Wj) (c:Nat) (p d af:ey) (k:List gI) (hv:Wx)
theorem gm:(svW w c p d af k hv).heap.size=w.heap.size+4:=by simp only[svW,pt,vx]
theorem zN{n}(h:n<w.heap.size):(svW w c p d af k hv).heap[n]?=w.heap[n]?:=by
 simp only[svW,pt,gP,vx]
 grind
theorem zP i(h:i<4):(svW w c p d af k hv).heap[w.heap.size+i]?=(#[E #[C Y,U p,U d,U af] 84,E #[U ⟨k.toArray⟩] 9,E #[.chan (J c)] 204,E #[hv] 105]:kr Obj)[i]?:=by
 simp only[svW,pt,gP,vx]
 grind
end
theorem Jj{w:Wj}{a:Addr}{v:Wx}(h:w.cell? a=J v):∃o:Obj,w.heap[a.block]?=J o/\o.isCells=true:=by
 unfold nF at h;cases b:w.heap[a.block]? with
 |none=>rw[b]at h;cases h
 |some o=>
  rw[b]at h;cases o<;>first|exact⟨_,Q,Q⟩|(cases h)
structure SvI (w:Wj)(c:H)(k:S gI)(buf:S Wx)(w6:Wj)(pre:S Ver)(X:Wj):Prop where
 os:X.os=w.os
 size:w6.heap.size<=X.heap.size
 block:∀b,b<w6.heap.size->b≠c->X.heap[b]?=w6.heap[b]?
 ch:X.heap[c]?=J (.chan 1000 (buf++(pre.map (fR k)).map itVal).toArray Z (buf.length+pre.length) 0 Z)
section
attribute [local go_sem] Oper.semAt_some mN
theorem xM q(a4:q.vs=Y):jC q:=by
 intro A k hv h c buf w hh a8 hl hc L;obtain⟨vs,p,d,af⟩:=q;simp only at a4;subst a4;have a9:=(eS hc).1;have ai:bM Y k h=h.reverse.map (fR k):=rfl;have av:(bM Y k h).length=h.length:=by rw[ai];simp
 simp[av]at L ⊢;rw[ai];have ac:aA h≠[]:=by
  cases h with
  |nil=>exact lj Q a8
  |cons a r=>simp[aA]
 obtain⟨a0,a1,rfl,-,hx⟩:=hh;obtain⟨g,rfl,-,bk,P⟩:=hx ac;have hvl:(aA h).length=h.length*3:=cF 3 _ (λ_=>Q) h;obtain⟨hv,aa⟩:∃hv,hv=Value.slice (J ⟨g,0,N⟩) h.length a1:=⟨_,Q⟩;have a2:=List.length_pos_iff.2 ac;have⟨og,T,V⟩:=Jj (a:=⟨g,0,N⟩) ((P 0 a2).t (eL a2));have ap:c<(svW w c p d af k hv).heap.size:=by rw[gm];omega
 have hgc:g≠c:=λe=>by
  subst e;rw[T]at hc;cases hc;cases V
 refine(callsIn_wide (n:=0)).1 (callsIn_of_wp_marks (F:=Fence.wide) (Yq.nq Tryz.func119) Q trivial ((wpIn_wide (n:=0)).2 ?_));generalize hQ:bodyPostM Fence.wide 0 Yq.prog xt _=y;simp only[Tryz.ntmps119,lZ,lC,lN,Nat.reduceAdd,Nat.reduceSub,wz,xb,tb,sT,uc,tn];have HQ:=aq hQ;have HX:=gB hc L T V P;clear hQ hc L T V P ai av hx;unfold qV;rw[<-aa];have be:=aq aa;have bb:∃a n c,hv=M a n c:=⟨_,_,_,aa⟩;clear aa;go_wp2_with (go_at_call 135;refine(zM hv _ bb).m ?_;rintro e w6 ⟨rfl,rfl⟩)
 refine wpIn_wide.1 (show Code.wpIn (wf N) 0 Yq.prog _ (Exit.inBlock 0 y) ⟨oA w.heap.size c p d af k hv Wo Wo Wo,[]⟩ (svW w c p d af k hv)from ?_);have⟨hc,L,T,V,P⟩:=HX.o;refine Dd (α:=Ver) (β:=H×Ver) (encs:=λx=>#[I K x.1,zL x.2]) (gf:=145) (lb:=#[ptr (w.heap.size+3)]) (λx=>x.2) Q (λargs wx=>by go_simp) (λ_=>Q) c w.heap.size ap (by rw[gm];omega)
  (SvI w c k buf (svW w c p d af k hv)) (λG x=>G++[x.2] <+:h.reverse) h.reverse (λG X B f h1 h2 h3=>⟨h3.t f.os,lT f.size h2,λb hb ad=>(h1 b hb).t (f.block b hb ad),(h1 c ap).t f.ch⟩) (λG X f=>⟨_,f.ch,Q⟩) ⟨Q,Q0,λ_ _ _=>Q,by rw[zN w c p d af k hv a9,hc];simp⟩
  (λx b=>⟨oA w.heap.size c p d af k hv (ptr b) (I K x.1) (zL x.2),[]⟩) (λx=>E #[I K x.2.num,U x.2.body,C x.2.mark] 72) ?call ?assign ?body ?done
 case call=>
  intro l u W hW1 ar hst hsz hy bd;have a6:=(ar _ (by rw[gm];omega)).t (zP w c p d af k hv 3 (by omega));rw[be.o]at a6;have a3:=(ar g (by rw[gm];omega)).t ((zN w c p d af k hv bk).t T);exact LA l (w.heap.size+3) w.heap.size g a1 h hl u (by omega) (by omega) (λG i v X h1 h2=>hy G (i,v) X h1 h2) W a3 V (λj hj=>(cB (a:=⟨g,j,N⟩) (a3.t T.s)).t (P j (by omega))) a6 bd
 case assign=>
  rintro l ⟨i,al,vb,mk⟩ W z hK;have e:(#[21,22].zip #[Value.int K i,zL ⟨al,vb,mk⟩]).foldl (λt x=>match x with|(p,v)=>t.setIfInBounds p v) (oA w.heap.size c p d af k hv Wo Wo Wo)=oA w.heap.size c p d af k hv Wo (I K i) (zL ⟨al,vb,mk⟩):=by
   simp[oA]
  show Code.wpIn _ _ _ _ _ ⟨(#[21,22].zip #[Value.int K i,zL ⟨al,vb,mk⟩]).foldl (λt x=>match x with|(p,v)=>t.setIfInBounds p v) (oA w.heap.size c p d af k hv Wo Wo Wo),[]⟩ _;rw[e];unfold oA zL;unfold oA zL at hK;gi_wp2;exact hK
 case body=>
  rintro l G ⟨i,v⟩ b W aj f hb hlt;have bi:(G++[v]).length<=h.length:=by have:=aj.length_le;rwa [sq]at this
  rw[lP,lS]at bi;have a7:=f.ch;rw[show buf.length+G.length=(buf++(G.map (fR k)).map itVal).length by simp]at a7;refine wpIn_block (F8 (b5:=w.heap.size+1) (b7:=w.heap.size+2) (b9:=b) (k:=k) (v:=v) (buf:=buf++(G.map (fR k)).map itVal) (c:=c) Q Q Q Q (by simp[nF,((f.block _ (by rw[gm];omega) (by omega)).t (zP w c p d af k hv 1 (by omega)))]) (by simp[nF,((f.block _ (by rw[gm];omega) (by omega)).t (zP w c p d af k hv 2 (by omega)))]) ⟨by simp[nF,hb],by simp[nF,hb],by simp[nF,hb]⟩ a7 (by simp;omega) (λa w1 e1 e2 R=>?_));have hcW:c<W.heap.size:=by have:=f.size;omega
  refine⟨Q,⟨?_,?_,λx hx ab _=>?_⟩,?_,?_,λx hx ab=>?_,?_⟩;rw[AC];exact R.size;exact R.os;rw[kE ab];exact R.block x hx;exact R.os.t f.os;rw[AC];exact lT f.size R.size;rw[kE ab,R.block x (by have:=f.size;omega)];exact f.block x hx ab;rw[nH (by have:=R.size;omega)];simp;omega
 case done=>
  intro D W hD f hK;have hQ:=HQ.o;subst hQ;refine⟨by simp,Rf ⟨_,_,Q,run_takeDeferred hK,?_⟩⟩;have a5:∀b,b<(svW w c p d af k hv).heap.size->(W.putObj D (.deferred N)).heap[b]?=W.heap[b]?:=λb hb=>pO (by omega)
  refine⟨Re #[],by simp[results,Tryz.results119,go_sem],Q,λb hb ad=>?_,?_,?_,?_⟩;rw[a5 b (by rw[gm];omega),f.block b (by rw[gm];omega) ad,zN w c p d af k hv hb];have:=f.size;rw[gm]at this;simp;omega;exact f.os;rw[a5 c ap,f.ch];simp
end
theorem My:Mw:=λs a m w b c=>Yq.strings_Index s a m w b c
theorem JS q:jB q/\jC q:=by
 refine⟨xL My q,?_⟩;cases h:q.vs with
 |false=>exact wE q h
 |true=>exact xM q h
end
section
open Go.RowKit
open Go.Conc Go.ConcX Go.ConcX.Gen
theorem jD.clean{W V}{D0:H->Prop}{v}{ops}(h:jD W v ops)(c:Clean D0 W V)(n:H->Question->H)d:jD (V.on n d) v ops:=by
 obtain⟨a,j,rfl,t⟩:=h.form;refine⟨⟨a,j,Q,λe=>?_⟩,h.sized,h.len⟩;obtain⟨b,f,rfl,l⟩:=t e;refine⟨b,f,Q,λi s=>?_⟩;have⟨r,u,k,m,q,o,p⟩:=l i s;exact⟨c.cell r Q,c.cell u Q,c.cell k Q,c.cell m Q,c.cell q Q,c.cell o Q,c.cell p Q⟩
def GE(w:Wj):Prop:=dH w/\um w
theorem GE.on{w w'}(h:GE w)(a:∀b,b<w.heap.size->w'.heap[b]?=w.heap[b]?):GE w':=⟨h.1.on a,h.2.on a⟩
theorem GE.NS{W V}(h:GE W)(hb:∀b,b<Tryz.prog.globals.size->V.heap[b]?=W.heap[b]?):GE V:=by
 refine⟨h.1.NS hb,?_⟩;have ht:=h.2;unfold um Lib.TabIs World.var? at *
 have hg : ∃ g, Yq.prog.globalNamed "internal/strconv.uint64pow10" = J g ∧ g < Tryz.prog.globals.size := ⟨_, show Yq.prog.globalNamed "internal/strconv.uint64pow10" = J 1 by kernel_rfl, of_decide_eq_true (by kernel_rfl)⟩
 obtain⟨g,e,hlt⟩:=hg;rw[e]at ht ⊢;simp only[Option.bind_some]at ht ⊢;rw[hb g hlt];exact ht
theorem Mz{d:Ren}{a:lk Addr}(h:∀b,slB a b->d b b)(n c:H):RV d (.slice a n c) (.slice a n c):=by
 cases a with
 |none=>exact .slice n c .none
 |some a=>exact .slice n c (.some ⟨h _ ⟨a,rfl,rfl⟩,rfl,rfl⟩)
end
section
open Go.Conc Go.ConcX Go.ConcX.Gen Go.RowKit
def F9(o:OpD):Prop:=o.kind<11\/12<o.kind
end
section
open Go.RowKit
theorem Ga(a:St)(L:Lg)(Ny:S ey)(o:OpD)(_:0<=a.last):(NC a L Ny o).1.last<=a.last+1:=by
 have h1:(aE a o).1.last<=a.last+1:=by
  unfold aE
  repeat' split
  all_goals simp[ce,cg]
  all_goals omega
 unfold NC
 grind
theorem Gc(a:lk Addr)b c w:
  Calls Yq.prog 7 #[M a 0 b,M (J ⟨c,0,N⟩) 0 0] w λe d=>e=Rc (C Y)/\Below w.heap.size w d:=by
 go_enter (Yq.nq Tryz.func7),Tryz.ntmps7;go_wp2_with fail
 refine wp_loop_rounds 1 ?_;rw[rounds_succ];go_wp2;go_ret;exact⟨Q,(Q9).alloc Q0 _⟩
theorem Gd{b:eW}{Pp:OpD->Prop}a(h:∀l,∀o∈a,Pp (ll b l o)):∀o∈dS b a,Pp o:=by
 have:∀ (a l:S OpD),(∀l,∀o∈a,Pp (ll b l o))->(∀o∈l,Pp o)->∀o∈a.foldl (λl o=>l++[ll b l o]) l,Pp o:=λa=>by
  induction a with
  |nil=>intro l _ c;exact c
  |cons x r ih=>
   grind
 exact this a [] h (by simp)
theorem zQ{gf k s}{y vL vT vA}{R}{nx G:eW}{P}{T}{d}{L}{Ny}w(b:aD gf w k y R nx G)(t:aH gf w k P T vL vT)(hK:rx w k vA Ny)(h:gf<=k)(a:Sim d R nx)(SL:gh L P T G s){Zq:S SvE->Prop}{c}(q:ec gf w k c (RwB y R))(p:Zq c)(hV:Inv d s)(j:d.last<=s)(hT:eR d)(x:L.opened.length<=3)(r:s<2199023255300)(v:Ny.length<=s)o(hk:F9 o)(hd:o.fe.size<=140737488351232)m
  (f:∀D,PFr gf k (RwB y R) w D->j6 D m (NC d L Ny o).2.2.items):
  Calls Yq.prog 12 #[O (J ⟨k,0,N⟩),aL o,Mt (NC d L Ny o).2.2 m] w (cQ gf k (NC d L Ny o).1 (NC d L Ny o).2.1 Zq s w):=by
 by_cases F:o.kind=8
 .have e:NC d L Ny o=(d,(dY L (eA Ny o.src o.body)).1,Fi (dY L (eA Ny o.src o.body))):=by simp[NC,F]
  rw[e]at f ⊢;obtain⟨L',z,i,A,X⟩:∃L' z i A,dY L (eA Ny o.src o.body)=(L',z,i,A):=⟨_,_,_,_,Q⟩;rw[X]at f ⊢;exact Dc w b t hK h a SL q p r v o F L' z i A X m f
 by_cases V:o.kind=9
 .have e:NC d L Ny o=(d,(fI L o.n).1,⟨(fI L o.n).2,0,⟨#[]⟩,[],⟨#[]⟩⟩):=by simp[NC,V]
  rw[e]at f ⊢;obtain⟨ia,ic,u,-⟩:=(f w PFr.refl).form;subst u;exact C8 w b t h a SL q p r o V ia ic
 by_cases l:o.kind=10
 .have e:NC d L Ny o=(d,L,⟨0,d.count,⟨#[]⟩,L.opened.map iT,⟨#[]⟩⟩):=by simp[NC,l]
  rw[e]at f ⊢;exact zK w b t a SL q p r x o l m f
 .exact F4 w b t h a SL q p hV j hT r o (by unfold F9 at hk;omega) hd Ny m f
end
