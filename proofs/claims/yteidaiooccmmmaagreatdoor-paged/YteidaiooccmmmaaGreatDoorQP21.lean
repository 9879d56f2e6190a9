/- A part. -/
import Derived.Test.YteidaiooccmmmaaGreatDoorQP20
set_option maxHeartbeats 4000000
set_option maxRecDepth 100000
open Go renaming World->Wj,Value->Wx
namespace Go.Proofs.Qw
open Option renaming none->N,some->J
open Bool renaming true->Y,false->Z
open Value renaming int->I,string->U,slice->M,pointer->O,bool->C
open IntKind renaming i64->K
open Obj renaming cells->E
variable {a b d u:Int}{P:List PlL}{L:Lg}{T:List PlT}{B k s:Nat}{R:List bD}{st:St}
open Tryz
section
open Go.Conc Go.ConcX Go.ConcX.Gen Go.RowKit
theorem kY{z:PlL×Nat}:z∈opens a P↔P[z.2]?=J z.1/\z.1.isOpen a=true:=by
 obtain⟨l,k⟩:=z;unfold opens;rw[List.mem_filter,List.mem_zipIdx_iff_getElem?]
theorem wJ(hu:0<=u)(P:List PlL):opens (a+u) P=(opens a P).filter λz=>z.1.isOpen (a+u):=by
 unfold opens;rw[List.filter_filter];refine List.filter_congr λz _=>?_
 unfold PlL.isOpen;cases z.1.gone
 .by_cases h:a+u<z.1.fin
  .simp [h];omega
  .simp [h]
 .rfl
theorem eU.tick(h:eU L P T a s)(u:Int)(j:0<=u/\u<=1000)(hs:s<2199023255340):eU (mi {L with tm:=IntKind.u64.wrap (L.tm+u)} u) P T (a+u) (s+1):=by
 have k:=h.time;have hf:=h.few;refine⟨⟨?_,by omega,by omega⟩,h.begun,by omega,?_,λl i=>by have:=h.lists l i;omega,h.toks,h.told,h.here⟩
 .show IntKind.u64.wrap (L.tm+u)=a+u;rw[k.1,E3 (by omega) (by omega)]
 .show ((L.opened.map λx=>x.again (x.left-u)).filter λx=>!decide (x.left<=0)).map LsA.key=_;have d:(L.opened.map λx=>x.again (x.left-u)).filter (λx=>!decide (x.left<=0))=(L.opened.filter λx=>!decide (x.left-u<=0)).map λx=>x.again (x.left-u):=by
   rw[List.filter_map];rfl
  let f:Int×Int×List ItD×Int->Int×Int×List ItD×Int:=λx=>(x.1,x.2.1-u,x.2.2)
  let p:Int×Int×List ItD×Int->Bool:=λx=>!decide (x.2.1-u<=0)
  have m:((L.opened.filter λx=>!decide (x.left-u<=0)).map λx=>x.again (x.left-u)).map LsA.key=((L.opened.map LsA.key).filter p).map f:=by
   rw[List.filter_map,List.map_map,List.map_map];rfl
  rw[d,m,h.opened,wJ j.1,List.filter_map,List.map_map];have e:(opens a P).filter (p∘zR a)=(opens a P).filter λz=>z.1.isOpen (a+u):=by
   refine List.filter_congr λz n=>?_
   have b:=(kY.1 n).2;show(!decide (z.1.fin-a-u<=0))=z.1.isOpen (a+u);unfold PlL.isOpen at b ⊢;rw[bT]at b;rw[b.1,Bool.true_and];by_cases c:a+u<z.1.fin
   .simp [c];omega
   .simp [c];omega
  rw[e];refine List.map_congr_left λz _=>?_
  show((z.2:Int)+1,z.1.fin-a-u,z.1.its,(z.1.page:Int))=((z.2:Int)+1,z.1.fin-(a+u),z.1.its,(z.1.page:Int));rw[show z.1.fin-a-u=z.1.fin-(a+u)by omega]
theorem eU.leases(h:eU L P T a s):L.opened.map fU=(opens a P).map λz=>⟨0,⟨#[]⟩,z.1.fin-a⟩:=by
 have e:=congrArg (List.map λx:Int×Int×List ItD×Int=>(⟨0,⟨#[]⟩,x.2.1⟩:ItD)) h.opened;rw[List.map_map,List.map_map]at e;exact e
theorem eU.nums(h:eU L P T a s):L.opened.map (·.num)=(opens a P).map λz=>(z.2:Int)+1:=by
 have e:=congrArg (List.map λx:Int×Int×List ItD×Int=>x.1) h.opened;rw[List.map_map,List.map_map]at e;exact e
theorem Al(c:Int)(P:List PlL):(opens c P).Pairwise λa b=>a.2<b.2:=by
 unfold opens;refine List.Pairwise.filter _ ?_;rw[List.pairwise_iff_getElem];intro i j hi hj hij;simp only[List.getElem_zipIdx];omega
theorem eU.at(h:eU L P T b s){x:LsA}(f:L.opened[B]?=J x):∃k l,(opens b P)[B]?=J (l,k)/\P[k]?=J l/\l.isOpen b=Y/\x.num=(k:Int)+1/\x.left=l.fin-b/\x.all=l.its/\x.size=(l.page:Int):=by
 have e:(L.opened.map LsA.key)[B]?=J x.key:=by rw[List.getElem?_map,f];rfl
 rw[h.opened,List.getElem?_map]at e;have⟨⟨l,k⟩,d,a⟩:=Option.map_eq_some_iff.1 e;have c:=kY.1 (List.mem_of_getElem? d);simp only[zR,LsA.key,Prod.mk.injEq]at a;exact⟨k,l,d,c.1,c.2,a.1.symm,a.2.1.symm,a.2.2.1.symm,a.2.2.2.symm⟩
theorem eU.shut{L:Lg}{P:List PlL}{T:List PlT}{a:Int}{s:Nat}(h:eU L P T a s){k:Nat}{l:PlL}(c:P[k]?=J l)(j:jZ ((k:Int)+1) L.opened=.none):l.isOpen a=false:=by
 cases d:l.isOpen a with
 |false=>rfl
 |true=>
  have b:(l,k)∈opens a P:=kY.2 ⟨c,d⟩;have f:((k:Int)+1)∈L.opened.map (·.num):=by rw[h.nums];exact List.mem_map.2 ⟨_,b,rfl⟩
  have⟨x,i,e⟩:=List.mem_map.1 f;have:=List.findIdx?_eq_none_iff.1 j x i;simp[e]at this
theorem C7{l:PlL}(r:(opens a P)[B]?=J (l,k))(x:Int)(u:a<x):opens a (setFin P k x)=(opens a P).set B ({l with fin:=x},k):=by
 have⟨c,b⟩:=sL r;have d:=kY.1 (List.mem_of_getElem? r);have⟨n,p⟩:=sL d.1;have t:l.gone=false:=by
  have:=d.2;unfold PlL.isOpen at this;rw[bT]at this;simpa using this.1
 have v:(setFin P k x).zipIdx=P.zipIdx.map λz=>if z.2=k then({l with fin:=x},k)else z:=by
  rw[fE n];refine List.ext_getElem (by simp) λj f s=>?_
  simp only[List.getElem_zipIdx,List.getElem_map,zA,List.getElem_set];by_cases h:k=j
  .subst h;simp[p]
  .rw [if_neg h,if_neg (λe=>h e.symm)]
 have A:opens a (setFin P k x)=(opens a P).map λz=>if z.2=k then({l with fin:=x},k)else z:=by
  unfold opens;rw[v,List.filter_map];congr 1;refine List.filter_congr λz y=>?_
  simp only[Function.comp];by_cases h:z.2=k
  .have m:z.1=l:=by
    have:=List.mem_zipIdx_iff_getElem?.1 y;rw[h,d.1]at this;exact(oJ this).symm
   rw[if_pos h,m,d.2];unfold PlL.isOpen;simp[t,u]
  .rw [if_neg h]
 rw[A];refine List.ext_getElem (by simp) λj f s=>?_
 simp only[List.getElem_map,List.getElem_set];rw[lM]at f;by_cases h:B=j
 .subst h;rw[if_pos rfl,if_pos (by rw[b])]
 .rw [if_neg h,if_neg λe=>?_];have q:=List.pairwise_iff_getElem.1 (Al a P);rcases Nat.lt_or_gt_of_ne h with o|o
  .have:=q B j c f o;rw[b,e]at this;exact absurd this (Nat.lt_irrefl _)
  .have:=q j B f c o;rw[b,e]at this;exact absurd this (Nat.lt_irrefl _)
theorem eU.next(h:eU L P T d s){t:PlT}(ht:t∈T){l:PlL}(u:P[t.ls]?=J l):
  (l.isOpen d=Z/\dO L t.text=(L,[],⟨#[]⟩,10))\/(l.isOpen d=Y/\∃L',dO L t.text=(L',(l.its.take ((t.pg+1)*l.page)).drop (t.pg*l.page),if(t.pg+1)*l.page<l.its.length then dM ((t.ls+1:Nat):Int) ((t.pg+1+1:Nat):Int)else⟨#[]⟩,0) /\
   eU L' (setFin P t.ls (d+10)) (if(t.pg+1)*l.page<l.its.length then T++[⟨dM ((t.ls+1:Nat):Int) ((t.pg+1+1:Nat):Int),t.ls,t.pg+1⟩]else T) d (s+1)):=by
 obtain⟨n,pg,hf⟩:∃n pg,dN t.text L.told=J (n,pg):=by
  cases e:dN t.text L.told with
  |none=>exact absurd e (h.here t ht)
  |some x=>exact⟨x.1,x.2,rfl⟩
 obtain⟨t',ab,e1,rfl,rfl⟩:=h.told _ _ _ hf;have et:t'.ls=t.ls/\t'.pg=t.pg:=by
  have h1:=(h.toks t ht).1;have a:=(h.toks t' ab).1;rw[e1,h1]at a;have:=um a;omega
 rw[et.1,et.2]at hf;have⟨l',R,hpl⟩:=(h.toks t ht).2;rw[u]at R;cases R;have D:=h.lists l (List.mem_of_getElem? u);cases hn:jZ ((t.ls:Int)+1) L.opened with
 |none=>
  refine .inl ⟨h.shut u hn,?_⟩;unfold dO;rw[hf];simp only[hn]
 |some i=>
  have⟨S,aa⟩:=List.findIdx?_eq_some_iff_getElem.1 hn;obtain⟨x,hx⟩:∃x,L.opened[i]?=J x:=⟨_,eL S⟩;have⟨k,l',o1,o2,o3,o4,o5,o6,o7⟩:=h.at hx;have ac:x.num=(t.ls:Int)+1:=by
   have h1:=aa.1;have a:L.opened[i]=x:=oJ ((eL S).symm.trans hx);rw[a]at h1;simpa using h1
  have hk:k=t.ls:=by omega
  subst hk;rw[u]at o2;cases o2;have H:t.pg<=1000:=by
   have:t.pg*1<=t.pg*l.page:=Nat.mul_le_mul_left _ D.1;omega
  have p1:=LsA.page_cut (x:=x) (p:=l.page) (i:=t.pg) o7 D.2.1 H (by rw[o6];omega);have A:=LsA.tok_cut (x:=x) (p:=l.page) (i:=t.pg) o7 D.2.1 H;rw[o6]at p1 A;rw[ac,show((t.ls:Int)+1)=((t.ls+1:Nat):Int)by omega,show((t.pg:Int)+2)=((t.pg+1+1:Nat):Int)by omega]at A;refine .inr ⟨o3,⟨L.opened.set i (x.again 10),L.begun,if x.tok ((t.pg:Int)+1)=⟨#[]⟩then L.told else j7 (x.tok ((t.pg:Int)+1)) ((t.ls:Int)+1,(t.pg:Int)+1+1) L.told,L.tm⟩,?_,?_⟩
  .unfold dO;rw[hf];simp only[hn,hx];rw[p1,A]
  .have y:=h.time;have hfew:=h.few;have B:=(sL u).1;have q:=fE B (d+10);have r:(setFin P t.ls (d+10)).length=P.length:=by rw[q,List.length_set]
   have o:∀ (j:Nat) (m:PlL),P[j]?=J m->∃v:PlL,(setFin P t.ls (d+10))[j]?=J v/\v.page=m.page/\v.its=m.its:=λj m hj=>by
    rw[q,List.getElem?_set];by_cases hq:t.ls=j
    .subst hq;rw[if_pos rfl,if_pos B];rw[u]at hj;cases hj;exact⟨_,rfl,by rw[(sL u).2],by rw[(sL u).2]⟩
    .rw [if_neg hq];exact⟨m,hj,rfl,rfl⟩
   have f:(L.opened.set i (x.again 10)).map LsA.key=(opens d (setFin P t.ls (d+10))).map (zR d):=by
    rw[C7 o1 _ (by omega),List.map_set,List.map_set,h.opened];congr 1;simp only[LsA.key,zR,LsA.again];have ea:({x with left:=10}:LsA).all=x.all:=rfl;rw[ea,o6,o4,o7,show d+10-d=10 by omega]
   have c:∀m∈setFin P t.ls (d+10),1<=m.page/\m.page<=20/\m.its.length<=200/\m.fin<=1000*((s+1:Nat):Int)+10/\0<=m.fin:=λm hm=>by
    rw[q]at hm;rcases List.mem_or_eq_of_mem_set hm with hm|rfl
    .have:=h.lists m hm;omega
    .have:=h.lists _ (List.getElem_mem B);simp only;omega
   by_cases b:(t.pg+1)*l.page<l.its.length
   .rw [if_pos b]at A ⊢;rw[A,if_neg (nG _ _)];refine⟨⟨y.1,y.2.1,by omega⟩,by rw[r];exact h.begun,by rw[r,lP];simp only[lS];omega,f,c,λz a=>?_,λk n pg e=>?_,λz a=>?_⟩
    .rcases List.mem_append.1 a with a|a
     .have ⟨Q,m,X,q3⟩:=h.toks z a;obtain⟨v,G,V,F⟩:=o _ _ X;exact⟨Q,v,G,by rw[V,F];exact q3⟩
     .rw [List.mem_singleton.1 a];obtain⟨v,G,V,F⟩:=o _ _ u;exact⟨rfl,v,G,by rw[V,F];exact b⟩
    .simp only[fo]at e;split at e
     .rename_i e3;cases e;exact⟨_,List.mem_append_right _ (List.mem_singleton.2 rfl),e3.symm,by simp only,by simp only;omega⟩
     .have ⟨z,Q,X⟩:=h.told k n pg e;exact⟨z,List.mem_append_left _ Q,X⟩
    .simp only[fo];split
     .simp
     .rename_i e3;rcases List.mem_append.1 a with a|a
      .exact h.here z a
      .exact absurd (by rw[List.mem_singleton.1 a]) e3
   .rw [if_neg b]at A ⊢;rw[A,if_pos rfl];refine⟨⟨y.1,y.2.1,by omega⟩,by rw[r];exact h.begun,by rw[r];omega,f,c,λz a=>?_,h.told,h.here⟩;have⟨Q,m,X,q3⟩:=h.toks z a;obtain⟨v,G,V,F⟩:=o _ _ X;exact⟨Q,v,G,by rw[V,F];exact q3⟩
end
section
open Go.RowKit
theorem ax.set2{w:Wj}{c:Wx}(H:ax B w k c R u d)(tm':Int):ax B (w.setCell ⟨k,2,N⟩ (I K tm')) k c R u tm':=
 ⟨H.cells.set2 _,H.row.kept (cF w k 2 _) (Or.inr H.apart),λe a=>(H.vers e a).kept (cF w k 2 _) (Or.inr (H.apartV e a)),H.apart,H.apartV,H.apartE,H.pw⟩
theorem aF.set2{w:Wj}{F vT:Wx}(h:aF B w k P T F vT)(v:Wx):aF B (w.setCell ⟨k,2,N⟩ v) k P T F vT:=
 h.keep (cO w ⟨k,2,N⟩ ⟨k,3,N⟩ v (λe=>by have:=congrArg Addr.off e;simp only at this;omega)) (cO w ⟨k,2,N⟩ ⟨k,4,N⟩ v (λe=>by have:=congrArg Addr.off e;simp only at this;omega)) (λj=>by simp) λg _ b _ _=>bS _ _ _ _ b
theorem Am{vT F X:Wx}{x i:Int}(w:Wj)(H:ax B w k vT R x i)(hP:aF B w k P T F X)(ab:B<=k)(S:Sim st R x)(SL:eU L P T i s)(hs:s<2199023255300)(o:OpD)(hk:o.kind=9)(l:Option Addr)(j:Nat):
  Calls Yq.prog 9 #[O (J ⟨k,0,N⟩),aT o,jy ⟨(eR L o.n).2,0,⟨#[]⟩⟩ l j] w (cZ B k st (eR L o.n).1 s w):=by
 obtain⟨kind,f,c,b,d,a,h⟩:=o;simp only at hk ⊢;subst hk;have m:=hP.lt;have htm:=SL.time;have HH:Hid (ax B w k vT R x i/\aF B w k P T F X/\B<=k/\Sim st R x/\eU L P T i s):=⟨H,hP,ab,S,SL⟩;have c2:=H.cells.c2;have ad:=H.cells.fz 2;clear H hP S SL;unfold aT;by_cases v:a<0\/1000<a
 .have e:eR L a=(L,11):=by rw[eR,if_pos v]
  rw[e];have HC:Hid (∀u,Below ((w.alloc (E #[I K 9,U f,U c,U b,U d,I K a,I K h] 30)).alloc (E #[I K 11,I K 0,U ⟨#[]⟩,M l 0 j,U ⟨#[]⟩] 46)).drew.heap.size ((w.alloc (E #[I K 9,U f,U c,U b,U d,I K a,I K h] 30)).alloc (E #[I K 11,I K 0,U ⟨#[]⟩,M l 0 j,U ⟨#[]⟩] 46)).drew u->cy u (w.heap.size+1) (I K 11) (I K 0) (U ⟨#[]⟩) (M l 0 j) (U ⟨#[]⟩)/\Below w.heap.size w u):=λu A=>by
   have h5:=jx (w.alloc (E #[I K 9,U f,U c,U b,U d,I K a,I K h] 30)) (I K 11) (I K 0) (U ⟨#[]⟩) (M l 0 j) (U ⟨#[]⟩) 46;rw[show(w.alloc (E #[I K 9,U f,U c,U b,U d,I K a,I K h] 30)).heap.size=w.heap.size+1 by simp]at h5;have hb:Below w.heap.size w ((w.alloc (E #[I K 9,U f,U c,U b,U d,I K a,I K h] 30)).alloc (E #[I K 11,I K 0,U ⟨#[]⟩,M l 0 j,U ⟨#[]⟩] 46)).drew:=(((bR _ w).alloc (lR _) _).alloc (by simp) _).drew;exact⟨(h5.on ((bR _ _).drew)).on A,hb.trans (A.mono hb.size)⟩
  have HS:=eM ⟨11,0,⟨#[]⟩⟩ l j;have HN:=eF 11;unfold aD jy at HS;unfold aD at HN;unfold jy;rcases v with v|v;all_goals
   first|have hu':¬a<0:=by omega|skip
   go_enter (Yq.nq func9),ntmps9
   go_upto_region 15 with fail
   go_region_with (first
    |(go_at_call 30;refine(HN _).mono ?_;rintro e u ⟨rfl,A⟩;have⟨⟨d0,d1,d2,d3,d4⟩,y⟩:=HC.out u A;have D:Hid (Below w.heap.size w u):=y;clear A y)
    |(go_at_call 26;refine(HS _).mono ?_;rintro e w3 ⟨rfl,G⟩))
   all_goals
    go_wp2_with fail
    go_ret;have q:=D.out.trans (G.mono D.out.size);exact cZ.mk (HH.out.1.below q) (HH.out.2.1.below q) HH.out.2.2.2.1 (HH.out.2.2.2.2.mono (by omega)) (PFr.below m q)
 .have e:eR L a=(mi {L with tm:=IntKind.u64.wrap (L.tm+a)} a,0):=by rw[eR,if_neg v]
  rw[e];have aa:Hid (eU (mi {L with tm:=IntKind.u64.wrap (L.tm+a)} a) P T (i+a) (s+1)):=HH.out.2.2.2.2.tick a (by omega) (by omega);have hu1:¬a<0:=by omega
  have hu2:¬(1000:Int)<a:=by omega
  clear v e;have HS:=eM ⟨0,0,⟨#[]⟩⟩ l j;unfold aD jy at HS;unfold jy;simp only at HS ⊢;generalize mi {L with tm:=IntKind.u64.wrap (L.tm+a)} a=L' at *;go_enter (Yq.nq func9),ntmps9
  go_upto_region 16 with fail
  have⟨W,hW,t⟩:=oS w 9 f c b d a h (I K 0) (I K 0) (U ⟨#[]⟩) (M l 0 j) (U ⟨#[]⟩);rw[hW];have HW:Hid _:=t;have n5:W.cell? ⟨w.heap.size,5,N⟩=J (I K a):=t.2.1 5;clear hW t;have ac:=ah HW.out.1 c2;have z:W.frozen? ⟨k,2,N⟩=false:=(HW.out.1.frozen (p:=⟨k,2,N⟩) m).trans ad
  go_cut [56] (λ_ V=>ax B V k vT R x (i+a)/\aF B V k P T F X/\PFr B k w V/\cy V (w.heap.size+1) (I K 0) (I K 0) (U ⟨#[]⟩) (M l 0 j) (U ⟨#[]⟩))
  case first=>
   go_region
   all_goals
    go_wp2_with fail
    go_meet
    case rel=>
     have hd:Below (W.setCell ⟨k,2,N⟩ (I K (i+a))).heap.size (W.setCell ⟨k,2,N⟩ (I K (i+a))) (W.setCell ⟨k,2,N⟩ (I K (i+a))).drew:=(bR _ _).drew;have X1:=(HH.out.1.below HW.out.1).set2 (i+a);have X2:=(HH.out.2.1.below HW.out.1).set2 (I K (i+a));refine⟨X1.below hd,X2.below hd,((PFr.below m HW.out.1).trans (PFr.set HH.out.2.2.1 2 (by omega) _)).trans (PFr.below X1.lt hd),HW.out.2.2.block ?_⟩;exact bS _ _ _ _ (show w.heap.size+1≠k by omega)
  case rest=>
  obtain⟨X1,X2,X3,⟨d0,d1,d2,d3,d4⟩⟩:=hcut;have HX:Hid (ax B wc k vT R x (i+a)/\aF B wc k P T F X/\PFr B k w wc):=⟨X1,X2,X3⟩;clear X1 X2 X3 HW n5 ac z;go_wp2_with fail
  refine(HS _).mono ?_;rintro e w3 ⟨rfl,G⟩;have r:Hid (Below wc.heap.size wc w3):=G;clear G HS;go_wp2_with fail
  go_ret;exact cZ.mk (HX.out.1.below r.out) (HX.out.2.1.below r.out) HH.out.2.2.2.1 aa.out (HX.out.2.2.trans (PFr.below HX.out.1.lt r.out))
def dk(tm:Int)(P:List PlL)(i:Nat):List ItD:=((P.take i).filter (PlL.isOpen tm)).map λl=>⟨0,⟨#[]⟩,l.fin-tm⟩
theorem wK(a:Int)(P:List PlL)(i:Nat)(h:i<P.length):dk a P (i+1)=if P[i].isOpen a then dk a P i++[⟨0,⟨#[]⟩,P[i].fin-a⟩]else dk a P i:=by
 unfold dk;rw[tS h,List.filter_append,List.map_append];by_cases b:P[i].isOpen a=Y<;>simp[b]
theorem An(a:Int)(P:List PlL):dk a P P.length=(opens a P).map λz=>⟨0,⟨#[]⟩,z.1.fin-a⟩:=by
 have e:P.filter (PlL.isOpen a)=(opens a P).map (·.1):=by
  conv=>lhs;rw[<-List.zipIdx_map_fst 0 P]
  rw[List.filter_map];rfl
 unfold dk;rw[List.take_length,e,List.map_map];rfl
theorem Ao(a:Int)(P:List PlL)(i:Nat):(dk a P i).length<=(opens a P).length:=by
 rw[un];unfold dk;rw[lM]
 conv=>rhs;rw[<-List.take_append_drop i P]
 rw[List.filter_append,lP];omega
theorem Yq.infoItemR:(Yq.prog.info? 117).map (λi=>(i.zero,i.size,i.bytes))=J (J (.agg #[I K 0,U ⟨#[]⟩,I K 0]),3,32):=by kernel_rfl
theorem Ap{sl vL vT:Wx}{nx:Int}(w:Wj)(H:ax B w k sl R nx a)(hP:aF B w k P T vL vT)(S:Sim st R nx)(SL:eU L P T a s)(hs:s<2199023255300)(ap:L.opened.length<=3)(t:Wx)(hI:∀p,Below w.heap.size w p->gi p t (L.opened.map fU)):
  Calls Yq.prog 31 #[O (J ⟨k,0,N⟩),.agg #[I K 0,I K st.count,U ⟨#[]⟩,t,U ⟨#[]⟩]] w λe p=>e=.returned (C Y)/\Below w.heap.size w p:=by
 have⟨i0,a7,af,ar,av⟩:=info_parts Yq.infoItemR;have x:=S.count;have a0:=gl R S.full;have hlim:=S.lim;have htm:=SL.time;have hfew:=SL.few;rw[SL.leases,<-An]at hI;have z:∀i,(dk a P i).length<=3:=λi=>lT (Ao a P i) (by rw[SL.count];exact ap)
 have HC:Hid (∀W,Below w.heap.size w W->Calls Yq.prog 63 #[O (J ⟨k,0,N⟩)] W λe p=>e=.returned (I K (totR R:Int))/\W=p):=λW q=>mo B k sl R nx a W (H.below q) a0 (by omega)
 have HH:Hid (ax B w k sl R nx a/\aF B w k P T vL vT/\eU L P T a s/\(∀p,Below w.heap.size w p->gi p t (dk a P P.length))/\∀i,(dk a P i).length<=3):=⟨H,hP,SL,hI,z⟩;obtain⟨va,vc,a6,-⟩:=az hP.rowL;subst a6;have c2:=H.cells.c2;have c3:=hP.c3;rw[x];clear H hP S SL hI z x;go_enter (Yq.nq func31),ntmps31;go_wp2_with fail
 have HW:Hid (Below w.heap.size w (w.alloc (E #[I K 0,I K (totR R:Int),U ⟨#[]⟩,t,U ⟨#[]⟩] 46))/\cy (w.alloc (E #[I K 0,I K (totR R:Int),U ⟨#[]⟩,t,U ⟨#[]⟩] 46)) w.heap.size (I K 0) (I K (totR R:Int)) (U ⟨#[]⟩) t (U ⟨#[]⟩)):=⟨(bR _ w).alloc (lR _) _,jx w _ _ _ _ _ _⟩;generalize w.alloc (E #[I K 0,I K (totR R:Int),U ⟨#[]⟩,t,U ⟨#[]⟩] 46)=W at *
 go_loopw [5,6] (λs5 s6 wr=>∃i:Nat,i<=P.length/\s6=I K i/\wr.ownsRow W.heap.size 117 3 s5 (dk a P i).length (an (dk a P i))/\Below W.heap.size W wr) (λ_ s6 _=>P.length-(intOf s6).toNat)
 case atStart=>exact⟨0,Nat.zero_le _,rfl,World.ownsRow_nil _ _ _ _,bR _ _⟩
 case round=>
  obtain⟨i,hin,rfl,c,q⟩:=hrel;obtain⟨V,sc,rfl,-⟩:=az c;have d:Hid (Below w.heap.size w wr):=HW.out.1.trans (q.mono HW.out.1.size);have A:=ah d.out c2;have F:=ah d.out c3;have z:=HH.out.2.2.2.2 i;by_cases j:i<P.length
  .have hii:(i:Int)<(P.length:Int):=by omega
   obtain⟨g,cap,he,-,hg,-,-,e2,-⟩:=C0 HH.out.2.1.rowL i j;cases he;replace e2:=ah d.out e2;have n:=j5 wr (HH.out.1.below d.out) (HH.out.2.1.below d.out) i j;have D:Hid (dk a P (i+1)=if P[i].isOpen a then dk a P i++[⟨0,⟨#[]⟩,P[i].fin-a⟩]else dk a P i):=wK a P i j;have ac:=HH.out.2.2.1.lists _ (List.getElem_mem j);have a4:Hid (P[i].isOpen a=Y->a<P[i].fin):=λh=>by
    unfold PlL.isOpen at h;rw[bT]at h;exact of_decide_eq_true h.2
   have HO:Hid (wr.ownsRow W.heap.size 117 3 (M V (dk a P i).length sc) (dk a P i).length (an (dk a P i))/\Below W.heap.size W wr):=⟨c,q⟩;clear c q;generalize P[i].isOpen a=bo at *;generalize P[i]=l at *;generalize dk a P i=m at *;obtain⟨its,v,pp,fn,gone⟩:=l;simp only at e2 D ac;have hbsz:=HO.out.2.size;go_wp2_with fail
   refine n.mono ?_;rintro e y ⟨rfl,Q⟩;have r:Hid (Below wr.heap.size wr y):=Q;have hsz1:=Q.size;replace A:=ah Q A;replace F:=ah Q F;replace e2:=ah Q e2;clear Q n;cases bo
   .go_wp2_with fail
    refine⟨⟨i+1,j,by go_num,?_,HO.out.2.trans (r.out.mono HO.out.2.size)⟩,by simp[intOf];omega⟩;rw[D.out,if_neg (by simp)];exact HO.out.1.kept (aS r.out N) (none_or _)
   .go_upto_region 7 with fail
    have hop2:a<fn:=a4.out (by first|trivial|rfl);have ad:Hid (IntKind.i64.wrap (fn-a)=fn-a):=wrap_small _ (by omega) (by omega);have a2:Hid (∀X:Obj,(y.alloc X).ownsRow W.heap.size 117 3 (M V m.length sc) m.length (an m)):=λX=>(HO.out.1.kept (aS r.out N) (none_or _)).alloc X
    go_region_law (refine step_append_lies _ rfl _ _ 44 rfl W.heap.size 117 i0 _ 3 32 (Yq.u underlying44) a7 af ar av rfl (by decide) (M V m.length sc) m.length (an m) (by simp[Act.eval]) (a2.out _) ⟨y.heap.size,0,N⟩ 1 1 [I K 0,U ⟨#[]⟩,I K (IntKind.i64.wrap (fn-a))] (by simp[Act.eval]) rfl (yc y _ _ _ _) (by simp[Value.oneCell']) (by omega) (by simp only[maxLen];omega) (by omega) (by simp;omega) (y.heap.size+1) (by simp) ?_;intro g aa w3 al f hgg hlt3;have ab:Hid (w3.ownsRow W.heap.size 117 3 (M (J ⟨g,0,N⟩) (m.length+1) aa) (m.length+1) (an m++[I K 0,U ⟨#[]⟩,I K (IntKind.i64.wrap (fn-a))])/\(y.alloc (E #[I K 0,U ⟨#[]⟩,I K (IntKind.i64.wrap (fn-a))] 117)).grownBy w3 (Value.slice V m.length sc).ownBlock):=⟨al,⟨f.os,f.tape,f.output,f.size,f.block⟩⟩)
    all_goals
     go_wp2_with fail
     refine⟨⟨i+1,j,by go_num,?_,?_⟩,by simp[intOf];omega⟩
     .rw [D.out,if_pos (by trivial),lP,lS];have e:an (m++[⟨0,⟨#[]⟩,fn-a⟩])=an m++[I K 0,U ⟨#[]⟩,I K (IntKind.i64.wrap (fn-a))]:=by rw[ad.out];simp[an]
      rw[e];exact ab.out.1
     .have G:Below W.heap.size W y:=HO.out.2.trans (r.out.mono HO.out.2.size);exact(G.alloc G.size _).grown ab.out.2 (by have:=G.size;simp;omega) (λb e=>(HO.out.1.lt b e).1)
  .have a5:i=P.length:=by omega
   subst a5;have HO:Hid (wr.ownsRow W.heap.size 117 3 (M V (dk a P P.length).length sc) (dk a P P.length).length (an (dk a P P.length))/\Below W.heap.size W wr):=⟨c,q⟩;have n:=HC.out wr d.out;have⟨d0,d1,d2,d3,d4⟩:=HW.out.2.on q;have HS:=mr t (M V (dk a P P.length).length sc) (dk a P P.length) wr (HH.out.2.2.2.1 wr d.out) (rC c).o (by omega);have HD:Hid (cy wr w.heap.size (I K 0) (I K (totR R:Int)) (U ⟨#[]⟩) t (U ⟨#[]⟩)):=HW.out.2.on q;clear c q HC;go_wp2_with fail
   refine n.mono ?_;rintro e y ⟨rfl,a1⟩;subst a1;clear n;go_wp2_with fail
   refine HS.mono ?_;rintro e w2 ⟨rfl,b2⟩;have⟨f0,f1,f2,f3,f4⟩:=HD.out.on b2;have a3:Hid (Below w.heap.size w w2):=d.out.trans (b2.mono d.out.size);clear b2 HS d0 d1 d2 d3 d4 A F;go_wp2_with fail
   go_ret;exact⟨rfl,a3.out⟩
theorem wL{F vT y:Wx}{r:Int}(w:Wj)(H:ax B w k F R u r)(t:aF B w k P T vT y)(S:Sim st R u)(SL:eU L P T r s)(Q:s<2199023255300)(v:L.opened.length<=3)(o:OpD)(D:o.kind=10)(m:Wx)(x:∀q,PFr B k w q->gi q m (L.opened.map fU)):
  Calls Yq.prog 9 #[O (J ⟨k,0,N⟩),aT o,.agg #[I K 0,I K st.count,U ⟨#[]⟩,m,U ⟨#[]⟩]] w (cZ B k st L s w):=by
 obtain⟨kind,j,b,a,c,G,n⟩:=o;simp only at D;subst D;have l:=t.lt;have HH:Hid (ax B w k F R u r/\aF B w k P T vT y/\Sim st R u/\eU L P T r s):=⟨H,t,S,SL⟩;have f:Below w.heap.size w ((w.alloc (E #[I K 10,U j,U b,U a,U c,I K G,I K n] 30)).alloc (E #[I K 0,I K st.count,U ⟨#[]⟩,m,U ⟨#[]⟩] 46)):=((bR _ w).alloc (lR _) _).alloc (by simp) _;have p:=Ap _ (H.below f) (t.below f) S SL Q v m (λq h=>x q (PFr.below l (f.trans (h.mono f.size))));have HB:Hid (Below w.heap.size w ((w.alloc (E #[I K 10,U j,U b,U a,U c,I K G,I K n] 30)).alloc (E #[I K 0,I K st.count,U ⟨#[]⟩,m,U ⟨#[]⟩] 46))):=f;clear H t S SL x f;unfold aT;go_enter (Yq.nq func9),ntmps9;go_wp2_with fail
 refine p.mono ?_;rintro e V ⟨rfl,A⟩;have d:Hid (Below w.heap.size w V):=HB.out.trans (A.mono HB.out.size);clear A p;go_wp2_with fail
 go_ret;exact cZ.mk (HH.out.1.below d.out) (HH.out.2.1.below d.out) HH.out.2.2.1 (HH.out.2.2.2.mono (by omega)) (PFr.below l d.out)
end
