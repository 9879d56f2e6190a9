/- A part. -/
import Derived.Test.YteidaiooccmmmaaGreatDoorQP19
import Derived.Test.YteidaiooccmmmaaGreatDoorQP14
import Derived.Test.YteidaiooccmmmaaGreatDoorQP15
set_option maxHeartbeats 4000000
set_option maxRecDepth 100000
open Go renaming World->Wj,Value->Wx
namespace Go.Proofs.Qw
open Option renaming none->N,some->J
open Bool renaming true->Y,false->Z
open Value renaming int->I,string->U,slice->M,pointer->O,bool->C
open IntKind renaming i64->K
open Obj renaming cells->E
variable {B k s:Nat}
open Tryz
section
open Go.RowKit
def Fu:ByteArray:=⟨#[110,111,110,101]⟩
def kW(l:List OpD)(o:OpD):Bool:=decide (o.kind=12/\(o.src<0\/(l.length:Int)<=o.src\/(l[o.src.toNat]?.map (·.kind))≠J 11))
def kX(a:Int):OpD:=if a<9 then⟨2,Fu,⟨#[]⟩,⟨#[]⟩,⟨#[]⟩,0,0⟩else⟨9,⟨#[]⟩,⟨#[]⟩,⟨#[]⟩,⟨#[]⟩,0,0⟩
def mw(a:Int)(l:List OpD)(o:OpD):OpD:=if(a<o.kind/\o.kind<=12)\/kW l o=Y then kX a else o
def eN(a:Int)(ops:List OpD):List OpD:=ops.foldl (λl o=>l++[mw a l o]) []
theorem Aj(b:Int)(a:List OpD)(o:OpD):eN b (a++[o])=eN b a++[mw b (eN b a) o]:=by simp[eN]
theorem uC(b:Int)(a:List OpD):(eN b a).length=a.length:=by
 have:∀ (a l:List OpD),(a.foldl (λl o=>l++[mw b l o]) l).length=l.length+a.length:=λa=>by
  induction a with
  |nil=>intro l;rfl
  |cons o r ih=>intro l;rw[List.foldl_cons,ih];simp;omega
 rw[eN,this];simp
theorem j6(w:Wj)(X:Obj)(o:OpD)(T:TypeId):∀j u,(bP o)[j]?=J u->((w.alloc X).alloc (E #[I K o.kind,U o.key,U o.body,U o.delim,U o.past,I K o.n,I K o.src] T)).cell? ((⟨w.heap.size+1,0,N⟩:Addr).add j)=J u:=by
 intro j u a;have:=zJ (w.alloc X) o T j u a
 rwa [show(w.alloc X).heap.size=w.heap.size+1 by simp]at this
theorem Fv(d:Int)(a:Option Addr)(n ad:Nat)(p:List OpD)(w:Wj)(h:il w (M a n ad) p)(hn:n*88<=140737488351232):
  Calls Yq.prog 5 #[M a n ad,I K d] w λe w'=>∃v',e=.returned v'/\w'.ownsRow w.heap.size 30 7 v' n ((eN d p).flatMap bP)/\Below w.heap.size w w':=by
 have⟨i0,ab,ac,af,aa⟩:=info_parts Yq.infoOp;have a3:n=p.length:=by
  have⟨a',a1,he,_⟩:=h.form;cases he;rfl
 have HS:Hid (il w (M a n ad) p/\n=p.length):=⟨h,a3⟩;clear h a3;go_enter (Yq.nq func5),ntmps5;go_wp2_with fail
 go_loopw [5,6] (λs3 s4 wr=>∃i:Nat,i<=n/\s4=I K i/\wr.ownsRow w.heap.size 30 7 s3 i ((eN d (p.take i)).flatMap bP)/\Below w.heap.size w wr) (λ_ s4 _=>n-(intOf s4).toNat)
 case atStart=>exact⟨0,Nat.zero_le _,rfl,World.ownsRow_nil _ _ _ _,bR _ _⟩
 case round=>
  obtain⟨i,hin,rfl,t,D⟩:=hrel;obtain⟨va,vc,rfl,-⟩:=az t;by_cases a7:i<n
  .have R:i<p.length:=by rw[<-HS.out.2];exact a7
   have a4:p≠[]:=by intro e;rw[e]at R;simp at R
   have⟨a',a1,he,hx⟩:=HS.out.1.form;have⟨b,off,ha,ap⟩:=hx a4;subst ha;cases he;have⟨c0,c1,c2,c3,c4,c5,c6⟩:=ap i R;replace c0:=ah D c0;replace c1:=ah D c1;replace c2:=ah D c2;replace c3:=ah D c3;replace c4:=ah D c4;replace c5:=ah D c5;replace c6:=ah D c6;have av:(eN d (p.take i)).length=i:=by rw[uC,tL];omega
   have Q:Hid ((eN d (p.take (i+1))).flatMap bP=(eN d (p.take i)).flatMap bP++bP (mw d (eN d (p.take i)) p[i])):=show _=_ by
    rw[tS R,Aj,List.flatMap_append];simp
   have a2:Hid (∀r:Nat,r<i->∃X:Int,∃g,(eN d (p.take i))[r]?.map (·.kind)=J X/\va=J ⟨g,0,N⟩/\wr.cell? ⟨g,r*7,N⟩=J (I K X)):=by
    intro r v;rcases t.2 with⟨he,h0⟩|⟨g,cap1,cur,he,hbg,hg,hnc,hcm,hcs,htake⟩
    .omega
    .cases he;refine⟨((eN d (p.take i))[r]'(by omega)).kind,g,by rw[eL (by omega)];rfl,rfl,?_⟩;have:=oO (eN d (p.take i)) r 0 (by omega) (by omega);have h2:=t.cellAt (r*7+0) (by omega);rw[this]at h2;simpa[bP]using h2
   have a8:Hid ((eN d (p.take i)).length=i):=av;clear av;generalize p[i]=o at *;obtain⟨c,q,j,f,l,x,m⟩:=o;simp only at c0 c1 c2 c3 c4 c5 c6 Q;have HX:Hid (wr.ownsRow w.heap.size 30 7 (M va i vc) i ((eN d (p.take i)).flatMap bP)/\Below w.heap.size w wr):=⟨t,D⟩;clear t D ap hx;generalize eN d (p.take i)=y at *
   go_upto_region 6 with fail
   have S:∀B,B=kW y ⟨c,q,j,f,l,x,m⟩↔(B=Y↔c=12/\(m<0\/(i:Int)<=m\/(y[m.toNat]?.map (·.kind))≠J 11)):=λB=>by
    unfold kW;rw[a8.out];cases B<;>simp
   go_cut [8] (λs8 wx=>s8=C (kW y ⟨c,q,j,f,l,x,m⟩)/\wx=wr.alloc (E #[I K c,U q,U j,U f,U l,I K x,I K m] 30))
   case first=>
    have G:Hid (∀B,B=kW y ⟨c,q,j,f,l,x,m⟩↔(B=Y↔c=12/\(m<0\/(i:Int)<=m\/(y[m.toNat]?.map (·.kind))≠J 11))):=S;generalize kW y ⟨c,q,j,f,l,x,m⟩=ln at *;clear S;by_cases s:c=12
    .subst s;by_cases h1:m<0
     .go_wp2_with fail
      go_meet
      case rel=>exact⟨congrArg Value.bool ((G.out _).2 ⟨λ_=>⟨by first|trivial|rfl,.inl h1⟩,λ_=>rfl⟩),rfl⟩
     .by_cases h2:(i:Int)<=m
      .go_wp2_with fail
       go_meet
       case rel=>exact⟨congrArg Value.bool ((G.out _).2 ⟨λ_=>⟨by first|trivial|rfl,.inr (.inl h2)⟩,λ_=>rfl⟩),rfl⟩
      .obtain ⟨r,v⟩:∃r:Nat,m=(r:Int):=⟨m.toNat,by omega⟩;subst v;have⟨X,g,ar,hg,ck⟩:=a2.out r (by omega);subst hg;have ck':=ah ((bR wr.heap.size wr).alloc (lR _) (E #[I K 12,U q,U j,U f,U l,I K x,I K r] 30)) ck;have hri:(r:Int)<(i:Int):=by omega
       have al:Hid (y[r]?.map (·.kind)=J X):=ar;clear ck ar;by_cases T:X=11
       .subst T;go_wp2_with fail
        go_meet
        case rel=>
         refine⟨congrArg Value.bool ((G.out _).2 ⟨λh=>(by cases h),λh=>?_⟩),rfl⟩;rcases h.2 with h|h|h
         .omega
         .omega
         .exact absurd al.out h
       .have h11':(X==11)=false:=by simp[T]
        have H11:Hid ((X != 11)=Y):=by show _=_;simp[T]
        go_wp2_with fail
        go_meet
        case rel=>
         refine⟨congrArg Value.bool ((G.out _).2 ⟨λ_=>⟨by first|trivial|rfl,.inr (.inr ?_)⟩,λ_=>H11.out⟩),rfl⟩;show y[r]?.map (·.kind)≠_;rw[al.out];simpa using T
    .have hk':(c==12)=false:=by simp[s]
     go_wp2_with fail
     go_meet
     case rel=>exact⟨congrArg Value.bool ((G.out _).2 ⟨λh=>(by cases h),λh=>absurd h.1 s⟩),rfl⟩
   case rest=>
   obtain⟨rfl,rfl⟩:=hcut;have z:kW y ⟨c,q,j,f,l,x,m⟩=Y->c=12:=λh=>(((S _).1 rfl).1 h).1
   have a0:Hid (mw d y ⟨c,q,j,f,l,x,m⟩=if(d<c/\c<=12)\/kW y ⟨c,q,j,f,l,x,m⟩=Y then kX d else⟨c,q,j,f,l,x,m⟩):=rfl;generalize kW y ⟨c,q,j,f,l,x,m⟩=B at *;clear S c0 c1 c2 c3 c4 c5 c6 a2;by_cases v:(d<c/\c<=12)\/B=Y
   .have V:Hid (mw d y ⟨c,q,j,f,l,x,m⟩=kX d):=by
     show _=_;rw[a0.out,if_pos v]
    have P:(d<c/\c<=12)\/(¬d<c/\c<=12/\B=Y):=by
     by_cases A:d<c
     .rcases v with v|v
      .exact .inl v
      .exact .inl ⟨A,by have:=z v;omega⟩
     .rcases v with v|v
      .exact absurd v.1 A
      .exact .inr ⟨A,by have:=z v;omega,v⟩
    clear v z;by_cases h9:d<9
    .have F:Hid (mw d y ⟨c,q,j,f,l,x,m⟩=⟨2,Fu,⟨#[]⟩,⟨#[]⟩,⟨#[]⟩,0,0⟩):=by
      show _=_;rw[V.out,kX,if_pos h9]
     rcases P with⟨A,s⟩|⟨A,s,rfl⟩ <;>
     .go_wp2_with (at_builtin;refine wpList_append_own _ rfl _ _ 22 rfl w.heap.size 30 i0 _ 7 88 (Yq.u underlying22) ab ac af aa rfl (by decide) _ i _ rfl ((HX.out.1.alloc _).alloc _) ⟨wr.heap.size+1,0,N⟩ 1 1 (bP ⟨2,Fu,⟨#[]⟩,⟨#[]⟩,⟨#[]⟩,0,0⟩) rfl rfl (j6 wr _ ⟨2,Fu,⟨#[]⟩,⟨#[]⟩,⟨#[]⟩,0,0⟩ _) (one7 _) (by simp only[maxLen];omega) (by omega) (by have:=HX.out.2.size;simp;omega) ?_;intro v2 w2 L H _)
      have b2:Below w.heap.size w w2:=((HX.out.2.alloc HX.out.2.size _).alloc (by have:=HX.out.2.size;simp;omega) _).grown H (by have:=HX.out.2.size;simp;omega) (λk e=>(HX.out.1.lt k e).1);refine⟨⟨i+1,by omega,by go_num,?_,b2⟩,by simp[intOf];omega⟩;rw[Q.out,F.out];simpa using L
    .have F:Hid (mw d y ⟨c,q,j,f,l,x,m⟩=⟨9,⟨#[]⟩,⟨#[]⟩,⟨#[]⟩,⟨#[]⟩,0,0⟩):=by
      show _=_;rw[V.out,kX,if_neg h9]
     rcases P with⟨A,s⟩|⟨A,s,rfl⟩ <;>
     .go_wp2_with (at_builtin;refine wpList_append_own _ rfl _ _ 22 rfl w.heap.size 30 i0 _ 7 88 (Yq.u underlying22) ab ac af aa rfl (by decide) _ i _ rfl ((HX.out.1.alloc _).alloc _) ⟨wr.heap.size+1,0,N⟩ 1 1 (bP ⟨9,⟨#[]⟩,⟨#[]⟩,⟨#[]⟩,⟨#[]⟩,0,0⟩) rfl rfl (j6 wr _ ⟨9,⟨#[]⟩,⟨#[]⟩,⟨#[]⟩,⟨#[]⟩,0,0⟩ _) (one7 _) (by simp only[maxLen];omega) (by omega) (by have:=HX.out.2.size;simp;omega) ?_;intro v2 w2 L H _)
      have b2:Below w.heap.size w w2:=((HX.out.2.alloc HX.out.2.size _).alloc (by have:=HX.out.2.size;simp;omega) _).grown H (by have:=HX.out.2.size;simp;omega) (λk e=>(HX.out.1.lt k e).1);refine⟨⟨i+1,by omega,by go_num,?_,b2⟩,by simp[intOf];omega⟩;rw[Q.out,F.out];simpa using L
   .have F:Hid (mw d y ⟨c,q,j,f,l,x,m⟩=⟨c,q,j,f,l,x,m⟩):=by
     show _=_;rw[a0.out,if_neg v]
    have a6:B=false:=by
     cases B
     .rfl
     .exact absurd (.inr rfl) v
    subst a6;have P:(d<c/\¬c<=12)\/¬d<c:=by
     by_cases A:d<c
     .exact .inl ⟨A,λh=>v (.inl ⟨A,h⟩)⟩
     .exact .inr A
    clear v z;rcases P with⟨A,s⟩|A <;>
    .go_wp2_with (at_builtin;refine wpList_append_own _ rfl _ _ 22 rfl w.heap.size 30 i0 _ 7 88 (Yq.u underlying22) ab ac af aa rfl (by decide) _ i _ rfl ((HX.out.1.alloc _).alloc _) ⟨wr.heap.size+1,0,N⟩ 1 1 (bP ⟨c,q,j,f,l,x,m⟩) rfl rfl (j6 wr _ ⟨c,q,j,f,l,x,m⟩ _) (one7 _) (by simp only[maxLen];omega) (by omega) (by have:=HX.out.2.size;simp;omega) ?_;intro v2 w2 L H _)
     have b2:Below w.heap.size w w2:=((HX.out.2.alloc HX.out.2.size _).alloc (by have:=HX.out.2.size;simp;omega) _).grown H (by have:=HX.out.2.size;simp;omega) (λk e=>(HX.out.1.lt k e).1);refine⟨⟨i+1,by omega,by go_num,?_,b2⟩,by simp[intOf];omega⟩;rw[Q.out,F.out];simpa using L
  .have a5:i=n:=by omega
   subst a5;have HT:Hid (p.take i=p):=tO (by rw[<-HS.out.2];exact lR _);have HO:Hid (wr.ownsRow w.heap.size 30 7 (M va i vc) i ((eN d (p.take i)).flatMap bP)/\Below w.heap.size w wr):=⟨t,D⟩;clear t D;go_wp2;go_ret;refine⟨_,rfl,?_,HO.out.2⟩;have:=HO.out.1;rw[HT.out]at this;exact this
def IL(a:j8)(v:Wx):Wx:=.agg #[I K a.code,I K a.ver,U a.body,v,U a.tok]
def cZ(B k:Nat)(h:St)(L':Lg)(s:Nat)(w:Wj)(e:Ending)(w':Wj):Prop:=
 e=.returned (C Y)/\∃f R' a b P' T' d c,ax B w' k f R' a b/\aF B w' k P' T' d c/\Sim h R' a/\eU L' P' T' b (s+1)/\PFr B k w w'
theorem cZ.mk{B k:Nat}{f:Int}{b:St}{L':Lg}{s:Nat}{w w':Wj}{e:Wx}{R':List bD}{a:Int}{P':List PlL}{T':List PlT}{d c:Wx}(j:ax B w' k e R' a f)(h:aF B w' k P' T' d c)(m:Sim b R' a)(i:eU L' P' T' f (s+1))(l:PFr B k w w'):cZ B k b L' s w (.returned (C Y)) w':=⟨rfl,e,R',a,f,P',T',d,c,j,h,m,i,l⟩
theorem Ak{c:St}{L':Lg}(w:Wj)(o:OpD)(q:o.kind=6\/o.kind=7)(m:Int)(n:Wx)(a:ByteArray)
  (HL:∀W,Below w.heap.size w W->Calls Yq.prog 28 #[O (J ⟨k,0,N⟩),aT o,.agg #[I K m,I K 0,U ⟨#[]⟩,n,U a]] W λe r=>cZ B k c L' s w e r):
  Calls Yq.prog 9 #[O (J ⟨k,0,N⟩),aT o,.agg #[I K m,I K 0,U ⟨#[]⟩,n,U a]] w (cZ B k c L' s w):=by
 obtain⟨j,l,i,b,d,t,p⟩:=o;simp only at q;unfold aT at HL ⊢;have f:=HL ((w.alloc (E #[I K j,U l,U i,U b,U d,I K t,I K p] 30)).alloc (E #[I K m,I K 0,U ⟨#[]⟩,n,U a] 46)) (((bR _ w).alloc (lR _) _).alloc (by simp) _);clear HL;rcases q with rfl|rfl <;>
 .go_enter (Yq.nq func9),ntmps9;go_wp2_with fail
  refine f.mono ?_;rintro e u ⟨rfl,h⟩;have HE:Hid (cZ B k c L' s w (.returned (C Y)) u):=⟨rfl,h⟩;clear h f;go_wp2_with fail
  go_ret;exact HE.out
theorem C6{r vL vT:Wx}{R:List bD}{x l:Int}{P:List PlL}{T:List PlT}{a:St}{L:Lg}(w:Wj)(H:ax B w k r R x l)(hP:aF B w k P T vL vT)(t:B<=k)(S:Sim a R x)(SL:eU L P T l s)(hV:Inv a s)(m:a.last<=s)(hT:gp a)(hs:s<2199023255300)(o:OpD)(hk:o.kind<8\/12<o.kind)(hd:o.delim.size<=140737488351232)(b:List ByteArray)(A:Wx)
  (v:∀j,PFr B k w j->gi j A (stepA a L b o).2.2.items):
  Calls Yq.prog 9 #[O (J ⟨k,0,N⟩),aT o,IL (stepA a L b o).2.2 A] w (cZ B k (stepA a L b o).1 (stepA a L b o).2.1 s w):=by
 have p:=hP.lt;by_cases u:o.kind=6\/o.kind=7
 .obtain ⟨i,aa,F,e⟩:∃i,(o.kind==6)=!i/\(o.kind==7)=i/\stepA a L b o=(a,(eQ L a.f ⟨i,o.key,o.delim,o.past⟩ o.n).1,Cm (eQ L a.f ⟨i,o.key,o.delim,o.past⟩ o.n)):=by
   rcases u with h|h
   .exact ⟨Z,by simp[h],by simp[h],by simp[stepA,h]⟩
   .exact ⟨Y,by simp[h],by simp[h],by simp[stepA,h]⟩
  rw[e]at v ⊢;obtain⟨L',V,c,y,hB⟩:∃L' V c y,eQ L a.f ⟨i,o.key,o.delim,o.past⟩ o.n=(L',V,c,y):=⟨_,_,_,_,rfl⟩;rw[hB]at v ⊢;refine Ak w o u y A c λW d=>?_
  refine(wI W (H.below d) (hP.below d) t S SL hV hT hs o i aa F hd L' V c y hB A (λj hf=>v j ((PFr.below p d).trans hf))).mono ?_;rintro e j ⟨rfl,P',T',vL',vT',G,D,z,h4⟩;exact cZ.mk G D S z ((PFr.below p d).trans h4)
 .have e:stepA a L b o=((aA a o).1,L,⟨(aA a o).2.code,(aA a o).2.ver,(aA a o).2.body,[],⟨#[]⟩⟩):=by
   simp only[stepA,if_neg (show¬o.kind=6 by omega),if_neg (show¬o.kind=7 by omega),if_neg (show¬o.kind=8 by omega),if_neg (show¬o.kind=9 by omega),if_neg (show¬o.kind=10 by omega),if_neg (show¬o.kind=11 by omega)]
  rw[e]at v ⊢;obtain⟨ia,Q,q,-⟩:=(v w PFr.refl).form;rw[lN]at q;subst q;have ab:Low a s:=⟨hV.last0,m⟩;have X:B<=w.heap.size:=by omega
  have ac:Calls Yq.prog 9 #[O (J ⟨k,0,N⟩),aT o,jy (aA a o).2 ia Q] w (uA B k (aA a o).1 w r R l):=by
   by_cases h:1<=o.kind/\o.kind<=5
   .exact wF B k r R x l _ o _ ia Q w H h (λw1 d=>zY B k r R x l a s o w1 (H.below d) S ab (by omega) (lT X d.size) h)
   .have e:aA a o=(a,⟨1,0,⟨#[]⟩⟩):=by
     unfold aA;simp only[if_neg (show¬o.kind=1 by omega),if_neg (show¬o.kind=2 by omega),if_neg (show¬o.kind=3 by omega),if_neg (show¬o.kind=4 by omega),if_neg (show¬o.kind=5 by omega)]
    rw[e];exact wG B k r R x l a o ia Q w H S (by omega)
  refine ac.mono ?_;rintro e j ⟨rfl,sl',R',nx',G,D,z⟩;exact cZ.mk G (hP.frame H z) D (SL.mono (by omega)) (PFr.ofR t H z)
structure rN (w:Wj)(k:Nat)(vA:Wx)(toks:List ByteArray):Prop where
 c7:w.cell? ⟨k,7,N⟩=J vA
 form:∃a cap,vA=M a toks.length cap/\(toks≠[]->∃g,a=J ⟨g,0,N⟩/\g<w.heap.size/\∀i (hi:i<toks.length),w.cell? ⟨g,i*5+4,N⟩=J (U toks[i]))
theorem rN.on{w w':Wj}{f:Wx}{toks:List ByteArray}(h:rN w k f toks)(d:Below w.heap.size w w'):rN w' k f toks:=by
 have⟨a,c,e,o⟩:=h.form;refine⟨ah d h.c7,a,c,e,λb=>?_⟩;have⟨g,l,j,m⟩:=o b;exact⟨g,l,lL j d.size,λi n=>ah d (m i n)⟩
theorem IM{w:Wj}{r:Wx}{b:List (j8×Wx)}(p:w.cell? ⟨k,7,N⟩=J r)(h:w.ownsRow B 46 5 r s (bg (b.take s)))(hi:s<=b.length):rN w k r ((b.take s).map (·.1.tok)):=by
 have n:((b.take s).map (·.1.tok)).length=s:=by rw[lM,tL];omega
 obtain⟨a,l,rfl,-⟩:=az h;refine⟨p,a,l,by rw[n],λf=>?_⟩;have m:0<s:=by
  have:=List.length_pos_iff.2 f;omega
 obtain⟨g,cap',e,-,q,-⟩:=cW h m;cases e;refine⟨g,rfl,q,λj o=>?_⟩;have d:j<(b.take s).length:=by simpa using o
 have:=(i7 (b.take s) j d).2.2.2.2;rw[h.cellAt _ (by omega),this];simp
theorem Jx{i:Nat}{w l f:Wj}{X:Obj}{S o y x:Wx}{R:List bD}{nx Q:Int}{P:List PlL}{T:List PlT}{g d:Nat}{xs V:List Wx}(H:ax B l k S R nx Q)(hP:aF B l k P T y x)(hB:B<=l.heap.size)(G:B<=k)(A:Below B w l)(c7:l.cell? ⟨k,7,N⟩=J o)(n:l.ownsRow B 46 5 o i xs)(m:o.ownBlock≠J k)
  (D:f.ownsRow B 46 5 (M (J ⟨g,0,N⟩) (i+1) d) (i+1) V) (r:(l.alloc X).grownBy f o.ownBlock) (F:o.ownBlock=J g\/g=l.heap.size+1):
  ax B (f.setCell ⟨k,7,N⟩ (M (J ⟨g,0,N⟩) (i+1) d)) k S R nx Q/\aF B (f.setCell ⟨k,7,N⟩ (M (J ⟨g,0,N⟩) (i+1) d)) k P T y x/\(f.setCell ⟨k,7,N⟩ (M (J ⟨g,0,N⟩) (i+1) d)).cell? ⟨k,7,N⟩=J (M (J ⟨g,0,N⟩) (i+1) d) /\
   (f.setCell ⟨k,7,N⟩ (M (J ⟨g,0,N⟩) (i+1) d)).ownsRow B 46 5 (M (J ⟨g,0,N⟩) (i+1) d) (i+1) V/\(Value.slice (J ⟨g,0,N⟩) (i+1) d).ownBlock≠J k/\Below B w (f.setCell ⟨k,7,N⟩ (M (J ⟨g,0,N⟩) (i+1) d)):=by
 have hk:=H.lt;have v:g≠k:=by
  rcases F with h|h
  .intro e;subst e;exact m h
  .omega
 have q:Below l.heap.size l (l.alloc X):=(bR _ _).alloc (lR _) X;have Pa:=hP.below q;have s:∀b,o.ownBlock=J b->TyB (l.alloc X) b 46:=λb A=>je (n.alloc X) A
 have H3:=(H.below q).other r m s (by decide) (by decide);have c3:f.cell? ⟨k,7,N⟩=J o:=r.cell (ah q c7) (λe=>m e.symm);have ob:(Value.slice (J ⟨g,0,N⟩) (i+1) d).ownBlock≠J k:=by simpa[Value.ownBlock]using v
 have t:∀j,f.cell? ⟨k,j,N⟩=(l.alloc X).cell? ⟨k,j,N⟩:=λj=>cB (a:=⟨k,j,N⟩) (r.block k Pa.lt (λe=>m e.symm))
 have P3:aF B f k P T y x:=Pa.keep (t 3) (t 4) (λj=>fB (a:=⟨k,j,N⟩) (r.block k Pa.lt (λe=>m e.symm))) λb c _ L hU=>r.block b L.lt λe=>by
  have:=(s b e.symm).ne L;subst this
  revert hU
  decide
 have u:∀j,j≠7->(f.setCell ⟨k,7,N⟩ (M (J ⟨g,0,N⟩) (i+1) d)).cell? ⟨k,j,N⟩=f.cell? ⟨k,j,N⟩:=λj hj=>cO f ⟨k,7,N⟩ ⟨k,j,N⟩ _ (λe=>by have:=congrArg Addr.off e;simp only at this;omega)
 refine⟨H3.far 7 _ (by omega),P3.keep (u 3 (by omega)) (u 4 (by omega)) (λj=>by simp) (λb c z _ _=>bS _ _ _ _ z),cs c3,jf D ob 7 _,ob,?_⟩;exact((A.alloc hB X).grown r (by simp;omega) (λb e=>(n.lt b e).1)).setCell (p:=⟨k,7,N⟩) G _
theorem Fw(b a6 b1 ga:Nat)(f:List OpD)(d:List (j8×Wx))(D:Nat->St×Lg)(w:Wj)(hS:ij w b a6 f)(a8:f.length*88<=140737488351232)(a9:d.length=f.length)(hA:∀j,j<f.length*5->w.cell? ⟨ga,j,N⟩=(bg d)[j]?)(hv:∀z∈d,∃a n c,z.2=M a n c)(h0:D 0=(st0,⟨[],0,[],0⟩))
  (L:∀ (i:Nat) (hi:i<f.length) (bs:i<d.length) (W:Wj) {sl vL vT:Wx} {R:List bD} {nx tm:Int} {P:List PlL} {T:List PlT},Below w.heap.size w W->ax w.heap.size W w.heap.size sl R nx tm->aF w.heap.size W w.heap.size P T vL vT->Sim (D i).1 R nx->eU (D i).2 P T tm i->∀ {vA:Wx},rN W w.heap.size vA ((d.take i).map (·.1.tok)) ->
   Calls Yq.prog 9 #[O (J ⟨w.heap.size,0,N⟩),aT f[i],IL d[i].1 d[i].2] W (cZ w.heap.size w.heap.size (D (i+1)).1 (D (i+1)).2 i W)):
  Calls Yq.prog 7 #[M (J ⟨b,a6,N⟩) f.length b1,M (J ⟨ga,0,N⟩) f.length f.length] w λe w'=>e=.returned (C Y)/\Below w.heap.size w w':=by
 have⟨i0,bx,b0,b2,bt⟩:=info_parts Yq.infoAns;obtain⟨n,aa⟩:∃n,f.length=n:=⟨_,rfl⟩;have HN:Hid (f.length=n/\ij w b a6 f/\d.length=n/\(∀j,j<n*5->w.cell? ⟨ga,j,N⟩=(bg d)[j]?)/\∀z∈d,∃a n c,z.2=M a n c):=⟨aa,hS,by rw[<-aa];exact a9,by rw[<-aa];exact hA,hv⟩;have bv:Hid (∀ (i:Nat) (hi:i<f.length) (bs:i<d.length) (W:Wj) {sl vL vT:Wx} {R:List bD} {nx tm:Int} {P:List PlL} {T:List PlT},Below w.heap.size w W->ax w.heap.size W w.heap.size sl R nx tm->aF w.heap.size W w.heap.size P T vL vT->Sim (D i).1 R nx->eU (D i).2 P T tm i->∀ {vA:Wx},rN W w.heap.size vA ((d.take i).map (·.1.tok)) ->
   Calls Yq.prog 9 #[O (J ⟨w.heap.size,0,N⟩),aT f[i],IL d[i].1 d[i].2] W (cZ w.heap.size w.heap.size (D (i+1)).1 (D (i+1)).2 i W)):=L
 rw[aa]at a8 ⊢;clear aa hS a9 hA hv L;go_enter (Yq.nq func7),ntmps7;go_wp2_with fail
 go_loopw [6] (λs6 wr=>∃ (i:Nat) (sl:Wx) (R:List bD) (nx tm:Int) (P:List PlL) (T:List PlT) (vL vT vA:Wx),i<=n/\s6=I K i/\ax w.heap.size wr w.heap.size sl R nx tm/\aF w.heap.size wr w.heap.size P T vL vT/\Sim (D i).1 R nx/\eU (D i).2 P T tm i/\wr.cell? ⟨w.heap.size,7,N⟩=J vA /\
  wr.ownsRow w.heap.size 46 5 vA i (bg (d.take i))/\vA.ownBlock≠J w.heap.size/\Below w.heap.size w wr) (λs6 _=>n-(intOf s6).toNat)
 case atStart=>
  refine⟨0,M N 0 0,[],1,0,[],[],M N 0 0,M N 0 0,M N 0 0,Nat.zero_le _,rfl,?_,?_,?_,?_,?_,World.ownsRow_nil _ _ _ _,by simp[Value.ownBlock],(bR _ _).alloc (lR _) _⟩
  .refine ⟨⟨?_,?_,?_,λj=>World.frozen?_alloc_at (w:=w) _ _ w.heap.size j rfl⟩,World.ownsRow_nil _ _ _ _,λe he=>absurd he List.not_mem_nil,by simp[Value.ownBlock],λe he=>absurd he List.not_mem_nil,λe he=>absurd he List.not_mem_nil,List.Pairwise.nil⟩
   .rw [cA (w:=w) _ _ w.heap.size 0 rfl];rfl
   .rw [cA (w:=w) _ _ w.heap.size 1 rfl];rfl
   .rw [cA (w:=w) _ _ w.heap.size 2 rfl];rfl
  .refine ⟨?_,?_,λj=>World.frozen?_alloc_at (w:=w) _ _ w.heap.size j rfl,World.ownsRow_nil _ _ _ _,World.ownsRow_nil _ _ _ _,λl hl=>absurd hl List.not_mem_nil,by simp[Value.ownBlock],by simp[Value.ownBlock],λl hl=>absurd hl List.not_mem_nil⟩
   .rw [cA (w:=w) _ _ w.heap.size 3 rfl];rfl
   .rw [cA (w:=w) _ _ w.heap.size 4 rfl];rfl
  .rw [h0];exact⟨rfl,λe he=>absurd he List.not_mem_nil,List.Pairwise.nil,λe he=>absurd he List.not_mem_nil,λ_ _=>rfl,rfl,by simp[totR]⟩
  .rw [h0];exact Jb
  .rw [cA (w:=w) _ _ w.heap.size 7 rfl];rfl
 case round=>
  obtain⟨i,sl,R,nx,tm,P,T,vL,vT,vA,hin,rfl,H,hP,S,SL,c7,y,q,v⟩:=hrel;obtain⟨va,vc,rfl,-⟩:=az y;by_cases bk:i<n
  .have bi:i<f.length:=by rw[HN.out.1];exact bk
   have ad:i<d.length:=by rw[HN.out.2.2.1];exact bk
   have⟨c0,c1,c2,c3,c4,c5,c6⟩:=HN.out.2.1 i bi;replace c0:=ah v c0;replace c1:=ah v c1;replace c2:=ah v c2;replace c3:=ah v c3;replace c4:=ah v c4;replace c5:=ah v c5;replace c6:=ah v c6;have⟨z0,z1,z2,z3,z4⟩:=i7 d i ad;have a0:=(HN.out.2.2.2.1 _ (by omega)).trans z0;have a1:=(HN.out.2.2.2.1 _ (by omega)).trans z1;have a2:=(HN.out.2.2.2.1 _ (by omega)).trans z2;have a3:=(HN.out.2.2.2.1 _ (by omega)).trans z3;have a4:=(HN.out.2.2.2.1 _ (by omega)).trans z4;obtain⟨za,zn,zc,bb⟩:=HN.out.2.2.2.2 _ (List.getElem_mem ad);have b4:w.heap.size<=wr.heap.size:=v.size;have L:=bv.out i bi ad wr.drew (v.drew) (H.below (bR _ _).drew) (hP.below (bR _ _).drew) S SL ((IM c7 y (by omega)).on (bR _ _).drew);have e1:bg (d.take (i+1))=bg (d.take i)++[I K d[i].1.code,I K d[i].1.ver,U d[i].1.body,d[i].2,U d[i].1.tok]:=by rw[tS ad,oQ]
   rw[bb]at a3 e1 L;generalize d[i].1=b5 at *;generalize f[i]=o at *;obtain⟨kind,key,body,delim,past,nn,src⟩:=o;obtain⟨ac,av,ab,ait,r⟩:=b5;simp only at c0 c1 c2 c3 c4 c5 c6 a0 a1 a2 a4 e1;have HE:Hid (bg (d.take (i+1))=bg (d.take i)++[I K ac,I K av,U ab,M za zn zc,U r]):=e1;have bq:Hid (w.cell? ⟨ga,i*5,N⟩=J (I K ac)/\w.cell? ⟨ga,i*5+1,N⟩=J (I K av)/\w.cell? ⟨ga,i*5+2,N⟩=J (U ab)/\w.cell? ⟨ga,i*5+3,N⟩=J (M za zn zc)/\w.cell? ⟨ga,i*5+4,N⟩=J (U r)):=⟨a0,a1,a2,a3,a4⟩;replace a0:=ah v a0;replace a1:=ah v a1;replace a2:=ah v a2;replace a3:=ah v a3;replace a4:=ah v a4;have HX:Hid (wr.cell? ⟨w.heap.size,7,N⟩=J (M va i vc)/\wr.ownsRow w.heap.size 46 5 (M va i vc) i (bg (d.take i))/\(Value.slice va i vc).ownBlock≠J w.heap.size/\Below w.heap.size w wr):=⟨c7,y,q,v⟩;have hii:(i:Int)<(n:Int):=by omega
   clear H hP S SL c7 y q v e1 z0 z1 z2 z3 z4 bb;unfold IL aT at L;simp only at L;generalize bn:(D (i+1)).1=af at *;generalize bl:(D (i+1)).2=L' at *;have bp:Hid ((D (i+1)).1=af/\(D (i+1)).2=L'):=⟨bn,bl⟩;clear bn bl
   go_upto_region 7 with fail
   go_cut [7] (λs7 wx=>s7=C Y/\∃G R' m k P' T' t s,ax w.heap.size wx w.heap.size G R' m k/\aF w.heap.size wx w.heap.size P' T' t s/\Sim af R' m/\eU L' P' T' k (i+1)/\PFr w.heap.size w.heap.size wr wx)
   case first=>
    go_region_with (go_at_call 9;refine L.mono ?_;rintro e w2 ⟨rfl,G,R',m,k,P',T',t,s,H',P1',S',SL',F⟩;have HZ:Hid (∃G R' m k P' T' t s,ax w.heap.size w2 w.heap.size G R' m k/\aF w.heap.size w2 w.heap.size P' T' t s/\Sim af R' m/\eU L' P' T' k (i+1)/\PFr w.heap.size w.heap.size wr w2):=⟨G,R',m,k,P',T',t,s,H',P1',S',SL',⟨F.os,F.tape,F.output,F.size,F.low,F.ans,F.cells,F.frozen⟩⟩;clear H' P1' S' SL' F)
    all_goals
     go_wp2_with fail
     go_meet
     case rel=>exact⟨rfl,HZ.out⟩
   case rest=>
   obtain⟨rfl,G,R',m,k,P',T',t,s,H',P1,S',SL',F⟩:=hcut;have q:=HX.out.2.2.1;have V:wc.ownsRow w.heap.size 46 5 (M va i vc) i (bg (d.take i)):=dY HX.out.2.1 λg hg=>F.ans g (λe=>q (e▸hg)) (je HX.out.2.1 hg)
   have al:wc.cell? ⟨w.heap.size,7,N⟩=J (M va i vc):=(F.cells 7 (by omega)).trans HX.out.1;have b6:wc.frozen? ⟨w.heap.size,7,N⟩=false:=P1.fz 7;have B:Below w.heap.size w wc:=F.to HX.out.2.2.2 b4;have b3:w.heap.size<=wc.heap.size:=B.size;have⟨d0,d1,d2,d3,d4⟩:=bq.out;replace d0:=ah B d0;replace d1:=ah B d1;replace d2:=ah B d2;replace d3:=ah B d3;replace d4:=ah B d4;have a7:Hid (∀X:Obj,(wc.alloc X).ownsRow w.heap.size 46 5 (M va i vc) i (bg (d.take i))):=λX=>V.alloc X
   have ar:Hid (∀A:Wj,(wc.alloc (E #[I K ac,I K av,U ab,M za zn zc,U r] 46)).grownBy A (Value.slice va i vc).ownBlock->A.cell? ⟨w.heap.size,7,N⟩=J (M va i vc)/\A.frozen? ⟨w.heap.size,7,N⟩=Z):=λA Q=>by
    have bo:Below wc.heap.size wc (wc.alloc (E #[I K ac,I K av,U ab,M za zn zc,U r] 46)):=(bR _ _).alloc (lR _) _;refine⟨Q.cell (ah bo al) (λe=>q e.symm),?_⟩;rw[bG Q ⟨w.heap.size,7,N⟩ (by have:=H'.lt;simp;omega) (λe=>q e.symm)];exact(bo.frozen (p:=⟨w.heap.size,7,N⟩) H'.lt).trans b6
   have bd:Hid (∀ (g h:Nat) (A:Wj),A.ownsRow w.heap.size 46 5 (M (J ⟨g,0,N⟩) (i+1) h) (i+1) (bg (d.take i)++[I K ac,I K av,U ab,M za zn zc,U r])->(wc.alloc (E #[I K ac,I K av,U ab,M za zn zc,U r] 46)).grownBy A (Value.slice va i vc).ownBlock->((Value.slice va i vc).ownBlock=J g\/g=wc.heap.size+1) ->
     ∃v',ax w.heap.size (A.setCell ⟨w.heap.size,7,N⟩ (M (J ⟨g,0,N⟩) (i+1) h)) w.heap.size G R' m k/\aF w.heap.size (A.setCell ⟨w.heap.size,7,N⟩ (M (J ⟨g,0,N⟩) (i+1) h)) w.heap.size P' T' t s/\(A.setCell ⟨w.heap.size,7,N⟩ (M (J ⟨g,0,N⟩) (i+1) h)).cell? ⟨w.heap.size,7,N⟩=J v' /\
      (A.setCell ⟨w.heap.size,7,N⟩ (M (J ⟨g,0,N⟩) (i+1) h)).ownsRow w.heap.size 46 5 v' (i+1) (bg (d.take (i+1)))/\v'.ownBlock≠J w.heap.size/\Below w.heap.size w (A.setCell ⟨w.heap.size,7,N⟩ (M (J ⟨g,0,N⟩) (i+1) h))):=λg h A a5 Q ap=>by
    obtain⟨q1,q2,q3,q4,q5,q6⟩:=Jx H' P1 b3 (lR _) B al V q a5 Q ap;refine⟨_,q1,q2,q3,?_,q5,q6⟩;rw[HE.out];exact q4
   have be:Hid (Sim af R' m/\eU L' P' T' k (i+1)):=⟨S',SL'⟩;have c7a:(wc.alloc (E #[I K ac,I K av,U ab,M za zn zc,U r] 46)).cell? ⟨w.heap.size,7,N⟩=J (M va i vc):=ah ((bR _ _).alloc (lR _) _) al;clear H' P1 S' SL' F V B L c0 c1 c2 c3 c4 c5 c6 a0 a1 a2 a3 a4 q
   go_upto_region 10 with fail
   go_region_law (refine step_append_lies _ rfl _ _ 26 rfl w.heap.size 46 i0 _ 5 72 (Yq.u underlying26) bx b0 b2 bt rfl (by decide) (M va i vc) i (bg (d.take i)) (by simp[Act.eval]) (a7.out _) ⟨wc.heap.size,0,N⟩ 1 1 [I K ac,I K av,U ab,M za zn zc,U r] (by simp[Act.eval]) rfl (pZ wc _ _ _ _ _ _) (by simp[Value.oneCell']) (by omega) (by simp only[maxLen];omega) (by omega) (by simp;omega) (wc.heap.size+1) (by simp) ?_;intro g h A a5 x ap hlt3;have Q:(wc.alloc (E #[I K ac,I K av,U ab,M za zn zc,U r] 46)).grownBy A (Value.slice va i vc).ownBlock:=⟨x.os,x.tape,x.output,x.size,x.block⟩;have⟨y0,y1⟩:=ar.out A Q)
   all_goals
    go_wp2_with fail
    have⟨v',Q1,Q2,Q3,Q4,Q5,Q6⟩:=bd.out g h A a5 Q ap;refine⟨⟨i+1,G,R',m,k,P',T',t,s,v',by omega,by go_num,Q1,Q2,?_,?_,Q3,Q4,Q5,Q6⟩,by simp[intOf];omega⟩
    .rw [bp.out.1];exact be.out.1
    .rw [bp.out.2];exact be.out.2
  .have bw:i=n:=by omega
   subst bw;clear H hP S SL c7 y q;go_wp2;go_ret;exact⟨rfl,v⟩
end
