/- A part. -/
import Derived.Test.YteidaiooccmmmaaGreatDoorQP06
import Derived.Test.YteidaiooccmmmaaGreatDoorChecked
import Derived.ProofKit
import Derived.SizedLaws
import Derived.Deep.Slices
import Derived.ChangeMaps5
import Derived.LaidMore
import Derived.Stop.Joined
import Derived.OpenShut
import Derived.MapKept
import Derived.Carry
set_option maxHeartbeats 4000000
set_option maxRecDepth 100000
open Go renaming World->Wj,Value->Wx,Program->Wv,TypeId->Ww,Addr->Wu,undef->Wo
namespace Go.Proofs.Qw
open Option renaming none->N,some->J
open Bool renaming true->Y,false->Z
open Value renaming int->I,string->U,slice->M,pointer->O,bool->C
open IntKind renaming i64->K
open Obj renaming cells->E
variable {W W0:Wj}{Q:Exit->Act->Wj->Prop}{H:Type}{m y:Nat}{xs:List Wx}{T:Ww}
open Tryz
section
open Go.RowKit
theorem lh.more{w:Wj}(h:lh w W0)(o:Obj):lh w (W0.alloc o):=by
 have a:Below W0.heap.size W0 (W0.alloc o):=(bR _ _).alloc (lR _) _;exact⟨h.below.trans (a.mono h.below.size),lL h.lt a.size,ah a h.c0,ah a h.c1,ah a h.c2,ah a h.c3,ah a h.c4,λj=>(a.frozen (p:=⟨w.heap.size+1,j,N⟩) h.lt).trans (h.fz j)⟩
theorem zz{w c:Wj}(h:Below w.heap.size w c)(b f j i d:Wx)(o:Obj):Below w.heap.size w ((((((c.setCell ⟨w.heap.size+1,0,N⟩ b).setCell ⟨w.heap.size+1,1,N⟩ f).setCell ⟨w.heap.size+1,2,N⟩ j).setCell ⟨w.heap.size+1,3,N⟩ i).setCell ⟨w.heap.size+1,4,N⟩ d).alloc o):=by
 have a:w.heap.size<=w.heap.size+1:=by omega
 have e:=((((h.setCell (p:=⟨w.heap.size+1,0,N⟩) a b).setCell (p:=⟨w.heap.size+1,1,N⟩) a f).setCell (p:=⟨w.heap.size+1,2,N⟩) a j).setCell (p:=⟨w.heap.size+1,3,N⟩) a i).setCell (p:=⟨w.heap.size+1,4,N⟩) a d;exact e.alloc e.size o
theorem zB{w:Wj}(h:Below w.heap.size w W)(c l m d j f k i:Wx):Below w.heap.size w ((((((((W.setCell ⟨w.heap.size+1+1,0,N⟩ c).setCell ⟨w.heap.size+1+1,1,N⟩ l).setCell ⟨w.heap.size+1+1,2,N⟩ m).setCell ⟨w.heap.size+1,0,N⟩ d).setCell ⟨w.heap.size+1,1,N⟩ j).setCell ⟨w.heap.size+1,2,N⟩ f).setCell ⟨w.heap.size+1,3,N⟩ k).setCell ⟨w.heap.size+1,4,N⟩ i):=by
 have a:w.heap.size<=w.heap.size+1:=by omega
 have b:w.heap.size<=w.heap.size+1+1:=by omega
 have n:=((h.setCell (p:=⟨w.heap.size+1+1,0,N⟩) b c).setCell (p:=⟨w.heap.size+1+1,1,N⟩) b l).setCell (p:=⟨w.heap.size+1+1,2,N⟩) b m;exact((((n.setCell (p:=⟨w.heap.size+1,0,N⟩) a d).setCell (p:=⟨w.heap.size+1,1,N⟩) a j).setCell (p:=⟨w.heap.size+1,2,N⟩) a f).setCell (p:=⟨w.heap.size+1,3,N⟩) a k).setCell (p:=⟨w.heap.size+1,4,N⟩) a i
theorem zC{w c:Wj}(h:Below w.heap.size w c)(b d f e i:Wx):Below w.heap.size w (((((c.setCell ⟨w.heap.size+1,0,N⟩ b).setCell ⟨w.heap.size+1,1,N⟩ d).setCell ⟨w.heap.size+1,2,N⟩ f).setCell ⟨w.heap.size+1,3,N⟩ e).setCell ⟨w.heap.size+1,4,N⟩ i):=by
 have a:w.heap.size<=w.heap.size+1:=by omega
 exact((((h.setCell (p:=⟨w.heap.size+1,0,N⟩) a b).setCell (p:=⟨w.heap.size+1,1,N⟩) a d).setCell (p:=⟨w.heap.size+1,2,N⟩) a f).setCell (p:=⟨w.heap.size+1,3,N⟩) a e).setCell (p:=⟨w.heap.size+1,4,N⟩) a i
theorem lh.to{w w1:Wj}(h:lh w W0)(a:Below W0.heap.size W0 w1):lh w w1:=
 ⟨h.below.trans (a.mono h.below.size),lL h.lt a.size,ah a h.c0,ah a h.c1,ah a h.c2,ah a h.c3,ah a h.c4,λj=>(a.frozen (p:=⟨w.heap.size+1,j,N⟩) h.lt).trans (h.fz j)⟩
theorem lh.put{w c:Wj}(h:lh w c)(b o:Nat)(v:Wx)(hb:w.heap.size+1<b):lh w (c.setCell ⟨b,o,N⟩ v):=by
 have a:∀j,(c.setCell ⟨b,o,N⟩ v).cell? ⟨w.heap.size+1,j,N⟩=c.cell? ⟨w.heap.size+1,j,N⟩:=λj=>cO c ⟨b,o,N⟩ ⟨w.heap.size+1,j,N⟩ v (λe=>by have:=congrArg Addr.block e;simp only at this;omega)
 exact⟨h.below.setCell (p:=⟨b,o,N⟩) (by simp only;omega) v,by have:=h.lt;simpa[World.setCell]using this,(a 0).trans h.c0,(a 1).trans h.c1,(a 2).trans h.c2,(a 3).trans h.c3,(a 4).trans h.c4,λj=>fs (h.fz j)⟩
theorem lh.put3{w:Wj}(h:lh w W)(x y z:Wx):lh w (((W.setCell ⟨w.heap.size+1+1,0,N⟩ x).setCell ⟨w.heap.size+1+1,1,N⟩ y).setCell ⟨w.heap.size+1+1,2,N⟩ z):=
 ((h.put _ 0 x (by omega)).put _ 1 y (by omega)).put _ 2 z (by omega)
theorem tU(w:Wj)(x y z:Wx)(T:Ww)(b:Nat)(a:w.heap.size=b):aW (w.alloc (E #[x,y,z] T)).drew b x y z:=by
 subst a;have h:=gJ w x y z T;exact⟨h.c0,h.c1,h.c2,h.fz⟩
theorem zD(A:Nat->Prop)(k0:Nat)(st:St)(s:Nat)(o:OpD)(w:Wj)(G:o.key.size<=maxLen)(S:aG A w k0 st)(V:Inv st s)(hs:s<2199023255340)(i:o.kind=2):
  Calls Yq.prog 8 #[O (J ⟨k0,0,N⟩),aT o] w (dD A w k0 st (aD ⟨(kM st o.key).2,(kM st o.key).1.num,(kM st o.key).1.body⟩)):=by
 obtain⟨kind,c,d,b,f,n,l⟩:=o;simp only at i G;subst i;have R0:=(IA w #[I K 2,U c,U d,U b,U f,I K n,I K l]);have HC:Hid (∀W1,Below w.heap.size w W1->Calls Yq.prog 11 #[O (J ⟨k0,0,N⟩),U c] W1 λe w'=>e=.returned (.tuple #[cx (kM st c).1,I K (kM st c).2])/\Below W1.heap.size W1 w'):=λW1 H=>Em A k0 st s c W1 G (S.on H) V (by omega)
 have HS:Hid (aG A w k0 st):=S;have k:Hid (lh w ((w.alloc (E #[I K 2,U c,U d,U b,U f,I K n,I K l] 30)).alloc (E #[I K 0,I K 0,U ⟨#[]⟩,M N 0 0,U ⟨#[]⟩] 46)).drew):=R0.drew;have h:Hid (lh w (((w.alloc (E #[I K 2,U c,U d,U b,U f,I K n,I K l] 30)).alloc (E #[I K 0,I K 0,U ⟨#[]⟩,M N 0 0,U ⟨#[]⟩] 46)).alloc (E #[I K 0,U ⟨#[]⟩,C Z] 62)).drew/\aW (((w.alloc (E #[I K 2,U c,U d,U b,U f,I K n,I K l] 30)).alloc (E #[I K 0,I K 0,U ⟨#[]⟩,M N 0 0,U ⟨#[]⟩] 46)).alloc (E #[I K 0,U ⟨#[]⟩,C Z] 62)).drew (w.heap.size+1+1) (I K 0) (U ⟨#[]⟩) (C Z)):=⟨(R0.more _).drew,(tU _ _ _ _ _ _ (by simp))⟩;have r:=S.lt;clear R0 S;simp only[aT];generalize kM st c=R at *;obtain⟨⟨t,u,Q⟩,j⟩:=R;simp only[cx]at HC;go_enter (Yq.nq func8),ntmps8;go_wp2_with fail
 go_region_with (first
  |(go_at_call 11;refine(HC.out _ k.out.below).mono ?_;rintro e m ⟨rfl,a⟩;have⟨⟨D,B,x,y,F⟩,P,X,L,g3,T⟩:=k.out.on r (aS a (J k0));have HX:Hid (Below w.heap.size w m):=k.out.below.trans (a.mono k.out.below.size);have p:w.heap.size+1<m.heap.size:=lL k.out.lt a.size;clear a)
  |(go_at_call 11;refine(HC.out _ h.out.1.below).mono ?_;rintro e m ⟨rfl,a⟩;have⟨⟨D,B,x,y,F⟩,P,X,L,g3,T⟩:=h.out.1.on r (aS a (J k0));have⟨v0,v1,v2,z⟩:=h.out.2.on a;have f0:=z 0;have f1:=z 1;have f2:=z 2;have HX:Hid (Below w.heap.size w m):=h.out.1.below.trans (a.mono h.out.1.below.size);have p:w.heap.size+1<m.heap.size:=lL h.out.1.lt a.size;clear a))
 .go_wp2;refine bodyPost_ret (v:=aD ⟨j,t,u⟩) (by simp[results,results8,go_sem,aD,D,B,x,y,F,p]) rfl ?_;exact bB HS.out (zz HX.out _ _ _ _ _ _)
 all_goals
  go_wp2;refine bodyPost_ret (v:=aD ⟨j,t,u⟩) (by simp[results,results8,go_sem,aD,D,B,x,y,F]) rfl ?_;have q:=zB HX.out (I K t) (U u) (C Q) (I K j) (I K t) (U u) (M N 0 0) (U ⟨#[]⟩);exact bB HS.out q
theorem vW(A:Nat->Prop)(k0:Nat)(st:St)(s:Nat)(o:OpD)(w:Wj)(F:o.key.size<=maxLen)(S:aG A w k0 st)(hI:Inv st s)(hs:s<2199023255340)(h:o.kind=3):
  Calls Yq.prog 8 #[O (J ⟨k0,0,N⟩),aT o] w (dD A w k0 st (aD ⟨(eE st o.key o.n).2,0,(eE st o.key o.n).1.body⟩)):=by
 obtain⟨kind,b,d,a,f,n,j⟩:=o;simp only at h F;subst h;have R0:=(IA w #[I K 3,U b,U d,U a,U f,I K n,I K j]);have HC:Hid (∀W1,Below w.heap.size w W1->Calls Yq.prog 12 #[O (J ⟨k0,0,N⟩),U b,I K n] W1 λe w'=>e=.returned (.tuple #[cx (eE st b n).1,I K (eE st b n).2])/\Below W1.heap.size W1 w'):=λW1 T=>BP A k0 st s b n W1 F (S.on T) hI (by omega)
 have HS:Hid (aG A w k0 st):=S;have p:Hid (lh w ((w.alloc (E #[I K 3,U b,U d,U a,U f,I K n,I K j] 30)).alloc (E #[I K 0,I K 0,U ⟨#[]⟩,M N 0 0,U ⟨#[]⟩] 46)).drew):=R0.drew;have m:Hid (lh w (((w.alloc (E #[I K 3,U b,U d,U a,U f,I K n,I K j] 30)).alloc (E #[I K 0,I K 0,U ⟨#[]⟩,M N 0 0,U ⟨#[]⟩] 46)).alloc (E #[I K 0,U ⟨#[]⟩,C Z] 62)).drew/\aW (((w.alloc (E #[I K 3,U b,U d,U a,U f,I K n,I K j] 30)).alloc (E #[I K 0,I K 0,U ⟨#[]⟩,M N 0 0,U ⟨#[]⟩] 46)).alloc (E #[I K 0,U ⟨#[]⟩,C Z] 62)).drew (w.heap.size+1+1) (I K 0) (U ⟨#[]⟩) (C Z)):=⟨(R0.more _).drew,(tU _ _ _ _ _ _ (by simp))⟩;have hk0:=S.lt;clear R0 S;simp only[aT];generalize eE st b n=X at *;obtain⟨⟨z,r,D⟩,i⟩:=X;simp only[cx]at HC;go_enter (Yq.nq func8),ntmps8
 go_upto_region 9 with fail
 go_cut [9,10] (λs9 s10 H=>s10=I K i/\∃y,s9=O (J ⟨y,0,N⟩)/\aW H y (I K z) (U r) (C D)/\w.heap.size+1<y/\lh w H)
 case first=>
  go_region_with (first
   |(go_at_call 12;refine(HC.out _ p.out.below).mono ?_;rintro e l ⟨rfl,c⟩;have HX:Hid (lh w l):=p.out.to c;have t:w.heap.size+1<l.heap.size:=lL p.out.lt c.size;clear c)
   |(go_at_call 12;refine(HC.out _ m.out.1.below).mono ?_;rintro e l ⟨rfl,c⟩;have⟨P,G,L,B⟩:=m.out.2.on c;have f0:=B 0;have f1:=B 1;have f2:=B 2;have HV:Hid (aW l (w.heap.size+1+1) (I K 0) (U ⟨#[]⟩) (C Z)/\lh w l):=⟨⟨P,G,L,B⟩,m.out.1.to c⟩;clear c))
  all_goals
   go_wp2_with fail
   go_meet
   case rel=>
    first
     |exact⟨rfl,w.heap.size+1+1,rfl,((HV.out.1.set0 (I K z)).set1 (U r)).set2 (C D),by omega,HV.out.2.put3 (I K z) (U r) (C D)⟩
     |exact⟨rfl,l.heap.size,rfl,gJ l (I K z) (U r) (C D) 62,t,HX.out.more _⟩
 case rest=>
 obtain⟨rfl,y,rfl,⟨P,G,L,-⟩,hbv,k⟩:=hcut;have hne:¬y=w.heap.size+1:=by omega
 have t:=k.lt;obtain⟨x,-,d0,V,Q,R,d4,q⟩:=k;have g0:=q 0;have g1:=q 1;have g2:=q 2;have g3:=q 3;have g4:=q 4;have HX:Hid (Below w.heap.size w wc):=x;clear x q;go_wp2;refine bodyPost_ret (v:=aD ⟨i,0,r⟩) (by simp[results,results8,go_sem,aD,d0,V,Q,R,d4]) rfl ?_;have u:=zC HX.out (I K i) (I K 0) (U r) (M N 0 0) (U ⟨#[]⟩);exact bB HS.out u
theorem mb(st:St)(o:OpD)(h:o.kind=1):aA st o=((nD st o.key o.body).1,⟨(nD st o.key o.body).2.2,(nD st o.key o.body).2.1,⟨#[]⟩⟩):=by
 unfold aA nD jT;rw[if_pos h];by_cases a:aK o.key=Z
 .simp [a]
 .by_cases b:100<o.body.size
  .simp [a,b]
  .by_cases c:200<=st.count\/st.last=9223372036854775807
   .simp [a,b,c]
   .simp [a,b,c]
theorem pY(st:St)(o:OpD)(h:o.kind=2):aA st o=(st,⟨(kM st o.key).2,(kM st o.key).1.num,(kM st o.key).1.body⟩):=by
 unfold aA kM;rw[if_neg (by omega),if_pos h];by_cases a:aK o.key=Z
 .simp [a,d7]
 .cases h2:(st.f o.key.data.toList).getLast? with
  |none=>simp[a,d7]
  |some v=>cases b:v.mark<;>simp[a,b,d7]
theorem oH(st:St)(o:OpD)(h:o.kind=3):aA st o=(st,⟨(eE st o.key o.n).2,0,(eE st o.key o.n).1.body⟩):=by
 unfold aA eE;rw[if_neg (by omega),if_neg (by omega),if_pos h];by_cases a:aK o.key=Z
 .simp [a,d7]
 .cases h2:cD (st.f o.key.data.toList) o.n with
  |none=>simp[a,d7]
  |some r=>
   cases b:(st.f o.key.data.toList)[r]? with
   |none=>simp[a,b,d7]
   |some v=>cases c:v.mark<;>simp[a,c,b,d7]
theorem jX(st:St)(o:OpD)(h:o.kind=4):aA st o=((fI st o.key).1,⟨(fI st o.key).2.2,(fI st o.key).2.1,⟨#[]⟩⟩):=by
 unfold aA fI jT;rw[if_neg (by omega),if_neg (by omega),if_neg (by omega),if_pos h];by_cases a:aK o.key=Z
 .simp [a]
 .by_cases b:200<=st.count\/st.last=9223372036854775807
  .simp [a,b]
  .simp [a,b]
theorem mR(st:St)(o:OpD)(h:o.kind=5):aA st o=((ez st o.key o.n).1,⟨(ez st o.key o.n).2,0,⟨#[]⟩⟩):=by
 unfold aA ez;rw[if_neg (by omega),if_neg (by omega),if_neg (by omega),if_neg (by omega),if_pos h];by_cases a:aK o.key=Z
 .simp [a]
 .cases h2:cD (st.f o.key.data.toList) o.n<;>simp[a]
theorem zE(A:Nat->Prop)(k0:Nat)(st:St)(s:Nat)(o:OpD)(w:Wj)(a:o.key.size<=maxLen)(k:o.body.size<=maxLen)(S:aG A w k0 st)(b:Inv st s)(c:s<2199023255340)(h6:o.kind<6\/12<o.kind):
  Calls Yq.prog 8 #[O (J ⟨k0,0,N⟩),aT o] w (dD A w k0 (aA st o).1 (aD (aA st o).2)):=by
 by_cases h:o.kind=1
 .rw [mb st o h];exact zy A k0 st s o w a k S b c h
 by_cases d:o.kind=2
 .rw [pY st o d];exact zD A k0 st s o w a S b c d
 by_cases j:o.kind=3
 .rw [oH st o j];exact vW A k0 st s o w a S b c j
 by_cases f:o.kind=4
 .rw [jX st o f];exact vV A k0 st s o w a S b c f
 by_cases i:o.kind=5
 .rw [mR st o i];exact tR A k0 st s o w a S b c i
 .have e:aA st o=(st,⟨1,0,⟨#[]⟩⟩):=by unfold aA;simp[h,d,j,f,i]
  rw[e];exact tT A k0 st o w S (by omega)
theorem Inv.step{st:St}{s:Nat}(h:Inv st s)(o:OpD):Inv (aA st o).1 (s+1):=by
 by_cases a:o.kind=1
 .rw [mb st o a];unfold nD
  (repeat' split)<;>first|exact h.mono (by omega)|exact h.add _ _ _ (λe=>by simp_all[jT])
 by_cases d:o.kind=2
 .rw [pY st o d];exact h.mono (by omega)
 by_cases c:o.kind=3
 .rw [oH st o c];exact h.mono (by omega)
 by_cases f:o.kind=4
 .rw [jX st o f];unfold fI
  (repeat' split)<;>first|exact h.mono (by omega)|exact h.add _ _ _ (λe=>by simp_all[jT])
 by_cases b:o.kind=5
 .rw [mR st o b];unfold ez;split
  .exact h.mono (by omega)
  .split
   .exact h.mono (by omega)
   .rename_i r i;exact h.drop _ _ (List.findIdx?_eq_some_iff_getElem.1 i).1
 .have e:aA st o=(st,⟨1,0,⟨#[]⟩⟩):=by unfold aA;simp[a,d,c,f,b]
  rw[e];exact h.mono (by omega)
def st0:St:=⟨λ_=>[],0,0⟩
def BQ(st:St):List OpD->List Ax
 | []=>[]
 |o::r=>(aA st o).2::BQ (aA st o).1 r
def Js(ops:List OpD):List Ax:=BQ st0 ops
theorem inv0:Inv st0 0:=by
 refine⟨by simp[st0],by simp[st0],by simp[st0],by simp[st0],λk=>by simp[st0],?_,?_⟩
 .intro k i j _ a;simp[st0]at a
 .intro k i b;simp[st0]at b
def bP(o:OpD):List Wx:=[I K o.kind,U o.key,U o.body,U o.delim,U o.past,I K o.n,I K o.src]
def ED(l:List Ax):List Wx:=l.flatMap λa=>[I K a.code,I K a.ver,U a.body,M N 0 0,U ⟨#[]⟩]
def ij(w:Wj)(b off:Nat)(ops:List OpD):Prop:=
 ∀i (h:i<ops.length),w.cell? ⟨b,off+i*7,N⟩=J (I K ops[i].kind)/\w.cell? ⟨b,off+i*7+1,N⟩=J (U ops[i].key)/\w.cell? ⟨b,off+i*7+2,N⟩=J (U ops[i].body) /\
  w.cell? ⟨b,off+i*7+3,N⟩=J (U ops[i].delim)/\w.cell? ⟨b,off+i*7+4,N⟩=J (U ops[i].past)/\w.cell? ⟨b,off+i*7+5,N⟩=J (I K ops[i].n)/\w.cell? ⟨b,off+i*7+6,N⟩=J (I K ops[i].src)
def Sized(ops:List OpD):Prop:=∀o∈ops,o.key.size<=maxLen/\o.body.size<=maxLen
theorem Yq.infoAns:(Yq.prog.info? 46).map (λi=>(i.zero,i.size,i.bytes))=J (J (.agg #[I K 0,I K 0,U ⟨#[]⟩,M N 0 0,U ⟨#[]⟩]),5,72):=by kernel_rfl
theorem nf{P:Wv}{q:Array Oper}{o:Oper}{a:Act}{w:Wj}{b:Act->Wj->Prop}{d:Prop}
  (L:o.guard=N) (s x:Operand) (t:Ww) (z:o.op=Op.call {callee:=Callee.builtin Builtin.append,args:=#[s,x],argTypes:=#[t,t]})
  (n:Nat) (e:Ww) (i:TypeInfo) (h:Nat) (X:P.underlying t=J (.slice e)) (F:P.info? e=J i) (V:i.size=h)
  (g k l:Nat) (y:List Wx) (H:a.eval s=.slice (J ⟨g,0,N⟩) k l) (p:w.ownsRow n e h (.slice (J ⟨g,0,N⟩) k l) k y) (A:Wu) (m c:Nat) (f:List Wx) (R:a.eval x=.slice (J A) m c) (S:f.length=m*h)
  (hc:∀j u,f[j]?=J u->w.cell? (A.add j)=J u) (v:∀u∈f,u.oneCell'=Y) (D:k+m<=l)
  (hK:∀w',w'.ownsRow n e h (.slice (J ⟨g,0,N⟩) (k+m) l) (k+m) (y++f)->w.grownBy w' (J g)->b (a.put o.dst (.slice (J ⟨g,0,N⟩) (k+m) l)) w'):
  if Region.wanted o (yielded q a.tmps)=Y then Oper.wp P o a w b Q else d:=by
 have B:Region.wanted o (yielded q a.tmps)=true:=by simp[Region.wanted,L]
 rw[if_pos B];have⟨w',r,G,T⟩:=run_append_fits (P:=P) w n t o.type e i h X F V g k l y p A m c f S hc v D;unfold Oper.wp;simp[execOp,z,resolve,invoke,builtin,H,R,r,Result.andThen];exact hK w' G T
theorem pZ(w:Wj)(a b d c e:Wx)(T:Ww):∀j u,[a,b,d,c,e][j]?=J u->(w.alloc (E #[a,b,d,c,e] T)).cell? ((⟨w.heap.size,0,N⟩:Wu).add j)=J u:=by
 intro j u f;rw[Addr.add_lit,cA (w:=w) _ _ w.heap.size _ rfl];simpa using f
theorem rn(w:Wj)(a:Array Wx)(T:Ww)(j:Nat):(w.alloc (E a T)).cell? ⟨w.heap.size,j,N⟩=a[j]?:=cA (w:=w) _ _ w.heap.size j rfl
theorem G6(a:Option Wu)(j:Nat)(w:Wj):
  Calls Yq.prog 6 #[M a 0 j] w λe w'=>∃g,e=.returned (M (J ⟨g,0,N⟩) 0 0) /\
   w'.ownsRow w.heap.size 46 5 (M (J ⟨g,0,N⟩) 0 0) 0 (ED (Js []))/\Below w.heap.size w w':=by
 have⟨q,p,i,l,f⟩:=info_parts Yq.infoAns;go_enter (Yq.nq func6),ntmps6;go_wp2_with (at_make;refine wpList_make_own _ rfl _ _ 26 rfl w.heap.size 46 q _ 5 (Yq.u underlying26) p i l _ _ _ 0 rfl rfl (by simp) ?qb1 ?qb2 ?qb3 ?_)
 case qb1=>rw[f];omega
 case qb2=>simp only[maxLen];omega
 case qb3=>simp
 intro d c b;have h:Below w.heap.size w d:=⟨b.os,b.tape,b.output,b.size,λk r=>b.block k r (by simp)⟩;have m:Hid (∀o,Below w.heap.size w (d.alloc o)):=λo=>h.alloc h.size _
 have n:Hid (∀o,(d.alloc o).ownsRow w.heap.size 46 5 (M (J ⟨w.heap.size,0,N⟩) 0 0) 0 []):=λo=>World.ownsRow.alloc (show d.ownsRow w.heap.size 46 5 (M (J ⟨w.heap.size,0,N⟩) 0 0) 0 []by simpa using c) o
 clear h c b;go_wp2_with fail
 refine wp_loop_rounds 1 ?_;rw[rounds_succ];go_wp2;go_ret;exact⟨w.heap.size,rfl,n.out _,m.out _⟩
structure il (w:Wj)(v:Wx)(ops:List OpD):Prop where
 form:∃a cap,v=M a ops.length cap/\(ops≠[]->∃b off,a=J ⟨b,off,N⟩/\ij w b off ops)
 sized:Sized ops
 len:ops.length<=2199023255552
end
section
open Go.ChangeShapes Go.WideShapes Go.ChangeAt Go.RowKit
theorem Jt:ownKnob Tryz.prog.godebug=none:=by kernel_rfl
theorem EE:laidOutB Tryz.prog=true:=by kernel_rfl
theorem rp:Tryz.prog.cellsOf 30=7:=by kernel_rfl
theorem oK:Tryz.prog.cellsOf 3=1:=by kernel_rfl
theorem fT:Tryz.prog.cellsOf 9=1:=by kernel_rfl
theorem EF:Tryz.prog.bytesOf 30=88:=by kernel_rfl
theorem seven(l:List H)(h:l.length=7):∃p q i j o m k,l=[p,q,i,j,o,m,k]:=by
 match l,h with
 | [a,b,c,d,e,f,g],_=>exact⟨a,b,c,d,e,f,g,rfl⟩
theorem G7{k:Ww×Wx->H}{d:Nat}{a:Nat->Bool}{e:Bool}{f:Nat}{cs:List Wx}{x:DataW H×List MemPlace}(h:DataW.trod k Tryz.prog W d a e f 30 cs=J x):
  ∃o:OpD,cs=bP o/\o.key.size<=maxLen/\o.body.size<=maxLen:=by
 obtain⟨D,n,rfl,_,A,j,b⟩:=DataW.trod_struct underlying30 h;rw[rp]at A;have c:∀i,i<7->∃y,D[i]?=J y:=λi hi=>⟨D[i]'(by rw[j];exact hi),eL _⟩
 obtain⟨c0,c1,c2,c3,c4,c5,c6,rfl⟩:=seven cs A
 .skip
  have⟨y0,Q⟩:=c 0 (by omega);have⟨y1,e1⟩:=c 1 (by omega);have⟨y2,e2⟩:=c 2 (by omega);have⟨y3,e3⟩:=c 3 (by omega);have⟨y4,e4⟩:=c 4 (by omega);have⟨y5,R⟩:=c 5 (by omega);have⟨y6,V⟩:=c 6 (by omega);have v:=b 0 _ rfl;have z:=b 1 _ rfl;have l:=b 2 _ rfl;have m:=b 3 _ rfl;have q:=b 4 _ rfl;have G:=b 5 _ rfl;have r:=b 6 _ rfl;rw[Q]at v;rw[e1]at z;rw[e2]at l;rw[e3]at m;rw[e4]at q;rw[R]at G;rw[V]at r;have⟨L,T,_,_⟩:=DataW.trod_int underlying3 v;have⟨u,h1,_,s1⟩:=DataW.trod_string underlying9 z;have⟨s,S,_,s2⟩:=DataW.trod_string underlying9 l;have⟨F,h3,_,s3⟩:=DataW.trod_string underlying9 m;have⟨t,h4,_,s4⟩:=DataW.trod_string underlying9 q;have⟨p,h5,_,_⟩:=DataW.trod_int underlying3 G;have⟨B,h6,_,_⟩:=DataW.trod_int underlying3 r;have k0:c0=I K L:=by simpa[oK]using T
  have P:c1=U u:=by simpa[fT]using h1
  have k2:c2=U s:=by simpa[fT]using S
  have X:c3=U F:=by simpa[fT]using h3
  have k4:c4=U t:=by simpa[fT]using h4
  have k5:c5=I K p:=by simpa[oK]using h5
  have k6:c6=I K B:=by simpa[oK]using h6
  subst k0 P k2 X k4 k5 k6;exact⟨⟨L,u,s,F,t,p,B⟩,rfl,s1,s2⟩
theorem vX{L:Ww×Wx->H}{X:Option Wu}{c e:Nat}{x:DataW H×List MemPlace}(h:DataW.trod L Tryz.prog W 0 (λ_=>Y) Y y 22 [.slice X c e]=J x)
  (hz:∀d k,x.1=.slice d k->(d.length+k.length)*88<=140737488355328):
  (∃Q,il W (.slice X c e) Q)/\c<=e/\e<=maxLen/\e*88<=140737488355328:=by
 rcases Go.Deep.open_slice underlying22 h with⟨l,_⟩|⟨a,len',cap',m,n,D,Pl,l,_,S,B,V,hx,u⟩
 .simp only[List.cons.injEq,Value.slice.injEq,and_true]at l;obtain⟨rfl,rfl,rfl⟩:=l;exact⟨⟨[],⟨N,0,rfl,λh=>absurd rfl h⟩,λo R=>absurd R List.not_mem_nil,by simp⟩,lR _,by simp[maxLen],by omega⟩
 .simp only[List.cons.injEq,Value.slice.injEq,and_true]at l;obtain⟨rfl,rfl,rfl⟩:=l;simp only[if_true]at V;subst V;have hb:=hz _ _ (by rw[hx]);simp only[lM,List.length_range]at hb;rw[rp]at u;have G:∀i,i<c->∃o:OpD,(∀j,j<7->W.cell? (a.add (i*7+j))=(bP o)[j]?)/\o.key.size<=maxLen/\o.body.size<=maxLen:=λi t=>by
   have⟨cs',h1,h2⟩:=u i (by omega);obtain⟨o,rfl,s1,s2⟩:=G7 h2;have⟨_,_,h3⟩:=World.cells?_some h1;refine⟨o,λj T=>?_,s1,s2⟩;rw[<-Go.Deep.add_add];exact h3 j T
  have hin:Inhabited OpD:=⟨⟨0,⟨#[]⟩,⟨#[]⟩,⟨#[]⟩,⟨#[]⟩,0,0⟩⟩;have⟨f,P⟩:=Go.Deep.choose_lt (α:=OpD) G;refine⟨⟨(List.range c).map f,⟨J a,m,by simp,λz=>?_⟩,?_,?_⟩,S,B,by omega⟩
  .have v:0<c:=by
    rcases Nat.eq_zero_or_pos c with F|F
    .subst F;simp at z
    .exact F
   obtain⟨b,s,p⟩:=a;have A:=(P 0 v).1 0 (by omega);have r:p=none:=by
    have:W.cell? ((⟨b,s,p⟩:Wu).add 0)=J (.int .i64 (f 0).kind):=by simpa[bP]using A
    simpa[Addr.add]using World.cell?_spot this
   subst r;refine⟨b,s,rfl,λi t=>?_⟩;simp only[lM,List.length_range]at t;have q:∀j,j<7->W.cell? ⟨b,s+i*7+j,N⟩=(bP (f i))[j]?:=λj T=>by
    rw[<-(P i t).1 j T,Addr.add_lit];congr 2;omega
   have hg:((List.range c).map f)[i]'(by simpa using t)=f i:=by simp
   rw[hg];exact⟨q 0 (by omega),q 1 (by omega),q 2 (by omega),q 3 (by omega),q 4 (by omega),q 5 (by omega),q 6 (by omega)⟩
  .intro o R;obtain⟨i,t,rfl⟩:=List.mem_map.1 R;exact(P i (by simpa using t)).2
  .simp only[lM,List.length_range];omega
theorem EG{j:Ww×Wx->H}{e:Nat}{l:Option Wu}{f i B:Nat}{x:DataW H×List MemPlace}(h:DataW.trod j Tryz.prog W 0 (λ_=>Y) Y e 22 [.slice l f i]=J x)
  (o:∀b c,x.1=.slice b c->(b.length+c.length)*88<=B):f*88<=B:=by
 rcases Go.Deep.open_slice underlying22 h with⟨d,_⟩|⟨a,len',cap',m,n,D,Pl,d,_,hlc,hcm,k,q,hel⟩
 .simp only[List.cons.injEq,Value.slice.injEq,and_true]at d;obtain⟨rfl,rfl,rfl⟩:=d;omega
 .simp only[List.cons.injEq,Value.slice.injEq,and_true]at d;obtain⟨rfl,rfl,rfl⟩:=d;simp only[if_true]at k;subst k;have p:=o _ _ (by rw[q]);simp only[lM,List.length_range]at p;omega
end
section
open Go.ChangeShapes Go.WideShapes Go.ChangeAt Go.RowKit
open Go.Conc Go.ConcX Go.ConcX.Gen
def slB(a:Option Wu)(b:Nat):Prop:=∃x,a=J x/\x.block=b
theorem EH{w:Wj}(h:laidMetH Tryz.prog YteidaiooccmmmaaGreatDoor.Rows.pagedRow.laid w):rm w:=by
 have b:laidMet Tryz.prog YteidaiooccmmmaaGreatDoor.Rows.pagedRow.laid w:=h;have a:=mP (mP b);have e:(YteidaiooccmmmaaGreatDoor.Rows.laid_internal_strconv_uint64pow10:DataW Unit)=Lib.tabData .u64 Lib.pow10Tab:=by kernel_rfl
 rw[e]at a;exact Lib.tabIs_of_head (P:=Tryz.prog) (g:=1) (t:=236) (e:=34) (n:=20) (by kernel_rfl) (by kernel_rfl) (by kernel_rfl) (by kernel_rfl) (by kernel_rfl) (by kernel_rfl) a
theorem BR{o:Ww×Wx->H}{l:Nat}{v:Wx}{d:DataW H}{p:List MemPlace}(m:Value.okWide Tryz.prog W .any l 22 v)(h:DataW.Trod o Tryz.prog W 0 (λ_=>Y) Y 22 v d p)(t:∀f i,d=.slice f i->(f.length+i.length)*88<=140737488351232):
  ∃a j k n,v=.slice a j k/\il W (.slice a j k) n/\(∀b,slB a b->∃c e z,W.heap[b]?=J (.cells c e z))/\j*88<=140737488351232:=by
 obtain⟨a,j,k,rfl⟩:=okWide_slice underlying22 m;obtain⟨q,u⟩:=h;have r:DataW.trod o Tryz.prog W 0 (λ_=>Y) Y q 22 [.slice a j k]=J (d,p):=by simpa[Value.cells]using u
 obtain⟨⟨n,B⟩,-,-,-⟩:=vX r (λf i A=>by have:=t f i A;omega);refine⟨a,j,k,n,rfl,B,?_,EG r t⟩;rintro b ⟨x,rfl,rfl⟩;unfold Value.okWide at m;rw[underlying22]at m;have m:Cell.okWide Tryz.prog W .any l 22 (.slice (J x) j k):=m;unfold Cell.okWide Cell.ok at m;rw[underlying22]at m;obtain⟨-,-,-,-,row,cells,s,-⟩:=m;unfold World.shape? at s;split at s
 .rename_i c e z y;exact⟨c,e,z,y⟩
 .cases s
theorem EI{P:Wv}{Post Post':Wx->Wj->Prop}{d:Array Goroutine}{c:Option (Nat×Nat)}{t:Trace}(h:Fin P Post d W c t)(e:∀v w',Post v w'->Post' v w'):Fin P Post' d W c t:=by
 obtain⟨a,b,o,w',k,f,l,i,j⟩:=h;exact⟨a,b,o,w',k,f,l,i,j.mono λv h=>e v w' h⟩
theorem G8{f:Ww×Wx->H}{B:Os}(k:B.Started){m:FuncId}{fn:Func}{s:ChangeSpec}{l:List (String×DataW Unit)}(D:Tryz.prog.funcs[m]?=J fn)
  (L:∃ (w:Wj) (b:Tape) (i:Input),w.os=B/\(w.forCall b i).Shaped Tryz.prog/\i.vars=[]/\Input.okWide Tryz.prog (w.forCall b i) .any w.heap.size m i/\((s.pre f Tryz.prog fn [] Z (w.forCall b i).memory i.args/\laidMetH Tryz.prog l (w.forCall b i).memory)/\sizedMet f Tryz.prog fn (OpenSpec.ofChange s) Z (w.forCall b i).memory i.args)/\({}:Assume).holds Tryz.prog (lone (Frame.enter Tryz.prog m i.args .normal) [] (w.forCall b i)))
  (h:∀ (W:Wj) (q:Nat) (c:Array Wx) (y x:List (DataW H)) (d:List MemPlace),W.ShapedOpen Tryz.prog->(∀ (j:Nat) t v,fn.params[j]?=J t->c[j]?=J v->Value.okWide Tryz.prog W .any q t v)->DataW.Whole f Tryz.prog fn.params.toList s.vars Z W c.toList y x d->(DataW.weightsEach Tryz.prog (fn.params.toList++s.plain.varTypes Tryz.prog) (y++x)).all (·<=reachBytes)=Y->laidMetH Tryz.prog l W->Fin Tryz.prog (λv W'=>s.post f Tryz.prog fn Z Y Z Z W c v W') #[G (Frame.enter Tryz.prog m c .normal) []] W N #[]):
  ReturnsInLeavingWide {} Tryz.checked B m .any (λw c=>(s.pre f Tryz.prog fn [] Z w c/\laidMetH Tryz.prog l w)/\sizedMet f Tryz.prog fn (OpenSpec.ofChange s) Z w c) (s.post f Tryz.prog fn Z Y Z Z):=by
 refine returnsInLeavingWide_of_good (C:=Tryz.checked) Jt k L ?_;intro w b i _ A _ z r _;obtain⟨_,_,_,F,p,_,_,_,_,u⟩:=z;have e:F=fn:=oJ (p.symm.trans D);subst e;obtain⟨⟨⟨y,x,d,P,-⟩,S⟩,hz⟩:=r;have⟨a,n,o,w',R,T,e2,V,X⟩:=h (w.forCall b i) w.heap.size i.args y x d A u (DataW.Whole.of_heap (w':=w.forCall b i) (by rfl) P) (hz.weights P) (S.of_heap (by rfl));exact⟨a,n,o,w',R,T,e2,V,X.mono λv Q=>ChangeSpec.post_blind Q⟩
end
section
open Go.Conc Go.ConcX Go.ConcX.Gen Go.RowKit Go.MapKept
abbrev Told:=List (ByteArray×Int×Int)
def plV(x:Int×Int):Wx:=.agg #[I K x.1,I K x.2]
def dN(k:ByteArray):Told->Option (Int×Int)
 | []=>N
 |(k',x)::r=>if k=k' then J x else dN k r
def j7(k:ByteArray)(x:Int×Int):Told->Told
 | []=>[(k,x)]
 |(k',x')::r=>if k=k' then(k,x)::r else(k',x')::j7 k x r
def Ay:List MapEntry->Told->Prop
 | [],[]=>True
 |e::es,(k,x)::r=>e.key=U k/\e.val=plV x/\Ay es r
 |_,_=>False
theorem xL(k:ByteArray):∀ (b:List MapEntry)(t:Told)(i:Nat),Ay b t ->
  (∃x j,dN k t=J x/\j<b.length/\Instr.findNow .string (.string k) b i=J (J (i+j,plV x))/\((b[j]?).map (·.key))=J (.string k)/\∀ (c:Int×Int) (d:List MapEntry),d=b.modify j (λe=>{e with key:=.string k,val:=plV c})->Ay d (j7 k c t)) \/
  (dN k t=N/\Instr.findNow .string (.string k) b i=J N/\∀ (c:Int×Int) (n:Nat),Ay (b++[⟨.string k,plV c,n⟩]) (j7 k c t)):=by
 intro b;induction b with
 |nil=>
  intro t i h;cases t with
  |nil=>exact .inr ⟨rfl,rfl,λc n=>⟨rfl,rfl,trivial⟩⟩
  |cons a r=>exact h.elim
 |cons e b ih=>
  intro t i h;cases t with
  |nil=>exact h.elim
  |cons a r=>
   obtain⟨m,x⟩:=a;obtain⟨l,o,u⟩:=h;by_cases f:k=m
   .subst f
    left
    refine⟨x,0,by simp[dN],by simp,?_,by simp[l],λc d p=>?_⟩
    .simp [Instr.findNow,Instr.sameNow,l,o,(bytes_beq k k).2 rfl]
    .subst p;simp[j7,Ay,u]
   .have v:Instr.findNow .string (.string k) (e::b) i=Instr.findNow .string (.string k) b (i+1):=by
     have B:(k==m)=false:=by
      cases h:k==m with
      |true=>exact absurd ((bytes_beq k m).1 h) f
      |false=>rfl
     simp[Instr.findNow,Instr.sameNow,l,B]
    rcases ih r (i+1) u with⟨y,j,q,z,s,A,D⟩|⟨q,z,s⟩
    .left
     refine⟨y,j+1,by simp[dN,f,q],by simp;omega,?_,by simpa using A,λc d p=>?_⟩
     .rw [v,s,show i+1+j=i+(j+1)by omega]
     .subst p;simp only[j7,f,if_false,List.modify_succ_cons,Ay];exact⟨l,o,D c _ rfl⟩
    .right
     refine⟨by simp[dN,f,q],by rw[v,z],λc n=>?_⟩;simp only[j7,f,if_false,List.cons_append,Ay];exact⟨l,o,s c n⟩
def BS(w:Wj)(c:Wx)(t:Told)(A:Nat->Prop)(B:Nat):Prop:=
 (c=.map N/\t=[])\/∃m b a,c=.map (J m)/\w.heap[m]?=J (.map b a)/\Ay b.toList t/\¬A m/\B<=m
theorem iY(b:Bool)(k:ByteArray)(w:Wj):(Instr.checkKey b 10000 9 (U k)).run Yq.prog w=.ok () w:=by
 show(Instr.checkKey b (9999+1) 9 (U k)).run Yq.prog w=_;rw[Instr.checkKey];simp[go_sem]
theorem G9(w:Wj):(zeroValue 111).run Yq.prog w=.ok (plV (0,0)) w:=by kernel_rfl
theorem rq{w:Wj}{s:Obj}(h:w.heap[m]?=J s)(a:s.isCells=Z):Sem.run Yq.prog (getObj m) w=.ok s w:=by
 cases s with
 |cells c e z=>cases a
 |_=>simp[getObj,Sem.run,h]
theorem BT{w:Wj}{s a:Obj}(h:w.heap[m]?=J s)(b:s.isCells=Z):Sem.run Yq.prog (setObj m a) w=.ok () (w.putObj m a):=by
 cases s with
 |cells c e z=>cases b
 |_=>simp[setObj,Sem.run,h,World.putObj]
theorem mc{w:Wj}{v:Wx}{t:Told}{A:Nat->Prop}{B:Nat}(h:BS w v t A B)(k:ByteArray):
  (Instr.lookup 38 v (U k) Y).run Yq.prog w=.ok (.tuple #[plV ((dN k t).getD (0,0)),C (dN k t).isSome]) w:=by
 have hz:=G9 w;rcases h with⟨rfl,rfl⟩|⟨m,e,clock,rfl,b,i,-,-⟩
 .simp [Instr.lookup,go_sem,iY,Instr.findKey,Instr.findNow,dN,plV]
 .rcases xL k e.toList t 0 i with⟨x,j,a,d,f,-⟩|⟨a,d,-⟩
  .simp [Instr.lookup,go_sem,iY,Instr.findKey,rq b rfl,a,f]
  .simp [Instr.lookup,go_sem,iY,Instr.findKey,rq b rfl,a,d,plV]
theorem p8{w:Wj}{c:Array MapEntry}{a:Nat}{t:Told}(f:w.heap[m]?=J (.map c a))(o:Ay c.toList t)(k:ByteArray)(x:Int×Int):
  ∃d b,(Instr.mapUpdate 38 (.map (J m)) (U k) (plV x)).run Yq.prog w=.ok () (w.putObj m (.map d b))/\Ay d.toList (j7 k x t):=by
 rcases xL k c.toList t 0 o with⟨y,j,p,l,i,n,q⟩|⟨p,l,i⟩
 .refine ⟨c.modify j λe=>{e with key:=U k,val:=plV x},a,?_,q x _ (by simp)⟩;have h:(c[j]?).map (·.key)=J (U k):=by simpa using n
  simp[Instr.mapUpdate,go_sem,iY,Instr.findKey,rq f rfl,BT f rfl,i,h,Instr.keyThatStays,Instr.sameBits,World.putObj,(bytes_beq k k).2 rfl]
 .refine ⟨c.push ⟨U k,plV x,a⟩,a+1,?_,by simpa using i x a⟩;simp[Instr.mapUpdate,go_sem,iY,Instr.findKey,rq f rfl,BT f rfl,l,World.putObj]
end
section
open Go.Conc Go.ConcX Go.ConcX.Gen Go.RowKit
structure LsA where
 num:Int
 f:List UInt8->List Ver
 q:Qy
 size:Int
 left:Int
def LsA.lst(x:LsA)(r:Option Wu):Lst:=⟨x.num,r,x.q.vs,x.q.p,x.q.d,x.q.af,x.size,x.left⟩
structure Lg where
 opened:List LsA
 begun:Int
 told:Told
 tm:Int
def bf(zs:List (LsA×Option Wu)):List Wx:=zs.flatMap λz=>(aM (z.1.lst z.2)).toList
theorem me(a:List (LsA×Option Wu)):(bf a).length=a.length*8:=fO 8 _ (λ_=>rfl) a
theorem vY(a:List (LsA×Option Wu))(z:LsA×Option Wu):bf (a++[z])=bf a++(aM (z.1.lst z.2)).toList:=by simp[bf]
def xM(A:Nat->Prop)(B:Nat)(w:Wj)(v:Wx)(xs:List LsA):Prop:=
 ∃a:List (LsA×Option Wu),xs=a.map (·.1)/\w.ownsRow B 107 8 v a.length (bf a)/\(∀g,v.ownBlock=J g->¬A g)/\∀z∈a,am A 41 w z.2 z.1.f
structure dE (A:Nat->Prop)(B:Nat)(w:Wj)(k0:Nat)(L:Lg):Prop where
 opened:∃v,w.cell? ⟨k0,4,N⟩=J v/\xM A B w v L.opened
 begun:w.cell? ⟨k0,5,N⟩=J (I K L.begun)
 told:∃mv,w.cell? ⟨k0,6,N⟩=J mv/\BS w mv L.told A B
 frozen:∀j,w.frozen? ⟨k0,j,N⟩=Z
 avoid:¬A k0
 low:k0<B
 inn:∀b,A b->b<w.heap.size
structure aV (A:Nat->Prop)(B k0:Nat)(w w':Wj):Prop where
 os:w'.os=w.os
 size:w.heap.size<=w'.heap.size
 low:∀b,b<B->b<w.heap.size->b≠k0->w'.heap[b]?=w.heap[b]?
 tree:∀b,A b->b<w.heap.size->w'.heap[b]?=w.heap[b]?
 cells:∀j,j<4\/6<j->w'.cell? ⟨k0,j,N⟩=w.cell? ⟨k0,j,N⟩
 fz:∀j,w'.frozen? ⟨k0,j,N⟩=w.frozen? ⟨k0,j,N⟩
section
variable {A:Nat->Prop} {B k0:Nat} {w w' w'':Wj} {L:Lg}
theorem aV.refl:aV A B k0 w w:=⟨rfl,lR _,λ_ _ _ _=>rfl,λ_ _ _=>rfl,λ_ _=>rfl,λ_=>rfl⟩
theorem aV.trans(h:aV A B k0 w w')(k:aV A B k0 w' w''):aV A B k0 w w'':=
 ⟨k.os.trans h.os,lT h.size k.size,λb a c e=>(k.low b a (lL c h.size) e).trans (h.low b a c e),λb a c=>(k.tree b a (lL c h.size)).trans (h.tree b a c),λj d=>(k.cells j d).trans (h.cells j d),λj=>(k.fz j).trans (h.fz j)⟩
theorem dE.lt(h:dE A B w k0 L):k0<w.heap.size:=bC w _ h.begun
theorem aV.left(d:k0<w.heap.size)(h:au w w'):aV A B k0 w w':=
 ⟨h.os,h.size,λb _ c _=>h.block b c,λb _ c=>h.block b c,λj _=>cB (a:=⟨k0,j,N⟩) (h.block k0 d),λj=>fB (a:=⟨k0,j,N⟩) (h.block k0 d)⟩
theorem au.refl:au w w:=⟨rfl,lR _,λ_ _=>rfl⟩
theorem au.trans(h:au w w')(k:au w' w''):au w w'':=⟨k.os.trans h.os,lT h.size k.size,λb a=>(k.block b (lL a h.size)).trans (h.block b a)⟩
theorem au.below(h:Below w.heap.size w w'):au w w':=⟨h.os,h.size,h.block⟩
theorem au.alloc(h:au w w')(o:Obj):au w (w'.alloc o):=⟨h.os,by have:=h.size;simp;omega,λb a=>(bA _ _ _ (lL a h.size)).trans (h.block b a)⟩
theorem au.drew(h:au w w'):au w w'.drew:=⟨h.os,h.size,h.block⟩
theorem au.cell(h:au w w'){b j:Nat}{v:Wx}(c:w.cell? ⟨b,j,N⟩=J v):w'.cell? ⟨b,j,N⟩=J v:=
 (cB (a:=⟨b,j,N⟩) (h.block b (bC w _ c))).trans c
theorem au.set(h:au w w'){b:Nat}(hb:w.heap.size<=b)(j:Nat)(v:Wx):au w (w'.setCell ⟨b,j,N⟩ v):=
 ⟨h.os,by have:=h.size;simp;omega,λk a=>(bS _ _ _ _ (by show k≠b;omega)).trans (h.block k a)⟩
theorem BS.left{v:Wx}{t:Told}(h:BS w v t A B)(i:au w w'):BS w' v t A B:=by
 rcases h with h|⟨m,e,a,d,c,f⟩
 .exact .inl h
 .exact .inr ⟨m,e,a,d,(i.block m (eS c).1).trans c,f⟩
theorem xM.left{v:Wx}{xs:List LsA}(h:xM A B w v xs)(c:au w w'):xM A B w' v xs:=by
 obtain⟨i,f,d,k,e⟩:=h;exact⟨i,f,bW d λg _ l=>c.block g l,k,λz m=>am.keep (λb j a=>⟨j,c.block b a⟩) 41 _ _ (e z m)⟩
theorem dE.left(h:dE A B w k0 L)(c:au w w'):dE A B w' k0 L:=by
 have⟨v,l,i⟩:=h.opened;have⟨e,f,d⟩:=h.told;exact⟨⟨v,c.cell l,i.left c⟩,c.cell h.begun,⟨e,c.cell f,d.left c⟩,λj=>(fB (a:=⟨k0,j,N⟩) (c.block k0 h.lt)).trans (h.frozen j),h.avoid,h.low,λb k=>lL (h.inn b k) c.size⟩
theorem putMap{h es':Array MapEntry}{d clock':Nat}(_hm:w.heap[m]?=J (.map h d))(k:¬A m)(hB:B<=m)(hk:k0<B):aV A B k0 w (w.putObj m (.map es' clock')):=by
 have c:∀b,b≠m->(w.putObj m (.map es' clock')).heap[b]?=w.heap[b]?:=λb i=>pO i
 exact⟨rfl,by simp,λb f l _=>c b (by omega),λb f l=>c b (λe=>k (e▸f)),λj _=>cB (a:=⟨k0,j,N⟩) (c k0 (by omega)),λj=>fB (a:=⟨k0,j,N⟩) (c k0 (by omega))⟩
theorem dE.putMap(h:dE A B w k0 L){s es':Array MapEntry}{f clock':Nat}(Q:w.cell? ⟨k0,6,N⟩=J (.map (J m)))(l:w.heap[m]?=J (.map s f))(q:¬A m)(R:B<=m){t:Told}(D:Ay es'.toList t):dE A B (w.putObj m (.map es' clock')) k0 {L with told:=t}:=by
 have c:∀b,b≠m->(w.putObj m (.map es' clock')).heap[b]?=w.heap[b]?:=λb i=>pO i
 have hk:=h.low;have d:∀j,(w.putObj m (.map es' clock')).cell? ⟨k0,j,N⟩=w.cell? ⟨k0,j,N⟩:=λj=>cB (a:=⟨k0,j,N⟩) (c k0 (by omega))
 have⟨v,S,u,H,o,x,G⟩:=h.opened;refine⟨⟨v,(d 4).trans S,u,H,?_,x,λz T=>am.keep (λb i hlt=>⟨i,c b (λe=>q (e▸i))⟩) 41 _ _ (G z T)⟩,(d 5).trans h.begun,⟨_,(d 6).trans Q,.inr ⟨m,es',clock',rfl,World.putObj_heap_same (eS l).1,D,q,R⟩⟩,λj=>(fB (a:=⟨k0,j,N⟩) (c k0 (by omega))).trans (h.frozen j),h.avoid,h.low,λb i=>by simpa using h.inn b i⟩;refine⟨o.1,?_⟩;rcases o.2 with P|⟨g,n,k,F,y,p,r⟩
 .exact .inl P
 .refine .inr ⟨g,n,k,F,y,(c g λe=>?_).trans p,r⟩;subst e;rw[p]at l;cases l
end
def jY(k0:Nat)(w:Wj)(b:Nat):Prop:=∃v,w.cell? ⟨k0,4,N⟩=J v/\v.ownBlock=J b
structure FrC (k0:Nat)(w w':Wj):Prop where
 size:w.heap.size<=w'.heap.size
 keep:∀b,dp w b->b≠k0->¬jY k0 w b->w'.heap[b]?=w.heap[b]?
 own:∀b,jY k0 w' b->jY k0 w b\/w.heap.size<=b
section
variable {k0:Nat} {w w' w'':Wj}
theorem dp.same{b:Nat}(h:dp w b)(e:w'.heap[b]?=w.heap[b]?):dp w' b:=by
 obtain⟨o,a,c⟩:=h;exact⟨o,e.trans a,c⟩
theorem FrC.refl:FrC k0 w w:=⟨lR _,λ_ _ _ _=>rfl,λ_ h=>.inl h⟩
theorem FrC.trans(h:FrC k0 w w')(k:FrC k0 w' w''):FrC k0 w w'':=by
 refine⟨lT h.size k.size,λb d f c=>?_,λb c=>?_⟩
 .have e:=h.keep b d f c;refine(k.keep b (d.same e) f λa=>?_).trans e;rcases h.own b a with i|i
  .exact c i
  .have:=d.lt;omega
 .rcases k.own b c with a|a
  .exact h.own b a
  .exact .inr (lT h.size a)
theorem FrC.same4(d:w.heap.size<=w'.heap.size)(f:w'.cell? ⟨k0,4,N⟩=w.cell? ⟨k0,4,N⟩)(h:∀b,dp w b->b≠k0->¬jY k0 w b->w'.heap[b]?=w.heap[b]?):FrC k0 w w':=
 ⟨d,h,λb c=>.inl (by obtain⟨v,a,e⟩:=c;exact⟨v,f.symm.trans a,e⟩)⟩
theorem FrC.left(c:k0<w.heap.size)(h:au w w'):FrC k0 w w':=FrC.same4 h.size (cB (a:=⟨k0,4,N⟩) (h.block k0 c)) λb d _ _=>h.block b d.lt
theorem FrC.set(j:Nat)(v:Wx)(a:j≠4):FrC k0 w (w.setCell ⟨k0,j,N⟩ v):=
 FrC.same4 (by simp) (cO _ _ _ _ (bO a)) λb _ c _=>bS _ _ _ _ c
theorem FrC.open{g j:Nat}{v:Wx}(d:jY k0 w g)(c:g≠k0):FrC k0 w (w.setCell ⟨g,j,N⟩ v):=
 FrC.same4 (by simp) (cB (a:=⟨k0,4,N⟩) (bS _ _ _ _ (λe=>c e.symm))) λb _ _ h=>bS _ _ _ _ (λe=>h (by rw[show b=g from e];exact d))
theorem FrC.fresh{j:Nat}{v:Wx}(h:FrC k0 W w)(hr:W.heap.size<=m)(k:m≠k0):FrC k0 W (w.setCell ⟨m,j,N⟩ v):=by
 refine⟨by have:=h.size;simpa using this,λb f c d=>(bS _ _ _ _ (show b≠m by have:=f.lt;omega)).trans (h.keep b f c d),λb d=>?_⟩;refine h.own b ?_;obtain⟨x,i,l⟩:=d;exact⟨x,(cB (a:=⟨k0,4,N⟩) (bS _ _ _ _ (λe=>k e.symm))).symm.trans i,l⟩
theorem FrC.keepC(h:dL k0 w w')(f:w'.cell? ⟨k0,4,N⟩=w.cell? ⟨k0,4,N⟩):FrC k0 w w':=
 FrC.same4 h.1 f λb d c _=>by
  obtain⟨o,a,e⟩:=d;exact(h.2.2 b o a e c).trans a.symm
end
theorem jE{P:Wv}{q:Array Oper}{o:Oper}{p:Act}{w w':Wj}{b:Act->Wj->Prop}{n:Prop}(j:o.guard=N)(t:Ww)(x y z:Operand)(e:o.op=.mapUpdate t x y z)
  (h:(Instr.mapUpdate t (p.eval x) (p.eval y) (p.eval z)).run P w=.ok () w') (i:b (p.put o.dst Wo) w'):
  if Region.wanted o (yielded q p.tmps)=Y then Oper.wp P o p w b Q else n:=by
 have f:Region.wanted o (yielded q p.tmps)=true:=by simp[Region.wanted,j]
 rw[if_pos f];unfold Oper.wp;simp[execOp,e,h,Result.andThen];exact i
theorem zF(m:Nat)(w:Wj):(binOp BinOp.eql 38 (.map (J m)) (.map N)).run Yq.prog w=.ok (C Z) w:=by kernel_rfl
theorem vZ(w:Wj):(binOp BinOp.eql 38 (.map N) (.map N)).run Yq.prog w=.ok (C Y) w:=by kernel_rfl
section
variable {A:Nat->Prop} {B k0:Nat} {L:Lg}
theorem aV.set{w:Wj}(a:¬A k0){j:Nat}(hj:4<=j/\j<=6)(v:Wx):aV A B k0 w (w.setCell ⟨k0,j,N⟩ v):=
 ⟨rfl,by simp,λb _ _ h=>bS _ _ _ _ h,λb c _=>bS _ _ _ _ (λe=>a (by rw[<-show b=k0 from e];exact c)),λi hi=>cO _ _ _ _ (bO (by omega)),λi=>World.frozen?_setCell ..⟩
theorem we{w:Wj}{v:Wx}{B j a i:Nat}(h:w.ownsRow B j a v i xs){g:Nat}(c:v.ownBlock=J g):B<=g/\g<w.heap.size:=h.lt g c
theorem im{w w':Wj}{a:Nat}{b:Nat}{v:Wx}(h:w.ownsRow a T b v m xs)(k:∀g,v.ownBlock=J g->w'.heap[g]?=w.heap[g]?):w'.ownsRow a T b v m xs:=by
 refine⟨h.1,?_⟩;rcases h.2 with i|⟨g,d,c,f,l,j,r⟩
 .exact Or.inl i
 .exact Or.inr ⟨g,d,c,f,l,(k g (by rw[f];rfl)).trans j,r⟩
theorem dE.setMap{w:Wj}(h:dE A B w k0 L){k:Array MapEntry}{a:Nat}{t:Told}(q:w.heap[m]?=J (.map k a))(F:¬A m)(y:B<=m)(r:Ay k.toList t):dE A B (w.setCell ⟨k0,6,N⟩ (.map (J m))) k0 {L with told:=t}:=by
 have hk:=h.low;have i:=h.lt;have c:∀b,b≠k0->(w.setCell ⟨k0,6,N⟩ (.map (J m))).heap[b]?=w.heap[b]?:=λb d=>bS _ _ _ _ d
 have f:∀j,j≠6->(w.setCell ⟨k0,6,N⟩ (.map (J m))).cell? ⟨k0,j,N⟩=w.cell? ⟨k0,j,N⟩:=λj hj=>cO _ _ _ _ (bO (by omega))
 have⟨v,D,n,u,l,o,s⟩:=h.opened;obtain⟨mv,x,-⟩:=h.told;refine⟨⟨v,(f 4 (by omega)).trans D,n,u,im l (λg p=>c g (by have:=(we l p).1;omega)),o,λz G=>am.keep (λb d i=>⟨d,c b (λe=>h.avoid (e▸d))⟩) 41 _ _ (s z G)⟩,(f 5 (by omega)).trans h.begun,⟨_,cS _ _ _ (by rw[x];rfl),.inr ⟨m,k,a,rfl,(c m (by omega)).trans q,r,F,y⟩⟩,λj=>by rw[World.frozen?_setCell];exact h.frozen j,h.avoid,h.low,λb d=>by simpa using h.inn b d⟩
theorem xN{w w':Wj}(h:∀b,b<w.heap.size->b≠k0->w'.heap[b]?=w.heap[b]?)(c:w.heap.size<=w'.heap.size)(e:w'.os=w.os):dL k0 w w':=⟨c,e,λb _o a _ d=>(h b (eS a).1 d).trans a⟩
theorem BU(w:Wj)(h:dE A B w k0 L)(hB:B<=w.heap.size)(k:ByteArray)(x:Int×Int):
  Calls Yq.prog 45 #[O (J ⟨k0,4,N⟩),U k,plV x] w λe w'=>e=.returned (.tuple #[])/\dE A B w' k0 {L with told:=j7 k x L.told}/\aV A B k0 w w'/\dL k0 w w'/\∀j,j≠6->w'.cell? ⟨k0,j,N⟩=w.cell? ⟨k0,j,N⟩:=by
 have⟨X,P,o⟩:=h.told;have f6:=h.frozen 6;have l:=h.lt;rcases o with⟨rfl,T⟩|⟨m,es,clock,rfl,o,H,Q,D⟩
 .have f:au w ((w.alloc (E #[I K x.1,I K x.2] 111)).alloc (.map #[] 0)):=(au.refl.alloc _).alloc _;have n:((w.alloc (E #[I K x.1,I K x.2] 111)).alloc (.map #[] 0)).heap[w.heap.size+1]?=J (.map #[] 0):=by
   have:=aN (w.alloc (E #[I K x.1,I K x.2] 111)) (.map #[] 0)
   rwa [World.size_alloc]at this
  have v:¬A (w.heap.size+1):=λe=>by have:=h.inn _ e;omega
  have i:=(h.left f).setMap n v (by omega) (t:=[]) trivial;have u:((w.alloc (E #[I K x.1,I K x.2] 111)).alloc (.map #[] 0)).setCell ⟨k0,6,N⟩ (.map (J (w.heap.size+1)))=((w.setCell ⟨k0,6,N⟩ (.map (J (w.heap.size+1)))).alloc (E #[I K x.1,I K x.2] 111)).alloc (.map #[] 0):=by
   rw[World.setCell_alloc_past _ _ _ _ (by simp;omega),World.setCell_alloc_past _ _ _ _ l]
  rw[u]at i;have F:aV A B k0 w (((w.setCell ⟨k0,6,N⟩ (.map (J (w.heap.size+1)))).alloc (E #[I K x.1,I K x.2] 111)).alloc (.map #[] 0)):=by
   rw[<-u];exact(aV.left l f).trans (aV.set h.avoid ⟨by omega,by omega⟩ _)
  obtain⟨W,y⟩:∃W,W=((w.setCell ⟨k0,6,N⟩ (.map (J (w.heap.size+1)))).alloc (E #[I K x.1,I K x.2] 111)).alloc (.map #[] 0):=⟨_,rfl⟩;have q:W.drew.heap[w.heap.size+1]?=J (.map #[] 0):=by
   rw[y,<-u];exact(bS _ _ _ _ (by show w.heap.size+1≠k0;omega)).trans n
  rw[<-y]at i F;have⟨d,c,p,r⟩:=p8 q (t:=[]) trivial k x;obtain⟨X,S,-⟩:=i.told;have z:W.cell? ⟨k0,6,N⟩=J (.map (J (w.heap.size+1))):=by
   rw[y,<-u];exact cS _ _ _ (by rw[f.cell P];rfl)
  have s:au W W.drew:=au.refl.drew;have HX:Hid (dE A B (W.drew.putObj (w.heap.size+1) (.map d c)) k0 {L with told:=j7 k x L.told}/\aV A B k0 w (W.drew.putObj (w.heap.size+1) (.map d c))/\dL k0 w (W.drew.putObj (w.heap.size+1) (.map d c))/\∀j,j≠6->(W.drew.putObj (w.heap.size+1) (.map d c)).cell? ⟨k0,j,N⟩=w.cell? ⟨k0,j,N⟩):=by
   have G:dL k0 w W:=by
    rw[y,<-u];exact xN (λb i R=>(bS _ _ _ _ R).trans (f.block b i)) (by simp;omega) rfl
   refine⟨?_,(F.trans (aV.left i.lt s)).trans (putMap q v (by omega) h.low),G.trans (dL.trans ⟨lR _,rfl,λ_ _ h _ _=>h⟩ (fQ q rfl _)),λj hj=>?_⟩
   rotate_left
   .have e1:(W.drew.putObj (w.heap.size+1) (.map d c)).cell? ⟨k0,j,N⟩=W.drew.cell? ⟨k0,j,N⟩:=cB (a:=⟨k0,j,N⟩) (pO (show k0≠w.heap.size+1 by omega));have e2:W.drew.cell? ⟨k0,j,N⟩=W.cell? ⟨k0,j,N⟩:=rfl;rw[e1,e2,y,<-u,cO _ _ _ _ (bO (by omega))];exact cB (a:=⟨k0,j,N⟩) (f.block k0 l)
   have:=(i.left s).putMap (es':=d) (clock':=c) (s.cell z) q v (by omega) (t:=j7 k x []) r;rw[T];exact this
  have V:=vZ;have hmm:=@run_makeMap Yq.prog;clear h i F q r f u n S s z;subst y;unfold plV at p ⊢;go_enter (Yq.nq func45),ntmps45;go_wp2_with fail
  go_region_law (refine jE rfl 61 (.tmp 18) (.tmp 19) (.tmp 20) rfl p ?_)
  all_goals go_end0
  all_goals exact⟨rfl,HX.out⟩
 .have f:au w (w.alloc (E #[I K x.1,I K x.2] 111)).drew:=(au.refl.alloc _).drew;have i:=h.left f;have⟨d,c,p,r⟩:=p8 (w:=(w.alloc (E #[I K x.1,I K x.2] 111)).drew) ((f.block m (eS o).1).trans o) H k x;have HX:Hid (dE A B ((w.alloc (E #[I K x.1,I K x.2] 111)).drew.putObj m (.map d c)) k0 {L with told:=j7 k x L.told}/\aV A B k0 w ((w.alloc (E #[I K x.1,I K x.2] 111)).drew.putObj m (.map d c))/\dL k0 w ((w.alloc (E #[I K x.1,I K x.2] 111)).drew.putObj m (.map d c))/\∀j,j≠6->((w.alloc (E #[I K x.1,I K x.2] 111)).drew.putObj m (.map d c)).cell? ⟨k0,j,N⟩=w.cell? ⟨k0,j,N⟩):=
   ⟨i.putMap (f.cell P) ((f.block m (eS o).1).trans o) Q D r,(aV.left l f).trans (putMap ((f.block m (eS o).1).trans o) Q D h.low),(xN (λb i _=>f.block b i) f.size f.os).trans (fQ ((f.block m (eS o).1).trans o) rfl _),λj _=>(cB (a:=⟨k0,j,N⟩) (pO (by have:=h.low;show k0≠m;omega))).trans (cB (a:=⟨k0,j,N⟩) (f.block k0 l))⟩
  clear h i o H r f;unfold plV at p ⊢;have V:=zF m;go_enter (Yq.nq func45),ntmps45;go_wp2_with fail
  go_region_law (refine jE rfl 61 (.tmp 18) (.tmp 19) (.tmp 20) rfl p ?_)
  all_goals go_end0
  all_goals exact⟨rfl,HX.out⟩
end
theorem wg{l' a:Lst}(h:l'.size=a.size)(b k:Int):iC l' b k=iC a b k:=by simp[iC,h]
theorem io{l l':Lst}(h:l.size=l'.size)(b:Int):∀ (a:List ItD)(k:Nat),ep l b k a=ep l' b k a
 | [],_=>rfl
 |i::r,k=>by rw[ep,ep,wg h,io h b r]
def LsA.page(x:LsA)(a:Int):List ItD:=ep (x.lst N) a 0 (bH x.q (cz x.f x.q.p.data.toList))
def LsA.tok(x:LsA)(a:Int):ByteArray:=Ez (x.lst N) a (bH x.q (cz x.f x.q.p.data.toList)).length
def ip(L:Lg)(f:List UInt8->List Ver)(q:Qy)(a:Int):LsA:=⟨L.begun+1,f,q,a,10⟩
def eQ(L:Lg)(f:List UInt8->List Ver)(q:Qy)(a:Int):Lg×List ItD×ByteArray×Int:=
 if a<1\/20<a then(L,[],⟨#[]⟩,7)
 else if(ip L f q a).tok 1=⟨#[]⟩then(L,(ip L f q a).page 1,⟨#[]⟩,0)
 else if 3<=L.opened.length then(L,[],⟨#[]⟩,8)
 else(⟨L.opened++[ip L f q a],L.begun+1,j7 ((ip L f q a).tok 1) (L.begun+1,2) L.told,L.tm⟩,(ip L f q a).page 1,(ip L f q a).tok 1,0)
def bE(A:Nat->Prop)(B k0:Nat)(w:Wj)(L':Lg)(its:List ItD)(sv:Wx)(w':Wj):Prop:=
 ∃A':Nat->Prop,(∀b,A b->A' b)/\(∀b,A' b->A b\/w.heap.size<=b)/\dE A' B w' k0 L'/\aV A B k0 w w'/\bZ A' w' sv its.length (an its)/\FrC k0 w w'
theorem tV(n:Int)(r:Option Wu)(a:Bool)(p d b:ByteArray)(s:Int)(w:Wj):(Instr.build 107 #[(0,I K n),(1,.agg #[O r]),(2,.agg #[C a,U p,U d,U b]),(3,I K s),(4,I K 10)]).run Yq.prog w=.ok (.agg #[I K n,O r,C a,U p,U d,U b,I K s,I K 10]) w:=by kernel_rfl
theorem oL(a b:Int)(w:Wj):(Instr.build 111 #[(0,I K a),(1,I K b)]).run Yq.prog w=.ok (.agg #[I K a,I K b]) w:=by kernel_rfl
theorem fm(w:Wj):(Instr.build 69 #[]).run Yq.prog w=.ok (.agg #[M N 0 0,U ⟨#[]⟩]) w:=by kernel_rfl
section
variable {A:Nat->Prop} {B k0:Nat} {L:Lg}
theorem bE.same{w w':Wj}(h:dE A B w k0 L)(a:au w w'):bE A B k0 w L [] (M N 0 0) w':=
 ⟨A,λ_ h=>h,λ_ h=>.inl h,h.left a,aV.left h.lt a,⟨N,0,rfl,λ_=>rfl,λh=>absurd rfl h⟩,FrC.left h.lt a⟩
theorem dE.more{w:Wj}(h:dE A B w k0 L)(e:au w W){A':Nat->Prop}(S:∀b,A b->A' b)(q:∀b,A' b->A b\/w.heap.size<=b)(y:∀b,A' b->b<W.heap.size):dE A' B W k0 L:=by
 have c:=h.lt;have d:∀g,g<w.heap.size->¬A g->¬A' g:=λg i Q G=>by
  rcases q g G with h|h
  .exact Q h
  .omega
 have⟨v,X,u,R,p,F,P⟩:=h.opened;have⟨H,T,l⟩:=h.told;refine⟨⟨v,e.cell X,u,R,bW p λg _ i=>e.block g i,λg i=>d g (p.lt g i).2 (F g i),λz hz=>am.keep (λb x c=>⟨S b x,e.block b c⟩) 41 _ _ (P z hz)⟩,e.cell h.begun,⟨H,e.cell T,?_⟩,λj=>(fB (a:=⟨k0,j,N⟩) (e.block k0 c)).trans (h.frozen j),d k0 c h.avoid,h.low,y⟩;rcases l with l|⟨m,s,f,D,o,r,V,t⟩
 .exact .inl l
 .have k:=(eS o).1;exact .inr ⟨m,s,f,D,(e.block m k).trans o,r,d m k V,t⟩
theorem mf{w:Wj}{a:Nat}{sv:Wx}{n:Nat}(h:w.ownsRow a m 3 sv n xs){A':Nat->Prop}(d:∀g,sv.ownBlock=J g->A' g):bZ A' w sv n xs:=by
 rcases h.2 with⟨rfl,rfl⟩|⟨g,b,cur,rfl,hb,i,r⟩
 .have:xs=[]:=by have:=h.1;simpa using this
  exact⟨N,0,rfl,λ_=>rfl,λf=>absurd this f⟩
 .refine ⟨J ⟨g,0,N⟩,b,rfl,λh=>(by cases h),λ_=>⟨g,rfl,d g rfl,(eS i).1,λj c=>?_⟩⟩;have:=h.cells (g:=g) rfl j xs[j] (eL c);rw[Addr.add_lit,zA]at this;rw[this,eL c]
theorem bE.page{w w2:Wj}(h:dE A B w k0 L)(f:au w w2){sv:Wx}{pg:List ItD}(e:W.ownsRow m 117 3 sv pg.length (an pg))(hb:w.heap.size<=m)(j:∀g,m<=g->g<W.heap.size->w2.heap[g]?=W.heap[g]?):bE A B k0 w L pg sv w2:=by
 have d:=bW e j;refine⟨λb=>A b\/sv.ownBlock=J b,λ_ h=>.inl h,λb a=>?_,h.more f (λ_ h=>.inl h) (λb a=>?_) (λb a=>?_),aV.left h.lt f,mf d λg k=>.inr k,FrC.left h.lt f⟩
 .rcases a with a|a
  .exact .inl a
  .exact .inr (by have:=(d.lt b a).1;omega)
 .rcases a with a|a
  .exact .inl a
  .exact .inr (by have:=(d.lt b a).1;omega)
 .rcases a with a|a
  .exact lL (h.inn b a) f.size
  .exact (d.lt b a).2
end
section
variable {P:Wv}
theorem wh(w:Wj)(q:Nat)(t L e:Ww)(i:TypeInfo)(z:Wx)(b f:Nat)(Q:P.underlying t=J (.slice e))(T:P.info? e=J i)(hz:i.zero=J z)(k:i.size=b)(B:i.bytes=f)(D:z.cells.size=b)(A:0<b)
  (v:Wx) (n:Nat) (G:List Wx) (h:w.ownsRow q e b v n G) (a:Wu) (m c:Nat) (d:List Wx) (R:d.length=m*b) (l:∀j u,d[j]?=J u->w.cell? (a.add j)=J u) (X:∀u∈d,u.oneCell'=Y)
  (y:n+m<=maxLen) (o:(n+m)*f<=140737488355328) (r:q<=w.heap.size):
  ∃H w',(Builtin.append_ #[t,t] L #[v,.slice (J a) m c]).run P w=.ok H w'/\w'.ownsRow q e b H (n+m) (G++d)/\w.grownBy w' v.ownBlock/\∀g,H.ownBlock=J g->v.ownBlock=J g\/w.heap.size<=g:=by
 obtain⟨H,w',S,ho,hg,-⟩:=run_append_own (P:=P) w q t L e i z b f Q T hz k B D A v n G h a m c d R l X y o r;refine⟨H,w',S,ho,hg,λg x=>?_⟩;rcases h.2 with⟨rfl,rfl⟩|⟨V,s,cur,rfl,hb0,hrow,hcap⟩
 .obtain ⟨v2,w2,p,F,-⟩:=run_append_own (P:=P) w w.heap.size t L e i z b f Q T hz k B D A (.slice N 0 0) 0 G ⟨h.1,.inl ⟨rfl,rfl⟩⟩ a m c d R l X y o (lR _);rw[S]at p;cases p;exact .inr (F.lt g x).1
 .by_cases hf:n+m<=s
  .obtain ⟨w2,p,-⟩:=run_append_fits (P:=P) w q t L e i b Q T k V n s G h a m c d R l X hf;rw[S]at p;cases p;exact .inl x
  .obtain ⟨v2,w2,p,F,-⟩:=run_append_arg_grows (P:=P) w t L e i z b f Q T hz k B D A ⟨V,0,N⟩ n s G h.1 (λj u hj=>h.cells (g:=V) rfl j u hj) a m c d R l (by omega) y o;rw[S]at p;cases p;exact .inr (F.lt g x).1
theorem ng{F:Array Oper}{o:Oper}{a:Act}{w:Wj}{b:Act->Wj->Prop}{d:Prop}
  (hg:o.guard=N) (s x:Operand) (t:Ww) (R:o.op=Op.call {callee:=Callee.builtin Builtin.append,args:=#[s,x],argTypes:=#[t,t]})
  (p:Nat) (e:Ww) (i:TypeInfo) (z:Wx) (f l:Nat) (ht:P.underlying t=J (.slice e)) (hi:P.info? e=J i) (hz:i.zero=J z) (y:i.size=f) (G:i.bytes=l) (S:z.cells.size=f) (V:0<f)
  (v:Wx) (n:Nat) (H:List Wx) (hs:a.eval s=v) (B:w.ownsRow p e f v n H)
  (L:Wu) (m c:Nat) (k:List Wx) (hx:a.eval x=.slice (J L) m c) (hl:k.length=m*f) (r:∀j u,k[j]?=J u->w.cell? (L.add j)=J u) (h1:∀u∈k,u.oneCell'=Y)
  (T:n+m<=maxLen) (q:(n+m)*l<=140737488355328) (A:p<=w.heap.size)
  (h:∀D w',w'.ownsRow p e f D (n+m) (H++k)->w.grownBy w' v.ownBlock->(∀g,D.ownBlock=J g->v.ownBlock=J g\/w.heap.size<=g)->b (a.put o.dst D) w'):
  if Region.wanted o (yielded F a.tmps)=Y then Oper.wp P o a w b Q else d:=by
 have⟨D,w',hr,X,h3,h4⟩:=wh (P:=P) w p t o.type e i z f l ht hi hz y G S V v n H B L m c k hl r h1 T q A;exact ee hg s x t t R v _ hs hx hr (h D w' X h3 h4)
end
theorem Yq.infoLst:(Yq.prog.info? 107).map (λi=>(i.zero,i.size,i.bytes))=J (J (.agg #[I K 0,O N,C Z,U ⟨#[]⟩,U ⟨#[]⟩,U ⟨#[]⟩,I K 0,I K 0]),8,88):=by kernel_rfl
theorem one8(l:Lst):∀u∈(aM l).toList,u.oneCell'=true:=by
 intro u a;simp[aM]at a;rcases a with rfl|rfl|rfl|rfl|rfl|rfl|rfl|rfl<;>rfl
section
variable {A:Nat->Prop} {B k0:Nat} {L:Lg}
theorem dE.push(h:dE A B W k0 L){v k:Wx}{o:List (LsA×Option Wu)}{x:LsA}{root:Option Wu}{n:Int}(c4:W.cell? ⟨k0,4,N⟩=J v)(z1:L.opened=o.map (·.1))(V:W.ownsRow B 107 8 v o.length (bf o))(z3:∀g,v.ownBlock=J g->¬A g)(z4:∀z∈o,am A 41 W z.2 z.1.f)
  (X:W0.ownsRow B 107 8 k (o.length+1) (bf o++(aM (x.lst root)).toList)) (l:W.grownBy W0 v.ownBlock) (R:∀g,k.ownBlock=J g->v.ownBlock=J g\/W.heap.size<=g) (hN:am A 41 W root x.f):
  dE A B ((W0.setCell ⟨k0,4,N⟩ k).setCell ⟨k0,5,N⟩ (I K n)) k0 ⟨L.opened++[x],n,L.told,L.tm⟩/\aV A B k0 W ((W0.setCell ⟨k0,4,N⟩ k).setCell ⟨k0,5,N⟩ (I K n)):=by
 have hk:=h.low;have Q:=h.lt;have⟨mv,c6,T⟩:=h.told;have u:∀g,v.ownBlock=J g->B<=g:=λg l=>(V.lt g l).1
 have H:J k0≠v.ownBlock:=λe=>by have:=u k0 e.symm;omega
 have G:W.heap[k0]?=W0.heap[k0]?:=(l.block k0 Q H).symm;have d:∀b,b≠k0->((W0.setCell ⟨k0,4,N⟩ k).setCell ⟨k0,5,N⟩ (I K n)).heap[b]?=W0.heap[b]?:=λb c=>by
  rw[bS _ _ _ _ c,bS _ _ _ _ c]
 have q:∀b,A b->((W0.setCell ⟨k0,4,N⟩ k).setCell ⟨k0,5,N⟩ (I K n)).heap[b]?=W.heap[b]?:=λb c=>
  (d b (λe=>h.avoid (e▸c))).trans (l.block b (h.inn b c) (λe=>z3 b e.symm c))
 have s:∀j,W0.cell? ⟨k0,j,N⟩=W.cell? ⟨k0,j,N⟩:=λj=>cB (a:=⟨k0,j,N⟩) G.symm
 have y:∀j,j≠4->j≠5->((W0.setCell ⟨k0,4,N⟩ k).setCell ⟨k0,5,N⟩ (I K n)).cell? ⟨k0,j,N⟩=W.cell? ⟨k0,j,N⟩:=λj h4 h5=>by
  rw[cO _ _ _ _ (bO λe=>h5 e.symm),cO _ _ _ _ (bO λe=>h4 e.symm),s]
 have D:∀j,((W0.setCell ⟨k0,4,N⟩ k).setCell ⟨k0,5,N⟩ (I K n)).frozen? ⟨k0,j,N⟩=W.frozen? ⟨k0,j,N⟩:=λj=>by
  rw[World.frozen?_setCell,World.frozen?_setCell];exact fB (a:=⟨k0,j,N⟩) G.symm
 have F:W.heap.size<=((W0.setCell ⟨k0,4,N⟩ k).setCell ⟨k0,5,N⟩ (I K n)).heap.size:=by have:=l.size;simpa using this
 refine⟨⟨⟨k,?_,o++[(x,root)],by simp[z1],?_,λg p=>?_,λz t=>?_⟩,?_,⟨mv,(y 6 (by omega) (by omega)).trans c6,?_⟩,λj=>(D j).trans (h.frozen j),h.avoid,h.low,λb c=>lL (h.inn b c) F⟩,⟨l.os,F,λb S h2 h3=>(d b h3).trans (l.block b h2 (λe=>by have:=u b e.symm;omega)),λb c _=>q b c,λj hj=>y j (by omega) (by omega),D⟩⟩
 .rw [cO _ _ _ _ (bO (by omega))];exact cS _ _ _ (by rw[s,c4];rfl)
 .rw [vY,lP,lS];exact im X λg p=>d g (by have:=(X.lt g p).1;omega)
 .rcases R g p with S|S
  .exact z3 g S
  .exact λha=>by have:=h.inn g ha;omega
 .rcases List.mem_append.1 t with t|t
  .exact am.keep (λb c _=>⟨c,q b c⟩) 41 _ _ (z4 z t)
  .simp at t;subst t;exact am.keep (λb c _=>⟨c,q b c⟩) 41 _ _ hN
 .refine cS _ _ _ ?_;rw[cO _ _ _ _ (bO (by omega)),s,h.begun];rfl
 .rcases T with T|⟨m,es,r,m1,P,m3,m4,m5⟩
  .exact .inl T
  .refine .inr ⟨m,es,r,m1,?_,m3,m4,m5⟩;rw[d m (by omega),l.block m (eS P).1 (λe=>?_)]
   .exact P
   .rcases V.2 with⟨rfl,-⟩|⟨g,cap,cur,rfl,c,hr,-⟩
    .cases e
    .cases e;rw[hr]at P;cases P
theorem dE.other{w:Wj}(h:dE A B w k0 L){b j:Nat}{x:Wx}(F:b≠k0)(X:¬A b)(n:dp w b)(S:∀v g,w.cell? ⟨k0,4,N⟩=J v->v.ownBlock=J g->g≠b):dE A B (w.setCell ⟨b,j,N⟩ x) k0 L:=by
 have c:∀g,g≠b->(w.setCell ⟨b,j,N⟩ x).heap[g]?=w.heap[g]?:=λg d=>bS _ _ _ _ d
 have q:=c k0 (λe=>F e.symm);have f:∀i,(w.setCell ⟨b,j,N⟩ x).cell? ⟨k0,i,N⟩=w.cell? ⟨k0,i,N⟩:=λi=>cB (a:=⟨k0,i,N⟩) q
 have⟨v,s,D,T,Q,H,R⟩:=h.opened;have⟨P,V,l⟩:=h.told;refine⟨⟨v,(f 4).trans s,D,T,im Q λg d=>c g (S v g s d),H,λz hz=>am.keep (λg d _=>⟨d,c g (λe=>X (e▸d))⟩) 41 _ _ (R z hz)⟩,(f 5).trans h.begun,⟨P,(f 6).trans V,?_⟩,λi=>(fB (a:=⟨k0,i,N⟩) q).trans (h.frozen i),h.avoid,h.low,λg d=>by simpa using h.inn g d⟩;rcases l with l|⟨m,y,k,G,p,u⟩
 .exact .inl l
 .refine .inr ⟨m,y,k,G,(c m λe=>?_).trans p,u⟩;subst e;obtain⟨o,r,t⟩:=n;rw[p]at r;cases r;cases t
theorem aV.other{w:Wj}{b j:Nat}{x:Wx}(k:b≠k0)(l:¬A b)(hB:B<=b):aV A B k0 w (w.setCell ⟨b,j,N⟩ x):=by
 have c:∀g,g≠b->(w.setCell ⟨b,j,N⟩ x).heap[g]?=w.heap[g]?:=λg h=>bS _ _ _ _ h
 have f:=c k0 (λe=>k e.symm);exact⟨rfl,by simp,λg d _ _=>c g (by omega),λg d _=>c g (λe=>l (e▸d)),λi _=>cB (a:=⟨k0,i,N⟩) f,λi=>fB (a:=⟨k0,i,N⟩) f⟩
theorem aV.mono{A':Nat->Prop}{w w':Wj}(h:aV A' B k0 w w')(a:∀b,A b->A' b):aV A B k0 w w':=⟨h.os,h.size,h.low,λb c=>h.tree b (a b c),h.cells,h.fz⟩
theorem I5(W:Wj)(a:List Wx)(T:Ww):∀j u,a[j]?=J u->(W.alloc (E a.toArray T)).drew.cell? ((⟨W.heap.size,0,N⟩:Wu).add j)=J u:=by
 intro j u b;rw[Addr.add_lit,zA];have:(W.alloc (E a.toArray T)).cell? ⟨W.heap.size,j,N⟩=a.toArray[j]?:=cA (w:=W) _ _ W.heap.size _ rfl;show(W.alloc (E a.toArray T)).cell? ⟨W.heap.size,j,N⟩=J u;rw[this];simpa using b
theorem dL.cell{t:Nat}{W W':Wj}(h:dL t W W'){b j:Nat}{v:Wx}(d:W.cell? ⟨b,j,N⟩=J v)(f:b≠t):W'.cell? ⟨b,j,N⟩=J v:=by
 have⟨o,c,e⟩:=dp.of_cell d;exact(cB (a:=⟨b,j,N⟩) ((h.2.2 b o c e f).trans c.symm)).trans d
theorem dL.frozen{t:Nat}{W W':Wj}(h:dL t W W'){b j:Nat}{v:Wx}(d:W.cell? ⟨b,j,N⟩=J v)(f:b≠t):W'.frozen? ⟨b,j,N⟩=W.frozen? ⟨b,j,N⟩:=by
 have⟨o,c,e⟩:=dp.of_cell d;exact fB (a:=⟨b,j,N⟩) ((h.2.2 b o c e f).trans c.symm)
theorem fD{x c:Wx}{b j:Nat}{v:Wx}(i:W.cell? ⟨b,j,N⟩=J v)(f:b≠k0):((W.setCell ⟨k0,4,N⟩ x).setCell ⟨k0,5,N⟩ c).cell? ⟨b,j,N⟩=J v:=by
 have e:((W.setCell ⟨k0,4,N⟩ x).setCell ⟨k0,5,N⟩ c).heap[b]?=W.heap[b]?:=by rw[bS _ _ _ _ f,bS _ _ _ _ f]
 exact(cB (a:=⟨b,j,N⟩) e).trans i
theorem Hb {w D:Wj}(h:dE A B w k0 L)(hB:B<=w.heap.size)(a0:au w W)(hVs:W.heap.size=w.heap.size+4)(af:au W W0){sv P v':Wx}{pg:List ItD}(r:W0.ownsRow W.heap.size 117 3 sv pg.length (an pg)){Q:List (LsA×Option Wu)}(c4:w.cell? ⟨k0,4,none⟩=some P)
    (z1:L.opened=Q.map (·.1)) (z2:w.ownsRow B 107 8 P Q.length (bf Q)) (z3:∀g,P.ownBlock=J g->¬A g) (z4:∀z∈Q,am A 41 w z.2 z.1.f) {q:Option Wu} {x:LsA} (hN:am A 41 w q x.f) (o o':Obj) (a6:D.ownsRow B 107 8 v' (Q.length+1) (bf Q++(aM (x.lst q)).toList)) (l:((W0.alloc o).alloc o').drew.grownBy D P.ownBlock) (F:∀g,v'.ownBlock=J g->P.ownBlock=J g\/((W0.alloc o).alloc o').drew.heap.size<=g) (n:Int) (tk:ByteArray) (pl:Int×Int) {y:Wx} (R:W0.cell? ⟨w.heap.size+1+1,0,N⟩=J y):
    Calls Yq.prog 45 #[O (J ⟨k0,4,N⟩),U tk,plV pl] ((D.setCell ⟨k0,4,N⟩ v').setCell ⟨k0,5,N⟩ (I K n)) λe t=>e=.returned (.tuple #[])/\dL k0 ((D.setCell ⟨k0,4,N⟩ v').setCell ⟨k0,5,N⟩ (I K n)) t /\
      ∀T y1,bE A B k0 w ⟨L.opened++[x],n,j7 tk pl L.told,L.tm⟩ pg sv ((t.setCell ⟨w.heap.size+1+1,0,N⟩ T).setCell ⟨w.heap.size+1+1,1,N⟩ y1):=by
  obtain⟨W2,S⟩:∃W2,W2=((W0.alloc o).alloc o').drew:=⟨_,rfl⟩;rw[<-S]at l F;have m:au W0 W2:=by rw[S];exact((au.refl.alloc o).alloc o').drew
  have d:au w W2:=(a0.trans af).trans m;have hsz2:W2.heap.size=W0.heap.size+2:=by rw[S];simp
  have hlow:=h.low;have al:=h.lt;have hs1:=af.size;obtain⟨A',H⟩:∃A':Nat->Prop,A'=λb=>A b\/sv.ownBlock=J b:=⟨_,rfl⟩
  have a1:∀b,A b->A' b:=λb c=>by rw[H];exact .inl c
  have a2:∀b,A' b->A b\/w.heap.size+4<=b/\b<W0.heap.size:=λb c=>by
    rw[H]at c;rcases c with c|c
    . exact .inl c
    . have:=r.lt b c;exact .inr (by omega)
  have h2:dE A' B W2 k0 L:=h.more d a1 (λb c=>(a2 b c).imp id (by omega)) (λb c=>by
    rcases a2 b c with i|i
    . have:=h.inn b i;have:=d.size;omega
    . omega)
  have u:=d.cell c4;have a3:W2.ownsRow B 107 8 P Q.length (bf Q):=bW z2 λg _ k=>d.block g k
  have a8:∀g,P.ownBlock=J g->¬A' g:=λg k ha=>by
    rcases a2 g ha with i|i
    . exact z3 g k i
    . have:=(z2.lt g k).2;omega
  obtain⟨h5,ad⟩:=h2.push (x:=x) (root:=q) (n:=n) u z1 a3 a8 (λz hz=>am.keep (λb c aa=>⟨a1 b c,d.block b aa⟩) 41 _ _ (z4 z hz)) a6 l F (am.keep (λb c aa=>⟨a1 b c,d.block b aa⟩) 41 _ _ hN);have hs3:=l.size;obtain⟨W5,p⟩:∃W5,W5=(D.setCell ⟨k0,4,N⟩ v').setCell ⟨k0,5,N⟩ (I K n):=⟨_,rfl⟩;have hs5:W5.heap.size=D.heap.size:=by rw[p];simp
  have k4:W5.cell? ⟨k0,4,N⟩=J v':=by
    have a9:D.heap[k0]?=W2.heap[k0]?:=l.block k0 (by have:=d.size;omega) (λe=>by have:=(z2.lt k0 e.symm).1;omega);rw[p,cO _ _ _ _ (bO (by omega))];exact cS _ _ _ (by rw[cB (a:=⟨k0,4,N⟩) a9,u];rfl)
  rw[<-p]at h5 ad ⊢;refine(BU W5 h5 (by omega) tk pl).mono ?_;rintro e t ⟨rfl,h6,a4,X,ab⟩;refine⟨rfl,X,λT y1=>?_⟩;have G:¬A' (w.heap.size+1+1):=λha=>by
    rcases a2 _ ha with i|i
    . have:=h.inn _ i;omega
    . omega
  have ac:∀v g,t.cell? ⟨k0,4,N⟩=J v->v.ownBlock=J g->g≠w.heap.size+1+1:=λv g hv k e=>by
    rw[ab 4 (by omega),k4]at hv;cases hv;rcases F g k with i|i
    . have:=(z2.lt g i).2;omega
    . omega
  have ar:dp t (w.heap.size+1+1):=by
    refine dp.of_cell (X.cell (j:=0) (v:=y) ?_ (by omega));rw[p];refine fD ?_ (by omega);have e:D.heap[w.heap.size+1+1]?=W0.heap[w.heap.size+1+1]?:=(l.block _ (by omega) (λe=>by have:=(z2.lt _ e.symm).2;omega)).trans (m.block _ (bC W0 _ R));exact(cB (a:=⟨w.heap.size+1+1,0,N⟩) e).trans R
  have h7:=h6.other (j:=0) (x:=T) (show w.heap.size+1+1≠k0 by omega) G ar ac;have av:(t.setCell ⟨w.heap.size+1+1,0,N⟩ T).cell? ⟨k0,4,N⟩=t.cell? ⟨k0,4,N⟩:=cB (a:=⟨k0,4,N⟩) (bS _ _ _ _ (show k0≠w.heap.size+1+1 by omega));have a5:dp (t.setCell ⟨w.heap.size+1+1,0,N⟩ T) (w.heap.size+1+1):=by
    obtain⟨ob,e1,e2⟩:=ar;cases ob with
    |cells xs e z=>
      have⟨g1,g2⟩:=eS e1;refine⟨E (xs.setIfInBounds 0 T) e z,?_,rfl⟩;show(t.heap.modify (w.heap.size+1+1) _)[w.heap.size+1+1]?=_;rw[eG (by rw[Array.size_modify];exact g1),Array.getElem_modify_self,g2];rfl
    |_=>cases e2
  have h8:=h7.other (j:=1) (x:=y1) (show w.heap.size+1+1≠k0 by omega) G a5 (λv g hv k=>ac v g (by rw[<-av];exact hv) k);have ap:aV A' B k0 W2 ((t.setCell ⟨w.heap.size+1+1,0,N⟩ T).setCell ⟨w.heap.size+1+1,1,N⟩ y1):=((ad.trans a4).trans (aV.other (by omega) G (by omega))).trans (aV.other (by omega) G (by omega));refine⟨A',a1,λb c=>(a2 b c).imp id (by omega),h8,(aV.left al d).trans (ap.mono a1),?_,?_⟩
  rotate_left
  . have bb : FrC k0 W2 W5 := ⟨by omega, fun b c hk ho => by
        have e1:W5.heap[b]?=D.heap[b]?:=by rw[p,bS _ _ _ _ hk,bS _ _ _ _ hk]
        exact e1.trans (l.block b c.lt (λe=>ho ⟨P,u,e.symm⟩)),λb ho=>by
        obtain⟨x,i,h2⟩:=ho;rw[k4]at i;cases i;rcases F b h2 with h3|h3
        . exact .inl ⟨P,u,h3⟩
        . exact .inr h3⟩
    have q6:FrC k0 w t:=((FrC.left al d).trans bb).trans (FrC.keepC X (ab 4 (by omega)));exact(q6.fresh (by omega) (by omega)).fresh (by omega) (by omega)
  refine mf (im r λg k=>?_) (λg k=>by rw[H];exact .inr k);have a7:=(r.lt g k).2;exact(ap.tree g (by rw[H];exact .inr k) (by omega)).trans (m.block g a7)
end
theorem rr{w:Wj}{B g b:Nat}{a:List (LsA×Option Wu)}(h:w.ownsRow B 107 8 (M (J ⟨g,0,N⟩) a.length b) a.length (bf a))(i:Nat)(f:i<a.length)(j:Nat)(d:j<8):w.cell? ⟨g,i*8+j,N⟩=(aM (a[i].1.lst a[i].2))[j]?:=by
 have e:=ce 8 (λz:LsA×Option Wu=>(aM (z.1.lst z.2)).toList) (λ_=>rfl) a i j f d;have c:(aM (a[i].1.lst a[i].2))[j]?=J ((aM (a[i].1.lst a[i].2))[j]'(by simp[aM];omega)):=eG _;have:=h.cells (g:=g) rfl (i*8+j) _ (e.trans (by rw[gT];exact c));rw[Addr.add_lit,zA]at this;rw[this,c]
theorem mg{w:Wj}{B g j:Nat}{a:List (LsA×Option Wu)}(h:w.ownsRow B 107 8 (M (J ⟨g,0,N⟩) a.length j) a.length (bf a))(i:Nat)(b:i<a.length):
  w.cell? ⟨g,i*8,N⟩=J (I K a[i].1.num)/\w.cell? ⟨g,i*8+1,N⟩=J (O a[i].2)/\w.cell? ⟨g,i*8+2,N⟩=J (C a[i].1.q.vs)/\w.cell? ⟨g,i*8+3,N⟩=J (U a[i].1.q.p)/\w.cell? ⟨g,i*8+4,N⟩=J (U a[i].1.q.d)/\w.cell? ⟨g,i*8+5,N⟩=J (U a[i].1.q.af)/\w.cell? ⟨g,i*8+6,N⟩=J (I K a[i].1.size)/\w.cell? ⟨g,i*8+7,N⟩=J (I K a[i].1.left):=
 ⟨rr h i b 0 (by omega),rr h i b 1 (by omega),rr h i b 2 (by omega),rr h i b 3 (by omega),rr h i b 4 (by omega),rr h i b 5 (by omega),rr h i b 6 (by omega),rr h i b 7 (by omega)⟩
theorem EJ(l:Lst)(b:Nat)(n:Int)(w:Wj)(c:w.cell? ⟨b,0,N⟩=J (I K n)):Calls Yq.prog 47 #[lV l,O (J ⟨b,0,N⟩)] w λe w'=>e=.returned (C (l.num==n))/\Below w.heap.size w w':=by
 have a:=bC w _ c;simp only at a;unfold lV aM;go_enter (Yq.nq func47),ntmps47;go_wp2_with fail
 go_ret;exact⟨rfl,(bR _ _).alloc (lR _) _⟩
def jZ(n:Int)(xs:List LsA):Option Nat:=xs.findIdx? (λx=>x.num==n)
theorem xO(B:Nat)(q:Option Wu)(r:Nat)(a:List (LsA×Option Wu))(p:Nat)(n:Int)(w:Wj)(s:w.ownsRow B 107 8 (M q a.length r) a.length (bf a))(hl:a.length<=3)(L:w.cell? ⟨p,0,N⟩=J (I K n)):
  Calls Yq.prog 46 #[M q a.length r,.func (.func 47) #[] #[O (J ⟨p,0,N⟩)]] w λe w'=>e=.returned (I K (((jZ n (a.map (·.1))).map λ(i:Nat)=>(i:Int)).getD (-1)))/\Below w.heap.size w w':=by
 have HZ:Hid (w.ownsRow B 107 8 (M q a.length r) a.length (bf a)):=s;have HC:Hid (w.cell? ⟨p,0,N⟩=J (I K n)):=L;obtain⟨R,t⟩:∃R:Int,R=((jZ n (a.map (·.1))).map λ(i:Nat)=>(i:Int)).getD (-1):=⟨_,rfl⟩;have HR:Hid (R=((jZ n (a.map (·.1))).map λ(i:Nat)=>(i:Int)).getD (-1)):=t;rw[<-t];clear s t L;go_enter (Yq.nq func46),ntmps46;go_wp2_with fail
 go_loopw [5,8] (λ_ s8 wr=>∃i:Nat,i<=a.length/\s8=I K i/\(∀j (k:j<a.length),j<i->(a[j].1.num==n)=Z)/\Below w.heap.size w wr) (λ_ s8 _=>a.length-(intOf s8).toNat)
 case atStart=>exact⟨0,Nat.zero_le _,rfl,λ_ _ h=>absurd h (by omega),bR _ _⟩
 case round=>
  obtain⟨i,hi,rfl,l,c⟩:=hrel;by_cases o:i<a.length
  .obtain ⟨g,f,V⟩:∃g f,Value.slice q a.length r=M (J ⟨g,0,N⟩) a.length f:=by
    rcases HZ.out.2 with⟨G,h2⟩|⟨g,f,cur,G,-⟩
    .omega
    .exact ⟨g,f,G⟩
   cases V;have⟨v,F,Q,H,y,P,D,A⟩:=mg HZ.out i o;replace v:=ah c v;replace F:=ah c F;replace Q:=ah c Q;replace H:=ah c H;replace y:=ah c y;replace P:=ah c P;replace D:=ah c D;replace A:=ah c A;have HF:=EJ (a[i].1.lst a[i].2) p n wr (ah c HC.out);have b:Hid ((∀j (k:j<a.length),j<i->(a[j].1.num==n)=Z)/\Below w.heap.size w wr):=⟨l,c⟩;clear l c;simp only[lV,aM,LsA.lst]at HF;cases d:(a[i].1.num==n)with
   |true=>
    rw[d]at HF;have HE:Hid (R=(i:Int)):=by
     show R=(i:Int);have:jZ n (a.map (·.1))=J i:=by
      unfold jZ;rw[List.findIdx?_eq_some_iff_getElem];refine⟨by simpa using o,by simpa using d,λj k=>?_⟩;have:=b.out.1 j (by omega) k;simpa using this
     rw[HR.out,this];rfl
    go_wp2_with (go_at_call 47;refine HF.mono ?_;clear HF;rintro e S ⟨rfl,m⟩)
    go_ret;exact⟨by rw[HE.out];rfl,b.out.2.trans (m.mono b.out.2.size)⟩
   |false=>
    rw[d]at HF;go_wp2_with (go_at_call 47;refine HF.mono ?_;clear HF;rintro e S ⟨rfl,m⟩)
    refine⟨⟨i+1,by omega,by go_num,λj k hji=>?_,b.out.2.trans (m.mono b.out.2.size)⟩,by simp[intOf];omega⟩;by_cases u:j=i
    .subst u;exact d
    .exact b.out.1 j k (by omega)
  .have:i=a.length:=by omega
   subst this;go_wp2_with fail
   go_ret;refine⟨?_,c⟩;have:jZ n (a.map (·.1))=none:=by
    unfold jZ;rw[List.findIdx?_eq_none_iff];intro x T;obtain⟨z,s,rfl⟩:=List.mem_map.1 T;obtain⟨j,k,rfl⟩:=gM s;exact l j k k
   rw[HR.out,this];rfl
def LsA.again(x:LsA)(v:Int):LsA:={x with left:=v}
def dO(L:Lg)(a:ByteArray):Lg×List ItD×ByteArray×Int:=
 match dN a L.told with
 |none=>(L,[],⟨#[]⟩,9)
 |some (n,pg)=>
  match jZ n L.opened with
  |none=>(L,[],⟨#[]⟩,10)
  |some i=>
   match L.opened[i]? with
   |none=>(L,[],⟨#[]⟩,10)
   |some x=>(⟨L.opened.set i (x.again 10),L.begun,if x.tok pg=⟨#[]⟩then L.told else j7 (x.tok pg) (n,pg+1) L.told,L.tm⟩,x.page pg,x.tok pg,0)
theorem ru{H:Type}(m:Nat)(f:H->List Wx)(d:∀a,(f a).length=m):∀ (l:List H)(i j:Nat)(a:H)(v:Wx)(_:j<m)(c:i<l.length),f a=(f l[i]).set j v->(l.set i a).flatMap f=(l.flatMap f).set (i*m+j) v
 | [],i,j,a,v,hj,c,h=>by simp at c
 |b::l,0,j,a,v,hj,c,h=>by
  simp only[List.getElem_cons_zero]at h;simp only[List.set_cons_zero,List.flatMap_cons,Nat.zero_mul,zA];rw[h,List.set_append_left _ _ (by rw[d];exact hj)]
 |b::l,i+1,j,a,v,hj,c,h=>by
  simp only[List.getElem_cons_succ]at h;simp only[List.set_cons_succ,List.flatMap_cons];rw[ru m f d l i j a v hj (by simpa using c) h,List.set_append_right _ _ (by rw[d,Nat.add_mul];omega),d];congr 2;rw[Nat.add_mul];omega
theorem EK{w:Wj}{B:Nat}{a g n b:Nat}(h:w.ownsRow B T a (M (J ⟨g,0,N⟩) n b) n xs)(j:Nat)(_hj:j<xs.length)(v:Wx):(w.setCell ⟨g,j,N⟩ v).ownsRow B T a (M (J ⟨g,0,N⟩) n b) n (xs.set j v):=by
 refine⟨by rw[List.length_set];exact h.1,?_⟩;rcases h.2 with⟨d,-⟩|⟨g',cap',c,d,r,o,k,q,l,p⟩
 .cases d
 .cases d;have⟨i,m⟩:=eS o;refine .inr ⟨g,b,c.setIfInBounds j v,rfl,r,?_,k,q,by simpa using l,?_⟩
  .show (w.heap.modify g _)[g]?=_;rw[eG (by rw[Array.size_modify];exact i),Array.getElem_modify_self,m];rfl
  .rw [Array.toList_setIfInBounds,List.take_set,p]
section
variable {A:Nat->Prop} {B k0:Nat} {L:Lg}
theorem dE.setLeft{w:Wj}(h:dE A B w k0 L){g k:Nat}{c:List (LsA×Option Wu)}(c4:w.cell? ⟨k0,4,N⟩=J (M (J ⟨g,0,N⟩) c.length k))(X:L.opened=c.map (·.1))(x:w.ownsRow B 107 8 (M (J ⟨g,0,N⟩) c.length k) c.length (bf c))(s:¬A g)(P:∀z∈c,am A 41 w z.2 z.1.f)(i:Nat)(G:i<c.length)(v:Int):
  dE A B (w.setCell ⟨g,i*8+7,N⟩ (I K v)) k0 {L with opened:=L.opened.set i (c[i].1.again v)}/\aV A B k0 w (w.setCell ⟨g,i*8+7,N⟩ (I K v)) /\
   (w.setCell ⟨g,i*8+7,N⟩ (I K v)).ownsRow B 107 8 (M (J ⟨g,0,N⟩) c.length k) (c.set i (c[i].1.again v,c[i].2)).length (bf (c.set i (c[i].1.again v,c[i].2)))/\(∀z∈c.set i (c[i].1.again v,c[i].2),am A 41 (w.setCell ⟨g,i*8+7,N⟩ (I K v)) z.2 z.1.f):=by
 have hlow:=h.low;have D:B<=g:=(x.lt g rfl).1;have o:∀b,b≠g->(w.setCell ⟨g,i*8+7,N⟩ (I K v)).heap[b]?=w.heap[b]?:=λb q=>bS _ _ _ _ q
 have H:=o k0 (by omega);have n:∀j,(w.setCell ⟨g,i*8+7,N⟩ (I K v)).cell? ⟨k0,j,N⟩=w.cell? ⟨k0,j,N⟩:=λj=>cB (a:=⟨k0,j,N⟩) H
 have l:(w.setCell ⟨g,i*8+7,N⟩ (I K v)).ownsRow B 107 8 (M (J ⟨g,0,N⟩) c.length k) (c.set i (c[i].1.again v,c[i].2)).length (bf (c.set i (c[i].1.again v,c[i].2))):=by
  have e:bf (c.set i (c[i].1.again v,c[i].2))=(bf c).set (i*8+7) (I K v):=ru 8 _ (λ_=>rfl) c i 7 _ _ (by omega) G rfl;rw[e,List.length_set];exact EK x _ (by rw[me];omega) _
 have d:∀z∈c.set i (c[i].1.again v,c[i].2),am A 41 (w.setCell ⟨g,i*8+7,N⟩ (I K v)) z.2 z.1.f:=λz F=>by
  refine am.keep (λb q _=>⟨q,o b (λe=>s (e▸q))⟩) 41 _ _ ?_;rcases List.mem_or_eq_of_mem_set F with F|rfl
  .exact P z F
  .exact P c[i] (List.getElem_mem G)
 have⟨V,c6,u⟩:=h.told;refine⟨⟨⟨_,(n 4).trans c4,c.set i (c[i].1.again v,c[i].2),by rw[X,List.map_set],by simpa using l,λg' t=>by cases t;exact s,d⟩,(n 5).trans h.begun,⟨V,(n 6).trans c6,?_⟩,λj=>(fB (a:=⟨k0,j,N⟩) H).trans (h.frozen j),h.avoid,h.low,λb q=>by simpa using h.inn b q⟩,aV.other (by omega) s D,l,d⟩;rcases u with u|⟨m,S,p,T,r,Q⟩
 .exact .inl u
 .refine .inr ⟨m,S,p,T,(o m λe=>?_).trans r,Q⟩;subst e;rcases x.2 with⟨y,-⟩|⟨g',cap',cur,y,-,R,-⟩
  .cases y
  .cases y;rw[R]at r;cases r
end
structure nE (B:Nat)(w:Wj)(g cap:Nat)(zs:List (LsA×Option Wu)):Prop where
 base:B<=g
 obj:∃cur:Array Wx,w.heap[g]?=J (E cur 107 (0,0))/\cur.size=cap*8
 le:zs.length<=cap
 max:cap<=maxLen
 cells:∀i (hi:i<zs.length) j,j<8->w.cell? ⟨g,i*8+j,N⟩=(aM (zs[i].1.lst zs[i].2))[j]?
theorem nE.of_owns{B:Nat}{w:Wj}{g a:Nat}{zs:List (LsA×Option Wu)}(h:w.ownsRow B 107 8 (M (J ⟨g,0,N⟩) zs.length a) zs.length (bf zs)):nE B w g a zs:=by
 have c:=h.2;rcases c with⟨d,-⟩|⟨g',cap',b,d,m,k,c,l,f,-⟩
 .cases d
 .cases d;exact⟨m,⟨b,k,f⟩,c,l,λi n j e=>rr h i n j e⟩
theorem nE.owns{B:Nat}{w:Wj}{g b:Nat}{a:List (LsA×Option Wu)}(h:nE B w g b a):w.ownsRow B 107 8 (M (J ⟨g,0,N⟩) a.length b) a.length (bf a):=by
 have⟨c,i,l⟩:=h.obj;refine⟨me a,.inr ⟨g,b,c,rfl,h.base,i,h.le,h.max,l,?_⟩⟩;apply List.ext_getElem?;intro t;by_cases k:t<a.length*8
 .have d:t/8<a.length:=by omega
  have e:t=t/8*8+t%8:=by omega
  have j:=h.cells (t/8) d (t%8) (by omega);rw[<-e]at j;have f:=ce 8 (λz:LsA×Option Wu=>(aM (z.1.lst z.2)).toList) (λ_=>rfl) a (t/8) (t%8) d (by omega);rw[<-e]at f;show _=(a.flatMap λz=>(aM (z.1.lst z.2)).toList)[t]?;rw[f,List.getElem?_take,if_pos k,gT,gT,<-j,cell_of_row w g t c 107 (0,0) i]
 .rw [List.getElem?_eq_none (by simp;omega),List.getElem?_eq_none (by rw[me];omega)]
theorem nE.same{B:Nat}{w w':Wj}{g b:Nat}{zs:List (LsA×Option Wu)}(h:nE B w g b zs)(e:w'.heap[g]?=w.heap[g]?):nE B w' g b zs:=
 ⟨h.base,by rw[e];exact h.obj,h.le,h.max,λi d j c=>(cB (a:=⟨g,i*8+j,N⟩) e).trans (h.cells i d j c)⟩
theorem nE.lt{B:Nat}{w:Wj}{g a:Nat}{b:List (LsA×Option Wu)}(h:nE B w g a b):g<w.heap.size:=by
 obtain⟨cur,h,-⟩:=h.obj;exact(eS h).1
theorem iZ{w:Wj}{g i j:Nat}{v:Wx}(h:∃a:Array Wx,w.heap[g]?=J (E a T (0,0))/\a.size=i):∃a:Array Wx,(w.setCell ⟨g,j,N⟩ v).heap[g]?=J (E a T (0,0))/\a.size=i:=by
 obtain⟨a,b,d⟩:=h;have⟨c,f⟩:=eS b;refine⟨a.setIfInBounds j v,?_,by simpa using d⟩;show(w.heap.modify g _)[g]?=_;rw[eG (by rw[Array.size_modify];exact c),Array.getElem_modify_self,f];rfl
theorem nE.frozen{B:Nat}{w:Wj}{g a:Nat}{b:List (LsA×Option Wu)}(h:nE B w g a b)(j:Nat):w.frozen? ⟨g,j,N⟩=false:=by
 obtain⟨cur,h,-⟩:=h.obj;simp[World.frozen?,h]
def set8(w:Wj)(g i:Nat)(l:Lst):Wj:=
 (((((((w.setCell ⟨g,i*8,N⟩ (I K l.num)).setCell ⟨g,i*8+1,N⟩ (O l.root)).setCell ⟨g,i*8+2,N⟩ (C l.vs)).setCell ⟨g,i*8+3,N⟩ (U l.p)).setCell ⟨g,i*8+4,N⟩ (U l.d)).setCell ⟨g,i*8+5,N⟩ (U l.af)).setCell ⟨g,i*8+6,N⟩ (I K l.size)).setCell ⟨g,i*8+7,N⟩ (I K l.left)
theorem EL{w:Wj}{g i b:Nat}{l':Lst}(h:∃a:Array Wx,w.heap[g]?=J (E a T (0,0))/\a.size=b):∃a:Array Wx,(set8 w g i l').heap[g]?=J (E a T (0,0))/\a.size=b:=
 iZ (iZ (iZ (iZ (iZ (iZ (iZ (iZ h)))))))
theorem EM{w:Wj}{g i b:Nat}{l':Lst}(h:b<i*8\/i*8+8<=b):(set8 w g i l').cell? ⟨g,b,N⟩=w.cell? ⟨g,b,N⟩:=by
 unfold set8
 iterate 8 rw[cO _ _ _ _ (bO (by omega))]
theorem aX{w:Wj}{g a b:Nat}{v:Wx}(h:(w.cell? ⟨g,b,N⟩).isSome=Y):((w.setCell ⟨g,a,N⟩ v).cell? ⟨g,b,N⟩).isSome=true:=by
 by_cases e:a=b
 .subst e;rw[cS _ _ _ h];rfl
 .rw [cO _ _ _ _ (bO e)];exact h
theorem BV{w:Wj}{g i:Nat}{l':Lst}(h:∀j,j<8->(w.cell? ⟨g,i*8+j,N⟩).isSome=Y)(j:Nat)(hj:j<8):(set8 w g i l').cell? ⟨g,i*8+j,N⟩=(aM l')[j]?:=by
 have a:(set8 w g i l').cell? ⟨g,i*8,N⟩=(aM l')[0]?:=by
  unfold set8
  iterate 7 rw[cO _ _ _ _ (bO (by omega))]
  exact cS _ _ _ (h 0 (by omega))
 have c:(set8 w g i l').cell? ⟨g,i*8+1,N⟩=(aM l')[1]?:=by
  unfold set8
  iterate 6 rw[cO _ _ _ _ (bO (by omega))]
  exact cS _ _ _ (aX (h 1 (by omega)))
 have m:(set8 w g i l').cell? ⟨g,i*8+2,N⟩=(aM l')[2]?:=by
  unfold set8
  iterate 5 rw[cO _ _ _ _ (bO (by omega))]
  exact cS _ _ _ (aX (aX (h 2 (by omega))))
 have d:(set8 w g i l').cell? ⟨g,i*8+3,N⟩=(aM l')[3]?:=by
  unfold set8
  iterate 4 rw[cO _ _ _ _ (bO (by omega))]
  exact cS _ _ _ (aX (aX (aX (h 3 (by omega)))))
 have f:(set8 w g i l').cell? ⟨g,i*8+4,N⟩=(aM l')[4]?:=by
  unfold set8
  iterate 3 rw[cO _ _ _ _ (bO (by omega))]
  exact cS _ _ _ (aX (aX (aX (aX (h 4 (by omega))))))
 have b:(set8 w g i l').cell? ⟨g,i*8+5,N⟩=(aM l')[5]?:=by
  unfold set8
  iterate 2 rw[cO _ _ _ _ (bO (by omega))]
  exact cS _ _ _ (aX (aX (aX (aX (aX (h 5 (by omega)))))))
 have e:(set8 w g i l').cell? ⟨g,i*8+6,N⟩=(aM l')[6]?:=by
  unfold set8
  iterate 1 rw[cO _ _ _ _ (bO (by omega))]
  exact cS _ _ _ (aX (aX (aX (aX (aX (aX (h 6 (by omega))))))))
 have k:(set8 w g i l').cell? ⟨g,i*8+7,N⟩=(aM l')[7]?:=by
  unfold set8;exact cS _ _ _ (aX (aX (aX (aX (aX (aX (aX (h 7 (by omega)))))))))
 rcases j with - | - | - | - | - | - | - | - |j
 .exact a
 .exact c
 .exact m
 .exact d
 .exact f
 .exact b
 .exact e
 .exact k
 .omega
theorem nE.set8{B:Nat}{w:Wj}{g a:Nat}{c:List (LsA×Option Wu)}(h:nE B w g a c)(i:Nat)(hi:i<c.length)(z:LsA×Option Wu):nE B (set8 w g i (z.1.lst z.2)) g a (c.set i z):=by
 refine⟨h.base,EL h.obj,by rw[List.length_set];exact h.le,h.max,λk f j d=>?_⟩;have b:k<c.length:=by simpa using f
 by_cases e:k=i
 .subst e;rw[BV (λj d=>by rw[h.cells k b j d];simp[aM];omega) j d];simp
 .rw [EM (by omega),h.cells k b j d,List.getElem_set_ne (by omega)]
section
variable {P:Wv}
theorem wi(w:Wj)(t e u:Ww)(z:Wx)(s:P.underlying t=J (.slice e))(i:∀w,(zeroValue e).run P w=.ok z w)(r:∀v∈z.cells.toList,v.oneCell'=Y)
  (g o n c:Nat) (a:Array Wx) (T:Ww) (x:w.heap[g]?=J (.cells a T (0,0))) (hn:0<n) (hfit:o+n*z.cells.size<=a.size):
  ∃b,(Builtin.clear_ #[t] u #[.slice (J ⟨g,o,N⟩) n c]).run P w=.ok (.tuple #[]) (w.setRow g b)/\b.size=a.size/\b.toList.take o=a.toList.take o:=by
 have d:(Builtin.zeroCells z.cells n).size=n*z.cells.size:=by simp[Builtin.zeroCells]
 have j:∀v∈(Builtin.zeroCells z.cells n).toList,v.oneCell'=true:=λv i=>by
  have i:=Array.mem_toList_iff.1 i;obtain⟨k,q,rfl⟩:=Array.getElem_of_mem i;have l:k<n*z.cells.size:=by rw[<-d];exact q
  have p:0<z.cells.size:=by
   rcases Nat.eq_zero_or_pos z.cells.size with h|h
   .rw [h]at l;omega
   .exact h
  simp only[Builtin.zeroCells,Array.getElem_map,Array.getElem_range];have:k%z.cells.size<z.cells.size:=Nat.mod_lt _ p;rw[getElem!_pos z.cells (k%z.cells.size) this];exact r _ (by simp)
 have f:=run_storeCells_at P g o T (Builtin.zeroCells z.cells n).toList 0 a w x (by rw[lY,d];omega) j;simp only[Nat.add_zero,lY]at f;refine⟨(a.toList.take o++(Builtin.zeroCells z.cells n).toList++a.toList.drop (o+(Builtin.zeroCells z.cells n).size)).toArray,?_,?_,?_⟩
 .obtain ⟨m,rfl⟩:∃m,n=m+1:=⟨n-1,by omega⟩;simp[Builtin.clear_,run_underlying s,i,f]
 .simp [d];omega
 .simp;rw[List.take_append_of_le_length (by simp;omega),List.take_take];simp
end
def mh(z:LsA×Option Wu):Bool:=decide (z.1.left<=0)
def iq(z:LsA×Option Wu):Bool:=!mh z
structure dF (g:Option Nat)(w w':Wj):Prop where
 os:w'.os=w.os
 size:w.heap.size<=w'.heap.size
 block:∀b,b<w.heap.size->g≠J b->w'.heap[b]?=w.heap[b]?
theorem dF.refl{g:Option Nat}{w:Wj}:dF g w w:=⟨rfl,lR _,λ_ _ _=>rfl⟩
theorem dF.trans{g:Option Nat}{w w' w'':Wj}(h:dF g w w')(k:dF g w' w''):dF g w w'':=⟨k.os.trans h.os,lT h.size k.size,λb c a=>(k.block b (lL c h.size) a).trans (h.block b c a)⟩
theorem dF.below{g:Option Nat}{w w':Wj}(h:Below w.heap.size w w'):dF g w w':=⟨h.os,h.size,λb a _=>h.block b a⟩
theorem dF.set{w w':Wj}{g j:Nat}{v:Wx}(h:dF (J g) w w'):dF (J g) w (w'.setCell ⟨g,j,N⟩ v):=
 ⟨h.os,by have:=h.size;simpa using this,λb c a=>(bS _ _ _ _ (λe=>a (by rw[show b=g from e]))).trans (h.block b c a)⟩
theorem dF.set8{w:Wj}{g i:Nat}{l:Lst}:dF (J g) w (set8 w g i l):=
 dF.set (dF.set (dF.set (dF.set (dF.set (dF.set (dF.set (dF.set dF.refl)))))))
theorem EN(w:Wj)(g:Nat)(a cs:Array Wx)(T:Ww)(b:w.heap[g]?=J (E a T (0,0))):(w.setRow g cs).heap[g]?=J (E cs T (0,0)):=setRow_heap w g a cs T _ b
theorem dF.setRow{w:Wj}{g:Nat}{k cs:Array Wx}(_hg:w.heap[g]?=J (E k T (0,0))):dF (J g) w (w.setRow g cs):=by
 refine⟨rfl,?_,λb hb c=>?_⟩
 .simp [World.setRow]
 .have:b≠g:=λe=>c (by rw[e])
  simp[World.setRow,Array.getElem?_modify,this.symm]
theorem nE.cut{B:Nat}{w:Wj}{g c i:Nat}{e:List (LsA×Option Wu)}{b a:Array Wx}(h:nE B w g c e)(f:w.heap[g]?=J (E b 107 (0,0)))(hs:a.size=b.size)(s:a.toList.take (i*8)=b.toList.take (i*8))(hi:i<=e.length):nE B (w.setRow g a) g c (e.take i):=by
 have n:=EN w g b a 107 f;have⟨c2,o,h2⟩:=h.obj;rw[f]at o;cases o;refine⟨h.base,⟨a,n,by omega⟩,by rw[tL];have:=h.le;omega,h.max,λk q j r=>?_⟩;have hk':k<i:=by rw[tL]at q;omega
 have p:=h.cells k (by omega) j r;rw[cell_of_row w g _ b 107 (0,0) f]at p;rw[cell_of_row _ g _ a 107 (0,0) n,List.getElem_take,<-p];have m:=congrArg (λl:List Wx=>l[k*8+j]?) s;simp only[List.getElem?_take]at m;have d:k*8+j<i*8:=by omega
 simpa[d]using m
theorem Hc(w:Wj):(zeroValue 107).run Yq.prog w=.ok (.agg #[I K 0,O N,C Z,U ⟨#[]⟩,U ⟨#[]⟩,U ⟨#[]⟩,I K 0,I K 0]) w:=by kernel_rfl
theorem EO(w:Wj)(g o n:Nat)(b:Array Wx)(r:w.heap[g]?=J (E b 107 (0,0)))(s:0<n)(f:o+n*8<=b.size):
  ∃a:Array Wx,(∀d c,(Builtin.clear_ #[37] d #[M (J ⟨g,o,N⟩) n c]).run Yq.prog w=.ok (.tuple #[]) (w.setRow g a))/\a.size=b.size/\a.toList.take o=b.toList.take o:=by
 have h:∀v∈(Value.agg #[I K 0,O N,C Z,U ⟨#[]⟩,U ⟨#[]⟩,U ⟨#[]⟩,I K 0,I K 0]).cells.toList,v.oneCell'=true:=by
  intro v i;simp[Value.cells]at i;rcases i with rfl|rfl|rfl|rfl|rfl|rfl<;>rfl
 obtain⟨a,l,k,q⟩:=wi (P:=Yq.prog) w 37 107 0 _ (Yq.u underlying37) Hc h g o n 0 b 107 r s (by simpa[Value.cells]using f);have p:∀d e c j,(Builtin.clear_ #[37] d #[M (J ⟨g,o,N⟩) n c]).run Yq.prog w=(Builtin.clear_ #[37] e #[M (J ⟨g,o,N⟩) n j]).run Yq.prog w:=λd e c j=>by
  obtain⟨m,rfl⟩:∃m,n=m+1:=⟨n-1,by omega⟩;simp[Builtin.clear_,run_underlying (Yq.u underlying37)]
 exact⟨a,λd c=>(p d 0 c 0).trans l,k,q⟩
theorem tW(l:Lst)(w:Wj):Calls Yq.prog 75 #[lV l] w λe w'=>e=.returned (C (decide (l.left<=0)))/\Below w.heap.size w w':=by
 unfold lV aM;go_enter (Yq.nq func75),ntmps75;go_wp2_with fail
 go_ret;exact⟨rfl,(bR _ _).alloc (lR _) _⟩
theorem EP(B:Nat)(r:Option Wu)(s:Nat)(a:List (LsA×Option Wu))(w:Wj)(t:w.ownsRow B 107 8 (M r a.length s) a.length (bf a))(hl:a.length<=3):
  Calls Yq.prog 46 #[M r a.length s,.func (.func 75) #[] #[]] w λe w'=>e=.returned (I K (((a.findIdx? mh).map λ(i:Nat)=>(i:Int)).getD (-1)))/\Below w.heap.size w w':=by
 have HZ:Hid (w.ownsRow B 107 8 (M r a.length s) a.length (bf a)):=t;obtain⟨R,u⟩:∃R:Int,R=((a.findIdx? mh).map λ(i:Nat)=>(i:Int)).getD (-1):=⟨_,rfl⟩;have HR:Hid (R=((a.findIdx? mh).map λ(i:Nat)=>(i:Int)).getD (-1)):=u;rw[<-u];clear t u;go_enter (Yq.nq func46),ntmps46;go_wp2_with fail
 go_loopw [5,8] (λ_ s8 wr=>∃i:Nat,i<=a.length/\s8=I K i/\(∀j (l:j<a.length),j<i->mh a[j]=Z)/\Below w.heap.size w wr) (λ_ s8 _=>a.length-(intOf s8).toNat)
 case atStart=>exact⟨0,Nat.zero_le _,rfl,λ_ _ h=>absurd h (by omega),bR _ _⟩
 case round=>
  obtain⟨i,hi,rfl,m,c⟩:=hrel;by_cases o:i<a.length
  .obtain ⟨g,k,S⟩:∃g k,Value.slice r a.length s=M (J ⟨g,0,N⟩) a.length k:=by
    rcases HZ.out.2 with⟨G,h2⟩|⟨g,k,cur,G,-⟩
    .omega
    .exact ⟨g,k,G⟩
   cases S;have⟨x,F,P,H,y,L,D,A⟩:=mg HZ.out i o;replace x:=ah c x;replace F:=ah c F;replace P:=ah c P;replace H:=ah c H;replace y:=ah c y;replace L:=ah c L;replace D:=ah c D;replace A:=ah c A;have HF:Calls Yq.prog 75 #[.agg #[I K a[i].1.num,O a[i].2,C a[i].1.q.vs,U a[i].1.q.p,U a[i].1.q.d,U a[i].1.q.af,I K a[i].1.size,I K a[i].1.left]] wr λe w'=>e=.returned (C (mh a[i]))/\Below wr.heap.size wr w':=tW (a[i].1.lst a[i].2) wr
   have b:Hid ((∀j (l:j<a.length),j<i->mh a[j]=Z)/\Below w.heap.size w wr):=⟨m,c⟩;clear m c;cases f:mh a[i]with
   |true=>
    rw[f]at HF;have HE:Hid (R=(i:Int)):=by
     show R=(i:Int);have:a.findIdx? mh=J i:=by
      rw[List.findIdx?_eq_some_iff_getElem];refine⟨o,f,λj l=>?_⟩;have:=b.out.1 j (by omega) l;simp[this]
     rw[HR.out,this];rfl
    go_wp2_with (go_at_call 75;refine HF.mono ?_;clear HF;rintro e Q ⟨rfl,n⟩)
    go_ret;exact⟨by rw[HE.out];rfl,b.out.2.trans (n.mono b.out.2.size)⟩
   |false=>
    rw[f]at HF;go_wp2_with (go_at_call 75;refine HF.mono ?_;clear HF;rintro e Q ⟨rfl,n⟩)
    refine⟨⟨i+1,by omega,by go_num,λj l hji=>?_,b.out.2.trans (n.mono b.out.2.size)⟩,by simp[intOf];omega⟩;by_cases v:j=i
    .subst v;exact f
    .exact b.out.1 j l (by omega)
  .have:i=a.length:=by omega
   subst this;go_wp2_with fail
   go_ret;refine⟨?_,c⟩;have:a.findIdx? mh=none:=by
    rw[List.findIdx?_eq_none_iff];intro z t;obtain⟨j,l,rfl⟩:=gM t;exact m j l l
   rw[HR.out,this];rfl
theorem j1{a:List (LsA×Option Wu)}{j:Nat}(b:j<a.length):(a.take (j+1)).filter iq=(a.take j).filter iq++(if iq a[j]then[a[j]]else[]):=by
 rw[tS b,List.filter_append];congr 1;by_cases h:iq a[j]=Y
 .simp [h]
 .simp [h]
theorem BW(B:Nat)(P:Option Wu)(t:Nat)(a:List (LsA×Option Wu))(w:Wj)(x:w.ownsRow B 107 8 (M P a.length t) a.length (bf a))(hl:a.length<=3):
  Calls Yq.prog 74 #[M P a.length t,.func (.func 75) #[] #[]] w λe w'=>∃v',e=.returned v'/\w'.ownsRow B 107 8 v' (a.filter iq).length (bf (a.filter iq))/\(∀g,v'.ownBlock=J g->(Value.slice P a.length t).ownBlock=J g)/\dF (Value.slice P a.length t).ownBlock w w':=by
 have n:=EP B P t a w x hl;cases X:a.findIdx? mh with
 |none=>
  rw[X]at n;simp only[Option.map_none,Option.getD_none]at n;have G:a.filter iq=a:=by
   rw[List.filter_eq_self];intro z x;have:=List.findIdx?_eq_none_iff.1 X z x;simp[iq,this]
  rw[G];have HZ:Hid (w.ownsRow B 107 8 (M P a.length t) a.length (bf a)):=x;clear x G X;go_enter (Yq.nq func74),ntmps74;go_wp2_with (go_at_call 46;refine n.mono ?_;clear n;rintro e w1 ⟨rfl,v⟩)
  go_ret;exact⟨_,rfl,bW HZ.out λg _ hg=>v.block g hg,λ_ h=>h,.below v⟩
 |some p=>
  rw[X]at n;simp only[Option.map_some,Option.getD_some]at n;have⟨ar,ad,ac⟩:=List.findIdx?_eq_some_iff_getElem.1 X;obtain⟨g,A,he⟩:∃g A,Value.slice P a.length t=M (J ⟨g,0,N⟩) a.length A:=by
   rcases x.2 with⟨T,h2⟩|⟨g,A,al,T,-⟩
   .omega
   .exact ⟨g,A,T⟩
  cases he;have V:=nE.of_owns x;have HS:Hid (nE B w g t a/\(a.take (p+1)).filter iq=a.take p):=by
   refine⟨V,?_⟩;rw[j1 ar];have e1:(a.take p).filter iq=a.take p:=by
    rw[List.filter_eq_self];intro z x;obtain⟨j,hj,rfl⟩:=gM x;have a3:j<p:=by simp at hj;omega
    have:=ac j a3;rw[List.getElem_take];simpa[iq]using this
   rw[e1];simp[iq,ad]
  have hpI:((p:Int) == -1)=false:=by simp
  have hpI2:¬((p:Int)=-1):=by omega
  have hvc:a.length<=t:=V.le;clear x X ad ac V;go_enter (Yq.nq func74),ntmps74;go_wp2_with (go_at_call 46;refine n.mono ?_;clear n;rintro e w1 ⟨rfl,v⟩)
  go_loopw [5,6,7] (λs5 s6 _ wr=>∃ (i j:Nat) (m:List (LsA×Option Wu)),s5=I K i/\s6=I K j/\j<=a.length/\i<j/\m.length=a.length/\m.take i=(a.take j).filter iq/\m.drop j=a.drop j/\nE B wr g t m/\dF (J g) w wr) (λ_ s6 _ _=>a.length-(intOf s6).toNat)
  case atStart=>exact⟨p,p+1,a,rfl,by go_num,ar,by omega,rfl,HS.out.2.symm,rfl,HS.out.1.same (v.block g HS.out.1.lt),.below v⟩
  case round=>
   obtain⟨i,j,m,rfl,rfl,hj,hij,L,u,D,b,f⟩:=hrel;by_cases Q:j<a.length
   .have a0:j<m.length:=by omega
    have R:i<m.length:=by omega
    have av:m[j]=a[j]:=by
     have T:(m.drop j)[0]?=(a.drop j)[0]?:=by rw[D]
     rw[List.getElem?_drop,List.getElem?_drop,Nat.add_zero,eL a0,eL Q]at T;exact oJ T
    have k:=b.cells j a0;rw[av]at k;have q0:=k 0 (by omega);have q1:=k 1 (by omega);have q2:=k 2 (by omega);have q3:=k 3 (by omega);have q4:=k 4 (by omega);have q5:=k 5 (by omega);have q6:=k 6 (by omega);have q7:=k 7 (by omega);simp only[aM,LsA.lst,gA,gZ,gS,Nat.add_zero]at q0 q1 q2 q3 q4 q5 q6 q7;obtain⟨W,S⟩:∃W,W=wr.alloc (E #[I K a[j].1.num,O a[j].2,C a[j].1.q.vs,U a[j].1.q.p,U a[j].1.q.d,U a[j].1.q.af,I K a[j].1.size,I K a[j].1.left] 107):=⟨_,rfl⟩;have HF:Calls Yq.prog 75 #[.agg #[I K a[j].1.num,O a[j].2,C a[j].1.q.vs,U a[j].1.q.p,U a[j].1.q.d,U a[j].1.q.af,I K a[j].1.size,I K a[j].1.left]] W λe w'=>e=.returned (C (mh a[j]))/\Below W.heap.size W w':=tW (a[j].1.lst a[j].2) W
    have a1:=b.lt;have HI:Hid (m.length=a.length/\m.take i=(a.take j).filter iq/\m.drop j=a.drop j/\nE B wr g t m/\dF (J g) w wr):=⟨L,u,D,b,f⟩;have HB:Hid (∀o,Below W.heap.size W o->dF (J g) w o/\nE B o g t m /\
      (o.cell? ⟨wr.heap.size,0,N⟩=J (I K a[j].1.num)/\o.cell? ⟨wr.heap.size,1,N⟩=J (O a[j].2)/\o.cell? ⟨wr.heap.size,2,N⟩=J (C a[j].1.q.vs)/\o.cell? ⟨wr.heap.size,3,N⟩=J (U a[j].1.q.p)/\o.cell? ⟨wr.heap.size,4,N⟩=J (U a[j].1.q.d)/\o.cell? ⟨wr.heap.size,5,N⟩=J (U a[j].1.q.af)/\o.cell? ⟨wr.heap.size,6,N⟩=J (I K a[j].1.size)/\o.cell? ⟨wr.heap.size,7,N⟩=J (I K a[j].1.left))):=λo r=>by
     have H:Below wr.heap.size wr W:=by rw[S];exact(bR _ _).alloc (lR _) _
     have e:o.heap[wr.heap.size]?=J (E #[I K a[j].1.num,O a[j].2,C a[j].1.q.vs,U a[j].1.q.p,U a[j].1.q.d,U a[j].1.q.af,I K a[j].1.size,I K a[j].1.left] 107):=by
      rw[r.block _ (by rw[S];simp),S];exact aN _ _
     refine⟨f.trans ((dF.below H).trans (.below r)),b.same ((r.block g (by have:=H.size;omega)).trans (H.block g a1)),?_⟩;refine⟨?_,?_,?_,?_,?_,?_,?_,?_⟩<;>simp[World.cell?,e]
    clear L u D b f k av;cases y:mh a[j]with
    |true=>
     rw[y]at HF;rw[S]at HF;go_wp2_with (go_at_call 75;refine HF.mono ?_;clear HF;rintro e o ⟨rfl,r⟩)
     obtain⟨T,h2,-⟩:=HB.out o (by rw[S];exact r);obtain⟨k1,k2,k3,-,-⟩:=HI.out;refine⟨⟨i,j+1,m,rfl,by go_num,by omega,by omega,k1,?_,?_,h2,T⟩,by simp[intOf];omega⟩
     .rw [j1 Q,k2];simp[iq,y]
     .have:=congrArg (List.drop 1) k3
      rwa [List.drop_drop,List.drop_drop]at this
    |false=>
     rw[y]at HF;rw[S]at HF;go_wp2_with (go_at_call 75;refine HF.mono ?_;clear HF;rintro e o ⟨rfl,r⟩;have⟨ab,c,b0,b1,b2,b3,b4,b5,b6,b7⟩:=HB.out o (by rw[S];exact r);have k:=c.cells i R;have p0:=k 0 (by omega);have p1:=k 1 (by omega);have p2:=k 2 (by omega);have p3:=k 3 (by omega);have p4:=k 4 (by omega);have p5:=k 5 (by omega);have p6:=k 6 (by omega);have p7:=k 7 (by omega);simp only[aM,LsA.lst,gA,gZ,gS,Nat.add_zero]at p0 p1 p2 p3 p4 p5 p6 p7;have f0:=c.frozen (i*8);have f1:=c.frozen (i*8+1);have f2:=c.frozen (i*8+2);have f3:=c.frozen (i*8+3);have f4:=c.frozen (i*8+4);have f5:=c.frozen (i*8+5);have f6:=c.frozen (i*8+6);have f7:=c.frozen (i*8+7);have HE:Hid (_/\_):=And.intro ab c;clear ab c k)
     obtain⟨k1,k2,k3,-,-⟩:=HI.out;refine⟨⟨i+1,j+1,m.set i a[j],by go_num,by go_num,by omega,by omega,by simp[k1],?_,?_,HE.out.2.set8 i R a[j],?_⟩,by simp[intOf];omega⟩
     .rw [j1 Q,<-k2,tS (by simpa using R),List.getElem_set_self];have:(m.set i a[j]).take i=m.take i:=by rw[List.take_set];exact List.set_eq_of_length_le (by simp;omega)
      rw[this];simp[iq,y]
     .rw [List.drop_set_of_lt (by omega)];have:=congrArg (List.drop 1) k3
      rwa [List.drop_drop,List.drop_drop]at this
     .exact HE.out.1.trans (dF.set8 (l:=a[j].1.lst a[j].2))
   .have:j=a.length:=by omega
    subst this;have⟨al,s,hcs⟩:=b.obj;have⟨F,hcl0,aa,ap⟩:=EO wr g (i*8) (a.length-i) al s (by omega) (by omega);have a2:Hid (nE B (wr.setRow g F) g t (a.filter iq)/\(a.filter iq).length=i/\dF (J g) w (wr.setRow g F)):=by
     have hr:=b.cut s aa ap (by omega);rw[u,tO (lR _)]at hr;refine⟨hr,?_,f.trans (dF.setRow s)⟩;have:=congrArg List.length u;rw[tO (lR a.length),tL]at this;omega
    clear b f u D L s aa ap;go_wp2_with fail
    go_ret;have⟨e1,e2,e3⟩:=a2.out;have e4:=e1.owns;rw[e2]at e4 ⊢;exact⟨_,rfl,e4,λ_ h=>h,e3⟩
def mi(L:Lg)(u:Int):Lg:={L with opened:=(L.opened.map λx=>x.again (x.left-u)).filter λx=>!decide (x.left<=0)}
section
variable {A:Nat->Prop} {B k0:Nat} {L:Lg}
theorem dE.reopen{w w':Wj}(h:dE A B w k0 L){v i:Wx}{T F:List (LsA×Option Wu)}(H:w.cell? ⟨k0,4,N⟩=J v)(V:w.ownsRow B 107 8 v T.length (bf T))(X:∀g,v.ownBlock=J g->¬A g)(r:w'.ownsRow B 107 8 i F.length (bf F))(t:∀g,i.ownBlock=J g->v.ownBlock=J g)(o:dF v.ownBlock w w')(hy:∀z∈F,am A 41 w z.2 z.1.f):
  dE A B (w'.setCell ⟨k0,4,N⟩ i) k0 {L with opened:=F.map (·.1)}/\aV A B k0 w (w'.setCell ⟨k0,4,N⟩ i)/\FrC k0 w (w'.setCell ⟨k0,4,N⟩ i):=by
 have hk:=h.low;have P:=h.lt;have⟨mv,c6,S⟩:=h.told;have s:∀g,v.ownBlock=J g->B<=g:=λg u=>(V.lt g u).1
 have k:w'.heap[k0]?=w.heap[k0]?:=o.block k0 P (λe=>by have:=s k0 e;omega);have c:∀b,b≠k0->(w'.setCell ⟨k0,4,N⟩ i).heap[b]?=w'.heap[b]?:=λb d=>bS _ _ _ _ d
 have D:∀b,A b->(w'.setCell ⟨k0,4,N⟩ i).heap[b]?=w.heap[b]?:=λb d=>(c b (λe=>h.avoid (e▸d))).trans (o.block b (h.inn b d) (λe=>X b e d))
 have q:∀j,w'.cell? ⟨k0,j,N⟩=w.cell? ⟨k0,j,N⟩:=λj=>cB (a:=⟨k0,j,N⟩) k
 have l:∀j,j≠4->(w'.setCell ⟨k0,4,N⟩ i).cell? ⟨k0,j,N⟩=w.cell? ⟨k0,j,N⟩:=λj h4=>by
  rw[cO _ _ _ _ (bO λe=>h4 e.symm),q]
 have y:∀j,(w'.setCell ⟨k0,4,N⟩ i).frozen? ⟨k0,j,N⟩=w.frozen? ⟨k0,j,N⟩:=λj=>by
  rw[World.frozen?_setCell];exact fB (a:=⟨k0,j,N⟩) k
 have n:w.heap.size<=(w'.setCell ⟨k0,4,N⟩ i).heap.size:=by have:=o.size;simpa using this
 refine⟨⟨⟨i,?_,F,rfl,im r λg u=>c g (by have:=(r.lt g u).1;omega),λg u=>X g (t g u),λz hz=>am.keep (λb d _=>⟨d,D b d⟩) 41 _ _ (hy z hz)⟩,(l 5 (by omega)).trans h.begun,⟨mv,(l 6 (by omega)).trans c6,?_⟩,λj=>(y j).trans (h.frozen j),h.avoid,h.low,λb d=>lL (h.inn b d) n⟩,⟨o.os,n,λb R Q h3=>(c b h3).trans (o.block b Q (λe=>by have:=s b e;omega)),λb d _=>D b d,λj hj=>l j (by omega),y⟩,?_⟩
 rotate_right
 .refine ⟨n,λb d k r=>(c b k).trans (o.block b d.lt (λe=>r ⟨v,H,e⟩)),λb r=>?_⟩;obtain⟨x,R,Q⟩:=r;rw[cS _ _ _ (by rw[q,H];rfl)]at R;cases R;exact .inl ⟨v,H,t b Q⟩
 .exact cS _ _ _ (by rw[q,H];rfl)
 .rcases S with S|⟨m,es,p,m1,G,m3,m4,m5⟩
  .exact .inl S
  .refine .inr ⟨m,es,p,m1,?_,m3,m4,m5⟩;rw[c m (by omega),o.block m (eS G).1 (λe=>?_)]
   .exact G
   .rcases V.2 with⟨rfl,-⟩|⟨g,cap,cur,rfl,d,hr,-⟩
    .cases e
    .cases e;rw[hr]at G;cases G
def HJ(u:Int)(z:LsA×Option Wu):LsA×Option Wu:=(z.1.again (z.1.left-u),z.2)
theorem Hd(w:Wj)(h:dE A B w k0 L)(hop:L.opened.length<=3)(u:Int)(hu:0<=u/\u<=1000)(aa:∀x∈L.opened,0<=x.left/\x.left<=10):
  Calls Yq.prog 50 #[O (J ⟨k0,4,N⟩),I K u] w λe w'=>e=.returned (.tuple #[])/\dE A B w' k0 (mi L u)/\aV A B k0 w w'/\FrC k0 w w':=by
 have⟨v4,c4,b,z1,z2,z3,z4⟩:=h.opened;obtain⟨m,k,rfl,-⟩:=az z2;have hlz:L.opened.length=b.length:=by rw[z1];simp
 have hlt:=h.lt;have T:∀i (hi:i<b.length),0<=b[i].1.left/\b[i].1.left<=10:=λi hi=>aa _ (by rw[z1];exact List.mem_map.2 ⟨b[i],List.getElem_mem hi,rfl⟩)
 have hzl:b.length<=3:=by omega
 obtain⟨d,P⟩:∃d:Nat->List (LsA×Option Wu),d=λi=>(b.take i).map (HJ u)++b.drop i:=⟨_,rfl⟩
 have c:∀i,(d i).length=b.length:=λi=>by rw[P];simp;omega
 have HY:Hid (d=λi=>(b.take i).map (HJ u)++b.drop i):=P;have HL:Hid (dE A B w k0 L/\(L.opened=b.map (·.1))/\w.ownsRow B 107 8 (M m b.length k) b.length (bf b)/\(∀g,(Value.slice m b.length k).ownBlock=J g->¬A g)/\(∀z∈b,am A 41 w z.2 z.1.f)):=⟨h,z1,z2,z3,z4⟩;clear P z1 z2 z3 z4 aa h;go_enter (Yq.nq func50),ntmps50;go_wp2_with fail
 go_loopw [4,10] (λ_ s10 wr=>∃i:Nat,i<=b.length/\s10=I K i/\dE A B wr k0 {L with opened:=(d i).map (·.1)}/\aV A B k0 w wr/\FrC k0 w wr/\wr.cell? ⟨k0,4,N⟩=J (M m b.length k)/\wr.ownsRow B 107 8 (M m b.length k) (d i).length (bf (d i))/\∀z∈d i,am A 41 wr z.2 z.1.f) (λ_ s10 _=>b.length-(intOf s10).toNat)
 case atStart=>
  have S:d 0=b:=by rw[HY.out];simp
  have⟨R,h2,h3,h4,h5⟩:=HL.out;refine⟨0,Nat.zero_le _,rfl,?_,aV.refl,FrC.refl,c4,?_,?_⟩
  .rw [S,<-h2];exact R
  .rw [S];exact h3
  .rw [S];exact h5
 case round=>
  obtain⟨i,hi,rfl,n,F,t,V,l,D⟩:=hrel;by_cases o:i<b.length
  .obtain ⟨g,y,he⟩:∃g y,Value.slice m b.length k=M (J ⟨g,0,N⟩) b.length y:=by
    rcases HL.out.2.2.1.2 with⟨R,h2⟩|⟨g,y,cur,R,-⟩
    .omega
    .exact ⟨g,y,R⟩
   cases he;have H:i<(d i).length:=by rw[c];exact o
   have X:(d i)[i]=b[i]:=by
    have:(d i)[i]?=J b[i]:=by
     rw[HY.out];simp only;rw[aR (by simp;omega)];simp;rw[Nat.min_eq_left (by omega)];simp[o]
    rw[eL H]at this;exact oJ this
   have j:wr.ownsRow B 107 8 (M (J ⟨g,0,N⟩) (d i).length k) (d i).length (bf (d i)):=by rw[c]at l ⊢;exact l
   have q7:=(mg j i H).2.2.2.2.2.2.2;rw[X]at q7;have f7:=(nE.of_owns j).frozen (i*8+7);have ac:wr.cell? ⟨k0,4,N⟩=J (M (J ⟨g,0,N⟩) (d i).length k):=by rw[c];exact V
   have⟨hlo,hhi⟩:=T i o;have hwr:wrap64 (b[i].1.left-u)=b[i].1.left-u:=by unfold wrap64;omega
   have p:=n.setLeft ac rfl j (HL.out.2.2.2.1 g rfl) D i H (b[i].1.left-u);rw[X]at p;have G:(d i).set i (b[i].1.again (b[i].1.left-u),b[i].2)=d (i+1):=by
    rw[HY.out];simp only;rw[List.set_append_right _ _ (by simp;omega),tS o,List.map_append,pA];congr 1;have S:i-(List.map (HJ u) (List.take i b)).length=0:=by simp;omega
    rw[S,List.drop_eq_getElem_cons o,List.set_cons_zero];simp[HJ]
   have HN:Hid (dE A B (wr.setCell ⟨g,i*8+7,N⟩ (I K (b[i].1.left-u))) k0 {L with opened:=(d (i+1)).map (·.1)}/\aV A B k0 w (wr.setCell ⟨g,i*8+7,N⟩ (I K (b[i].1.left-u)))/\FrC k0 w (wr.setCell ⟨g,i*8+7,N⟩ (I K (b[i].1.left-u)))/\(wr.setCell ⟨g,i*8+7,N⟩ (I K (b[i].1.left-u))).cell? ⟨k0,4,N⟩=J (M (J ⟨g,0,N⟩) b.length k)/\(wr.setCell ⟨g,i*8+7,N⟩ (I K (b[i].1.left-u))).ownsRow B 107 8 (M (J ⟨g,0,N⟩) b.length k) (d (i+1)).length (bf (d (i+1)))/\∀z∈d (i+1),am A 41 (wr.setCell ⟨g,i*8+7,N⟩ (I K (b[i].1.left-u))) z.2 z.1.f):=by
    rw[<-G];obtain⟨n1,n2,n3,n4⟩:=p;refine⟨?_,F.trans n2,t.trans (FrC.open ⟨_,V,rfl⟩ (by have:=(j.lt g rfl).1;have:=n.low;omega)),?_,?_,n4⟩
    .rw [List.map_set];exact n1
    .rw [cB (w:=wr) (a:=⟨k0,4,N⟩) (bS _ _ _ _ (show k0≠g by have:=(j.lt g rfl).1;have:=n.low;omega))];exact V
    .rw [c]at n3;exact n3
   clear n F t l D j p G ac;go_wp2_with fail
   exact⟨⟨i+1,by omega,by go_num,HN.out⟩,by simp[intOf];omega⟩
  .have:i=b.length:=by omega
   subst this;have ab:d b.length=b.map (HJ u):=by rw[HY.out];simp
   have q:=BW B m k (d b.length) wr (by rw[c]at l ⊢;exact l) (by rw[c];omega);rw[c]at q;have ad:Hid (FrC k0 w wr):=t;have HE:Hid (dE A B wr k0 {L with opened:=(d b.length).map (·.1)}/\aV A B k0 w wr/\wr.ownsRow B 107 8 (M m b.length k) (d b.length).length (bf (d b.length))/\(∀z∈d b.length,am A 41 wr z.2 z.1.f)/\d b.length=b.map (HJ u)):=⟨n,F,l,D,ab⟩;have HC:Hid (∀Q,dF (Value.slice m b.length k).ownBlock wr Q->Q.cell? ⟨k0,4,N⟩=J (M m b.length k)/\Q.frozen? ⟨k0,4,N⟩=Z):=λQ af=>by
    have e:Q.heap[k0]?=wr.heap[k0]?:=af.block k0 n.lt (λe=>by have:=(l.lt k0 e).1;have:=n.low;omega);exact⟨(cB (a:=⟨k0,4,N⟩) e).trans V,(fB (a:=⟨k0,4,N⟩) e).trans (n.frozen 4)⟩
   clear n F t l D ab;go_wp2_with (go_at_call 74;refine q.mono ?_;clear q;rintro e Q ⟨v',rfl,s,v,r⟩;obtain⟨va',vc',rfl,-⟩:=az s;have⟨d4,g4⟩:=HC.out Q r;have HD:Hid (_/\_/\_):=And.intro s (And.intro v r);clear s v r)
   go_end0;have⟨R,h2,h3,h4,h5⟩:=HE.out;have⟨s,v,r⟩:=HD.out;have⟨r1,r2,r3⟩:=R.reopen V h3 HL.out.2.2.2.1 s v r (λz hz=>h4 z (List.mem_filter.1 hz).1);refine⟨rfl,?_,h2.trans r2,ad.out.trans r3⟩;have e:mi L u={L with opened:=((d b.length).filter iq).map (·.1)}:=by
    unfold mi;congr 1;rw[h5,HL.out.2.1,List.map_map,List.filter_map,List.filter_map,List.map_map];rfl
   rw[e];exact r1
end
theorem xP(k0:Nat)(p:Option Wu)(w:Wj)(a:w.cell? ⟨k0,0,N⟩=J (O p)):Calls Yq.prog 16 #[O (J ⟨k0,0,N⟩)] w λe w'=>e=.returned (.agg #[O p])/\w'=w.alloc (E #[O p] 33):=by
 have hlt:k0<w.heap.size:=bC w _ a;go_enter (Yq.nq func16),ntmps16;go_wp2_with fail
 exact bodyPost_ret (v:=.agg #[O p]) (by simp[results,results16,go_sem]) rfl ⟨rfl,rfl⟩
theorem EQ(k0:Nat)(n:Int)(w:Wj)(c1:w.cell? ⟨k0,1,N⟩=J (I K n)):Calls Yq.prog 21 #[O (J ⟨k0,0,N⟩)] w λe w'=>e=.returned (I K n)/\w'=w:=by
 go_enter (Yq.nq func21),ntmps21;go_wp2_with fail
 go_ret;exact⟨rfl,rfl⟩
theorem ER(a:Bool)(p d b:ByteArray)(w:Wj):(Instr.build 74 #[(0,C a),(1,U p),(2,U d),(3,U b)]).run Yq.prog w=.ok (.agg #[C a,U p,U d,U b]) w:=by kernel_rfl
theorem xQ(o:OpD)(w:Wj):Calls Yq.prog 17 #[aT o] w λe w'=>e=.returned (qV (o.kind==7) o.key o.delim o.past)/\Below w.heap.size w w':=by
 obtain⟨c,d,body,a,b,n,src⟩:=o;have hb:=ER;unfold aT qV;go_enter (Yq.nq func17),ntmps17;go_wp2_with fail
 exact bodyPost_ret (v:=.agg #[C (c==7),U d,U a,U b]) (by simp[results,results17,go_sem]) rfl ⟨rfl,((bR _ _).alloc (lR _) _).alloc (by simp) _⟩
theorem ES(k0:Nat)(n u:Int)(w:Wj)(c3:w.cell? ⟨k0,3,N⟩=J (I .u64 n))(f3:w.frozen? ⟨k0,3,N⟩=Z):Calls Yq.prog 49 #[O (J ⟨k0,0,N⟩),I K u] w λe w'=>e=.returned (.tuple #[])/\w'=w.setCell ⟨k0,3,N⟩ (I .u64 (IntKind.u64.wrap (n+u))):=by
 go_enter (Yq.nq func49),ntmps49;go_wp2_with fail
 go_end0;exact⟨rfl,by congr 2;simp[IntKind.wrap,IntKind.bits,IntKind.signed]⟩
theorem ET(k0:Nat)(a:Option Wu)(n c:Nat)(s:Int)(w:Wj)(_hn:n<=2199023255552)(c8:w.cell? ⟨k0,8,N⟩=J (M a n c)):Calls Yq.prog 48 #[O (J ⟨k0,0,N⟩),I K s] w λe w'=>e=.returned (C (decide (0<=s/\s<n)))/\w'=w:=by
 by_cases b:0<=s
 .by_cases d:s<n
  .have e:decide (0<=s/\s<n)=true:=by simp[b,d]
   rw[e];go_enter (Yq.nq func48),ntmps48;go_wp2_with fail
   go_ret;exact⟨rfl,rfl⟩
  .have e:decide (0<=s/\s<n)=false:=by simp[d]
   rw[e];go_enter (Yq.nq func48),ntmps48;go_wp2_with fail
   go_ret;exact⟨by simp,rfl⟩
 .have e:decide (0<=s/\s<n)=false:=by simp[b]
  rw[e];go_enter (Yq.nq func48),ntmps48;go_wp2_with fail
  go_ret;exact⟨rfl,rfl⟩
structure br (A:Nat->Prop)(B:Nat)(w:Wj)(k0:Nat)(st:St)(L:Lg):Prop where
 store:aG A w k0 st
 ls:dE A B w k0 L
 time:w.cell? ⟨k0,3,N⟩=J (I .u64 L.tm)
structure gO (A:Nat->Prop)(B k0:Nat)(w w':Wj):Prop where
 os:w'.os=w.os
 size:w.heap.size<=w'.heap.size
 low:∀b,b<B->b<w.heap.size->b≠k0->w'.heap[b]?=w.heap[b]?
 tree:∀b,A b->b<w.heap.size->w'.heap[b]?=w.heap[b]?
 cells:∀j,6<j->w'.cell? ⟨k0,j,N⟩=w.cell? ⟨k0,j,N⟩
 fz:∀j,w'.frozen? ⟨k0,j,N⟩=w.frozen? ⟨k0,j,N⟩
section
variable {A A':Nat->Prop} {B k0:Nat} {w w' w'':Wj} {st:St} {L L':Lg}
theorem aV.weak(h:aV A B k0 w w'):gO A B k0 w w':=⟨h.os,h.size,h.low,h.tree,λj a=>h.cells j (.inr a),h.fz⟩
theorem gO.trans(h:gO A B k0 w w')(k:gO A B k0 w' w''):gO A B k0 w w'':=
 ⟨k.os.trans h.os,lT h.size k.size,λb a c e=>(k.low b a (lL c h.size) e).trans (h.low b a c e),λb a c=>(k.tree b a (lL c h.size)).trans (h.tree b a c),λj d=>(k.cells j d).trans (h.cells j d),λj=>(k.fz j).trans (h.fz j)⟩
theorem aG.desk(S:aG A w k0 st)(a:aV A B k0 w w')(i:∀b,A b->A' b)(f:¬A' k0):aG A' w' k0 st:=by
 have⟨p,h,k⟩:=S.tree;exact⟨λb c e=>f (e▸c),⟨p,(a.cells 0 (.inl (by omega))).trans h,am.keep (λb c d=>⟨i b c,a.tree b c d⟩) 41 _ _ k⟩,(a.cells 1 (.inl (by omega))).trans S.count,(a.cells 2 (.inl (by omega))).trans S.last,λj=>(a.fz j).trans (S.frozen j)⟩
theorem br.step(h:br A B w k0 st L)(a:aV A B k0 w w')(e:∀b,A b->A' b)(c:dE A' B w' k0 L')(d:L'.tm=L.tm):br A' B w' k0 st L':=
 ⟨h.store.desk a e c.avoid,c,by rw[d];exact(a.cells 3 (.inl (by omega))).trans h.time⟩
theorem br.setTime(h:br A B w k0 st L)(m:Int):br A B (w.setCell ⟨k0,3,N⟩ (I .u64 m)) k0 st {L with tm:=m}/\gO A B k0 w (w.setCell ⟨k0,3,N⟩ (I .u64 m)):=by
 have c:∀b,b≠k0->(w.setCell ⟨k0,3,N⟩ (I .u64 m)).heap[b]?=w.heap[b]?:=λb a=>bS _ _ _ _ a
 have f:∀j,j≠3->(w.setCell ⟨k0,3,N⟩ (I .u64 m)).cell? ⟨k0,j,N⟩=w.cell? ⟨k0,j,N⟩:=λj P=>cO _ _ _ _ (bO (by omega))
 have i:∀j,(w.setCell ⟨k0,3,N⟩ (I .u64 m)).frozen? ⟨k0,j,N⟩=w.frozen? ⟨k0,j,N⟩:=λj=>World.frozen?_setCell ..
 have l:∀b,A b->(w.setCell ⟨k0,3,N⟩ (I .u64 m)).heap[b]?=w.heap[b]?:=λb a=>c b (λe=>h.ls.avoid (e▸a))
 have s:=h.time;have⟨p,H,T⟩:=h.store.tree;have⟨v,S,u,Q,q,D,G⟩:=h.ls.opened;have⟨F,R,k⟩:=h.ls.told;have hlow:=h.ls.low;refine⟨⟨⟨h.store.avoid,⟨p,(f 0 (by omega)).trans H,am.keep (λb a _=>⟨a,l b a⟩) 41 _ _ T⟩,(f 1 (by omega)).trans h.store.count,(f 2 (by omega)).trans h.store.last,λj=>(i j).trans (h.store.frozen j)⟩,⟨⟨v,(f 4 (by omega)).trans S,u,Q,im q λg y=>c g (by have:=(q.lt g y).1;omega),D,λz V=>am.keep (λb a _=>⟨a,l b a⟩) 41 _ _ (G z V)⟩,(f 5 (by omega)).trans h.ls.begun,⟨F,(f 6 (by omega)).trans R,?_⟩,λj=>(i j).trans (h.ls.frozen j),h.ls.avoid,h.ls.low,λb a=>by simpa using h.ls.inn b a⟩,cS _ _ _ (by rw[s];rfl)⟩,⟨rfl,by simp,λb _ _ a=>c b a,λb a _=>l b a,λj P=>f j (by omega),i⟩⟩;rcases k with k|⟨o,t,d,x,r,n⟩
 .exact .inl k
 .exact .inr ⟨o,t,d,x,(c o (by have:=n.2.2;omega)).trans r,n⟩
def eR(L:Lg)(u:Int):Lg×Int:=if u<0\/1000<u then(L,11)else(mi {L with tm:=IntKind.u64.wrap (L.tm+u)} u,0)
theorem He(w:Wj)(h:br A B w k0 st L)(j:L.opened.length<=3)(u:Int)(i:∀x∈L.opened,0<=x.left/\x.left<=10):
  Calls Yq.prog 20 #[O (J ⟨k0,0,N⟩),I K u] w λe w'=>e=.returned (I K (eR L u).2)/\br A B w' k0 st (eR L u).1/\gO A B k0 w w'/\FrC k0 w w':=by
 have HD:Hid (br A B w k0 st L):=h;have a:gO A B k0 w w:=(aV.refl (A:=A) (B:=B) (k0:=k0) (w:=w)).weak;by_cases f:u<0\/1000<u
 .have e:eR L u=(L,11):=by rw[eR,if_pos f]
  rw[e];clear h;rcases f with l|p
  .go_enter (Yq.nq func20),ntmps20;go_wp2_with fail
   go_ret;exact⟨rfl,HD.out,a,FrC.refl⟩
  .have l:¬u<0:=by omega
   go_enter (Yq.nq func20),ntmps20;go_wp2_with fail
   go_ret;exact⟨rfl,HD.out,a,FrC.refl⟩
 .have e:eR L u=(mi {L with tm:=IntKind.u64.wrap (L.tm+u)} u,0):=by rw[eR,if_neg f]
  rw[e];have l:¬u<0:=by omega
  have p:¬1000<u:=by omega
  have n:=h.time;have HS:=ES k0 L.tm u w n (h.ls.frozen 3);have HP:Hid (∀m,Calls Yq.prog 50 #[O (J ⟨k0,4,N⟩),I K u] (w.setCell ⟨k0,3,N⟩ (I .u64 m)) λe w'=>e=.returned (.tuple #[])/\br A B w' k0 st (mi {L with tm:=m} u)/\gO A B k0 w w'/\FrC k0 w w'):=λm=>by
   have⟨k,o⟩:=HD.out.setTime m;refine(Hd _ k.ls j u (by omega) i).mono ?_;rintro e w' ⟨rfl,d,b,c⟩;exact⟨rfl,k.step b (λ_ h=>h) d rfl,o.trans b.weak,(FrC.set 3 _ (by omega)).trans c⟩
  clear h n;go_enter (Yq.nq func20),ntmps20;go_wp2_with (first
   |(go_at_call 49;refine HS.mono ?_;clear HS;rintro e w1 ⟨rfl,rfl⟩)
   |(go_at_call 50;refine(HP.out _).mono ?_;clear HP;rintro e w2 ⟨rfl,d,b,c⟩))
  go_ret;exact⟨rfl,d,b,c⟩
end
def fU(x:LsA):ItD:=⟨0,⟨#[]⟩,x.left⟩
theorem wj(v:Int)(w:Wj):(Instr.build 117 #[(2,I K v)]).run Yq.prog w=.ok (.agg #[I K 0,U ⟨#[]⟩,I K v]) w:=by kernel_rfl
section
variable {A:Nat->Prop} {B k0:Nat} {L:Lg}
theorem BX(w:Wj)(h:dE A B w k0 L)(hop:L.opened.length<=3):
  Calls Yq.prog 22 #[O (J ⟨k0,4,N⟩)] w λe w'=>∃sv,e=.returned sv/\w'.ownsRow w.heap.size 117 3 sv (L.opened.map fU).length (an (L.opened.map fU))/\Below w.heap.size w w':=by
 have⟨v4,c4,a,D,z,z3,z4⟩:=h.opened;obtain⟨r,t,rfl,-⟩:=az z;have hlz:L.opened.length=a.length:=by rw[D];simp
 have hlt:=h.lt;obtain⟨b,f⟩:∃b:Nat->List ItD,b=λi=>((a.map (·.1)).map fU).take i:=⟨_,rfl⟩
 have HI:Hid (b=λi=>((a.map (·.1)).map fU).take i):=f;have P:∀i,i<=a.length->(b i).length=i:=λi hi=>by rw[f];simp;omega
 have s:Hid ((L.opened.map fU)=b a.length):=by
  show L.opened.map fU=b a.length;rw[f,D];exact(tO (by simp)).symm
 have hzl:a.length<=3:=by omega
 rw[s.out];have HZ:Hid (w.ownsRow B 107 8 (M r a.length t) a.length (bf a)):=z;have⟨i0,R,y,F,G⟩:=info_parts Yq.infoItem;have hbi:=wj;clear h D z z3 z4 f;go_enter (Yq.nq func22),ntmps22;go_wp2_with fail
 go_loopw [3,5,11] (λs3 _ s11 wr=>∃i:Nat,i<=a.length/\s11=I K i/\wr.ownsRow w.heap.size 117 3 s3 i (an (b i))/\Below w.heap.size w wr) (λ_ _ s11 _=>a.length-(intOf s11).toNat)
 case atStart=>exact⟨0,Nat.zero_le _,rfl,by rw[HI.out];exact⟨rfl,.inl ⟨rfl,rfl⟩⟩,bR _ _⟩
 case round=>
  obtain⟨i,hi,rfl,c,m⟩:=hrel;obtain⟨so,sc,rfl,-⟩:=az c;by_cases o:i<a.length
  .obtain ⟨g,n,he⟩:∃g n,Value.slice r a.length t=M (J ⟨g,0,N⟩) a.length n:=by
    rcases HZ.out.2 with⟨h1,h2⟩|⟨g,n,cur,h1,-⟩
    .omega
    .exact ⟨g,n,h1⟩
   cases he;have⟨T,q1,q2,q3,q4,q5,q6,V⟩:=mg HZ.out i o;replace T:=ah m T;replace q1:=ah m q1;replace q2:=ah m q2;replace q3:=ah m q3;replace q4:=ah m q4;replace q5:=ah m q5;replace q6:=ah m q6;replace V:=ah m V;have HS:Hid (b (i+1)=b i++[⟨0,⟨#[]⟩,a[i].1.left⟩]):=by
    show b (i+1)=b i++[⟨0,⟨#[]⟩,a[i].1.left⟩];rw[HI.out];simp only;rw[tS (by simpa using o)];simp[fU]
   obtain⟨O1,x⟩:∃O1,O1=Obj.cells #[I K a[i].1.num,O a[i].2,C a[i].1.q.vs,U a[i].1.q.p,U a[i].1.q.d,U a[i].1.q.af,I K a[i].1.size,I K a[i].1.left] 107:=⟨_,rfl⟩;obtain⟨O2,v⟩:∃O2,O2=Obj.cells #[I K 0,U ⟨#[]⟩,I K a[i].1.left] 117:=⟨_,rfl⟩;have l:Hid (((wr.alloc O1).alloc O2).ownsRow w.heap.size 117 3 (M so i sc) i (an (b i))/\Below w.heap.size w wr/\∀k,(Value.slice so i sc).ownBlock=J k->w.heap.size<=k):=⟨(c.alloc _).alloc _,m,λk e=>(c.lt k e).1⟩;have HN:Hid (∀j u,[Value.int K 0,U ⟨#[]⟩,I K a[i].1.left][j]?=J u->((wr.alloc O1).alloc O2).cell? ((⟨wr.heap.size+1,0,N⟩:Wu).add j)=J u):=by
    rw[v];have:=lW (wr.alloc O1) (I K 0) (U ⟨#[]⟩) (I K a[i].1.left) 117
    rwa [World.size_alloc]at this
   have hbs:=m.size;rw[x,v]at l HN;clear c m;go_wp2_with (at_builtin;refine wpList_append_own _ rfl _ _ 44 rfl w.heap.size 117 i0 _ 3 32 (Yq.u underlying44) R y F G rfl (by decide) _ _ _ rfl l.out.1 ⟨wr.heap.size+1,0,N⟩ 1 1 [I K 0,U ⟨#[]⟩,I K a[i].1.left] ?qa rfl ?qb ?qc ?qd ?qe ?qf ?_)
   case qa=>rfl
   case qb=>exact HN.out
   case qc=>simp[Value.oneCell']
   case qd=>simp only[maxLen];omega
   case qe=>omega
   case qf=>simp;omega
   intro v' X H hg _;obtain⟨S,Q,rfl,-⟩:=az H;have HE:Hid (X.ownsRow w.heap.size 117 3 (M S (i+1) Q) (i+1) (an (b i)++[I K 0,U ⟨#[]⟩,I K a[i].1.left])/\Below w.heap.size w X):=
    ⟨H,((l.out.2.1.alloc l.out.2.1.size _).alloc (by have:=l.out.2.1.size;simp;omega) _).grown hg (by simp;omega) l.out.2.2⟩
   clear H hg;go_wp2_with fail
   refine⟨⟨i+1,by omega,by go_num,?_,HE.out.2⟩,by simp[intOf];omega⟩;rw[HS.out,mM];exact HE.out.1
  .have:i=a.length:=by omega
   subst this;go_wp2_with fail
   go_ret;refine⟨_,rfl,?_,m⟩;rw[P _ (lR _)];exact c
theorem BY(w:Wj)(h:dE A B w k0 L)(a:ByteArray)(d:dN a L.told=N):
  Calls Yq.prog 18 #[O (J ⟨k0,4,N⟩),U a] w λe w'=>e=.returned (.tuple #[.agg #[M N 0 0,U ⟨#[]⟩],I K 9])/\bE A B k0 w L [] (M N 0 0) w':=by
 have⟨mv,c6,c⟩:=h.told;have hlt:=h.lt;have b:=mc (c.left (au.refl.alloc (E #[M N 0 0,U ⟨#[]⟩] 69))) a;rw[d]at b;simp only[Option.getD_none,Option.isSome_none,plV]at b;have HL:Hid (dE A B w k0 L):=h;have hbp:=fm;clear h c;go_enter (Yq.nq func18),ntmps18;go_wp2_with fail
 refine bodyPost_ret (v:=.tuple #[.agg #[M N 0 0,U ⟨#[]⟩],I K 9]) (by simp[results,results18,go_sem]) rfl ⟨rfl,bE.same HL.out ?_⟩;exact(au.refl.alloc _).alloc _
theorem BZ(w:Wj)(h:dE A B w k0 L)(d:ByteArray)(n pg:Int)(hop:L.opened.length<=3)(r:dN d L.told=J (n,pg))(y:jZ n L.opened=N):
  Calls Yq.prog 18 #[O (J ⟨k0,4,N⟩),U d] w λe w'=>e=.returned (.tuple #[.agg #[M N 0 0,U ⟨#[]⟩],I K 10])/\bE A B k0 w L [] (M N 0 0) w':=by
 have⟨mv,c6,q⟩:=h.told;have⟨v4,c4,p,o,m,x,z⟩:=h.opened;obtain⟨k,l,rfl,-⟩:=az m;have hlz:L.opened.length=p.length:=by rw[o];simp
 have hlt:=h.lt;have hk1:k0<w.heap.size+1:=by omega
 have i:=mc (q.left (au.refl.alloc (E #[M N 0 0,U ⟨#[]⟩] 69))) d;rw[r]at i;simp only[Option.getD_some,Option.isSome_some,plV]at i;obtain⟨W,c⟩:∃W,W=(w.alloc (E #[M N 0 0,U ⟨#[]⟩] 69)).alloc (E #[I K n,I K pg] 111):=⟨_,rfl⟩;have f:au w W:=by rw[c];exact(au.refl.alloc _).alloc _
 have b:=xO B k l p (w.heap.size+1) n W (bW m λg _ u=>f.block g u) (by omega) (by
  rw[c];have:=cA (w:=w.alloc (E #[M N 0 0,U ⟨#[]⟩] 69)) #[I K n,I K pg] 111 (w.heap.size+1) 0 (by simp);rw[this];rfl)
 rw[<-o,y]at b;simp only[Option.map_none,Option.getD_none]at b;have HL:Hid (dE A B w k0 L/\au w W):=⟨h,f⟩;have HF:Hid (∀a,Below W.heap.size W a->a.cell? ⟨w.heap.size,0,N⟩=J (M N 0 0)/\a.cell? ⟨w.heap.size,1,N⟩=J (U ⟨#[]⟩)/\a.frozen? ⟨w.heap.size,0,N⟩=Z/\a.frozen? ⟨w.heap.size,1,N⟩=Z):=λa t=>by
  have e:a.heap[w.heap.size]?=J (E #[M N 0 0,U ⟨#[]⟩] 69):=by
   rw[t.block _ (by rw[c];simp;omega),c,bA _ _ _ (by simp)];exact aN _ _
  exact⟨by simp[World.cell?,e],by simp[World.cell?,e],by simp[World.frozen?,e],by simp[World.frozen?,e]⟩
 have s:Hid (W=(w.alloc (E #[M N 0 0,U ⟨#[]⟩] 69)).alloc (E #[I K n,I K pg] 111)):=c;have hbp:=fm;have hWs:W.heap.size=w.heap.size+2:=by rw[c];simp
 clear h q o m x z f;subst c;go_enter (Yq.nq func18),ntmps18;go_wp2_with (go_at_call 46;refine b.mono ?_;clear b;rintro e a ⟨rfl,j⟩;have⟨s0,s1,u0,u1⟩:=HF.out a j)
 refine bodyPost_ret (v:=.tuple #[.agg #[M N 0 0,U ⟨#[]⟩],I K 10]) (by simp[results,results18,go_sem,s0,s1]) rfl ⟨rfl,bE.same HL.out.1 ?_⟩;exact((HL.out.2.trans (.below j)).set (lR _) _ _).set (lR _) _ _
end
theorem dp.set{w:Wj}{b j:Nat}{x:Wx}(h:dp w b):dp (w.setCell ⟨b,j,N⟩ x) b:=by
 obtain⟨a,i,k⟩:=h;cases a with
 |cells f e z=>
  have⟨c,d⟩:=eS i;refine⟨E (f.setIfInBounds j x) e z,?_,rfl⟩;show(w.heap.modify b _)[b]?=_;rw[eG (by rw[Array.size_modify];exact c),Array.getElem_modify_self,d];rfl
 |_=>cases k
theorem dp.of_block{w w':Wj}{b:Nat}(h:dp w b)(e:w'.heap[b]?=w.heap[b]?):dp w' b:=by
 obtain⟨o,a,c⟩:=h;exact⟨o,e.trans a,c⟩
section
variable {A:Nat->Prop} {B k0:Nat} {L L2:Lg} {w X W7 w8:Wj} {sv:Wx} {pg:List ItD} {r0:Nat}
def jr(A:Nat->Prop)(sv:Wx):Nat->Prop:=λb=>A b\/sv.ownBlock=J b
theorem oM(h:dE A B X k0 L)(d:au X W7)(a:W7.ownsRow X.heap.size 117 3 sv pg.length (an pg)):dE (jr A sv) B W7 k0 L:=
 h.more d (λ_ h=>.inl h) (λb c=>c.imp id λe=>(a.lt b e).1) (λb c=>by
  rcases c with c|c
  .exact lL (h.inn b c) d.size
  .exact (a.lt b c).2)
theorem B3(t:FrC k0 w X)(F:dL k0 W7 w8)(P:∀b,A b->b<w.heap.size)(p:aV A B k0 w X)(r:au X W7)(c:W7.ownsRow X.heap.size 117 3 sv pg.length (an pg))(G:dE (jr A sv) B w8 k0 L2)(u:aV (jr A sv) B k0 W7 w8)(D:w8.cell? ⟨k0,4,N⟩=X.cell? ⟨k0,4,N⟩)(hr1:w.heap.size<=r0)(hr2:r0<X.heap.size)(hB:B<=w.heap.size)(H:∀v g,X.cell? ⟨k0,4,N⟩=J v->v.ownBlock=J g->g≠r0)(L:dp w8 r0)(o s:Wx):
  bE A B k0 w L2 pg sv ((w8.setCell ⟨r0,0,N⟩ o).setCell ⟨r0,1,N⟩ s):=by
 have hlow:=G.low;have d:¬jr A sv r0:=λm=>by
  rcases m with m|m
  .have:=P _ m;omega
  .have:=(c.lt _ m).1;omega
 have i:r0≠k0:=by omega
 have R:=G.other (j:=0) (x:=o) i d L (λv g e=>H v g (D.symm.trans e));have z:(w8.setCell ⟨r0,0,N⟩ o).cell? ⟨k0,4,N⟩=w8.cell? ⟨k0,4,N⟩:=cB (a:=⟨k0,4,N⟩) (bS _ _ _ _ (show k0≠r0 by omega));have y:=R.other (j:=1) (x:=s) i d L.set (λv g e=>H v g (D.symm.trans (z.symm.trans e)));have f:k0<X.heap.size:=by have:=p.size;omega
 have k:aV (jr A sv) B k0 W7 ((w8.setCell ⟨r0,0,N⟩ o).setCell ⟨r0,1,N⟩ s):=(u.trans (aV.other i d (by omega))).trans (aV.other i d (by omega));refine⟨jr A sv,λ_ h=>.inl h,λb l=>?_,y,(p.trans (aV.left f r)).trans (k.mono λ_ h=>.inl h),?_,?_⟩
 .rcases l with l|l
  .exact .inl l
  .have:=(c.lt b l).1;have:=p.size;exact .inr (by omega)
 .exact mf (im c λg n=>k.tree g (.inr n) (c.lt g n).2) (λg n=>.inr n)
 .have Q:W7.cell? ⟨k0,4,N⟩=X.cell? ⟨k0,4,N⟩:=cB (a:=⟨k0,4,N⟩) (r.block k0 f);have q:=(t.trans (FrC.left f r)).trans (FrC.keepC F (D.trans Q.symm));exact(q.fresh (by omega) i).fresh (by omega) i
theorem EU(f:FrC k0 w X)(h:dE A B X k0 L)(m:∀b,A b->b<w.heap.size)(l:aV A B k0 w X)(e:au X W7)(c:W7.ownsRow X.heap.size 117 3 sv pg.length (an pg))(i:w.heap.size<=r0)(d:r0<X.heap.size)(p:B<=w.heap.size)(n:∀v g,X.cell? ⟨k0,4,N⟩=J v->v.ownBlock=J g->g≠r0)(q:dp X r0)(j k:Wx):
  bE A B k0 w L pg sv ((W7.setCell ⟨r0,0,N⟩ j).setCell ⟨r0,1,N⟩ k):=by
 have o:=oM h e c;exact B3 f (dL.refl _ _) m l e c o aV.refl (cB (a:=⟨k0,4,N⟩) (e.block k0 h.lt)) i d p n (q.of_block (e.block r0 d)) j k
theorem EV(q:FrC k0 w X)(h:dE A B X k0 L)(y:∀b,A b->b<w.heap.size)(u:aV A B k0 w X)(f:au X W7)(c:W7.ownsRow X.heap.size 117 3 sv pg.length (an pg))(r:w.heap.size<=r0)(i:r0<X.heap.size)(H:B<=w.heap.size)(F:∀v g,X.cell? ⟨k0,4,N⟩=J v->v.ownBlock=J g->g≠r0)(P:dp X r0)(t:ByteArray)(k:Int×Int):
  Calls Yq.prog 45 #[O (J ⟨k0,4,N⟩),U t,plV k] W7 λe w8=>e=.returned (.tuple #[])/\dL k0 W7 w8/\∀s m,bE A B k0 w {L with told:=j7 t k L.told} pg sv ((w8.setCell ⟨r0,0,N⟩ s).setCell ⟨r0,1,N⟩ m):=by
 have G:=oM h f c;have hlow:=h.low;have:=u.size;have:=f.size;refine(BU W7 G (by omega) t k).mono ?_;rintro e w8 ⟨rfl,z,p,d,j⟩;refine⟨rfl,d,λs m=>?_⟩;have l:=P.of_block (f.block r0 i);have n:dp w8 r0:=by
  obtain⟨o,D,x⟩:=l;exact⟨o,d.2.2 r0 o D x (by omega),x⟩
 exact B3 q d y u f c z p ((j 4 (by omega)).trans (cB (a:=⟨k0,4,N⟩) (f.block k0 h.lt))) r i H F n s m
end
theorem cE{P:Wv}{k:Array Oper}{o:Oper}{a:Act}{w:Wj}{b:Act->Wj->Prop}{c:Prop}
  (t:o.guard=N) (f:FuncId) (l:Array Operand) (n:Array Ww) (m:o.op=Op.call {callee:=Callee.value (.func f),args:=l,argTypes:=n})
  (h:Array Wx) (u:l.map a.eval=h) (i:(callFunc f h).run P w=.ok (.enter f h) w)
  (R:Wx->Wj->Prop) (S:List PanicEntry->Wj->Prop) (q:Calls P f h w λe w'=>(∃v,e=.returned v/\R v w')\/∃j,e=.panicked j/\S j w') (y:∀j w',S j w'->Q (.panic j) a w') (z:∀v w',R v w'->b (a.put o.dst v) w'):
  if Region.wanted o (yielded k a.tmps)=Y then Oper.wp P o a w b Q else c:=by
 have p:Region.wanted o (yielded k a.tmps)=true:=by simp[Region.wanted,t]
 rw[if_pos p];subst u;unfold Oper.wp;have e:(execOp a.eval o).run P w=.ok (.enter f (l.map a.eval)) w:=by
  have x:execOp a.eval o=(do let d <-resolve a.eval {callee:=Callee.value (.func f),args:=l,argTypes:=n} o.type;invoke d.target d.args):=by simp only[execOp,m]
  rw[x];simpa[resolve,Deferred.ofValue,Act.eval,invoke]using i
 rw[e,Oper.upon_enter];refine q.mono ?_;rintro e w' (⟨v,rfl,r⟩|⟨j,rfl,s⟩)
 .exact z v w' r
 .exact y j w' s
noncomputable def FO:Code:=dh (dh (dh (dh (dh (dh (dh (bV Tryz.f18)))))))
def tX(k0 r0 a bx:Nat)(u:Nat->Wx):Array Wx:=
 #[O (J ⟨k0,4,N⟩),u 1,u 2,u 3,O (J ⟨r0,0,N⟩),u 5,O (J ⟨a,0,N⟩),u 7,u 8,O (J ⟨bx,0,N⟩),u 10,u 11,u 12,u 13,u 14,u 15,u 16,u 17,u 18,u 19,u 20,u 21,u 22,u 23,u 24,u 25,u 26,u 27,u 28,u 29,u 30,u 31,u 32,u 33,u 34,u 35,u 36,u 37,u 38,u 39,u 40,u 41,u 42,u 43,u 44,u 45,u 46,u 47,u 48,u 49,u 50,u 51,u 52,u 53,u 54,u 55,u 56,u 57,u 58,u 59,u 60,u 61]
section
variable {A:Nat->Prop} {B k0:Nat} {L:Lg}
theorem B4(Qok:Qy->Prop){w X W7:Wj}{r0 i q:Nat}{u:Nat->Wx}{r:Option Wu}{t D:Nat}{d:ByteArray}{n pg:Int}{f:List ItD}(m:FrC k0 w X)(h:dE A B X k0 L)(hw:∀b,A b->b<w.heap.size)(G:aV A B k0 w X)(o:au X W7)(c:W7.ownsRow X.heap.size 117 3 (M r t D) f.length (an f))(z:w.heap.size<=r0)(k:r0<X.heap.size)(hB:B<=w.heap.size)(hv:∀v g,X.cell? ⟨k0,4,N⟩=J v->v.ownBlock=J g->g≠r0)
  (V:X.heap[r0]?=J (E #[M N 0 0,U ⟨#[]⟩] 69)) (R:X.heap[i]?=J (E #[I K n,I K pg] 111)) (c0:W7.cell? ⟨q,0,N⟩=J (M r t D)) (c1:W7.cell? ⟨q,1,N⟩=J (U d)) (hbx:X.heap.size<=q) (_hbt:w.heap.size<=i) (hpg:0<=pg/\pg<2199023255552):
  FO.wp Yq.prog (bodyPost Yq.prog Tryz.f18 λe w'=>(∃sv,e=.returned (.tuple #[.agg #[sv,U d],I K 0])/\bE A B k0 w ⟨L.opened,L.begun,if d=⟨#[]⟩then L.told else j7 d (n,pg+1) L.told,L.tm⟩ f sv w')\/Stop Qok e w') ⟨tX k0 r0 i q u,[]⟩ W7:=by
 have hlow:=h.low;have hlt:=h.lt;have hsX:=G.size;have hs7:=o.size;have H:k0≠r0:=by omega
 have j:dp X r0:=⟨_,V,rfl⟩;have p:W7.heap[r0]?=J (E #[M N 0 0,U ⟨#[]⟩] 69):=(o.block r0 k).trans V;have s:i<X.heap.size:=(eS R).1;have e1:W7.heap[i]?=J (E #[I K n,I K pg] 111):=(o.block i s).trans R;have s0:W7.cell? ⟨r0,0,N⟩=J (M N 0 0):=by simp[World.cell?,p]
 have s1:W7.cell? ⟨r0,1,N⟩=J (U ⟨#[]⟩):=by simp[World.cell?,p]
 have y0:W7.frozen? ⟨r0,0,N⟩=false:=by simp[World.frozen?,p]
 have S:W7.frozen? ⟨r0,1,N⟩=false:=by simp[World.frozen?,p]
 have p0:W7.cell? ⟨i,0,N⟩=J (I K n):=by simp[World.cell?,e1]
 have p1:W7.cell? ⟨i,1,N⟩=J (I K pg):=by simp[World.cell?,e1]
 have HL:=EU m h hw G o c z k hB hv j;have HK:=EV m h hw G o c z k hB hv j d (n,pg+1);have hwr:wrap64 (pg+1)=pg+1:=by unfold wrap64;omega
 have hbq:=oL;have aa:Hid (∀y0 S,bE A B k0 w L f (M r t D) ((W7.setCell ⟨r0,0,N⟩ y0).setCell ⟨r0,1,N⟩ S)):=HL;unfold plV at HK;generalize hQ:bodyPost Yq.prog Tryz.f18 _=Q;have HQ:Hid (bodyPost Yq.prog Tryz.f18 _=Q):=hQ;clear hQ HL h hw G o c m hv V R p e1 j;unfold tX;dsimp only[FO,bV,Tryz.f18,iz,dh,Option.getD];by_cases l:d=⟨#[]⟩
 .subst l;go_wp2_with fail
  rw[<-HQ.out];refine bodyPost_ret (v:=.tuple #[.agg #[M r t D,U ⟨#[]⟩],I K 0]) (by simp[results,results18,go_sem,s0,s1]) rfl (.inl ⟨_,rfl,?_⟩);simp only[if_true];exact aa.out _ _
 .have F:¬d.toList=[]:=λhx=>by
   have:(d==(⟨#[]⟩:ByteArray))=true:=by rw[beq_toListBytes];simpa using hx
   exact l ((MapKept.bytes_beq _ _).1 this)
  have hne:(d.toList == [])=false:=by simpa using F
  have y:q≠k0:=by omega
  go_wp2_with (go_at_call 45;refine HK.mono ?_;clear HK;rintro e w8 ⟨rfl,a,x⟩;have c0':=a.cell c0 y;have c1':=a.cell c1 y;have T:=a.cell s0 H.symm;have P:=a.cell s1 H.symm;have y0':=(a.frozen s0 H.symm).trans y0;have y1':=(a.frozen s1 H.symm).trans S)
  rw[<-HQ.out];refine bodyPost_ret (v:=.tuple #[.agg #[M r t D,U d],I K 0]) (by simp[results,results18,go_sem,T,P]) rfl (.inl ⟨_,rfl,?_⟩);rw[if_neg l];exact x _ _
theorem B5(Qok:Qy->Prop)(hQ:∀q,Qok q->ig q/\ii q)(w:Wj)(h:dE A B w k0 L)(hB:B<=w.heap.size)(a1:ByteArray)(n pg:Int)(i:Nat)(x:LsA)(hop:L.opened.length<=3)(hf:dN a1 L.told=J (n,pg))(hn:jZ n L.opened=J i)(hx:L.opened[i]?=J x)(hq:Qok x.q)(ad:fH (cz x.f x.q.p.data.toList)<=1000)(hp:x.q.p.size<=maxLen)(bw:0<=pg/\pg<2199023255552)(G:Wj->Prop)(a7:∀w',G w'->dn w')(hG:∀w',aV A B k0 w w'->G w')(hT:kQ G n (pg+1)):
  Calls Yq.prog 18 #[O (J ⟨k0,4,N⟩),U a1] w λe w'=>
   (∃sv,e=.returned (.tuple #[.agg #[sv,U (x.tok pg)],I K 0])/\bE A B k0 w ⟨L.opened.set i (x.again 10),L.begun,if x.tok pg=⟨#[]⟩then L.told else j7 (x.tok pg) (n,pg+1) L.told,L.tm⟩ (x.page pg) sv w')\/Stop Qok e w':=by
 have⟨mv,c6,hm⟩:=h.told;have⟨v4,c4,c,z1,z2,z3,z4⟩:=h.opened;have bo:L.opened.length=c.length:=by rw[z1];simp
 have av:x.num=n:=by
  obtain⟨h1,h2,-⟩:=List.findIdx?_eq_some_iff_getElem.1 hn;rw[eL h1]at hx;cases hx;simpa using h2
 have hi:i<c.length:=by rw[<-bo];exact(sL hx).1
 have a4:c[i].1=x:=by
  rw[z1,List.getElem?_map,eL hi]at hx;simpa using hx
 obtain⟨g,P,bt⟩:∃g P,v4=M (J ⟨g,0,N⟩) c.length P:=by
  rcases z2.2 with⟨h1,h2⟩|⟨g,P,bp,h1,-⟩
  .omega
  .exact ⟨g,P,h1⟩
 subst bt;have b5:¬A g:=z3 g rfl;have hgw:=(z2.lt g rfl);have aa:=h.lt;have hlow:=h.low;have hk1:k0<w.heap.size+1:=by omega
 have a5:=mc (hm.left (au.refl.alloc (E #[M N 0 0,U ⟨#[]⟩] 69))) a1;rw[hf]at a5;simp only[Option.getD_some,Option.isSome_some,plV]at a5;obtain⟨W,hW⟩:∃W,W=(w.alloc (E #[M N 0 0,U ⟨#[]⟩] 69)).alloc (E #[I K n,I K pg] 111):=⟨_,rfl⟩;have a2:au w W:=by rw[hW];exact(au.refl.alloc _).alloc _
 have hWs:W.heap.size=w.heap.size+2:=by rw[hW];simp
 have bb:W.heap[w.heap.size]?=J (E #[M N 0 0,U ⟨#[]⟩] 69):=by
  rw[hW,bA _ _ _ (by simp)];exact aN _ _
 have a0:W.heap[w.heap.size+1]?=J (E #[I K n,I K pg] 111):=by
  rw[hW];have:=aN (w.alloc (E #[M N 0 0,U ⟨#[]⟩] 69)) (E #[I K n,I K pg] 111)
  rwa [World.size_alloc]at this
 have ac:=xO B (J ⟨g,0,N⟩) P c (w.heap.size+1) n W (bW z2 λg _ hg=>a2.block g hg) (by omega) (by simp[World.cell?,a0]);rw[<-z1,hn]at ac;simp only[Option.map_some,Option.getD_some]at ac;obtain⟨tk,al⟩:∃tk,tk=x.tok pg:=⟨_,rfl⟩;obtain⟨D,R⟩:∃D,D=x.page pg:=⟨_,rfl⟩;have HA:Hid (∀o,Below W.heap.size W o->(o.cell? ⟨k0,4,N⟩=J (M (J ⟨g,0,N⟩) c.length P)/\o.frozen? ⟨g,i*8+7,N⟩=Z/\o.cell? ⟨g,i*8+7,N⟩=J (I K x.left)) /\
   (∀X,X=o.setCell ⟨g,i*8+7,N⟩ (I K 10)->dE A B X k0 {L with opened:=L.opened.set i (x.again 10)}/\aV A B k0 w X/\am A 41 X c[i].2 x.f/\(X.cell? ⟨k0,4,N⟩=J (M (J ⟨g,0,N⟩) c.length P)/\k0<X.heap.size/\g<X.heap.size/\w.heap.size+2<=X.heap.size) /\
    (X.cell? ⟨g,i*8,N⟩=J (I K n)/\X.cell? ⟨g,i*8+1,N⟩=J (O c[i].2)/\X.cell? ⟨g,i*8+2,N⟩=J (C x.q.vs)/\X.cell? ⟨g,i*8+3,N⟩=J (U x.q.p)/\X.cell? ⟨g,i*8+4,N⟩=J (U x.q.d)/\X.cell? ⟨g,i*8+5,N⟩=J (U x.q.af)/\X.cell? ⟨g,i*8+6,N⟩=J (I K x.size)/\X.cell? ⟨g,i*8+7,N⟩=J (I K 10)) /\
    X.heap[w.heap.size]?=J (E #[M N 0 0,U ⟨#[]⟩] 69)/\X.heap[w.heap.size+1]?=J (E #[I K n,I K pg] 111)/\FrC k0 w X)):=λo s=>by
  have F:au w o:=a2.trans (.below s);have ap:o.ownsRow B 107 8 (M (J ⟨g,0,N⟩) c.length P) c.length (bf c):=bW z2 λg _ hg=>F.block g hg
  have q7:=(mg ap i hi).2.2.2.2.2.2.2;rw[a4]at q7;have b8:o.frozen? ⟨g,i*8+7,N⟩=false:=by
   rcases ap.2 with⟨h1,-⟩|⟨g',cap',bp,h1,-,hr,-⟩
   .cases h1
   .cases h1;simp[World.frozen?,hr]
  refine⟨⟨F.cell c4,b8,q7⟩,λX Q=>?_⟩;obtain⟨s1,s2,s3,s4⟩:=(h.left F).setLeft (F.cell c4) z1 ap b5 (λz hz=>am.keep (λb hb b6=>⟨hb,F.block b b6⟩) 41 _ _ (z4 z hz)) i hi 10;rw[a4]at s1 s3 s4;rw[<-Q]at s1 s2 s3 s4;have bi:(c.set i (x.again 10,c[i].2))[i]?=J (x.again 10,c[i].2):=by simp[hi]
  have bn:i<(c.set i (x.again 10,c[i].2)).length:=by simpa using hi
  have bk:X.ownsRow B 107 8 (M (J ⟨g,0,N⟩) (c.set i (x.again 10,c[i].2)).length P) (c.set i (x.again 10,c[i].2)).length (bf (c.set i (x.again 10,c[i].2))):=by simpa using s3
  have hc:=mg bk i bn;have e1:(c.set i (x.again 10,c[i].2))[i]=(x.again 10,c[i].2):=by simp
  rw[e1]at hc;have hsz:=F.size;have hXs:X.heap.size=o.heap.size:=by rw[Q];simp
  have ar:∀b,b≠g->X.heap[b]?=o.heap[b]?:=λb hb=>by rw[Q];exact bS _ _ _ _ hb
  have hW1:=s.size;refine⟨s1,(aV.left aa F).trans s2,s4 (x.again 10,c[i].2) (List.mem_iff_getElem?.2 ⟨i,bi⟩),⟨(cB (a:=⟨k0,4,N⟩) (ar k0 (by omega))).trans (F.cell c4),by omega,by omega,by omega⟩,⟨by rw[<-av];exact hc.1,hc.2.1,hc.2.2.1,hc.2.2.2.1,hc.2.2.2.2.1,hc.2.2.2.2.2.1,hc.2.2.2.2.2.2.1,hc.2.2.2.2.2.2.2⟩,?_,?_,?_⟩
  .rw [ar _ (by omega),s.block _ (by omega)];exact bb
  .rw [ar _ (by omega),s.block _ (by omega)];exact a0
  .rw [Q];exact(FrC.left aa F).trans (FrC.open ⟨_,F.cell c4,rfl⟩ (by omega))
 have HP:Hid (∀o X,Below W.heap.size W o->X=o.setCell ⟨g,i*8+7,N⟩ (I K 10)->∀V,au X V->Calls Yq.prog 44 #[.agg #[I K n,O c[i].2,C x.q.vs,U x.q.p,U x.q.d,U x.q.af,I K x.size,I K 10],I K pg] V λe w'=>(∃v,e=.returned v/\(∃t y H,v=.agg #[M t y H,U tk]/\w'.ownsRow V.heap.size 117 3 (M t y H) D.length (an D)/\au V w'))\/∃ch,e=.panicked ch/\Stop Qok (.panicked ch) w'):=λo X s Q V hV=>by
  obtain⟨-,T⟩:=HA.out o s;obtain⟨s1,s2,s3,s4,-⟩:=T X Q;have bd:Iw Qok ((x.again 10).lst c[i].2) x.f V:=⟨.of (am.keep (A':=λ_=>True) (λb _ aa=>⟨trivial,hV.block b aa⟩) 41 _ _ s3),hq,ad,hp,a7 _ (hG _ (s2.trans (aV.left s4.2.1 hV)))⟩;have b7:IntKind.i64.wrap (pg+1)=pg+1:=by rw[lX];unfold wrap64;omega
  have a6:=vU Qok hQ ((x.again 10).lst c[i].2) pg x.f V bd G (λw' hl=>hG w' ((s2.trans (aV.left s4.2.1 hV)).trans (aV.left (lL s4.2.1 hV.size) hl))) (λ_=>by
   rw[b7];show kQ G x.num (pg+1);rw[av];exact hT)
  rw[show lV ((x.again 10).lst c[i].2)=.agg #[I K n,O c[i].2,C x.q.vs,U x.q.p,U x.q.d,U x.q.af,I K x.size,I K 10]by rw[<-av];rfl]at a6;refine a6.mono ?_;rintro e w' (⟨sv,rfl,h3,h4⟩|hs)
  .left
   rw[io (l:=(x.again 10).lst c[i].2) (l':=x.lst N) rfl]at h3;obtain⟨t,y,rfl,-⟩:=az h3;rw[al,R];exact⟨_,rfl,t,_,y,rfl,h3,h4⟩
  .obtain ⟨a,b,r,rfl,b3⟩:=hs;exact .inr ⟨_,rfl,a,b,r,rfl,b3⟩
 have a9:Hid (∀ (S:Array Wx) (wx:Wj),(callFunc 44 S).run Yq.prog wx=.ok (.enter 44 S) wx):=λS wx=>by go_simp
 have HW:Hid (∀b,A b->b<w.heap.size):=h.inn;have hiI:¬((i:Int)<0):=by omega
 have hbp:=fm;rw[<-al,<-R];clear al R;clear h hm z1 z2 z3 z4 a2 bb a0 hq ad hp hG a7 hT hQ hx hn hf;subst hW;go_enter (Yq.nq func18),ntmps18
 go_upto_region 8 with(go_at_call 46;refine ac.mono ?_;clear ac;rintro e o ⟨rfl,s⟩;obtain⟨⟨m4,f7,q7⟩,-⟩:=HA.out o s)
 obtain⟨X,Q⟩:∃X,X=o.setCell ⟨g,i*8+7,N⟩ (I K 10):=⟨_,rfl⟩;rw[<-Q];obtain⟨-,T⟩:=HA.out o s;have⟨s1,s2,s3,⟨x4,xk,xg,xs⟩,⟨q0,q1,q2,q3,q4,q5,q6,q8⟩,b0,b1,be⟩:=T X Q;have p0:X.cell? ⟨w.heap.size+1,0,N⟩=J (I K n):=by simp[World.cell?,b1]
 have p1:X.cell? ⟨w.heap.size+1,1,N⟩=J (I K pg):=by simp[World.cell?,b1]
 have xw:w.heap.size+1<X.heap.size:=by omega
 have HS:Hid (dE A B X k0 {L with opened:=L.opened.set i (x.again 10)}/\aV A B k0 w X/\X.heap[w.heap.size]?=J (E #[M N 0 0,U ⟨#[]⟩] 69)/\X.heap[w.heap.size+1]?=J (E #[I K n,I K pg] 111)/\X=o.setCell ⟨g,i*8+7,N⟩ (I K 10)):=⟨s1,s2,b0,b1,Q⟩;have bs:Hid (FrC k0 w X):=be;have HV:Hid (∀k,au (X.alloc (E #[M N 0 0,U ⟨#[]⟩] 69)).drew k->k.cell? ⟨X.heap.size,0,N⟩=J (M N 0 0)/\k.cell? ⟨X.heap.size,1,N⟩=J (U ⟨#[]⟩)/\k.frozen? ⟨X.heap.size,0,N⟩=Z/\k.frozen? ⟨X.heap.size,1,N⟩=Z):=λk hl=>by
  have e:k.heap[X.heap.size]?=J (E #[M N 0 0,U ⟨#[]⟩] 69):=(hl.block _ (by simp)).trans (aN X _);exact⟨by simp[World.cell?,e],by simp[World.cell?,e],by simp[World.frozen?,e],by simp[World.frozen?,e]⟩
 clear T s1 s2 s3 b0 b1 Q be;have bl:Hid (∀v g',X.cell? ⟨k0,4,N⟩=J v->v.ownBlock=J g'->g'≠w.heap.size):=λv g' hv b2=>by
  rw[x4]at hv;cases hv;cases b2;show g≠w.heap.size;omega
 rename_i K1 a8;have a3:Hid (∀ (a:Act) (W7:Wj) (bx:Nat) (t:Option Wu) (y H:Nat),a=⟨tX k0 w.heap.size (w.heap.size+1) bx (λi=>a.tmps.getD i Wo),[]⟩->au X W7->W7.ownsRow X.heap.size 117 3 (M t y H) D.length (an D)->W7.cell? ⟨bx,0,N⟩=J (M t y H)->W7.cell? ⟨bx,1,N⟩=J (U tk)->X.heap.size<=bx->K1 a W7):=λa W7 bx t y H ha hl j c0 c1 b4=>by
  refine a8 a W7 ?_;rw[ha];have:=B4 (L:={L with opened:=L.opened.set i (x.again 10)}) Qok (u:=λi=>a.tmps.getD i Wo) bs.out HS.out.1 HW.out HS.out.2.1 hl j (lR _) (by omega) hB bl.out HS.out.2.2.1 HS.out.2.2.2.1 c0 c1 b4 (by omega) bw;exact this
 have bv:Hid (∀k t y H,au X.drew k->k.ownsRow X.drew.heap.size 117 3 (M t y H) D.length (an D)->∀a,a=⟨tX k0 w.heap.size (w.heap.size+1) k.heap.size (λi=>a.tmps.getD i Wo),[]⟩->K1 a (k.alloc (E #[M t y H,U tk] 69))):=λk t y H m j a ha=>by
  have ab:au X k:=(au.refl.drew).trans m;refine a3.out a _ k.heap.size t y H ha (ab.alloc _) (bW j λg _ hg=>bA _ _ _ hg) ?_ ?_ ab.size
  .rw [cA (w:=k) _ _ k.heap.size 0 rfl];rfl
  .rw [cA (w:=k) _ _ k.heap.size 1 rfl];rfl
 have bq:Hid (∀k t y H,au (X.alloc (E #[M N 0 0,U ⟨#[]⟩] 69)).drew k->k.ownsRow (X.alloc (E #[M N 0 0,U ⟨#[]⟩] 69)).drew.heap.size 117 3 (M t y H) D.length (an D)->∀a,a=⟨tX k0 w.heap.size (w.heap.size+1) X.heap.size (λi=>a.tmps.getD i Wo),[]⟩->K1 a ((k.setCell ⟨X.heap.size,0,N⟩ (M t y H)).setCell ⟨X.heap.size,1,N⟩ (U tk))):=λk t y H m j a ha=>by
  have ab:au X k:=((au.refl.alloc _).drew).trans m;have⟨v0,v1,o0,o1⟩:=HV.out k m;have hbs:(X.alloc (E #[M N 0 0,U ⟨#[]⟩] 69)).drew.heap.size=X.heap.size+1:=by simp
  refine a3.out a _ X.heap.size t y H ha ((ab.set (lR _) _ _).set (lR _) _ _) (gG (bW j λg h1 hg=>?_) (by omega)) ?_ ?_ (lR _)
  .rw [bS _ _ _ _ (show g≠X.heap.size by omega),bS _ _ _ _ (show g≠X.heap.size by omega)]
  .rw [cO _ _ _ _ (bO (by omega))];exact cS _ _ _ (by rw[v0];rfl)
  .exact cS _ _ _ (by rw[cO _ _ _ _ (bO (by omega)),v1];rfl)
 clear a8
 go_region_law (first
  |(refine cE rfl 44 #[.tmp 44,.tmp 46] #[107,3] rfl #[.agg #[I K n,O c[i].2,C x.q.vs,U x.q.p,U x.q.d,U x.q.af,I K x.size,I K 10],I K pg] (by simp[Act.eval]) (a9.out _ _) _ (λch w'=>Stop Qok (.panicked ch) w') (HP.out o X s HS.out.2.2.2.2 X.drew au.refl.drew) (λch w' hs=>⟨rfl,Or.inr hs⟩) ?_;rintro v k ⟨t,y,H,rfl,j,m⟩;have HE:Hid (_/\_):=And.intro j m;clear j m)
  |(refine cE rfl 44 #[.tmp 44,.tmp 46] #[107,3] rfl #[.agg #[I K n,O c[i].2,C x.q.vs,U x.q.p,U x.q.d,U x.q.af,I K x.size,I K 10],I K pg] (by simp[Act.eval]) (a9.out _ _) _ (λch w'=>Stop Qok (.panicked ch) w') (HP.out o X s HS.out.2.2.2.2 (X.alloc (E #[M N 0 0,U ⟨#[]⟩] 69)).drew (au.refl.alloc _).drew) (λch w' hs=>⟨rfl,Or.inr hs⟩) ?_;rintro v k ⟨t,y,H,rfl,j,m⟩;have⟨v0,v1,o0,o1⟩:=HV.out k m;have HE:Hid (_/\_):=And.intro j m;clear j m))
 all_goals first
  |exact bv.out k t y H HE.out.2 HE.out.1 _ rfl
  |exact bq.out k t y H HE.out.2 HE.out.1 _ rfl
end
theorem Hf{A:Nat->Prop}{B k0:Nat}{L:Lg}(Qok:Qy->Prop)(t:∀q,Qok q->ig q/\ii q)(w:Wj)(h:dE A B w k0 L)(z:B<=w.heap.size)(a:ByteArray)(j:L.opened.length<=3)(d:∀x∈L.opened,Qok x.q/\fH (cz x.f x.q.p.data.toList)<=1000/\x.q.p.size<=maxLen)(k:∀n pg,dN a L.told=J (n,pg)->0<=pg/\pg<2199023255552)(G:Wj->Prop)(l:∀w',G w'->dn w')(u:∀w',aV A B k0 w w'->G w')(v:∀n pg,dN a L.told=J (n,pg)->(jZ n L.opened).isSome=Y->kQ G n (pg+1)):
  Calls Yq.prog 18 #[O (J ⟨k0,4,N⟩),U a] w λe w'=>
   (∃sv,e=.returned (.tuple #[.agg #[sv,U (dO L a).2.2.1],I K (dO L a).2.2.2])/\bE A B k0 w (dO L a).1 (dO L a).2.1 sv w')\/Stop Qok e w':=by
 cases b:dN a L.told with
 |none=>
  have e:dO L a=(L,[],⟨#[]⟩,9):=by simp[dO,b]
  rw[e];exact(BY w h a b).mono λe w' h=>.inl ⟨_,h.1,h.2⟩
 |some x=>
  obtain⟨n,pg⟩:=x;cases c:jZ n L.opened with
  |none=>
   have e:dO L a=(L,[],⟨#[]⟩,10):=by simp[dO,b,c]
   rw[e];exact(BZ w h a n pg j b c).mono λe w' h=>.inl ⟨_,h.1,h.2⟩
  |some i=>
   have m:i<L.opened.length:=(List.findIdx?_eq_some_iff_getElem.1 c).1;have o:L.opened[i]?=J L.opened[i]:=eL m;have e:dO L a=(⟨L.opened.set i (L.opened[i].again 10),L.begun,if L.opened[i].tok pg=⟨#[]⟩then L.told else j7 (L.opened[i].tok pg) (n,pg+1) L.told,L.tm⟩,L.opened[i].page pg,L.opened[i].tok pg,0):=by simp[dO,b,c,o]
   rw[e];have⟨y,r,s⟩:=d L.opened[i] (List.getElem_mem m);exact B5 Qok t w h z a n pg i L.opened[i] j b c o y r s (k n pg b) G l u (v n pg b (by simp[c]))
section
variable {A:Nat->Prop} {B k0:Nat} {L:Lg}
theorem oN(Qok:Qy->Prop)(hQ:∀q,Qok q->ig q/\ii q)(w:Wj)(h:dE A B w k0 L)(_hB:B<=w.heap.size)(i:Option Wu)(f:List UInt8->List Ver)(q:Qy)(c:Int)(hN:am A 41 w i f)(hq:Qok q)(H:fH (cz f q.p.data.toList)<=1000)(hp:q.p.size<=maxLen)(bk:0<=L.begun/\L.begun<2199023255552)(bn:L.opened.length<=3)(G:Wj->Prop)(ad:∀w',G w'->dn w')(hG:∀w',au w w'->G w')(hT:kQ G (L.begun+1) 2)(bd:(c<1\/20<c)\/(ip L f q c).tok 1=⟨#[]⟩\/3<=L.opened.length):
  Calls Yq.prog 15 #[O (J ⟨k0,4,N⟩),sV i,qV q.vs q.p q.d q.af,I K c] w λe w'=>
   (∃sv,e=.returned (.tuple #[.agg #[sv,U (eQ L f q c).2.2.1],I K (eQ L f q c).2.2.2])/\bE A B k0 w (eQ L f q c).1 (eQ L f q c).2.1 sv w')\/Stop Qok e w':=by
 have c5:=h.begun;have⟨v4,c4,Q,z1,z2,z3,z4⟩:=h.opened;obtain⟨ap,a8,rfl,-⟩:=az z2;have hlz:L.opened.length=Q.length:=by rw[z1];simp
 have al:=h.lt;have HL:Hid (dE A B w k0 L):=h;obtain⟨n,p,d,o⟩:=q;unfold sV qV;by_cases T:c<1\/20<c
 .have hR:eQ L f ⟨n,p,d,o⟩ c=(L,[],⟨#[]⟩,7):=by rw[eQ,if_pos T]
  rw[hR];have bl:=fm;clear hN hq H hp bk bn hT hG ad h hQ z1 z2 z3 z4 c4 c5;rcases T with h1|h2
  .go_enter (Yq.nq func15),ntmps15;go_wp2_with fail
   refine bodyPost_ret (v:=.tuple #[.agg #[M N 0 0,U ⟨#[]⟩],I K 7]) (by simp[results,results15,go_sem]) rfl (.inl ⟨_,rfl,bE.same HL.out (((au.refl.alloc _).alloc _).alloc _)⟩)
  .have h1:¬c<1:=by omega
   go_enter (Yq.nq func15),ntmps15;go_wp2_with fail
   refine bodyPost_ret (v:=.tuple #[.agg #[M N 0 0,U ⟨#[]⟩],I K 7]) (by simp[results,results15,go_sem]) rfl (.inl ⟨_,rfl,bE.same HL.out (((au.refl.alloc _).alloc _).alloc _)⟩)
 .have h1:¬c<1:=by omega
  have h2:¬20<c:=by omega
  have hbl:=tV;have bl:=fm;have hwb:wrap64 (L.begun+1)=L.begun+1:=by unfold wrap64;omega
  have hk1:k0<w.heap.size+1:=by omega
  have hk2:k0<w.heap.size+1+1:=by omega
  have hk3:k0<w.heap.size+1+1+1:=by omega
  obtain⟨V,hV⟩:∃V,V=((((w.alloc (E #[O i] 33)).alloc (E #[C n,U p,U d,U o] 74)).alloc (E #[M N 0 0,U ⟨#[]⟩] 69)).alloc (E #[I K (L.begun+1),O i,C n,U p,U d,U o,I K c,I K 10] 107)).drew:=⟨_,rfl⟩;have m:au w V:=by rw[hV];exact((((au.refl.alloc _).alloc _).alloc _).alloc _).drew
  have S:V.heap.size=w.heap.size+4:=by rw[hV];simp
  have ab:Iw Qok ((ip L f ⟨n,p,d,o⟩ c).lst i) f V:=⟨.of (am.keep (A':=λ_=>True) (λb _ al=>⟨trivial,m.block b al⟩) 41 i f hN),hq,H,hp,ad _ (hG _ m)⟩;have a9:=vU Qok hQ ((ip L f ⟨n,p,d,o⟩ c).lst i) 1 f V ab G (λw' X=>hG w' (m.trans X)) (λ_=>hT);obtain⟨F,s⟩:∃F,F=(ip L f ⟨n,p,d,o⟩ c).tok 1:=⟨_,rfl⟩;obtain⟨pg,ar⟩:∃pg,pg=(ip L f ⟨n,p,d,o⟩ c).page 1:=⟨_,rfl⟩;have HP:Calls Yq.prog 44 #[.agg #[I K (L.begun+1),O i,C n,U p,U d,U o,I K c,I K 10],I K 1] V λe w'=>(∃t u D,e=.returned (.agg #[M t u D,U F])/\w'.ownsRow V.heap.size 117 3 (M t u D) pg.length (an pg)/\au V w')\/Stop Qok e w':=by
   refine a9.mono ?_;rintro e w' (⟨sv,rfl,h3,h4⟩|h)
   .left
    rw[s,ar];rw[io (l:=(ip L f ⟨n,p,d,o⟩ c).lst i) (l':=(ip L f ⟨n,p,d,o⟩ c).lst N) rfl]at h3;obtain⟨t,u,D,rfl⟩:∃t u D,sv=M t u D:=by
     rcases h3.2 with⟨rfl,-⟩|⟨g,cap,cur,rfl,-⟩
     .exact ⟨_,_,_,rfl⟩
     .exact ⟨_,_,_,rfl⟩
    exact⟨t,u,D,rfl,h3,h4⟩
   .exact .inr h
  clear a9;have HF:Hid (∀k,au V k->((k.cell? ⟨w.heap.size+1+1+1,0,N⟩=J (I K (L.begun+1))/\k.cell? ⟨w.heap.size+1+1+1,1,N⟩=J (O i)/\k.cell? ⟨w.heap.size+1+1+1,2,N⟩=J (C n)/\k.cell? ⟨w.heap.size+1+1+1,3,N⟩=J (U p)/\k.cell? ⟨w.heap.size+1+1+1,4,N⟩=J (U d)/\k.cell? ⟨w.heap.size+1+1+1,5,N⟩=J (U o)/\k.cell? ⟨w.heap.size+1+1+1,6,N⟩=J (I K c)/\k.cell? ⟨w.heap.size+1+1+1,7,N⟩=J (I K 10)) /\
    (k.cell? ⟨w.heap.size+1+1,0,N⟩=J (M N 0 0)/\k.cell? ⟨w.heap.size+1+1,1,N⟩=J (U ⟨#[]⟩)/\k.frozen? ⟨w.heap.size+1+1,0,N⟩=Z/\k.frozen? ⟨w.heap.size+1+1,1,N⟩=Z) /\
    (k.cell? ⟨k0,4,N⟩=J (M ap Q.length a8)/\k.cell? ⟨k0,5,N⟩=J (I K L.begun)/\k.frozen? ⟨k0,4,N⟩=Z/\k.frozen? ⟨k0,5,N⟩=Z)/\(w.heap.size+1+1<k.heap.size/\w.heap.size+1+1+1<k.heap.size/\k0<k.heap.size))):=λk X=>by
   have r3:V.heap[w.heap.size+3]?=J (E #[I K (L.begun+1),O i,C n,U p,U d,U o,I K c,I K 10] 107):=by
    rw[hV];simp only[World.drew,World.alloc,gP,Array.size_push]
    repeat rw[if_neg (by omega)]
    simp
   have r2:V.heap[w.heap.size+2]?=J (E #[M N 0 0,U ⟨#[]⟩] 69):=by
    rw[hV];simp only[World.drew,World.alloc,gP,Array.size_push]
    repeat rw[if_neg (by omega)]
    simp
   have e3:=(X.block _ (by omega)).trans r3;have e2:=(X.block _ (by omega)).trans r2;have be:∀j,k.frozen? ⟨k0,j,N⟩=false:=λj=>(fB (a:=⟨k0,j,N⟩) ((m.trans X).block k0 al)).trans (HL.out.frozen j)
   have:=X.size;refine⟨⟨?_,?_,?_,?_,?_,?_,?_,?_⟩,⟨?_,?_,?_,?_⟩,⟨(m.trans X).cell c4,(m.trans X).cell c5,be 4,be 5⟩,by omega,by omega,by omega⟩;all_goals simp[World.cell?,World.frozen?,e3,e2]
  have HX:Hid (au w V/\am A 41 w i f/\V.heap.size=w.heap.size+4):=⟨m,hN,S⟩;have HZ:Hid (L.opened=Q.map (·.1)/\w.ownsRow B 107 8 (M ap Q.length a8) Q.length (bf Q)/\(∀g,(Value.slice ap Q.length a8).ownBlock=J g->¬A g)/\∀z∈Q,am A 41 w z.2 z.1.f):=⟨z1,z2,z3,z4⟩;have HB:Hid (eQ L f ⟨n,p,d,o⟩ c=(if F=⟨#[]⟩then(L,pg,⟨#[]⟩,0)else if 3<=L.opened.length then(L,[],⟨#[]⟩,8)else(⟨L.opened++[ip L f ⟨n,p,d,o⟩ c],L.begun+1,j7 F (L.begun+1,2) L.told,L.tm⟩,pg,F,0))):=by
   show eQ L f ⟨n,p,d,o⟩ c=_;rw[eQ,if_neg T,s,ar]
  generalize eQ L f ⟨n,p,d,o⟩ c=R at *;have HV:Hid (V=((((w.alloc (E #[O i] 33)).alloc (E #[C n,U p,U d,U o] 74)).alloc (E #[M N 0 0,U ⟨#[]⟩] 69)).alloc (E #[I K (L.begun+1),O i,C n,U p,U d,U o,I K c,I K 10] 107)).drew):=hV;have bi:Hid (F=(ip L f ⟨n,p,d,o⟩ c).tok 1):=s;clear hV m S ab s ar hN z1 z2 z3 z4 hG ad hT hq H hp h hQ;by_cases s:F=⟨#[]⟩
  .subst s;have hR:R=(L,pg,⟨#[]⟩,0):=by rw[HB.out,if_pos rfl]
   subst hR;go_enter (Yq.nq func15),ntmps15;go_wp2_with fail
   go_region
   rw[<-HV.out];obtain⟨⟨a0,a1,a2,a3,a4,a5,a6,a7⟩,-⟩:=HF.out V au.refl;go_wp2_with (go_at_call 44;refine HP.mono ?_;clear HP;rintro e k (⟨t,u,D,rfl,aa,P⟩|⟨x,y,r,rfl,av⟩);rotate_left;exact⟨rfl,Or.inr ⟨x,y,r,rfl,av⟩⟩;have⟨⟨q0,q1,q2,q3,q4,q5,q6,q7⟩,⟨s0,s1,z0,z1⟩,⟨m4,m5,n4,n5⟩,y2,y3,yk⟩:=HF.out k P)
   obtain⟨m,-,S⟩:=HX.out;have bo:∀b,b≠w.heap.size+1+1->b<k.heap.size->(((k.setCell ⟨w.heap.size+1+1,0,N⟩ (M t u D)).setCell ⟨w.heap.size+1+1,1,N⟩ (U ⟨#[]⟩)).alloc (E #[M t u D,U ⟨#[]⟩] 69)).heap[b]?=k.heap[b]?:=λb h1 h2=>by
    rw[bA _ _ _ (by simpa using h2),bS _ _ _ _ h1,bS _ _ _ _ h1]
   have ac:au w (((k.setCell ⟨w.heap.size+1+1,0,N⟩ (M t u D)).setCell ⟨w.heap.size+1+1,1,N⟩ (U ⟨#[]⟩)).alloc (E #[M t u D,U ⟨#[]⟩] 69)):=(((m.trans P).set (by omega) _ _).set (by omega) _ _).alloc _;refine bodyPost_ret (v:=.tuple #[.agg #[M t u D,U ⟨#[]⟩],I K 0]) (by simp[results,results15,go_sem,s0,s1,y2]) rfl (.inl ⟨_,rfl,bE.page HL.out ac aa (by omega) λg h1 h2=>bo g (by omega) h2⟩)
  .have bb:¬F.toList=[]:=λhx=>by
    have:(F==(⟨#[]⟩:ByteArray))=true:=by rw[beq_toListBytes];simpa using hx
    exact s ((MapKept.bytes_beq _ _).1 this)
   have hne:(F.toList == [])=false:=by simpa using bb
   by_cases h3:3<=L.opened.length
   .have hR:R=(L,[],⟨#[]⟩,8):=by rw[HB.out,if_neg s,if_pos h3]
    subst hR;have h3i:(3:Int)<=(Q.length:Int):=by omega
    go_enter (Yq.nq func15),ntmps15;go_wp2_with fail
    go_region
    rw[<-HV.out];obtain⟨⟨a0,a1,a2,a3,a4,a5,a6,a7⟩,-⟩:=HF.out V au.refl;go_wp2_with (go_at_call 44;refine HP.mono ?_;clear HP;rintro e k (⟨t,u,D,rfl,aa,P⟩|⟨x,y,r,rfl,av⟩);rotate_left;exact⟨rfl,Or.inr ⟨x,y,r,rfl,av⟩⟩;have⟨⟨q0,q1,q2,q3,q4,q5,q6,q7⟩,⟨s0,s1,z0,z1⟩,⟨m4,m5,n4,n5⟩,y2,y3,yk⟩:=HF.out k P)
    obtain⟨m,-,S⟩:=HX.out;have ac:au w (((k.setCell ⟨w.heap.size+1+1,0,N⟩ (M N 0 0)).setCell ⟨w.heap.size+1+1,1,N⟩ (U ⟨#[]⟩)).alloc (E #[M t u D,U F] 69)):=(((m.trans P).set (by omega) _ _).set (by omega) _ _).alloc _;refine bodyPost_ret (v:=.tuple #[.agg #[M N 0 0,U ⟨#[]⟩],I K 8]) (by simp[results,results15,go_sem,s0,s1,y2]) rfl (.inl ⟨_,rfl,bE.same HL.out ac⟩)
   .rcases bd with h|h|h
    .exact absurd h T
    .rw [<-bi.out]at h;exact absurd h s
    .exact absurd h h3
theorem B6 (Qok:Qy->Prop)(hQ:∀q,Qok q->ig q/\ii q)(w:Wj)(h:dE A B w k0 L)(hB:B<=w.heap.size)(i:Option Wu)(f:List UInt8->List Ver)(q:Qy)(c:Int)(hN:am A 41 w i f)(hq:Qok q)(a8:fH (cz f q.p.data.toList)<=1000)(hp:q.p.size<=maxLen)(hbg:0<=L.begun/\L.begun<2199023255552)(hop:L.opened.length<=3)(G:Wj->Prop)(bt:∀w',G w'->dn w')(hG:∀w',au w w'->G w')(hT:kQ G (L.begun+1) 2)(bo:¬(c<1\/20<c))(a9:(ip L f q c).tok 1≠⟨#[]⟩)(h3:¬3<=L.opened.length):
    Calls Yq.prog 15 #[O (J ⟨k0,4,N⟩),sV i,qV q.vs q.p q.d q.af,I K c] w λe w'=>
      (∃sv,e=.returned (.tuple #[.agg #[sv,U (eQ L f q c).2.2.1],I K (eQ L f q c).2.2.2])/\bE A B k0 w (eQ L f q c).1 (eQ L f q c).2.1 sv w')\/Stop Qok e w':=by
  have c5:=h.begun;have⟨v4,c4,H,z1,z2,z3,z4⟩:=h.opened;obtain⟨Q,T,rfl,-⟩:=az z2;have hlz:L.opened.length=H.length:=by rw[z1];simp
  have bi:=h.lt;have HL:Hid (dE A B w k0 L):=h;obtain⟨n,p,d,s⟩:=q;unfold sV qV;have h1:¬c<1:=by omega
  have h2:¬20<c:=by omega
  have hbl:=tV;have hbp:=fm;have hwb:wrap64 (L.begun+1)=L.begun+1:=by unfold wrap64;omega
  have hk1:k0<w.heap.size+1:=by omega
  have hk2:k0<w.heap.size+1+1:=by omega
  have hk3:k0<w.heap.size+1+1+1:=by omega
  obtain⟨V,hV⟩:∃V,V=((((w.alloc (E #[O i] 33)).alloc (E #[C n,U p,U d,U s] 74)).alloc (E #[M N 0 0,U ⟨#[]⟩] 69)).alloc (E #[I K (L.begun+1),O i,C n,U p,U d,U s,I K c,I K 10] 107)).drew:=⟨_,rfl⟩;have aa:au w V:=by rw[hV];exact((((au.refl.alloc _).alloc _).alloc _).alloc _).drew
  have bn:V.heap.size=w.heap.size+4:=by rw[hV];simp
  have bb:Iw Qok ((ip L f ⟨n,p,d,s⟩ c).lst i) f V:=⟨.of (am.keep (A':=λ_=>True) (λb _ bi=>⟨trivial,aa.block b bi⟩) 41 i f hN),hq,a8,hp,bt _ (hG _ aa)⟩;have bs:=vU Qok hQ ((ip L f ⟨n,p,d,s⟩ c).lst i) 1 f V bb G (λw' hl=>hG w' (aa.trans hl)) (λ_=>hT);obtain⟨P,ac⟩:∃P,P=(ip L f ⟨n,p,d,s⟩ c).tok 1:=⟨_,rfl⟩;obtain⟨pg,bl⟩:∃pg,pg=(ip L f ⟨n,p,d,s⟩ c).page 1:=⟨_,rfl⟩;have HP:Calls Yq.prog 44 #[.agg #[I K (L.begun+1),O i,C n,U p,U d,U s,I K c,I K 10],I K 1] V λe w'=>(∃t D F,e=.returned (.agg #[M t D F,U P])/\w'.ownsRow V.heap.size 117 3 (M t D F) pg.length (an pg)/\au V w')\/Stop Qok e w':=by
    refine bs.mono ?_;rintro e w' (⟨sv,rfl,h3,h4⟩|h)
    . left
      rw[ac,bl];rw[io (l:=(ip L f ⟨n,p,d,s⟩ c).lst i) (l':=(ip L f ⟨n,p,d,s⟩ c).lst N) rfl]at h3;obtain⟨t,D,F,rfl⟩:∃t D F,sv=M t D F:=by
        rcases h3.2 with⟨rfl,-⟩|⟨g,cap,cur,rfl,-⟩
        . exact⟨_,_,_,rfl⟩
        . exact⟨_,_,_,rfl⟩
      exact⟨t,D,F,rfl,h3,h4⟩
    . exact .inr h
  clear bs;have HF:Hid (∀k,au V k->((k.cell? ⟨w.heap.size+1+1+1,0,none⟩=some (.int .i64 (L.begun+1))/\k.cell? ⟨w.heap.size+1+1+1,1,none⟩=some (.pointer i)/\k.cell? ⟨w.heap.size+1+1+1,2,none⟩=some (.bool n)/\k.cell? ⟨w.heap.size+1+1+1,3,none⟩=some (.string p)/\k.cell? ⟨w.heap.size+1+1+1,4,none⟩=some (.string d)/\k.cell? ⟨w.heap.size+1+1+1,5,none⟩=some (.string s)/\k.cell? ⟨w.heap.size+1+1+1,6,none⟩=some (.int .i64 c)/\k.cell? ⟨w.heap.size+1+1+1,7,none⟩=some (.int .i64 10)) /\
      (k.cell? ⟨w.heap.size+1+1,0,N⟩=J (M N 0 0)/\k.cell? ⟨w.heap.size+1+1,1,N⟩=J (U ⟨#[]⟩)/\k.frozen? ⟨w.heap.size+1+1,0,N⟩=Z/\k.frozen? ⟨w.heap.size+1+1,1,N⟩=Z) /\
      (k.cell? ⟨k0,4,N⟩=J (M Q H.length T)/\k.cell? ⟨k0,5,N⟩=J (I K L.begun)/\k.frozen? ⟨k0,4,N⟩=Z/\k.frozen? ⟨k0,5,N⟩=Z)/\(w.heap.size+1+1<k.heap.size/\w.heap.size+1+1+1<k.heap.size/\k0<k.heap.size))):=λk hl=>by
    have r3:V.heap[w.heap.size+3]?=J (E #[I K (L.begun+1),O i,C n,U p,U d,U s,I K c,I K 10] 107):=by
      rw[hV];simp only[World.drew,World.alloc,gP,Array.size_push]
      repeat rw[if_neg (by omega)]
      simp
    have r2:V.heap[w.heap.size+2]?=J (E #[M N 0 0,U ⟨#[]⟩] 69):=by
      rw[hV];simp only[World.drew,World.alloc,gP,Array.size_push]
      repeat rw[if_neg (by omega)]
      simp
    have e3:=(hl.block _ (by omega)).trans r3;have e2:=(hl.block _ (by omega)).trans r2;have b6:∀j,k.frozen? ⟨k0,j,N⟩=false:=λj=>(fB (a:=⟨k0,j,N⟩) ((aa.trans hl).block k0 bi)).trans (HL.out.frozen j)
    have:=hl.size;refine⟨⟨?_,?_,?_,?_,?_,?_,?_,?_⟩,⟨?_,?_,?_,?_⟩,⟨(aa.trans hl).cell c4,(aa.trans hl).cell c5,b6 4,b6 5⟩,by omega,by omega,by omega⟩;all_goals simp[World.cell?,World.frozen?,e3,e2]
  have HX:Hid (au w V/\am A 41 w i f/\V.heap.size=w.heap.size+4):=⟨aa,hN,bn⟩;have HZ:Hid (L.opened=H.map (·.1)/\w.ownsRow B 107 8 (M Q H.length T) H.length (bf H)/\(∀g,(Value.slice Q H.length T).ownBlock=J g->¬A g)/\∀z∈H,am A 41 w z.2 z.1.f):=⟨z1,z2,z3,z4⟩;have HB:Hid (eQ L f ⟨n,p,d,s⟩ c=(if P=⟨#[]⟩then(L,pg,⟨#[]⟩,0)else if 3<=L.opened.length then(L,[],⟨#[]⟩,8)else(⟨L.opened++[ip L f ⟨n,p,d,s⟩ c],L.begun+1,j7 P (L.begun+1,2) L.told,L.tm⟩,pg,P,0))):=by
    show eQ L f ⟨n,p,d,s⟩ c=_;rw[eQ,if_neg bo,<-ac,<-bl]
  generalize eQ L f ⟨n,p,d,s⟩ c=R at *;have HV:Hid (V=((((w.alloc (E #[O i] 33)).alloc (E #[C n,U p,U d,U s] 74)).alloc (E #[M N 0 0,U ⟨#[]⟩] 69)).alloc (E #[I K (L.begun+1),O i,C n,U p,U d,U s,I K c,I K 10] 107)).drew):=hV;rw[<-ac]at a9;replace ac:=a9;clear hV aa bn bb bl hN z1 z2 z3 z4 hG bt hT hq a8 hp h hQ;have bv:¬P.toList=[]:=λhx=>by
    have:(P==(⟨#[]⟩:ByteArray))=true:=by rw[beq_toListBytes];simpa using hx
    exact ac ((MapKept.bytes_beq _ _).1 this)
  have hne:(P.toList == [])=false:=by simpa using bv
  have hR:R=(⟨L.opened++[ip L f ⟨n,p,d,s⟩ c],L.begun+1,j7 P (L.begun+1,2) L.told,L.tm⟩,pg,P,0):=by rw[HB.out,if_neg ac,if_neg h3]
  subst hR;have h3i:¬(3:Int)<=(H.length:Int):=by omega
  have⟨i0,ca,cb,cd,b9⟩:=info_parts Yq.infoLst;have hbq:=oL;obtain⟨cL,hcL⟩:∃cL:Array Wx,cL=#[I K (L.begun+1),O i,C n,U p,U d,U s,I K c,I K 10]:=⟨_,rfl⟩;have bq:Hid (∀k,au V k->∀o o':Obj,((k.alloc o).alloc o').drew.ownsRow B 107 8 (M Q H.length T) H.length (bf H)/\B<=((k.alloc o).alloc o').drew.heap.size):=λk hl o o'=>by
    have h5:au w ((k.alloc o).alloc o').drew:=(((HX.out.1.trans hl).alloc o).alloc o').drew;exact⟨bW HZ.out.2.1 λg _ hg=>h5.block g hg,lT hB h5.size⟩
  have b8:Hid (∀ (k:Wj) (o:Obj),∀j u,[Value.int K (L.begun+1),O i,C n,U p,U d,U s,I K c,I K 10][j]?=J u->((k.alloc o).alloc (E #[I K (L.begun+1),O i,C n,U p,U d,U s,I K c,I K 10] 107)).drew.cell? ((⟨k.heap.size+1,0,N⟩:Wu).add j)=J u):=λk o j u hj=>by
    have:=I5 (k.alloc o) _ 107 j u hj
    rwa [World.size_alloc]at this
  have ch:Hid (∀k,au V k->∀t D F m,((k.alloc (.cells #[.slice t D F,.string P] 69)).alloc (.cells #[.int .i64 (L.begun+1),.pointer i,.bool n,.string p,.string d,.string s,.int .i64 c,.int .i64 10] 107)).drew.grownBy m (Value.slice Q H.length T).ownBlock ->
      ((m.cell? ⟨k0,4,N⟩=J (M Q H.length T)/\m.cell? ⟨k0,5,N⟩=J (I K L.begun)/\m.frozen? ⟨k0,4,N⟩=Z/\m.frozen? ⟨k0,5,N⟩=Z) /\
       (m.cell? ⟨k.heap.size,0,N⟩=J (M t D F)/\m.cell? ⟨k.heap.size,1,N⟩=J (U P)/\m.cell? ⟨w.heap.size+1+1+1,0,N⟩=J (I K (L.begun+1))) /\
       (m.cell? ⟨w.heap.size+1+1,0,N⟩=J (M N 0 0)/\m.cell? ⟨w.heap.size+1+1,1,N⟩=J (U ⟨#[]⟩)/\m.frozen? ⟨w.heap.size+1+1,0,N⟩=Z/\m.frozen? ⟨w.heap.size+1+1,1,N⟩=Z) /\
       w.heap.size+1+1<m.heap.size/\w.heap.size+1+1+1<m.heap.size/\k.heap.size<m.heap.size/\k0<m.heap.size)):=λk X t D F m S=>by
    have⟨⟨q0,q1,q2,q3,q4,q5,q6,q7⟩,⟨s0,s1,z0,z1⟩,⟨m4,m5,n4,n5⟩,y2,y3,yk⟩:=HF.out k X;have be:au k ((k.alloc (E #[M t D F,U P] 69)).alloc (E #[I K (L.begun+1),O i,C n,U p,U d,U s,I K c,I K 10] 107)).drew:=((au.refl.alloc _).alloc _).drew;have bo:((k.alloc (E #[M t D F,U P] 69)).alloc (E #[I K (L.begun+1),O i,C n,U p,U d,U s,I K c,I K 10] 107)).drew.heap.size=k.heap.size+2:=by simp
    have ab:∀b,w.heap.size<=b->J b≠(Value.slice Q H.length T).ownBlock:=λb hb e=>by have:=(HZ.out.2.1.lt b e.symm).2;omega
    have b7:J k0≠(Value.slice Q H.length T).ownBlock:=λe=>by have:=(HZ.out.2.1.lt k0 e.symm).1;have:=HL.out.low;omega
    have bk:m.heap[k0]?=k.heap[k0]?:=(S.block k0 (by omega) b7).trans (be.block k0 yk);have b2:m.heap[w.heap.size+1+1]?=k.heap[w.heap.size+1+1]?:=(S.block _ (by omega) (ab _ (by omega))).trans (be.block _ y2);have b3:m.heap[w.heap.size+1+1+1]?=k.heap[w.heap.size+1+1+1]?:=(S.block _ (by omega) (ab _ (by omega))).trans (be.block _ y3);have b1:m.heap[k.heap.size]?=J (E #[M t D F,U P] 69):=by
      rw[S.block _ (by omega) (ab _ (by omega))];show((k.alloc (E #[M t D F,U P] 69)).alloc _).heap[k.heap.size]?=_;rw[bA _ _ _ (by simp)];exact aN _ _
    have:=S.size;have ar:∀ {b:Nat},m.heap[b]?=k.heap[b]?->∀j,m.cell? ⟨b,j,N⟩=k.cell? ⟨b,j,N⟩:=λh j=>cB (a:=⟨_,j,N⟩) h
    have av:∀ {b:Nat},m.heap[b]?=k.heap[b]?->∀j,m.frozen? ⟨b,j,N⟩=k.frozen? ⟨b,j,N⟩:=λh j=>fB (a:=⟨_,j,N⟩) h
    refine⟨⟨(ar bk 4).trans m4,(ar bk 5).trans m5,(av bk 4).trans n4,(av bk 5).trans n5⟩,⟨by simp[World.cell?,b1],by simp[World.cell?,b1],(ar b3 0).trans q0⟩,⟨(ar b2 0).trans s0,(ar b2 1).trans s1,(av b2 0).trans z0,(av b2 1).trans z1⟩,by omega,by omega,by omega,by omega⟩
  have bx:Hid (∀k,au V k->∀t D F,k.ownsRow V.heap.size 117 3 (.slice t D F) pg.length (an pg)->∀m v',m.ownsRow B 107 8 v' (H.length+1) (bf H++[.int .i64 (L.begun+1),.pointer i,.bool n,.string p,.string d,.string s,.int .i64 c,.int .i64 10])->((k.alloc (.cells #[.slice t D F,.string P] 69)).alloc (.cells #[.int .i64 (L.begun+1),.pointer i,.bool n,.string p,.string d,.string s,.int .i64 c,.int .i64 10] 107)).drew.grownBy m (Value.slice Q H.length T).ownBlock ->
      (∀g,v'.ownBlock=J g->(Value.slice Q H.length T).ownBlock=J g\/((k.alloc (E #[M t D F,U P] 69)).alloc (E #[I K (L.begun+1),O i,C n,U p,U d,U s,I K c,I K 10] 107)).drew.heap.size<=g)->k.cell? ⟨w.heap.size+1+1,0,N⟩=J (M N 0 0) ->
      Calls Yq.prog 45 #[O (J ⟨k0,4,N⟩),U P,.agg #[I K (L.begun+1),I K 2]] ((m.setCell ⟨k0,4,N⟩ v').setCell ⟨k0,5,N⟩ (I K (L.begun+1))) λe w6=>e=.returned (.tuple #[])/\dL k0 ((m.setCell ⟨k0,4,N⟩ v').setCell ⟨k0,5,N⟩ (I K (L.begun+1))) w6 /\
        ∀y0 y1,bE A B k0 w ⟨L.opened++[ip L f ⟨n,p,d,s⟩ c],L.begun+1,j7 P (L.begun+1,2) L.told,L.tm⟩ pg (M t D F) ((w6.setCell ⟨w.heap.size+1+1,0,N⟩ y0).setCell ⟨w.heap.size+1+1,1,N⟩ y1)):=
    λk X t D F al m v' ap S ab bw=>Hb HL.out hB HX.out.1 HX.out.2.2 X al c4 HZ.out.1 HZ.out.2.1 HZ.out.2.2.1 HZ.out.2.2.2 (x:=ip L f ⟨n,p,d,s⟩ c) HX.out.2.1 _ _ ap S ab (L.begun+1) P (L.begun+1,2) bw
  go_enter (Yq.nq func15),ntmps15;go_wp2_with fail
  go_region
  rw[<-HV.out];obtain⟨⟨a0,a1,a2,a3,a4,a5,a6,a7⟩,-⟩:=HF.out V au.refl;go_wp2_with (go_at_call 44;refine HP.mono ?_;clear HP;rintro e k (⟨t,D,F,rfl,al,X⟩|⟨x,y,r,rfl,cc⟩);rotate_left;exact⟨rfl,Or.inr ⟨x,y,r,rfl,cc⟩⟩;have⟨⟨q0,q1,q2,q3,q4,q5,q6,q7⟩,⟨s0,s1,z0,z1⟩,⟨m4,m5,n4,n5⟩,y2,y3,yk⟩:=HF.out k X)
  have yk1:k0<k.heap.size+1:=by omega
  have y31:w.heap.size+1+1+1<k.heap.size+1:=by omega
  go_region_law (refine ng rfl (.tmp 47) (.tmp 49) 37 rfl B 107 i0 _ 8 88 (Yq.u underlying37) ca cb cd b9 rfl (by decide) (M Q H.length T) H.length (bf H) (by simp[Act.eval]) (bq.out k X _ _).1 ⟨k.heap.size+1,0,N⟩ 1 1 [I K (L.begun+1),O i,C n,U p,U d,U s,I K c,I K 10] (by simp[Act.eval]) rfl (b8.out _ _) (one8 ((ip L f ⟨n,p,d,s⟩ c).lst i)) (by simp only[maxLen];omega) (by omega) (bq.out k X _ _).2 ?_;intro v' m ap S ab;obtain⟨va',vc',rfl,-⟩:=az ap;have⟨⟨b4,b5,g4,g5⟩,⟨b0,b1,b2⟩,⟨t0,t1,u0,u1⟩,x2,x3,x4,xk⟩:=ch.out k X t D F m S;have bd:Hid (_/\_/\_):=And.intro ap (And.intro S ab);clear ap S ab)
  all_goals
    have HK:=(bx.out k X t D F al m _ bd.out.1 bd.out.2.1 bd.out.2.2 s0);clear bx;go_wp2_with (go_at_call 45;refine HK.mono ?_;clear HK;rintro e w6 ⟨rfl,ad,bp⟩;have p0:=ad.cell (fD b0 (by omega)) (by omega);have p1:=ad.cell (fD b1 (by omega)) (by omega);have r0:=ad.cell (fD t0 (by omega)) (by omega);have r1:=ad.cell (fD t1 (by omega)) (by omega);have e0:w6.frozen? ⟨w.heap.size+1+1,0,N⟩=false:=(by rw[ad.frozen (fD t0 (by omega)) (by omega),World.frozen?_setCell,World.frozen?_setCell];exact u0);have e1:w6.frozen? ⟨w.heap.size+1+1,1,N⟩=false:=(by rw[ad.frozen (fD t1 (by omega)) (by omega),World.frozen?_setCell,World.frozen?_setCell];exact u1))
    exact bodyPost_ret (v:=.tuple #[.agg #[M t D F,U P],I K 0]) (by simp[results,results15,go_sem,r0,r1]) rfl (.inl ⟨_,rfl,bp _ _⟩)
end
theorem xR{A:Nat->Prop}{B k0:Nat}{L:Lg}(Qok:Qy->Prop)(m:∀q,Qok q->ig q/\ii q)(w:Wj)(h:dE A B w k0 L)(s:B<=w.heap.size)(b:Option Wu)(f:List UInt8->List Ver)(q:Qy)(a:Int)(t:am A 41 w b f)(o:Qok q)(c:fH (cz f q.p.data.toList)<=1000)(l:q.p.size<=maxLen)(i:0<=L.begun/\L.begun<2199023255552)(j:L.opened.length<=3)(G:Wj->Prop)(k:∀w',G w'->dn w')(n:∀w',au w w'->G w')(r:kQ G (L.begun+1) 2):
  Calls Yq.prog 15 #[O (J ⟨k0,4,N⟩),sV b,qV q.vs q.p q.d q.af,I K a] w λe w'=>
   (∃sv,e=.returned (.tuple #[.agg #[sv,U (eQ L f q a).2.2.1],I K (eQ L f q a).2.2.2])/\bE A B k0 w (eQ L f q a).1 (eQ L f q a).2.1 sv w')\/Stop Qok e w':=by
 by_cases x:a<1\/20<a
 .exact oN Qok m w h s b f q a t o c l i j G k n r (.inl x)
 .by_cases u:(ip L f q a).tok 1=⟨#[]⟩
  .exact oN Qok m w h s b f q a t o c l i j G k n r (.inr (.inl u))
  .by_cases v:3<=L.opened.length
   .exact oN Qok m w h s b f q a t o c l i j G k n r (.inr (.inr v))
   .exact B6 Qok m w h s b f q a t o c l i j G k n r x u v
structure j8 where
 code:Int
 ver:Int
 body:ByteArray
 items:List ItD
 tok:ByteArray
def ll(a:j8)(sv:Wx):Wx:=.agg #[I K a.code,I K a.ver,U a.body,sv,U a.tok]
def cQ(A:Nat->Prop)(B k0:Nat)(w:Wj)(c:St)(L':Lg)(a:j8)(e:Ending)(w':Wj):Prop:=
 ∃sv,e=.returned (ll a sv)/\∃A':Nat->Prop,(∀b,A b->A' b)/\(∀b,A' b->A b\/w.heap.size<=b)/\br A' B w' k0 c L'/\gO A B k0 w w'/\bZ A' w' sv a.items.length (an a.items)
section
variable {A A':Nat->Prop} {B k0:Nat} {w w' w'':Wj} {st:St} {L L':Lg}
theorem gO.left(a:k0<w.heap.size)(h:au w w'):gO A B k0 w w':=(aV.left a h).weak
theorem br.left(h:br A B w k0 st L)(a:au w w'):br A B w' k0 st L:=h.step (aV.left h.ls.lt a) (λ_ h=>h) (h.ls.left a) rfl
theorem br.other{b j:Nat}{x:Wx}(h:br A B w k0 st L)(c:b≠k0)(d:¬A b)(a:dp w b)(i:¬jY k0 w b)(k:B<=b):br A B (w.setCell ⟨b,j,N⟩ x) k0 st L:=
 h.step (aV.other c d k) (λ_ h=>h) (h.ls.other c d a (λv _g e l f=>i ⟨v,e,f▸l⟩)) rfl
theorem rv{l:Wj}{r:Nat}{sv:Wx}{its:List ItD}(Q:au w W0)(V:k0<w.heap.size)(hBw:B<=w.heap.size)(hr:w.heap.size<=r)(hrl:r<W0.heap.size)(s:dp W0 r)(_hA1:∀b,A b->A' b)(p:∀b,A' b->A b\/W0.heap.size<=b)(q:∀b,A b->b<w.heap.size)(L:br A' B l k0 st L')(H:gO A B k0 W0 l)(P:FrC k0 W0 l)(S:∀g,jY k0 W0 g->g<w.heap.size)(u:bZ A' l sv its.length (an its))(y G F D z:Wx):
  (∀b,A' b->A b\/w.heap.size<=b)/\br A' B (put5 l r y G F D z) k0 st L'/\gO A B k0 w (put5 l r y G F D z)/\bZ A' (put5 l r y G F D z) sv its.length (an its):=by
 have hlow:=L.ls.low;have d:r≠k0:=by omega
 have k:¬A' r:=λh=>by
  rcases p r h with h|h
  .have:=q r h;omega
  .omega
 have o:¬jY k0 W0 r:=λh=>by have:=S r h;omega
 have X:l.heap[r]?=W0.heap[r]?:=P.keep r s d o;have n:dp l r:=s.same X;have f:¬jY k0 l r:=λh=>by
  rcases P.own r h with h|h
  .exact o h
  .omega
 have c:∀ (W:Wj) (j:Nat) (x:Wx),¬jY k0 W r->¬jY k0 (W.setCell ⟨r,j,N⟩ x) r:=λW j x h=>by
  rintro⟨v,R,T⟩;exact h ⟨v,(cB (a:=⟨k0,4,N⟩) (bS _ _ _ _ (λe=>d e.symm))).symm.trans R,T⟩
 have i:∀b,b≠r->(put5 l r y G F D z).heap[b]?=l.heap[b]?:=λb m=>by
  unfold put5;rw[bS _ _ _ _ m,bS _ _ _ _ m,bS _ _ _ _ m,bS _ _ _ _ m,bS _ _ _ _ m]
 refine⟨λb m=>(p b m).imp id λh=>by have:=Q.size;omega,?_,(gO.left V Q).trans (H.trans ?_),bZ.keep u λb m _=>⟨m,i b (λe=>k (e▸m))⟩⟩
 .unfold put5;exact((((L.other d k n f (by omega)).other d k n.set (c _ _ _ f) (by omega)).other d k n.set.set (c _ _ _ (c _ _ _ f)) (by omega)).other d k n.set.set.set (c _ _ _ (c _ _ _ (c _ _ _ f))) (by omega)).other d k n.set.set.set.set (c _ _ _ (c _ _ _ (c _ _ _ (c _ _ _ f)))) (by omega)
 .have t:=i k0 (λe=>d e.symm);exact⟨rfl,by simp[put5],λb R _ _=>i b (by omega),λb m _=>i b (λe=>by have:=q b m;omega),λj _=>cB (a:=⟨k0,j,N⟩) t,λj=>fB (a:=⟨k0,j,N⟩) t⟩
end
end
