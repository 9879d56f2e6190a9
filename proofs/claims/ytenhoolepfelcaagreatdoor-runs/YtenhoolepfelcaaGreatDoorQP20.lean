/- A part. -/
import Derived.Test.YtenhoolepfelcaaGreatDoorQP19
import Derived.Test.YtenhoolepfelcaaGreatDoorQP14
import Derived.Test.YtenhoolepfelcaaGreatDoorQP15
set_option maxHeartbeats 4000000
set_option maxRecDepth 100000
open List renaming not_mem_nil->dT
open Go.World renaming ownsRow_nil->ey,frozen?_alloc_at->eV
open _root_ renaming absurd->eW,Int->gI,congrArg->gL,if_neg->g6,ByteArray->jp
open Go.Value renaming ownBlock->kr,slice->lj,bool->lk
open Go renaming wpList_append_own->nF,maxLen->n8,info_parts->pt
open Go renaming World->Wj,Value->Wx
namespace Go.Proofs.Qw
open _root_ renaming rfl->Q
open _root_ renaming Nat->H,List->S
open Option renaming none->N,some->J
open Bool renaming true->Y,false->Z
open Value renaming int->I,string->U,slice->M,pointer->O,bool->C,agg->Qa
open IntKind renaming i64->K
open Obj renaming cells->E
open Ending renaming returned->Nm
open Or renaming inl->Qc,inr->Qd
variable {B g i k s:H}{Zq:S SvE->Prop}
open Tryz
section
open Go.RowKit
def Ij:jp:=⟨#[110,111,110,101]⟩
def jR(l:S OpD)(o:OpD):Bool:=decide (o.kind=12/\(o.src<0\/(l.length:gI)<=o.src\/(l[o.src.toNat]?.map (·.kind))≠J 11))
def mC(a:gI):OpD:=if a<9 then⟨2,Ij,⟨#[]⟩,⟨#[]⟩,⟨#[]⟩,0,0⟩else⟨9,⟨#[]⟩,⟨#[]⟩,⟨#[]⟩,⟨#[]⟩,0,0⟩
def kC(a:gI)(l:S OpD)(o:OpD):OpD:=if(a<o.kind/\o.kind<=12)\/jR l o=Y then mC a else o
def dv(a:gI)(ops:S OpD):S OpD:=ops.foldl (λl o=>l++[kC a l o]) []
theorem r7(b:gI)a o:dv b (a++[o])=dv b a++[kC b (dv b a) o]:=by simp[dv]
theorem qt(b:gI)a:(dv b a).length=a.length:=by
 have:∀ (a l:S OpD),(a.foldl (λl o=>l++[kC b l o]) l).length=l.length+a.length:=λa=>by
  induction a with
  |nil=>intro l;rfl
  |cons o r ih=>intro l;rw[List.foldl_cons,ih];simp;omega
 rw[dv,this];simp
theorem lB(w:Wj)(X:Obj)(o:OpD)(T:TypeId):∀j u,(cf o)[j]?=J u->((w.alloc X).alloc (E #[I K o.kind,U o.key,U o.body,U o.eQ,U o.past,I K o.n,I K o.src] T)).cell? ((⟨w.heap.size+1,0,N⟩:Addr).add j)=J u:=by
 intro j u a;have:=BN (w.alloc X) o T j u a
 simp_all
theorem Ik(d:gI)a n ai m w(h:jC w (M a n ai) m)(hn:n*88<=140737488351232):
  Calls Yq.prog 5 #[M a n ai,I K d] w λe w'=>∃v',e=Nm v'/\w'.ownsRow w.heap.size 30 7 v' n ((dv d m).flatMap cf)/\Below w.heap.size w w':=by
 have⟨i0,ad,af,aj,ac⟩:=pt Yq.Pb;have a3:n=m.length:=by
  have⟨a',a1,he,_⟩:=h.form;cases he;rfl
 have HS:Hid (jC w (M a n ai) m/\n=m.length):=⟨h,a3⟩;clear h a3;go_enter (Yq.nq func5),ntmps5;go_wp2_with fail
 go_loopw [5,6] (λs3 s4 wr=>∃i:H,i<=n/\s4=I K i/\wr.ownsRow w.heap.size 30 7 s3 i ((dv d (m.take i)).flatMap cf)/\Below w.heap.size w wr) (λ_ s4 _=>n-(intOf s4).toNat)
 case atStart=>exact⟨0,Nat.zero_le _,Q,ey _ _ _ _,bR _ _⟩
 case round=>
  obtain⟨i,hin,rfl,s,D⟩:=hrel;obtain⟨va,vc,rfl,-⟩:=az s;by_cases a7:i<n
  .have V:i<m.length:=by rw[<-HS.o.2];exact a7
   have a4:m≠[]:=by intro e;rw[e]at V;simp at V
   have⟨a',a1,he,hx⟩:=HS.o.1.form;have⟨b,off,ha,ap⟩:=hx a4;subst ha;cases he;have⟨c0,c1,c2,c3,c4,c5,c6⟩:=ap i V;replace c0:=ag D c0;replace c1:=ag D c1;replace c2:=ag D c2;replace c3:=ag D c3;replace c4:=ag D c4;replace c5:=ag D c5;replace c6:=ag D c6;have av:(dv d (m.take i)).length=i:=by rw[qt,tL];omega
   have T:Hid ((dv d (m.take (i+1))).flatMap cf=(dv d (m.take i)).flatMap cf++cf (kC d (dv d (m.take i)) m[i])):=show _=_ by
    rw[tS V,r7,List.flatMap_append];simp
   have a2:Hid (∀r:H,r<i->∃kk:gI,∃g,(dv d (m.take i))[r]?.map (·.kind)=J kk/\va=J ⟨g,0,N⟩/\wr.cell? ⟨g,r*7,N⟩=J (I K kk)):=by
    intro r t;rcases s.2 with⟨he,h0⟩|⟨g,cap1,cur,he,hbg,hg,hnc,hcm,hcs,htake⟩
    .omega
    .cases he;refine⟨((dv d (m.take i))[r]'(by omega)).kind,g,by rw[eL (by omega)];rfl,Q,?_⟩;have:=qh (dv d (m.take i)) r 0 (by omega) (by omega);have h2:=s.cellAt (r*7+0) (by omega);rw[this]at h2;simpa[cf]using h2
   have a8:Hid ((dv d (m.take i)).length=i):=av;clear av;generalize m[i]=o at *;obtain⟨c,p,f,v,j,x,l⟩:=o;simp only at c0 c1 c2 c3 c4 c5 c6 T;have HX:Hid (wr.ownsRow w.heap.size 30 7 (M va i vc) i ((dv d (m.take i)).flatMap cf)/\Below w.heap.size w wr):=⟨s,D⟩;clear s D ap hx;generalize dv d (m.take i)=y at *
   go_upto_region 6 with fail
   have X:∀B,B=jR y ⟨c,p,f,v,j,x,l⟩↔(B=Y↔c=12/\(l<0\/(i:gI)<=l\/(y[l.toNat]?.map (·.kind))≠J 11)):=λB=>by
    unfold jR;rw[a8.o];cases B<;>simp
   go_cut [8] (λs8 wx=>s8=C (jR y ⟨c,p,f,v,j,x,l⟩)/\wx=wr.alloc (E #[I K c,U p,U f,U v,U j,I K x,I K l] 30))
   case first=>
    have G:Hid (∀B,B=jR y ⟨c,p,f,v,j,x,l⟩↔(B=Y↔c=12/\(l<0\/(i:gI)<=l\/(y[l.toNat]?.map (·.kind))≠J 11))):=X;generalize jR y ⟨c,p,f,v,j,x,l⟩=ln at *;clear X;by_cases q:c=12
    .subst q;by_cases h1:l<0
     .go_wp2_with fail
      go_meet
      case rel=>exact⟨gL lk ((G.o _).2 ⟨λ_=>⟨by first|trivial|rfl,Qc h1⟩,λ_=>Q⟩),Q⟩
     .by_cases h2:(i:gI)<=l
      .go_wp2_with fail
       go_meet
       case rel=>exact⟨gL lk ((G.o _).2 ⟨λ_=>⟨by first|trivial|rfl,Qd (Qc h2)⟩,λ_=>Q⟩),Q⟩
      .obtain ⟨r,t⟩:∃r:H,l=(r:gI):=⟨l.toNat,by omega⟩;subst t;have⟨kk,g,ar,hg,ck⟩:=a2.o r (by omega);subst hg;have ck':=ag ((bR wr.heap.size wr).alloc (lR _) (E #[I K 12,U p,U f,U v,U j,I K x,I K r] 30)) ck;have hri:(r:gI)<(i:gI):=by omega
       have al:Hid (y[r]?.map (·.kind)=J kk):=ar;clear ck ar;by_cases aa:kk=11
       .subst aa;go_wp2_with fail
        go_meet
        case rel=>
         refine⟨gL lk ((G.o _).2 ⟨λh=>(by cases h),λh=>?_⟩),Q⟩;rcases h.2 with h|h|h
         .omega
         .omega
         .exact eW al.o h
       .have h11':(kk==11)=false:=by simp[aa]
        have H11:Hid ((kk != 11)=Y):=by show _=_;simp[aa]
        go_wp2_with fail
        go_meet
        case rel=>
         refine⟨gL lk ((G.o _).2 ⟨λ_=>⟨by first|trivial|rfl,Qd (Qd ?_)⟩,λ_=>H11.o⟩),Q⟩;show y[r]?.map (·.kind)≠_;rw[al.o];simpa using aa
    .have hk':(c==12)=false:=by simp[q]
     go_wp2_with fail
     go_meet
     case rel=>exact⟨gL lk ((G.o _).2 ⟨λh=>(by cases h),λh=>eW h.1 q⟩),Q⟩
   case rest=>
   obtain⟨rfl,rfl⟩:=hcut;have z:jR y ⟨c,p,f,v,j,x,l⟩=Y->c=12:=λh=>(((X _).1 Q).1 h).1
   have a0:Hid (kC d y ⟨c,p,f,v,j,x,l⟩=if(d<c/\c<=12)\/jR y ⟨c,p,f,v,j,x,l⟩=Y then mC d else⟨c,p,f,v,j,x,l⟩):=rfl;generalize jR y ⟨c,p,f,v,j,x,l⟩=B at *;clear X c0 c1 c2 c3 c4 c5 c6 a2;by_cases t:(d<c/\c<=12)\/B=Y
   .have ab:Hid (kC d y ⟨c,p,f,v,j,x,l⟩=mC d):=by
     show _=_;rw[a0.o,if_pos t]
    have R:(d<c/\c<=12)\/(¬d<c/\c<=12/\B=Y):=by
     by_cases A:d<c
     .rcases t with t|t
      .exact Qc t
      .exact Qc ⟨A,by have:=z t;omega⟩
     .rcases t with t|t
      .exact eW t.1 A
      .exact Qd ⟨A,by have:=z t;omega,t⟩
    clear t z;by_cases h9:d<9
    .have F:Hid (kC d y ⟨c,p,f,v,j,x,l⟩=⟨2,Ij,⟨#[]⟩,⟨#[]⟩,⟨#[]⟩,0,0⟩):=by
      show _=_;rw[ab.o,mC,if_pos h9]
     rcases R with⟨A,q⟩|⟨A,q,rfl⟩ <;>
     .go_wp2_with (at_builtin;refine nF _ Q _ _ 22 Q w.heap.size 30 i0 _ 7 88 (Yq.u underlying22) ad af aj ac Q (by decide) _ i _ Q ((HX.o.1.alloc _).alloc _) ⟨wr.heap.size+1,0,N⟩ 1 1 (cf ⟨2,Ij,⟨#[]⟩,⟨#[]⟩,⟨#[]⟩,0,0⟩) Q Q (lB wr _ ⟨2,Ij,⟨#[]⟩,⟨#[]⟩,⟨#[]⟩,0,0⟩ _) (one7 _) (by simp only[n8];omega) (by omega) (by have:=HX.o.2.size;simp;omega) ?_;intro v2 w2 P L _)
      have b2:Below w.heap.size w w2:=((HX.o.2.alloc HX.o.2.size _).alloc (by have:=HX.o.2.size;simp;omega) _).grown L (by have:=HX.o.2.size;simp;omega) (λk e=>(HX.o.1.lt k e).1);refine⟨⟨i+1,by omega,by go_num,?_,b2⟩,by simp[intOf];omega⟩;rw[T.o,F.o];simpa using P
    .have F:Hid (kC d y ⟨c,p,f,v,j,x,l⟩=⟨9,⟨#[]⟩,⟨#[]⟩,⟨#[]⟩,⟨#[]⟩,0,0⟩):=by
      show _=_;rw[ab.o,mC,g6 h9]
     rcases R with⟨A,q⟩|⟨A,q,rfl⟩ <;>
     .go_wp2_with (at_builtin;refine nF _ Q _ _ 22 Q w.heap.size 30 i0 _ 7 88 (Yq.u underlying22) ad af aj ac Q (by decide) _ i _ Q ((HX.o.1.alloc _).alloc _) ⟨wr.heap.size+1,0,N⟩ 1 1 (cf ⟨9,⟨#[]⟩,⟨#[]⟩,⟨#[]⟩,⟨#[]⟩,0,0⟩) Q Q (lB wr _ ⟨9,⟨#[]⟩,⟨#[]⟩,⟨#[]⟩,⟨#[]⟩,0,0⟩ _) (one7 _) (by simp only[n8];omega) (by omega) (by have:=HX.o.2.size;simp;omega) ?_;intro v2 w2 P L _)
      have b2:Below w.heap.size w w2:=((HX.o.2.alloc HX.o.2.size _).alloc (by have:=HX.o.2.size;simp;omega) _).grown L (by have:=HX.o.2.size;simp;omega) (λk e=>(HX.o.1.lt k e).1);refine⟨⟨i+1,by omega,by go_num,?_,b2⟩,by simp[intOf];omega⟩;rw[T.o,F.o];simpa using P
   .have F:Hid (kC d y ⟨c,p,f,v,j,x,l⟩=⟨c,p,f,v,j,x,l⟩):=by
     show _=_;rw[a0.o,g6 t]
    have a6:B=false:=by
     cases B
     .rfl
     .exact eW (Qd Q) t
    subst a6;have R:(d<c/\¬c<=12)\/¬d<c:=by
     by_cases A:d<c
     .exact Qc ⟨A,λh=>t (Qc ⟨A,h⟩)⟩
     .exact Qd A
    clear t z;rcases R with⟨A,q⟩|A <;>
    .go_wp2_with (at_builtin;refine nF _ Q _ _ 22 Q w.heap.size 30 i0 _ 7 88 (Yq.u underlying22) ad af aj ac Q (by decide) _ i _ Q ((HX.o.1.alloc _).alloc _) ⟨wr.heap.size+1,0,N⟩ 1 1 (cf ⟨c,p,f,v,j,x,l⟩) Q Q (lB wr _ ⟨c,p,f,v,j,x,l⟩ _) (one7 _) (by simp only[n8];omega) (by omega) (by have:=HX.o.2.size;simp;omega) ?_;intro v2 w2 P L _)
     have b2:Below w.heap.size w w2:=((HX.o.2.alloc HX.o.2.size _).alloc (by have:=HX.o.2.size;simp;omega) _).grown L (by have:=HX.o.2.size;simp;omega) (λk e=>(HX.o.1.lt k e).1);refine⟨⟨i+1,by omega,by go_num,?_,b2⟩,by simp[intOf];omega⟩;rw[T.o,F.o];simpa using P
  .have a5:i=n:=by omega
   subst a5;have HT:Hid (m.take i=m):=tO (by rw[<-HS.o.2];exact lR _);have HO:Hid (wr.ownsRow w.heap.size 30 7 (M va i vc) i ((dv d (m.take i)).flatMap cf)/\Below w.heap.size w wr):=⟨s,D⟩;clear s D;go_wp2;go_ret;refine⟨_,Q,?_,HO.o.2⟩;have:=HO.o.1;rw[HT.o]at this;exact this
def Lw(a:mu)(v:Wx):Wx:=Qa #[I K a.code,I K a.MG,U a.body,v,U a.tok]
def cK(B k:H)(h:St)(L':Lg)(Zq:S SvE->Prop)(s:H)(w:Wj)(e:Ending)(w':Wj):Prop:=
 e=Nm (C Y)/\∃b R' a c P' T' f d Z',aA B w' k b R' a c/\aD B w' k P' T' f d/\Sim h R' a/\eY L' P' T' c (s+1)/\PFw B k w w'/\Zq Z'/\dh B w' k Z' (RwB b R')
theorem cK.mk{B k}{i:gI}{e}{L'}{Zq:S SvE->Prop}{a}{s}{w w'}{j d}{R R'}{c:gI}{P'}{T'}{h f}(t:dh B w k a (RwB j R))(m:Zq a)(q:aA B w' k d R' c i)(o:aD B w' k P' T' h f)(r:Sim e R' c)(p:eY L' P' T' i (s+1))(l:PFr B k (RwB j R) w w')(n:∀b,b<w.heap.size->RwB d R' b->RwB j R b):cK B k e L' Zq s w (Nm (C Y)) w':=⟨Q,d,R',c,i,P',T',h,f,a,q,o,r,p,l.toPFw,m,t.Mr l n⟩
theorem Ch{b}{L'}w o(q:o.kind=6\/o.kind=7)(l:gI)n(a:jp)
  (HL:∀W,Below w.heap.size w W->Calls Yq.prog 28 #[O (J ⟨k,0,N⟩),aJ o,Qa #[I K l,I K 0,U ⟨#[]⟩,n,U a]] W λe r=>cK B k b L' Zq s w e r):
  Calls Yq.prog 9 #[O (J ⟨k,0,N⟩),aJ o,Qa #[I K l,I K 0,U ⟨#[]⟩,n,U a]] w (cK B k b L' Zq s w):=by
 obtain⟨f,j,d,v,c,t,p⟩:=o;unfold aJ at HL ⊢;have i:=HL ((w.alloc (E #[I K f,U j,U d,U v,U c,I K t,I K p] 30)).alloc (E #[I K l,I K 0,U ⟨#[]⟩,n,U a] 46)) (((bR _ w).alloc (lR _) _).alloc (by simp) _);rcases q with rfl|rfl <;>
 .go_enter (Yq.nq func9),ntmps9;go_wp2_with fail
  refine i.m ?_;rintro e u ⟨rfl,h⟩;have HE:Hid (cK B k b L' Zq s w (Nm (C Y)) u):=⟨Q,h⟩;go_wp2_with fail
  go_ret;exact HE.o
theorem E9{l vL vT}{R}{D r:gI}{P}{T}{d}{L}w(a:aA B w k l R D r)(hP:aD B w k P T vL vT)(x:B<=k)(b:Sim d R D)(SL:eY L P T r s){c}(hz:dh B w k c (RwB l R))(hq:Zq c)(hV:Inv d s)(u:d.last<=s)(hT:eH d)(hs:s<2199023255300)o(hk:o.kind<8\/12<o.kind)(hd:o.eQ.size<=140737488351232)Mq G
  (z:∀q,PFr B k (RwB l R) w q->g8 q G (Mu d L Mq o).2.2.items):
  Calls Yq.prog 9 #[O (J ⟨k,0,N⟩),aJ o,Lw (Mu d L Mq o).2.2 G] w (cK B k (Mu d L Mq o).1 (Mu d L Mq o).2.1 Zq s w):=by
 have v:=hP.lt;by_cases y:o.kind=6\/o.kind=7
 .obtain ⟨p,ac,aa,e⟩:∃p,(o.kind==6)=!p/\(o.kind==7)=p/\Mu d L Mq o=(d,(fw L d.f ⟨p,o.key,o.eQ,o.past⟩ o.n).1,Ep (fw L d.f ⟨p,o.key,o.eQ,o.past⟩ o.n)):=by
   rcases y with h|h
   .exact ⟨Z,by simp[h],by simp[h],by simp[Mu,h]⟩
   .exact ⟨Y,by simp[h],by simp[h],by simp[Mu,h]⟩
  rw[e]at z ⊢;obtain⟨L',pg,i,F,hB⟩:∃L' pg i F,fw L d.f ⟨p,o.key,o.eQ,o.past⟩ o.n=(L',pg,i,F):=⟨_,_,_,_,Q⟩;rw[hB]at z ⊢;refine Ch w o y F G i λW j=>?_
  refine(yU W (a.below j) (hP.below j) x b SL hV hT hs o p ac aa hd L' pg i F hB G (λq hf=>z q ((PFr.below v j).t hf))).m ?_;rintro e q ⟨rfl,P',T',vL',vT',h1,V,A,h4⟩;exact cK.mk hz hq h1 V b A ((PFr.below v j).t h4) (λ_ _ h=>h)
 .have e:Mu d L Mq o=((aE d o).1,L,⟨(aE d o).2.code,(aE d o).2.MG,(aE d o).2.body,[],⟨#[]⟩⟩):=by
   simp[Mu,g6 (show¬o.kind=6 by omega),g6 (show¬o.kind=7 by omega),g6 (show¬o.kind=8 by omega),g6 (show¬o.kind=9 by omega),g6 (show¬o.kind=10 by omega),g6 (show¬o.kind=11 by omega)]
  rw[e]at z ⊢;obtain⟨ia,ic,X,-⟩:=(z w PFr.refl).form;subst X;have ad:Low d s:=⟨hV.MN,u⟩;have ab:B<=w.heap.size:=by omega
  have af:Calls Yq.prog 9 #[O (J ⟨k,0,N⟩),aJ o,gC (aE d o).2 ia ic] w (wP B k (aE d o).1 w l R r):=by
   by_cases h:1<=o.kind/\o.kind<=5
   .exact yR B k l R D r _ o _ ia ic w a h (λw1 j=>B8 B k l R D r d s o w1 (a.below j) b ad (by omega) (lT ab j.size) h)
   .have e:aE d o=(d,⟨1,0,⟨#[]⟩⟩):=by
     unfold aE
     grind
    rw[e];exact yS B k l R D r d o ia ic w a b (by omega)
  refine af.m ?_;rintro e q ⟨rfl,sl',R',nx',h1,V,A⟩;exact cK.mk hz hq h1 (hP.frame a A) V (SL.m (by omega)) (PFr.ofR x a A) A.own
structure qL (w:Wj)(k:H)(vA:Wx)(Mq:S jp):Prop where
 c7:w.cell? ⟨k,7,N⟩=J vA
 form:∃a cap,vA=M a Mq.length cap/\(Mq≠[]->∃g,a=J ⟨g,0,N⟩/\g<w.heap.size/\∀i (hi:i<Mq.length),w.cell? ⟨g,i*5+4,N⟩=J (U Mq[i]))
theorem qL.on{w w'}{f}{Mq}(h:qL w k f Mq)(d:Below w.heap.size w w'):qL w' k f Mq:=by
 have⟨a,c,e,o⟩:=h.form;refine⟨ag d h.c7,a,c,e,λb=>?_⟩;have⟨g,l,j,m⟩:=o b;exact⟨g,l,lL j d.size,λi n=>ag d (m i n)⟩
theorem Lx{w:Wj}{c:Wx}{b:S (mu×Wx)}(n:w.cell? ⟨k,7,N⟩=J c)(h:w.ownsRow B 46 5 c i (bu (b.take i)))(hi:i<=b.length):qL w k c ((b.take i).map (·.1.tok)):=by
 have m:((b.take i).map (·.1.tok)).length=i:=by grind
 obtain⟨a,f,rfl,-⟩:=az h;refine⟨n,a,f,by rw[m],λhne=>?_⟩;have l:0<i:=by
  grind
 obtain⟨g,cap',e,-,o,-⟩:=cq h l;cases e;refine⟨g,Q,o,λj hj=>?_⟩;have d:j<(b.take i).length:=by grind
 have:=(jI (b.take i) j d).2.2.2.2;rw[h.cellAt _ (by omega),this];simp
theorem Mo{w w' l}{X}{sl r G F}{R}{nx V:gI}{P}{T}{f}{xs ys}(c:aA B w' k sl R nx V)(hP:aD B w' k P T G F)(hB:B<=w'.heap.size)(D:B<=k)(z:Below B w w')(c7:w'.cell? ⟨k,7,N⟩=J r)(n:w'.ownsRow B 46 5 r i xs)(m:r.ownBlock≠J k)
  (A:l.ownsRow B 46 5 (M (J ⟨g,0,N⟩) (i+1) f) (i+1) ys) (q:(w'.alloc X).grownBy l r.ownBlock) (hgg:r.ownBlock=J g\/g=w'.heap.size+1):
  aA B (l.setCell ⟨k,7,N⟩ (M (J ⟨g,0,N⟩) (i+1) f)) k sl R nx V/\aD B (l.setCell ⟨k,7,N⟩ (M (J ⟨g,0,N⟩) (i+1) f)) k P T G F/\(l.setCell ⟨k,7,N⟩ (M (J ⟨g,0,N⟩) (i+1) f)).cell? ⟨k,7,N⟩=J (M (J ⟨g,0,N⟩) (i+1) f) /\
   (l.setCell ⟨k,7,N⟩ (M (J ⟨g,0,N⟩) (i+1) f)).ownsRow B 46 5 (M (J ⟨g,0,N⟩) (i+1) f) (i+1) ys/\(lj (J ⟨g,0,N⟩) (i+1) f).ownBlock≠J k/\Below B w (l.setCell ⟨k,7,N⟩ (M (J ⟨g,0,N⟩) (i+1) f)):=by
 have hk:=c.lt;have x:g≠k:=by
  grind
 have o:Below w'.heap.size w' (w'.alloc X):=(bR _ _).alloc (lR _) X;have Pa:=hP.below o;have t:∀b,r.ownBlock=J b->TyB (w'.alloc X) b 46:=λb z=>fA (n.alloc X) z
 have H3:=(c.below o).other q m t (by decide) (by decide);have c3:=q.cell (ag o c7) (λe=>m e.s);have ob:(lj (J ⟨g,0,N⟩) (i+1) f).ownBlock≠J k:=by simpa[kr]using x
 have u:=λj=>cB (a:=⟨k,j,N⟩) (q.block k Pa.lt (λe=>m e.s))
 have P3:=Pa.Mr (u 3) (u 4) (λj=>fB (a:=⟨k,j,N⟩) (q.block k Pa.lt (λe=>m e.s))) λb d _ L hU=>q.block b L.lt λe=>by
  have:=(t b e.s).ne L
  grind
 have v:∀j,j≠7->(l.setCell ⟨k,7,N⟩ (M (J ⟨g,0,N⟩) (i+1) f)).cell? ⟨k,j,N⟩=l.cell? ⟨k,j,N⟩:=λj hj=>cO l ⟨k,7,N⟩ ⟨k,j,N⟩ _ (λe=>by have:=gL Addr.off e;simp only at this;omega)
 refine⟨H3.MV 7 _ (by omega),P3.Mr (v 3 (by omega)) (v 4 (by omega)) (λj=>by simp) (λb d y _ _=>bS _ _ _ _ y),cs c3,iY A ob 7 _,ob,?_⟩;exact((z.alloc hB X).grown q (by simp;omega) (λb e=>(n.lt b e).1)).setCell (p:=⟨k,7,N⟩) D _
theorem Mp{w w'}{X}{m}{p}{xs}{a}{Lv:H->Prop}(x:k<w.heap.size)(j:w.ownsRow B 46 5 m i xs)(n:m.ownBlock≠J k)(v:(w.alloc X).grownBy w' m.ownBlock)(h:dh B w k a Lv):dh B (w'.setCell ⟨k,7,N⟩ (M (J ⟨g,0,N⟩) (i+1) p)) k a Lv:=by
 have d:Below w.heap.size w (w.alloc X):=(bR _ _).alloc (lR _) X;have r:∀b,m.ownBlock=J b->TyB (w.alloc X) b 46:=λb q=>fA (j.alloc X) q
 have hsz:=d.size;refine h.O0 (((cO w' ⟨k,7,N⟩ ⟨k,5,N⟩ _ (λe=>by have:=gL Addr.off e;simp only at this;omega)).t (cB (v.block k (by omega) (λe=>n e.s)))).t (cB (d.block k x))) (λb c q u hU=>?_) (λ_ _ h=>h);have l:=u.lt;refine((bS _ _ _ _ q).t (v.block b (by omega) λe=>?_)).t (d.block b l);have:=(r b e.s).ne (u.same (d.block b l))
 grind
theorem Il(b bk ca ga:H)(r:S OpD)(q:S (mu×Wx))(D:H->St×Lg)(Zr:H->S SvE->Prop)(w:Wj)(hS:j3 w b bk r)(bn:r.length*88<=140737488351232)(bo:q.length=r.length)(hA:∀j,j<r.length*5->w.cell? ⟨ga,j,N⟩=(bu q)[j]?)(hv:∀z∈q,∃a n c,z.2=M a n c)(h0:D 0=(st0,⟨[],0,[],0⟩))(b8:Zr 0 [])
  (ap:∀ (i:H) (hi:i<r.length) (b3:i<q.length) (W:Wj) {sl vL vT:Wx} {R:S bg} {nx tm:gI} {P:S PlL} {T:S PlT},Below w.heap.size w W->aA w.heap.size W w.heap.size sl R nx tm->aD w.heap.size W w.heap.size P T vL vT->Sim (D i).1 R nx->eY (D i).2 P T tm i->∀ {d:S SvE},Zr i d->dh w.heap.size W w.heap.size d (RwB sl R)->∀ {vA:Wx},qL W w.heap.size vA ((q.take i).map (·.1.tok)) ->
   Calls Yq.prog 9 #[O (J ⟨w.heap.size,0,N⟩),aJ r[i],Lw q[i].1 q[i].2] W (cK w.heap.size w.heap.size (D (i+1)).1 (D (i+1)).2 (Zr (i+1)) i W)):
  Calls Yq.prog 7 #[M (J ⟨b,bk,N⟩) r.length ca,M (J ⟨ga,0,N⟩) r.length r.length] w λe w'=>e=Nm (C Y)/\Below w.heap.size w w':=by
 have⟨i0,b7,b9,cb,b4⟩:=pt Yq.NU;obtain⟨n,a5⟩:∃n,r.length=n:=⟨_,Q⟩;have HN:Hid (r.length=n/\j3 w b bk r/\q.length=n/\(∀j,j<n*5->w.cell? ⟨ga,j,N⟩=(bu q)[j]?)/\∀z∈q,∃a n c,z.2=M a n c):=⟨a5,hS,by rw[<-a5];exact bo,by rw[<-a5];exact hA,hv⟩;have b5:Hid (∀ (i:H) (hi:i<r.length) (b3:i<q.length) (W:Wj) {sl vL vT:Wx} {R:S bg} {nx tm:gI} {P:S PlL} {T:S PlT},Below w.heap.size w W->aA w.heap.size W w.heap.size sl R nx tm->aD w.heap.size W w.heap.size P T vL vT->Sim (D i).1 R nx->eY (D i).2 P T tm i->∀ {d:S SvE},Zr i d->dh w.heap.size W w.heap.size d (RwB sl R)->∀ {vA:Wx},qL W w.heap.size vA ((q.take i).map (·.1.tok)) ->
   Calls Yq.prog 9 #[O (J ⟨w.heap.size,0,N⟩),aJ r[i],Lw q[i].1 q[i].2] W (cK w.heap.size w.heap.size (D (i+1)).1 (D (i+1)).2 (Zr (i+1)) i W)):=ap
 rw[a5]at bn ⊢;clear a5 hS bo hA hv ap;go_enter (Yq.nq func7),ntmps7;go_wp2_with fail
 go_loopw [6] (λs6 wr=>∃ (i:H) (sl:Wx) (R:S bg) (nx tm:gI) (P:S PlL) (T:S PlT) (vL vT vA:Wx),i<=n/\s6=I K i/\aA w.heap.size wr w.heap.size sl R nx tm/\aD w.heap.size wr w.heap.size P T vL vT/\Sim (D i).1 R nx/\(eY (D i).2 P T tm i/\∃d,Zr i d/\dh w.heap.size wr w.heap.size d (RwB sl R))/\wr.cell? ⟨w.heap.size,7,N⟩=J vA /\
  wr.ownsRow w.heap.size 46 5 vA i (bu (q.take i))/\vA.ownBlock≠J w.heap.size/\Below w.heap.size w wr) (λs6 _=>n-(intOf s6).toNat)
 case atStart=>
  refine⟨0,M N 0 0,[],1,0,[],[],M N 0 0,M N 0 0,M N 0 0,Nat.zero_le _,Q,?_,?_,?_,?_,?_,ey _ _ _ _,by simp[kr],(bR _ _).alloc (lR _) _⟩
  .refine ⟨⟨?_,?_,?_,λj=>eV (w:=w) _ _ w.heap.size j Q⟩,ey _ _ _ _,λe he=>eW he dT,by simp[kr],λe he=>eW he dT,λe he=>eW he dT,List.Pairwise.nil⟩
   .rw [cA (w:=w) _ _ w.heap.size 0 Q];rfl
   .rw [cA (w:=w) _ _ w.heap.size 1 Q];rfl
   .rw [cA (w:=w) _ _ w.heap.size 2 Q];rfl
  .refine ⟨?_,?_,λj=>eV (w:=w) _ _ w.heap.size j Q,ey _ _ _ _,ey _ _ _ _,λl hl=>eW hl dT,by simp[kr],by simp[kr],λl hl=>eW hl dT⟩
   .rw [cA (w:=w) _ _ w.heap.size 3 Q];rfl
   .rw [cA (w:=w) _ _ w.heap.size 4 Q];rfl
  .rw [h0];exact⟨Q,λe he=>eW he dT,List.Pairwise.nil,λe he=>eW he dT,λ_ _=>Q,Q,by simp[totR]⟩
  .refine ⟨by rw[h0];exact L0,[],b8,⟨M N 0 0,?_,ey _ _ _ _,by simp[kr]⟩,λz hz=>eW hz dT,λz hz=>eW hz dT,λz hz=>eW hz dT⟩;rw[cA (w:=w) _ _ w.heap.size 5 Q];rfl
  .rw [cA (w:=w) _ _ w.heap.size 7 Q];rfl
 case round=>
  obtain⟨i,sl,R,nx,tm,P,T,vL,vT,vA,hin,rfl,f,hP,k,SL,c7,ai,B,hb⟩:=hrel;obtain⟨SL,d,bb,hz⟩:=SL;obtain⟨va,vc,rfl,-⟩:=az ai;by_cases bv:i<n
  .have bt:i<r.length:=by rw[HN.o.1];exact bv
   have a7:i<q.length:=by rw[HN.o.2.2.1];exact bv
   have⟨c0,c1,c2,c3,c4,c5,c6⟩:=HN.o.2.1 i bt;replace c0:=ag hb c0;replace c1:=ag hb c1;replace c2:=ag hb c2;replace c3:=ag hb c3;replace c4:=ag hb c4;replace c5:=ag hb c5;replace c6:=ag hb c6;have⟨z0,z1,z2,z3,z4⟩:=jI q i a7;have a0:=(HN.o.2.2.2.1 _ (by omega)).t z0;have a1:=(HN.o.2.2.2.1 _ (by omega)).t z1;have a2:=(HN.o.2.2.2.1 _ (by omega)).t z2;have a3:=(HN.o.2.2.2.1 _ (by omega)).t z3;have a4:=(HN.o.2.2.2.1 _ (by omega)).t z4;obtain⟨za,zn,zc,bp⟩:=HN.o.2.2.2.2 _ (List.getElem_mem a7);have cd:w.heap.size<=wr.heap.size:=hb.size;have ap:=b5.o i bt a7 wr.drew (hb.drew) (f.below (bR _ _).drew) (hP.below (bR _ _).drew) k SL bb (hz.Mr (PFr.below f.lt (bR _ _).drew) (λ_ _ h=>h)) ((Lx c7 ai (by omega)).on (bR _ _).drew);have e1:bu (q.take (i+1))=bu (q.take i)++[I K q[i].1.code,I K q[i].1.MG,U q[i].1.body,q[i].2,U q[i].1.tok]:=by rw[tS a7,qn]
   rw[bp]at a3 e1 ap;generalize q[i].1=ch at *;generalize r[i]=o at *;obtain⟨kind,key,body,eQ,past,nn,src⟩:=o;obtain⟨ac,av,ab,ait,G⟩:=ch;simp only at c0 c1 c2 c3 c4 c5 c6 a0 a1 a2 a4 e1;have HE:Hid (bu (q.take (i+1))=bu (q.take i)++[I K ac,I K av,U ab,M za zn zc,U G]):=e1;have b2:Hid (w.cell? ⟨ga,i*5,N⟩=J (I K ac)/\w.cell? ⟨ga,i*5+1,N⟩=J (I K av)/\w.cell? ⟨ga,i*5+2,N⟩=J (U ab)/\w.cell? ⟨ga,i*5+3,N⟩=J (M za zn zc)/\w.cell? ⟨ga,i*5+4,N⟩=J (U G)):=⟨a0,a1,a2,a3,a4⟩;replace a0:=ag hb a0;replace a1:=ag hb a1;replace a2:=ag hb a2;replace a3:=ag hb a3;replace a4:=ag hb a4;have HX:Hid (wr.cell? ⟨w.heap.size,7,N⟩=J (M va i vc)/\wr.ownsRow w.heap.size 46 5 (M va i vc) i (bu (q.take i))/\(lj va i vc).ownBlock≠J w.heap.size/\Below w.heap.size w wr):=⟨c7,ai,B,hb⟩;have hii:(i:gI)<(n:gI):=by omega
   clear f hP k SL bb hz c7 ai B hb e1 z0 z1 z2 z3 z4 bp;unfold Lw aJ at ap;simp only at ap;generalize bx:(D (i+1)).1=a8 at *;generalize bw:(D (i+1)).2=L' at *;have b1:Hid ((D (i+1)).1=a8/\(D (i+1)).2=L'):=⟨bx,bw⟩;clear bx bw
   go_upto_region 7 with fail
   go_cut [7] (λs7 wx=>s7=C Y/\∃A R' y x P' T' ad aa,aA w.heap.size wx w.heap.size A R' y x/\aD w.heap.size wx w.heap.size P' T' ad aa/\Sim a8 R' y/\eY L' P' T' x (i+1)/\PFw w.heap.size w.heap.size wr wx/\∃Z',Zr (i+1) Z'/\dh w.heap.size wx w.heap.size Z' (RwB A R'))
   case first=>
    go_region_with (go_at_call 9;refine ap.m ?_;rintro e w2 ⟨rfl,A,R',y,x,P',T',ad,aa,Z',H',P1',S',SL',F,ar,a6⟩;have HZ:Hid (∃A R' y x P' T' ad aa,aA w.heap.size w2 w.heap.size A R' y x/\aD w.heap.size w2 w.heap.size P' T' ad aa/\Sim a8 R' y/\eY L' P' T' x (i+1)/\PFw w.heap.size w.heap.size wr w2/\∃Z',Zr (i+1) Z'/\dh w.heap.size w2 w.heap.size Z' (RwB A R')):=⟨A,R',y,x,P',T',ad,aa,H',P1',S',SL',⟨F.os,F.tape,F.output,F.size,F.low,F.OO,F.cells,F.frozen⟩,Z',ar,a6⟩;clear H' P1' S' SL' F ar a6)
    all_goals
     go_wp2_with fail
     go_meet
     case rel=>exact⟨Q,HZ.o⟩
   case rest=>
   obtain⟨rfl,A,R',y,x,P',T',ad,aa,H',P1,S',SL',F,Z',ar,a6⟩:=hcut;have B:=HX.o.2.2.1;have L:wc.ownsRow w.heap.size 46 5 (M va i vc) i (bu (q.take i)):=bI HX.o.2.1 λg hg=>F.OO g (λe=>B (e▸hg)) (fA HX.o.2.1 hg)
   have a9:wc.cell? ⟨w.heap.size,7,N⟩=J (M va i vc):=(F.cells 7 (by omega)).t HX.o.1;have cj:wc.frozen? ⟨w.heap.size,7,N⟩=false:=P1.fz 7;have al:Below w.heap.size w wc:=F.to HX.o.2.2.2 cd;have cc:w.heap.size<=wc.heap.size:=al.size;have⟨d0,d1,d2,d3,d4⟩:=b2.o;replace d0:=ag al d0;replace d1:=ag al d1;replace d2:=ag al d2;replace d3:=ag al d3;replace d4:=ag al d4;have bl:Hid (∀X:Obj,(wc.alloc X).ownsRow w.heap.size 46 5 (M va i vc) i (bu (q.take i))):=λX=>L.alloc X
   have be:Hid (∀V:Wj,(wc.alloc (E #[I K ac,I K av,U ab,M za zn zc,U G] 46)).grownBy V (lj va i vc).ownBlock->V.cell? ⟨w.heap.size,7,N⟩=J (M va i vc)/\V.frozen? ⟨w.heap.size,7,N⟩=Z):=λV aj=>by
    have b0:Below wc.heap.size wc (wc.alloc (E #[I K ac,I K av,U ab,M za zn zc,U G] 46)):=(bR _ _).alloc (lR _) _;refine⟨aj.cell (ag b0 a9) (λe=>B e.s),?_⟩;rw[bj aj ⟨w.heap.size,7,N⟩ (by have:=H'.lt;simp;omega) (λe=>B e.s)];exact(b0.frozen (p:=⟨w.heap.size,7,N⟩) H'.lt).t cj
   have bq:Hid (∀ (g v:H) (V:Wj),V.ownsRow w.heap.size 46 5 (M (J ⟨g,0,N⟩) (i+1) v) (i+1) (bu (q.take i)++[I K ac,I K av,U ab,M za zn zc,U G])->(wc.alloc (E #[I K ac,I K av,U ab,M za zn zc,U G] 46)).grownBy V (lj va i vc).ownBlock->((lj va i vc).ownBlock=J g\/g=wc.heap.size+1) ->
     ∃v',aA w.heap.size (V.setCell ⟨w.heap.size,7,N⟩ (M (J ⟨g,0,N⟩) (i+1) v)) w.heap.size A R' y x/\aD w.heap.size (V.setCell ⟨w.heap.size,7,N⟩ (M (J ⟨g,0,N⟩) (i+1) v)) w.heap.size P' T' ad aa/\(V.setCell ⟨w.heap.size,7,N⟩ (M (J ⟨g,0,N⟩) (i+1) v)).cell? ⟨w.heap.size,7,N⟩=J v' /\
      (V.setCell ⟨w.heap.size,7,N⟩ (M (J ⟨g,0,N⟩) (i+1) v)).ownsRow w.heap.size 46 5 v' (i+1) (bu (q.take (i+1)))/\v'.ownBlock≠J w.heap.size/\Below w.heap.size w (V.setCell ⟨w.heap.size,7,N⟩ (M (J ⟨g,0,N⟩) (i+1) v))/\∃Z',Zr (i+1) Z'/\dh w.heap.size (V.setCell ⟨w.heap.size,7,N⟩ (M (J ⟨g,0,N⟩) (i+1) v)) w.heap.size Z' (RwB A R')):=λg v V bi aj bd=>by
    obtain⟨q1,q2,q3,q4,q5,q6⟩:=Mo H' P1 cc (lR _) al a9 L B bi aj bd;refine⟨_,q1,q2,q3,?_,q5,q6,Z',ar,Mp H'.lt L B aj a6⟩;rw[HE.o];exact q4
   have bs:Hid (Sim a8 R' y/\eY L' P' T' x (i+1)):=⟨S',SL'⟩;have c7a:(wc.alloc (E #[I K ac,I K av,U ab,M za zn zc,U G] 46)).cell? ⟨w.heap.size,7,N⟩=J (M va i vc):=ag ((bR _ _).alloc (lR _) _) a9;clear H' P1 S' SL' F ar a6 L al ap c0 c1 c2 c3 c4 c5 c6 a0 a1 a2 a3 a4 B
   go_upto_region 10 with fail
   go_region_law (refine step_append_lies _ Q _ _ 26 Q w.heap.size 46 i0 _ 5 72 (Yq.u underlying26) b7 b9 cb b4 Q (by decide) (M va i vc) i (bu (q.take i)) (by simp[Act.eval]) (bl.o _) ⟨wc.heap.size,0,N⟩ 1 1 [I K ac,I K av,U ab,M za zn zc,U G] (by simp[Act.eval]) Q (rF wc _ _ _ _ _ _) (by simp[Value.oneCell']) (by omega) (by simp only[n8];omega) (by omega) (by simp;omega) (wc.heap.size+1) (by simp) ?_;intro g v V bi af bd hlt3;have aj:(wc.alloc (E #[I K ac,I K av,U ab,M za zn zc,U G] 46)).grownBy V (lj va i vc).ownBlock:=⟨af.os,af.tape,af.output,af.size,af.block⟩;have⟨y0,y1⟩:=be.o V aj)
   all_goals
    go_wp2_with fail
    have⟨v',Q1,Q2,Q3,Q4,Q5,Q6,Q7⟩:=bq.o g v V bi aj bd;refine⟨⟨i+1,A,R',y,x,P',T',ad,aa,v',by omega,by go_num,Q1,Q2,?_,?_,Q3,Q4,Q5,Q6⟩,by simp[intOf];omega⟩
    .rw [b1.o.1];exact bs.o.1
    .exact ⟨by rw[b1.o.2];exact bs.o.2,Q7⟩
  .have b6:i=n:=by omega
   subst b6;clear f hP k SL bb hz c7 ai B;go_wp2;go_ret;exact⟨Q,hb⟩
end
