/- A part. -/
import Derived.Test.YthnlbojplkflaaaGreatDoorQP16
import Derived.Test.YthnlbojplkflaaaGreatDoorQP13
import Derived.Test.YthnlbojplkflaaaGreatDoorQP14
set_option maxHeartbeats 4000000
set_option maxRecDepth 100000
open _root_ renaming Int->dT,absurd->ey,congrArg->eV,if_neg->eW,ByteArray->gI,if_pos->gL
open List renaming not_mem_nil->kr,map_map->lj,filter_map->lk,mem_of_getElem?->nF,mem_singleton->n8,pairwise_iff_getElem->pt,getElem_mem->sq,filter_congr->sT,ext_getElem->tb,mem_append->tn,mem_map->uc,map_set->vf,map->vx
open Go.World renaming ownsRow_nil->wz,frozen?_alloc_at->xb
open Go.Value renaming ownBlock->xc,slice->xt,bool->xv,oneCell'->yz
open Go renaming wpList_append_own->Rj,step_append_lies->Rk,info_parts->Rl,maxLen->Rm
open Go renaming World->Wj,Value->Wx,Addr->Wu
namespace Go.Proofs.Qw
open _root_ renaming rfl->Q
open Go.Proofs.Yq renaming prog->Vp
open _root_ renaming Nat->H,List->S
open Option renaming none->N,some->J
open Bool renaming true->Y,false->Z
open Value renaming int->I,string->U,slice->M,pointer->O,bool->C,agg->Rd
open IntKind renaming i64->K
open Obj renaming cells->E
open Ending renaming returned->Rc
open Or renaming inl->Rf,inr->Rg
variable {B g i k s:H}{st:St}{L:Lg}{Zq:S SvE->Prop}{f sl vL vT:Wx}{R:S bz}{a d nx:dT}{P:S PlL}{T:S PlT}{w w':Wj}
open Tryz
section
open Go.RowKit
def Jg:gI:=⟨#[110,111,110,101]⟩
def ly(l:S OpD)(o:OpD):Bool:=decide (o.kind=12/\(o.src<0\/(l.length:dT)<=o.src\/(l[o.src.toNat]?.map (·.kind))≠J 11))
def mX(a:dT):OpD:=if a<9 then⟨2,Jg,⟨#[]⟩,⟨#[]⟩,⟨#[]⟩,0,0⟩else⟨9,⟨#[]⟩,⟨#[]⟩,⟨#[]⟩,⟨#[]⟩,0,0⟩
def ll(a:dT)(l:S OpD)(o:OpD):OpD:=if(a<o.kind/\o.kind<=12)\/ly l o=Y then mX a else o
def dS(a:dT)(ops:S OpD):S OpD:=ops.foldl (λl o=>l++[ll a l o]) []
theorem sW(b:dT)a o:dS b (a++[o])=dS b a++[ll b (dS b a) o]:=by simp[dS]
theorem mY(b:dT)a:(dS b a).length=a.length:=by
 have:∀ (a l:S OpD),(a.foldl (λl o=>l++[ll b l o]) l).length=l.length+a.length:=λa=>by
  induction a with
  |nil=>intro l;rfl
  |cons o r ih=>intro l;rw[List.foldl_cons,ih];simp;omega
 rw[dS,this];simp
theorem mj(w:Wj)(X:Obj)(o:OpD)(T:TypeId):∀j u,(aK o)[j]?=J u->((w.alloc X).alloc (E #[I K o.kind,U o.key,U o.body,U o.fe,U o.past,I K o.n,I K o.src] T)).cell? ((⟨w.heap.size+1,0,N⟩:Wu).add j)=J u:=by
 intro j u a;have:=CC (w.alloc X) o T j u a
 simp_all
theorem Bh(d:dT)a n a1 p w(h:jD w (M a n a1) p)(hn:n*88<=140737488351232):
  Calls Vp 4 #[M a n a1,I K d] w λe w'=>∃v',e=Rc v'/\w'.ownsRow w.heap.size 37 7 v' n ((dS d p).flatMap aK)/\Below w.heap.size w w':=by
 have⟨i0,ad,af,ai,ac⟩:=Rl Yq.OY;have a3:n=p.length:=by
  have⟨a',a0,he,_⟩:=h.form;cases he;rfl
 have HS:=bJ h a3;clear h a3;go_enter (Yq.nq func4),ntmps4;go_wp2_with fail
 go_loopw [5,6] (λs3 s4 wr=>∃i:H,i<=n/\s4=I K i/\wr.ownsRow w.heap.size 37 7 s3 i ((dS d (p.take i)).flatMap aK)/\Below w.heap.size w wr) (λ_ s4 _=>n-(intOf s4).toNat)
 case atStart=>exact⟨0,Q8,Q,wz _ _ _ _,Q9⟩
 case round=>
  obtain⟨i,hin,rfl,s,B⟩:=hrel;obtain⟨va,vc,rfl,-⟩:=ao s;by_cases a6:i<n
  .have T:i<p.length:=by rw[<-HS.o.2];exact a6
   have⟨a',a0,he,hx⟩:=HS.o.1.form;have⟨b,off,ha,al⟩:=hx (by intro e;rw[e]at T;simp at T);subst ha;cases he;have⟨c0,c1,c2,c3,c4,c5,c6⟩:=al i T;replace c0:=ag B c0;replace c1:=ag B c1;replace c2:=ag B c2;replace c3:=ag B c3;replace c4:=ag B c4;replace c5:=ag B c5;replace c6:=ag B c6;have ar:(dS d (p.take i)).length=i:=by rw[mY,tL];omega
   have R:Hid ((dS d (p.take (i+1))).flatMap aK=(dS d (p.take i)).flatMap aK++aK (ll d (dS d (p.take i)) p[i])):=show _=_ by
    rw[tS T,sW,List.flatMap_append];simp
   have a2:Hid (∀r:H,r<i->∃kk:dT,∃g,(dS d (p.take i))[r]?.map (·.kind)=J kk/\va=J ⟨g,0,N⟩/\wr.cell? ⟨g,r*7,N⟩=J (I K kk)):=by
    intro r t;rcases s.2 with⟨he,h0⟩|⟨g,cap1,cur,he,hbg,hg,hnc,hcm,hcs,htake⟩
    .omega
    .cases he;refine⟨((dS d (p.take i))[r]'(by omega)).kind,g,by rw[eL (by omega)];rfl,Q,?_⟩;have:=fv (dS d (p.take i)) r 0 (by omega) (by omega);have h2:=s.cellAt (r*7+0) (by omega);rw[this]at h2;simpa[aK]using h2
   have a7:=aq ar;clear ar;generalize p[i]=o at *;obtain⟨c,m,f,x,j,v,l⟩:=o;simp only at c0 c1 c2 c3 c4 c5 c6 R;have HX:=bJ s B;clear s B al hx;generalize dS d (p.take i)=z at *
   go_upto_region 6 with fail
   have V:∀X,X=ly z ⟨c,m,f,x,j,v,l⟩↔(X=Y↔c=12/\(l<0\/(i:dT)<=l\/(z[l.toNat]?.map (·.kind))≠J 11)):=λX=>by
    unfold ly;rw[a7.o];cases X<;>simp
   go_cut [8] (λs8 wx=>s8=C (ly z ⟨c,m,f,x,j,v,l⟩)/\wx=wr.alloc (E #[I K c,U m,U f,U x,U j,I K v,I K l] 37))
   case first=>
    have F:=aq V;generalize ly z ⟨c,m,f,x,j,v,l⟩=ln at *;clear V;by_cases q:c=12
    .subst q;by_cases h1:l<0
     .go_wp2_with fail
      go_meet
      case rel=>exact⟨eV xv ((F.o _).2 ⟨λ_=>⟨by first|trivial|rfl,Rf h1⟩,λ_=>Q⟩),Q⟩
     .by_cases h2:(i:dT)<=l
      .go_wp2_with fail
       go_meet
       case rel=>exact⟨eV xv ((F.o _).2 ⟨λ_=>⟨by first|trivial|rfl,Rg (Rf h2)⟩,λ_=>Q⟩),Q⟩
      .obtain ⟨r,t⟩:∃r:H,l=(r:dT):=⟨l.toNat,by omega⟩;subst t;have⟨kk,g,ap,hg,ck⟩:=a2.o r (by omega);subst hg;have ck':=ag ((bR wr.heap.size wr).alloc Q0 (E #[I K 12,U m,U f,U x,U j,I K v,I K r] 37)) ck;have hri:(r:dT)<(i:dT):=by omega
       have aj:=aq ap;clear ck ap;by_cases aa:kk=11
       .subst aa;go_wp2_with fail
        go_meet
        case rel=>
         refine⟨eV xv ((F.o _).2 ⟨λh=>(by cases h),λh=>?_⟩),Q⟩;rcases h.2 with h|h|h
         .omega
         .omega
         .exact ey aj.o h
       .have h11':(kk==11)=false:=by simp[aa]
        have H11:Hid ((kk != 11)=Y):=by show _=_;simp[aa]
        go_wp2_with fail
        go_meet
        case rel=>
         refine⟨eV xv ((F.o _).2 ⟨λ_=>⟨by first|trivial|rfl,Rg (Rg ?_)⟩,λ_=>H11.o⟩),Q⟩;show z[r]?.map (·.kind)≠_;rw[aj.o];simpa using aa
    .have hk':(c==12)=false:=by simp[q]
     go_wp2_with fail
     go_meet
     case rel=>exact⟨eV xv ((F.o _).2 ⟨λh=>(by cases h),λh=>ey h.1 q⟩),Q⟩
   case rest=>
   obtain⟨rfl,rfl⟩:=hcut;have y:ly z ⟨c,m,f,x,j,v,l⟩=Y->c=12:=λh=>(((V _).1 Q).1 h).1
   have av:Hid (ll d z ⟨c,m,f,x,j,v,l⟩=if(d<c/\c<=12)\/ly z ⟨c,m,f,x,j,v,l⟩=Y then mX d else⟨c,m,f,x,j,v,l⟩):=rfl;generalize ly z ⟨c,m,f,x,j,v,l⟩=X at *;clear V c0 c1 c2 c3 c4 c5 c6 a2;by_cases t:(d<c/\c<=12)\/X=Y
   .have ab:Hid (ll d z ⟨c,m,f,x,j,v,l⟩=mX d):=by
     show _=_;rw[av.o,gL t]
    have P:(d<c/\c<=12)\/(¬d<c/\c<=12/\X=Y):=by
     by_cases A:d<c
     .rcases t with t|t
      .exact Rf t
      .exact Rf ⟨A,by have:=y t;omega⟩
     .rcases t with t|t
      .exact ey t.1 A
      .exact Rg ⟨A,by have:=y t;omega,t⟩
    clear t y;by_cases h9:d<9
    .have D:Hid (ll d z ⟨c,m,f,x,j,v,l⟩=⟨2,Jg,⟨#[]⟩,⟨#[]⟩,⟨#[]⟩,0,0⟩):=by
      show _=_;rw[ab.o,mX,gL h9]
     rcases P with⟨A,q⟩|⟨A,q,rfl⟩ <;>
     .go_wp2_with (at_builtin;refine Rj _ Q _ _ 22 Q w.heap.size 37 i0 _ 7 88 (Yq.u underlying22) ad af ai ac Q (by decide) _ i _ Q ((HX.o.1.alloc _).alloc _) ⟨wr.heap.size+1,0,N⟩ 1 1 (aK ⟨2,Jg,⟨#[]⟩,⟨#[]⟩,⟨#[]⟩,0,0⟩) Q Q (mj wr _ ⟨2,Jg,⟨#[]⟩,⟨#[]⟩,⟨#[]⟩,0,0⟩ _) (one7 _) (by simp only[Rm];omega) (by omega) (by have:=HX.o.2.size;simp;omega) ?_;intro v2 w2 L G _)
      refine⟨⟨i+1,by omega,by go_num,?_,((HX.o.2.alloc HX.o.2.size _).alloc (by have:=HX.o.2.size;simp;omega) _).grown G (by have:=HX.o.2.size;simp;omega) (λk e=>(HX.o.1.lt k e).1)⟩,by simp[intOf];omega⟩;rw[R.o,D.o];simpa using L
    .have D:Hid (ll d z ⟨c,m,f,x,j,v,l⟩=⟨9,⟨#[]⟩,⟨#[]⟩,⟨#[]⟩,⟨#[]⟩,0,0⟩):=by
      show _=_;rw[ab.o,mX,eW h9]
     rcases P with⟨A,q⟩|⟨A,q,rfl⟩ <;>
     .go_wp2_with (at_builtin;refine Rj _ Q _ _ 22 Q w.heap.size 37 i0 _ 7 88 (Yq.u underlying22) ad af ai ac Q (by decide) _ i _ Q ((HX.o.1.alloc _).alloc _) ⟨wr.heap.size+1,0,N⟩ 1 1 (aK ⟨9,⟨#[]⟩,⟨#[]⟩,⟨#[]⟩,⟨#[]⟩,0,0⟩) Q Q (mj wr _ ⟨9,⟨#[]⟩,⟨#[]⟩,⟨#[]⟩,⟨#[]⟩,0,0⟩ _) (one7 _) (by simp only[Rm];omega) (by omega) (by have:=HX.o.2.size;simp;omega) ?_;intro v2 w2 L G _)
      have b2:Below w.heap.size w w2:=((HX.o.2.alloc HX.o.2.size _).alloc (by have:=HX.o.2.size;simp;omega) _).grown G (by have:=HX.o.2.size;simp;omega) (λk e=>(HX.o.1.lt k e).1);refine⟨⟨i+1,by omega,by go_num,?_,b2⟩,by simp[intOf];omega⟩;rw[R.o,D.o];simpa using L
   .have D:Hid (ll d z ⟨c,m,f,x,j,v,l⟩=⟨c,m,f,x,j,v,l⟩):=by
     show _=_;rw[av.o,eW t]
    have a5:X=false:=by
     cases X
     .rfl
     .exact ey (Rg Q) t
    subst a5;have P:(d<c/\¬c<=12)\/¬d<c:=by
     by_cases A:d<c
     .exact Rf ⟨A,λh=>t (Rf ⟨A,h⟩)⟩
     .exact Rg A
    clear t y;rcases P with⟨A,q⟩|A <;>
    .go_wp2_with (at_builtin;refine Rj _ Q _ _ 22 Q w.heap.size 37 i0 _ 7 88 (Yq.u underlying22) ad af ai ac Q (by decide) _ i _ Q ((HX.o.1.alloc _).alloc _) ⟨wr.heap.size+1,0,N⟩ 1 1 (aK ⟨c,m,f,x,j,v,l⟩) Q Q (mj wr _ ⟨c,m,f,x,j,v,l⟩ _) (one7 _) (by simp only[Rm];omega) (by omega) (by have:=HX.o.2.size;simp;omega) ?_;intro v2 w2 L G _)
     refine⟨⟨i+1,by omega,by go_num,?_,((HX.o.2.alloc HX.o.2.size _).alloc (by have:=HX.o.2.size;simp;omega) _).grown G (by have:=HX.o.2.size;simp;omega) (λk e=>(HX.o.1.lt k e).1)⟩,by simp[intOf];omega⟩;rw[R.o,D.o];simpa using L
  .have a4:i=n:=by omega
   subst a4;have HO:=bJ s B;clear s B;go_wp2;go_ret;refine⟨_,Q,?_,HO.o.2⟩;have:=HO.o.1;rw[(aq (tO (by rw[<-HS.o.2];exact Q0))).o]at this;exact this
def Mt(a:iU)(v:Wx):Wx:=Rd #[I K a.code,I K a.NP,U a.body,v,U a.tok]
def cQ(B k:H)(h:St)(L':Lg)(Zq:S SvE->Prop)(s:H)(w:Wj)(e:Ending)(w':Wj):Prop:=
 e=Rc (C Y)/\∃b R' a c P' T' f d Z',aD B w' k b R' a c/\aH B w' k P' T' f d/\Sim h R' a/\gh L' P' T' c (s+1)/\PFw B k w w'/\Zq Z'/\ec B w' k Z' (RwB b R')
theorem cQ.mk{B k}{i:dT}{e}{L'}{Zq:S SvE->Prop}{a}{s}{w w'}{j d}{R R'}{c:dT}{P'}{T'}{h f}(t:ec B w k a (RwB j R))(m:Zq a)(q:aD B w' k d R' c i)(o:aH B w' k P' T' h f)(r:Sim e R' c)(p:gh L' P' T' i (s+1))(l:PFr B k (RwB j R) w w')(n:∀b,b<w.heap.size->RwB d R' b->RwB j R b):cQ B k e L' Zq s w (Rc (C Y)) w':=⟨Q,d,R',c,i,P',T',h,f,a,q,o,r,p,l.toPFw,m,t.Nx l n⟩
theorem C6 w o(q:o.kind=6\/o.kind=7)(l:dT)n(a:gI)
  (HL:∀W,Below w.heap.size w W->Calls Vp 32 #[O (J ⟨k,0,N⟩),aL o,Rd #[I K l,I K 0,U ⟨#[]⟩,n,U a]] W λe r=>cQ B k st L Zq s w e r):
  Calls Vp 12 #[O (J ⟨k,0,N⟩),aL o,Rd #[I K l,I K 0,U ⟨#[]⟩,n,U a]] w (cQ B k st L Zq s w):=by
 obtain⟨f,j,d,t,c,u,p⟩:=o;unfold aL at HL ⊢;have i:=HL ((w.alloc (E #[I K f,U j,U d,U t,U c,I K u,I K p] 37)).alloc (E #[I K l,I K 0,U ⟨#[]⟩,n,U a] 53)) (((bR _ w).alloc Q0 _).alloc (by simp) _);rcases q with rfl|rfl <;>
 .go_enter (Yq.nq func12),ntmps12;go_wp2_with fail
  refine i.m ?_;rintro e v ⟨rfl,h⟩;have HE:Hid (cQ B k st L Zq s w (Rc (C Y)) v):=⟨Q,h⟩;go_wp2_with fail
  go_ret;exact HE.o
theorem F4{r:dT}w(a:aD B w k sl R nx r)(hP:aH B w k P T vL vT)(x:B<=k)(b:Sim st R nx)(SL:gh L P T r s){c}(hz:ec B w k c (RwB sl R))(hq:Zq c)(hV:Inv st s)(u:st.last<=s)(hT:eR st)(hs:s<2199023255300)o(hk:o.kind<8\/12<o.kind)(hd:o.fe.size<=140737488351232)Ny G
  (z:∀q,PFr B k (RwB sl R) w q->j6 q G (NC st L Ny o).2.2.items):
  Calls Vp 12 #[O (J ⟨k,0,N⟩),aL o,Mt (NC st L Ny o).2.2 G] w (cQ B k (NC st L Ny o).1 (NC st L Ny o).2.1 Zq s w):=by
 have v:=hP.lt;by_cases y:o.kind=6\/o.kind=7
 obtain⟨p,ab,aa,e⟩:∃p,(o.kind==6)=!p/\(o.kind==7)=p/\NC st L Ny o=(st,(fN L st.f ⟨p,o.key,o.fe,o.past⟩ o.n).1,Fi (fN L st.f ⟨p,o.key,o.fe,o.past⟩ o.n)):=by
  rcases y with h|h;exact⟨Z,by simp[h],by simp[h],by simp[NC,h]⟩;exact⟨Y,by simp[h],by simp[h],by simp[NC,h]⟩
 rw[e]at z ⊢;obtain⟨L',pg,i,F,hB⟩:∃L' pg i F,fN L st.f ⟨p,o.key,o.fe,o.past⟩ o.n=(L',pg,i,F):=⟨_,_,_,_,Q⟩;rw[hB]at z ⊢;refine C6 w o y F G i λW j=>((zH W (a.below j) (hP.below j) x b SL hV hT hs o p ab aa hd L' pg i F hB G (λq hf=>z q ((PFr.below v j).t hf))).m ?_)
 rintro e q ⟨rfl,P',T',vL',vT',h1,V,A,h4⟩;exact cQ.mk hz hq h1 V b A ((PFr.below v j).t h4) (λ_ _ h=>h);have e:NC st L Ny o=((aE st o).1,L,⟨(aE st o).2.code,(aE st o).2.NP,(aE st o).2.body,[],⟨#[]⟩⟩):=by
  simp[NC,eW (show¬o.kind=6 by omega),eW (show¬o.kind=7 by omega),eW (show¬o.kind=8 by omega),eW (show¬o.kind=9 by omega),eW (show¬o.kind=10 by omega),eW (show¬o.kind=11 by omega)]
 rw[e]at z ⊢;obtain⟨ia,ic,X,-⟩:=(z w PFr.refl).form;subst X;have ac:Calls Vp 12 #[O (J ⟨k,0,N⟩),aL o,ii (aE st o).2 ia ic] w (xI B k (aE st o).1 w sl R r):=by
  by_cases h:1<=o.kind/\o.kind<=5
  exact zE B k sl R nx r _ o _ ia ic w a h (λw1 j=>CW B k sl R nx r st s o w1 (a.below j) b ⟨hV.NV,u⟩ (by omega) (lT (by omega) j.size) h);have e:aE st o=(st,⟨1,0,⟨#[]⟩⟩):=by
   unfold aE
   grind
  rw[e];exact zF B k sl R nx r st o ia ic w a b (by omega)
 refine ac.m ?_;rintro e q ⟨rfl,sl',R',nx',h1,V,A⟩;exact cQ.mk hz hq h1 (hP.frame a A) V (SL.m (by omega)) (PFr.ofR x a A) A.own
structure rx (w:Wj)(k:H)(vA:Wx)(Ny:S gI):Prop where
 c7:w.cell? ⟨k,7,N⟩=J vA
 form:∃a cap,vA=M a Ny.length cap/\(Ny≠[]->∃g,a=J ⟨g,0,N⟩/\g<w.heap.size/\∀i (hi:i<Ny.length),w.cell? ⟨g,i*5+4,N⟩=J (U Ny[i]))
theorem rx.on{Ny}(h:rx w k f Ny)(d:Below w.heap.size w w'):rx w' k f Ny:=by
 have⟨a,c,e,o⟩:=h.form;refine⟨ag d h.c7,a,c,e,λb=>?_⟩;have⟨g,l,j,m⟩:=o b;exact⟨g,l,lL j d.size,λi n=>ag d (m i n)⟩
theorem Mu{b:S (iU×Wx)}(n:w.cell? ⟨k,7,N⟩=J vT)(h:w.ownsRow B 53 5 vT s (br (b.take s)))(hi:s<=b.length):rx w k vT ((b.take s).map (·.1.tok)):=by
 have m:((b.take s).map (·.1.tok)).length=s:=by grind
 obtain⟨a,d,rfl,-⟩:=ao h;refine⟨n,a,d,by rw[m],λhne=>?_⟩;have f:0<s:=by
  grind
 obtain⟨g,cap',e,-,l,-⟩:=bm h f;cases e;refine⟨g,Q,l,λj hj=>?_⟩;have:=(i6 (b.take s) j (by grind)).2.2.2.2;rw[h.cellAt _ (by omega),this];simp
theorem Nv{l}{X}{F}{V:dT}{f}{xs ys}(c:aD B w' k sl R nx V)(hP:aH B w' k P T vL F)(hB:B<=w'.heap.size)(D:B<=k)(z:Below B w w')(c7:w'.cell? ⟨k,7,N⟩=J vT)(n:w'.ownsRow B 53 5 vT i xs)(m:vT.ownBlock≠J k)
  (A:l.ownsRow B 53 5 (M (J ⟨g,0,N⟩) (i+1) f) (i+1) ys) (q:(w'.alloc X).grownBy l vT.ownBlock) (hgg:vT.ownBlock=J g\/g=w'.heap.size+1):
  aD B (l.setCell ⟨k,7,N⟩ (M (J ⟨g,0,N⟩) (i+1) f)) k sl R nx V/\aH B (l.setCell ⟨k,7,N⟩ (M (J ⟨g,0,N⟩) (i+1) f)) k P T vL F/\(l.setCell ⟨k,7,N⟩ (M (J ⟨g,0,N⟩) (i+1) f)).cell? ⟨k,7,N⟩=J (M (J ⟨g,0,N⟩) (i+1) f) /\
   (l.setCell ⟨k,7,N⟩ (M (J ⟨g,0,N⟩) (i+1) f)).ownsRow B 53 5 (M (J ⟨g,0,N⟩) (i+1) f) (i+1) ys/\(xt (J ⟨g,0,N⟩) (i+1) f).ownBlock≠J k/\Below B w (l.setCell ⟨k,7,N⟩ (M (J ⟨g,0,N⟩) (i+1) f)):=by
 have hk:=c.lt;have x:g≠k:=by
  grind
 have o:Below w'.heap.size w' (w'.alloc X):=(Q9).alloc Q0 X;have Pa:=hP.below o;have t:∀b,vT.ownBlock=J b->TyB (w'.alloc X) b 53:=λb z=>fK (n.alloc X) z
 have ob:(xt (J ⟨g,0,N⟩) (i+1) f).ownBlock≠J k:=by simpa[xc]using x
 have u:=λj=>cB (a:=⟨k,j,N⟩) (q.block k Pa.lt (λe=>m e.s))
 have P3:=Pa.Nx (u 3) (u 4) (λj=>fB (a:=⟨k,j,N⟩) (q.block k Pa.lt (λe=>m e.s))) λb d _ L hU=>q.block b L.lt λe=>by
  have:=(t b e.s).ne L
  grind
 have v:∀j,j≠7->(l.setCell ⟨k,7,N⟩ (M (J ⟨g,0,N⟩) (i+1) f)).cell? ⟨k,j,N⟩=l.cell? ⟨k,j,N⟩:=λj hj=>cO l ⟨k,7,N⟩ ⟨k,j,N⟩ _ (λe=>by have:=eV Addr.off e;simp only at this;omega)
 exact⟨((c.below o).other q m t (by decide) (by decide)).N3 7 _ (by omega),P3.Nx (v 3 (by omega)) (v 4 (by omega)) (λj=>by simp) (λb d y _ _=>Ra y),cs (q.cell (ag o c7) (λe=>m e.s)),ju A ob 7 _,ob,((z.alloc hB X).grown q (by simp;omega) (λb e=>(n.lt b e).1)).setCell (p:=⟨k,7,N⟩) D _⟩
theorem Nw{X}{p}{xs}{a}{Lv:H->Prop}(v:k<w.heap.size)(j:w.ownsRow B 53 5 vT i xs)(n:vT.ownBlock≠J k)(u:(w.alloc X).grownBy w' vT.ownBlock)(h:ec B w k a Lv):ec B (w'.setCell ⟨k,7,N⟩ (M (J ⟨g,0,N⟩) (i+1) p)) k a Lv:=by
 have d:Below w.heap.size w (w.alloc X):=(Q9).alloc Q0 X;have hsz:=d.size;refine h.Qe (((cO w' ⟨k,7,N⟩ ⟨k,5,N⟩ _ (λe=>by have:=eV Addr.off e;simp only at this;omega)).t (cB (u.block k (by omega) (λe=>n e.s)))).t (cB (d.block k v))) (λb c q r hU=>?_) (λ_ _ h=>h);have l:=r.lt;refine((Ra q).t (u.block b (by omega) λe=>?_)).t (d.block b l);have:=((λb q=>fK (j.alloc X) q) b e.s).ne (r.same (d.block b l))
 grind
theorem Jh(b bi ca ga:H)(q:S OpD)(v:S (iU×Wx))(D:H->St×Lg)(Zr:H->S SvE->Prop)(w:Wj)(hS:mP w b bi q)(bl:q.length*88<=140737488351232)(bn:v.length=q.length)(hA:∀j,j<q.length*5->w.cell? ⟨ga,j,N⟩=(br v)[j]?)(hv:∀z∈v,∃a n c,z.2=M a n c)(h0:D 0=(st0,⟨[],0,[],0⟩))(b8:Zr 0 [])
  (al:∀ (i:H) (hi:i<q.length) (b3:i<v.length) (W:Wj) {sl vL vT:Wx} {R:S bz} {nx tm:dT} {P:S PlL} {T:S PlT},Below w.heap.size w W->aD w.heap.size W w.heap.size sl R nx tm->aH w.heap.size W w.heap.size P T vL vT->Sim (D i).1 R nx->gh (D i).2 P T tm i->∀ {d:S SvE},Zr i d->ec w.heap.size W w.heap.size d (RwB sl R)->∀ {vA:Wx},rx W w.heap.size vA ((v.take i).map (·.1.tok)) ->
   Calls Vp 12 #[O (J ⟨w.heap.size,0,N⟩),aL q[i],Mt v[i].1 v[i].2] W (cQ w.heap.size w.heap.size (D (i+1)).1 (D (i+1)).2 (Zr (i+1)) i W)):
  Calls Vp 7 #[M (J ⟨b,bi,N⟩) q.length ca,M (J ⟨ga,0,N⟩) q.length q.length] w λe w'=>e=Rc (C Y)/\Below w.heap.size w w':=by
 have⟨i0,b7,b9,cb,b4⟩:=Rl Yq.On;obtain⟨n,a5⟩:∃n,q.length=n:=⟨_,Q⟩;have HN:Hid (q.length=n/\mP w b bi q/\v.length=n/\(∀j,j<n*5->w.cell? ⟨ga,j,N⟩=(br v)[j]?)/\∀z∈v,∃a n c,z.2=M a n c):=⟨a5,hS,by rw[<-a5];exact bn,by rw[<-a5];exact hA,hv⟩;have b5:Hid (∀ (i:H) (hi:i<q.length) (b3:i<v.length) (W:Wj) {sl vL vT:Wx} {R:S bz} {nx tm:dT} {P:S PlL} {T:S PlT},Below w.heap.size w W->aD w.heap.size W w.heap.size sl R nx tm->aH w.heap.size W w.heap.size P T vL vT->Sim (D i).1 R nx->gh (D i).2 P T tm i->∀ {d:S SvE},Zr i d->ec w.heap.size W w.heap.size d (RwB sl R)->∀ {vA:Wx},rx W w.heap.size vA ((v.take i).map (·.1.tok)) ->
   Calls Vp 12 #[O (J ⟨w.heap.size,0,N⟩),aL q[i],Mt v[i].1 v[i].2] W (cQ w.heap.size w.heap.size (D (i+1)).1 (D (i+1)).2 (Zr (i+1)) i W)):=al
 rw[a5]at bl ⊢;clear a5 hS bn hA hv al;go_enter (Yq.nq func7),ntmps7;go_wp2_with fail
 go_loopw [6] (λs6 wr=>∃ (i:H) (sl:Wx) (R:S bz) (nx tm:dT) (P:S PlL) (T:S PlT) (vL vT vA:Wx),i<=n/\s6=I K i/\aD w.heap.size wr w.heap.size sl R nx tm/\aH w.heap.size wr w.heap.size P T vL vT/\Sim (D i).1 R nx/\(gh (D i).2 P T tm i/\∃d,Zr i d/\ec w.heap.size wr w.heap.size d (RwB sl R))/\wr.cell? ⟨w.heap.size,7,N⟩=J vA /\
  wr.ownsRow w.heap.size 53 5 vA i (br (v.take i))/\vA.ownBlock≠J w.heap.size/\Below w.heap.size w wr) (λs6 _=>n-(intOf s6).toNat)
 case atStart=>
  refine⟨0,M N 0 0,[],1,0,[],[],M N 0 0,M N 0 0,M N 0 0,Q8,Q,?_,?_,?_,?_,?_,wz _ _ _ _,by simp[xc],(Q9).alloc Q0 _⟩
  .refine ⟨⟨?_,?_,?_,λj=>xb (w:=w) _ _ w.heap.size j Q⟩,wz _ _ _ _,λe he=>ey he kr,by simp[xc],λe he=>ey he kr,λe he=>ey he kr,List.Pairwise.nil⟩
   .rw [cA (w:=w) _ _ w.heap.size 0 Q];rfl
   .rw [cA (w:=w) _ _ w.heap.size 1 Q];rfl
   .rw [cA (w:=w) _ _ w.heap.size 2 Q];rfl
  .refine ⟨?_,?_,λj=>xb (w:=w) _ _ w.heap.size j Q,wz _ _ _ _,wz _ _ _ _,λl hl=>ey hl kr,by simp[xc],by simp[xc],λl hl=>ey hl kr⟩
   .rw [cA (w:=w) _ _ w.heap.size 3 Q];rfl
   .rw [cA (w:=w) _ _ w.heap.size 4 Q];rfl
  .rw [h0];exact⟨Q,λe he=>ey he kr,List.Pairwise.nil,λe he=>ey he kr,λ_ _=>Q,Q,by simp[totR]⟩
  .refine ⟨by rw[h0];exact MX,[],b8,⟨M N 0 0,?_,wz _ _ _ _,by simp[xc]⟩,λz hz=>ey hz kr,λz hz=>ey hz kr,λz hz=>ey hz kr⟩;rw[cA (w:=w) _ _ w.heap.size 5 Q];rfl
  .rw [cA (w:=w) _ _ w.heap.size 7 Q];rfl
 case round=>
  obtain⟨i,sl,R,nx,tm,P,T,vL,vT,vA,hin,rfl,f,hP,k,SL,c7,af,y,hb⟩:=hrel;obtain⟨SL,d,a9,hz⟩:=SL;obtain⟨va,vc,rfl,-⟩:=ao af;by_cases bt:i<n
  .have bs:i<q.length:=by rw[HN.o.1];exact bt
   have a7:i<v.length:=by rw[HN.o.2.2.1];exact bt
   have⟨c0,c1,c2,c3,c4,c5,c6⟩:=HN.o.2.1 i bs;replace c0:=ag hb c0;replace c1:=ag hb c1;replace c2:=ag hb c2;replace c3:=ag hb c3;replace c4:=ag hb c4;replace c5:=ag hb c5;replace c6:=ag hb c6;have⟨z0,z1,z2,z3,z4⟩:=i6 v i a7;have a0:=(HN.o.2.2.2.1 _ (by omega)).t z0;have a1:=(HN.o.2.2.2.1 _ (by omega)).t z1;have a2:=(HN.o.2.2.2.1 _ (by omega)).t z2;have a3:=(HN.o.2.2.2.1 _ (by omega)).t z3;have a4:=(HN.o.2.2.2.1 _ (by omega)).t z4;obtain⟨za,zn,zc,bo⟩:=HN.o.2.2.2.2 _ (sq a7);have cd:w.heap.size<=wr.heap.size:=hb.size;have al:=b5.o i bs a7 wr.drew (hb.drew) (f.below (Q9).drew) (hP.below (Q9).drew) k SL a9 (hz.Nx (PFr.below f.lt (Q9).drew) (λ_ _ h=>h)) ((Mu c7 af (by omega)).on (Q9).drew);have e1:br (v.take (i+1))=br (v.take i)++[I K v[i].1.code,I K v[i].1.NP,U v[i].1.body,v[i].2,U v[i].1.tok]:=by rw[tS a7,qM]
   rw[bo]at a3 e1 al;generalize v[i].1=ch at *;generalize q[i]=o at *;obtain⟨kind,key,body,fe,past,nn,src⟩:=o;obtain⟨ac,av,ab,ait,ap⟩:=ch;simp only at c0 c1 c2 c3 c4 c5 c6 a0 a1 a2 a4 e1;have HE:=aq e1;have b2:=gB a0 a1 a2 a3 a4;replace a0:=ag hb a0;replace a1:=ag hb a1;replace a2:=ag hb a2;replace a3:=ag hb a3;replace a4:=ag hb a4;have HX:=ig c7 af y hb;have hii:(i:dT)<(n:dT):=by omega
   clear f hP k SL a9 hz c7 af y hb e1 z0 z1 z2 z3 z4 bo;unfold Mt aL at al;simp only at al;generalize bw:(D (i+1)).1=b1 at *;generalize bv:(D (i+1)).2=L' at *;have b0:=bJ bw bv;clear bw bv
   go_upto_region 7 with fail
   go_cut [7] (λs7 wx=>s7=C Y/\∃x R' B A P' T' aa V,aD w.heap.size wx w.heap.size x R' B A/\aH w.heap.size wx w.heap.size P' T' aa V/\Sim b1 R' B/\gh L' P' T' A (i+1)/\PFw w.heap.size w.heap.size wr wx/\∃Z',Zr (i+1) Z'/\ec w.heap.size wx w.heap.size Z' (RwB x R'))
   case first=>
    go_region_with (go_at_call 12;refine al.m ?_;rintro e w2 ⟨rfl,x,R',B,A,P',T',aa,V,Z',H',P1',S',SL',F,ar,a6⟩;have HZ:Hid (∃x R' B A P' T' aa V,aD w.heap.size w2 w.heap.size x R' B A/\aH w.heap.size w2 w.heap.size P' T' aa V/\Sim b1 R' B/\gh L' P' T' A (i+1)/\PFw w.heap.size w.heap.size wr w2/\∃Z',Zr (i+1) Z'/\ec w.heap.size w2 w.heap.size Z' (RwB x R')):=⟨x,R',B,A,P',T',aa,V,H',P1',S',SL',⟨F.os,F.tape,F.output,F.size,F.low,F.PU,F.cells,F.frozen⟩,Z',ar,a6⟩;clear H' P1' S' SL' F ar a6)
    all_goals
     go_wp2_with fail
     go_meet
     case rel=>exact⟨Q,HZ.o⟩
   case rest=>
   obtain⟨rfl,x,R',B,A,P',T',aa,V,H',P1,S',SL',F,Z',ar,a6⟩:=hcut;have y:=HX.o.2.2.1;have G:wc.ownsRow w.heap.size 53 5 (M va i vc) i (br (v.take i)):=bP HX.o.2.1 λg hg=>F.PU g (λe=>y (e▸hg)) (fK HX.o.2.1 hg)
   have a8:wc.cell? ⟨w.heap.size,7,N⟩=J (M va i vc):=(F.cells 7 (by omega)).t HX.o.1;have aj:Below w.heap.size w wc:=F.to HX.o.2.2.2 cd;have cc:w.heap.size<=wc.heap.size:=aj.size;have⟨d0,d1,d2,d3,d4⟩:=b2.o;replace d0:=ag aj d0;replace d1:=ag aj d1;replace d2:=ag aj d2;replace d3:=ag aj d3;replace d4:=ag aj d4;have bk:Hid (∀X:Obj,(wc.alloc X).ownsRow w.heap.size 53 5 (M va i vc) i (br (v.take i))):=λX=>G.alloc X
   have bd:Hid (∀L:Wj,(wc.alloc (E #[I K ac,I K av,U ab,M za zn zc,U ap] 53)).grownBy L (xt va i vc).ownBlock->L.cell? ⟨w.heap.size,7,N⟩=J (M va i vc)/\L.frozen? ⟨w.heap.size,7,N⟩=Z):=λL ai=>by
    have bx:Below wc.heap.size wc (wc.alloc (E #[I K ac,I K av,U ab,M za zn zc,U ap] 53)):=(Q9).alloc Q0 _;refine⟨ai.cell (ag bx a8) (λe=>y e.s),?_⟩;rw[bD ai ⟨w.heap.size,7,N⟩ (by have:=H'.lt;simp;omega) (λe=>y e.s)];exact(bx.frozen (p:=⟨w.heap.size,7,N⟩) H'.lt).t (P1.fz 7)
   have bp:Hid (∀ (g r:H) (L:Wj),L.ownsRow w.heap.size 53 5 (M (J ⟨g,0,N⟩) (i+1) r) (i+1) (br (v.take i)++[I K ac,I K av,U ab,M za zn zc,U ap])->(wc.alloc (E #[I K ac,I K av,U ab,M za zn zc,U ap] 53)).grownBy L (xt va i vc).ownBlock->((xt va i vc).ownBlock=J g\/g=wc.heap.size+1) ->
     ∃v',aD w.heap.size (L.setCell ⟨w.heap.size,7,N⟩ (M (J ⟨g,0,N⟩) (i+1) r)) w.heap.size x R' B A/\aH w.heap.size (L.setCell ⟨w.heap.size,7,N⟩ (M (J ⟨g,0,N⟩) (i+1) r)) w.heap.size P' T' aa V/\(L.setCell ⟨w.heap.size,7,N⟩ (M (J ⟨g,0,N⟩) (i+1) r)).cell? ⟨w.heap.size,7,N⟩=J v' /\
      (L.setCell ⟨w.heap.size,7,N⟩ (M (J ⟨g,0,N⟩) (i+1) r)).ownsRow w.heap.size 53 5 v' (i+1) (br (v.take (i+1)))/\v'.ownBlock≠J w.heap.size/\Below w.heap.size w (L.setCell ⟨w.heap.size,7,N⟩ (M (J ⟨g,0,N⟩) (i+1) r))/\∃Z',Zr (i+1) Z'/\ec w.heap.size (L.setCell ⟨w.heap.size,7,N⟩ (M (J ⟨g,0,N⟩) (i+1) r)) w.heap.size Z' (RwB x R')):=λg r L be ai bb=>by
    have⟨q1,q2,q3,q4,q5,q6⟩:=Nv H' P1 cc Q0 aj a8 G y be ai bb;refine⟨_,q1,q2,q3,?_,q5,q6,Z',ar,Nw H'.lt G y ai a6⟩;rw[HE.o];exact q4
   have bq:=bJ S' SL';have c7a:(wc.alloc (E #[I K ac,I K av,U ab,M za zn zc,U ap] 53)).cell? ⟨w.heap.size,7,N⟩=J (M va i vc):=ag ((Q9).alloc Q0 _) a8;clear H' P1 S' SL' F ar a6 G aj al c0 c1 c2 c3 c4 c5 c6 a0 a1 a2 a3 a4 y
   go_upto_region 10 with fail
   go_region_law (refine Rk _ Q _ _ 30 Q w.heap.size 53 i0 _ 5 72 (Yq.u underlying30) b7 b9 cb b4 Q (by decide) (M va i vc) i (br (v.take i)) (by simp[Act.eval]) (bk.o _) ⟨wc.heap.size,0,N⟩ 1 1 [I K ac,I K av,U ab,M za zn zc,U ap] (by simp[Act.eval]) Q (su wc _ _ _ _ _ _) (by simp[yz]) (by omega) (by simp only[Rm];omega) (by omega) (by simp;omega) (wc.heap.size+1) (by simp) ?_;intro g r L be ad bb hlt3;have ai:(wc.alloc (E #[I K ac,I K av,U ab,M za zn zc,U ap] 53)).grownBy L (xt va i vc).ownBlock:=⟨ad.os,ad.tape,ad.output,ad.size,ad.block⟩;have⟨y0,y1⟩:=bd.o L ai)
   all_goals
    go_wp2_with fail
    have⟨v',Q1,Q2,Q3,Q4,Q5,Q6,Q7⟩:=bp.o g r L be ai bb;refine⟨⟨i+1,x,R',B,A,P',T',aa,V,v',by omega,by go_num,Q1,Q2,?_,?_,Q3,Q4,Q5,Q6⟩,by simp[intOf];omega⟩
    .rw [b0.o.1];exact bq.o.1
    .exact ⟨by rw[b0.o.2];exact bq.o.2,Q7⟩
  .have b6:i=n:=by omega
   subst b6;clear f hP k SL a9 hz c7 af y;go_wp2;go_ret;exact⟨Q,hb⟩
end
section
open Go.Conc Go.ConcX Go.ConcX.Gen Go.RowKit
theorem mZ{z:PlL×H}:z∈opens a P↔P[z.2]?=J z.1/\z.1.NF a=true:=by
 unfold opens
 grind
theorem zI(hu:0<=nx)P:opens (a+nx) P=(opens a P).filter λz=>z.1.NF (a+nx):=by
 unfold opens;rw[List.filter_filter];unfold PlL.NF
 grind
theorem gh.tick(h:gh L P T a s)(u:dT)(i:0<=u/\u<=1000)(hs:s<2199023255340):gh (nL {L with tm:=IntKind.u64.wrap (L.tm+u)} u) P T (a+u) (s+1):=by
 have j:=h.time;have hf:=h.PN;refine⟨⟨?_,by omega,by omega⟩,h.begun,by omega,?_,λl e=>by have:=h.lists l e;omega,h.Ny,h.told,h.here⟩;show IntKind.u64.wrap (L.tm+u)=a+u;rw[j.1,pi (by omega) (by omega)];show((L.opened.map λx=>x.again (x.left-u)).filter λx=>!decide (x.left<=0)).map LsA.key=_;have c:(L.opened.map λx=>x.again (x.left-u)).filter (λx=>!decide (x.left<=0))=(L.opened.filter λx=>!decide (x.left-u<=0)).map λx=>x.again (x.left-u):=by
  rw[lk];rfl
 let f:dT×dT×S ItD×dT->dT×dT×S ItD×dT:=λx=>(x.1,x.2.1-u,x.2.2)
 let p:dT×dT×S ItD×dT->Bool:=λx=>!decide (x.2.1-u<=0)
 have k:((L.opened.filter λx=>!decide (x.left-u<=0)).map λx=>x.again (x.left-u)).map LsA.key=((L.opened.map LsA.key).filter p).map f:=by
  rw[lk,lj,lj];rfl
 rw[c,k,h.opened,zI i.1,lk,lj];have d:(opens a P).filter (p∘CO a)=(opens a P).filter λz=>z.1.NF (a+u):=by
  refine sT λz m=>?_
  have b:=(mZ.1 m).2;show(!decide (z.1.fin-a-u<=0))=z.1.NF (a+u);unfold PlL.NF at b ⊢
  grind
 rw[d];refine List.map_congr_left λz _=>?_
 show((z.2:dT)+1,z.1.fin-a-u,z.1.NA,(z.1.NI:dT))=((z.2:dT)+1,z.1.fin-(a+u),z.1.NA,(z.1.NI:dT))
 grind
theorem gh.Qq(h:gh L P T a s):L.opened.map iT=(opens a P).map λz=>⟨0,⟨#[]⟩,z.1.fin-a⟩:=by
 have e:=eV (vx λx:dT×dT×S ItD×dT=>(⟨0,⟨#[]⟩,x.2.1⟩:ItD)) h.opened;rw[lj,lj]at e;exact e
theorem gh.nums(h:gh L P T a s):L.opened.map (·.num)=(opens a P).map λz=>(z.2:dT)+1:=by
 have e:=eV (vx λx:dT×dT×S ItD×dT=>x.1) h.opened;rw[lj,lj]at e;exact e
theorem C7(c:dT)P:(opens c P).Pairwise λa b=>a.2<b.2:=by
 refine List.Pairwise.filter _ ?_;rw[pt]
 grind
theorem gh.at(h:gh L P T a s){x}(hx:L.opened[B]?=J x):∃k l,(opens a P)[B]?=J (l,k)/\P[k]?=J l/\l.NF a=Y/\x.num=(k:dT)+1/\x.left=l.fin-a/\x.all=l.NA/\x.size=(l.NI:dT):=by
 have e:(L.opened.map LsA.key)[B]?=J x.key:=by grind
 rw[h.opened,List.getElem?_map]at e;have⟨⟨l,k⟩,c,b⟩:=Option.map_eq_some_iff.1 e;have hm:=mZ.1 (nF c);simp[CO,LsA.key]at b
 grind
theorem gh.shut{L:Lg}{P:S PlL}{T:S PlT}{a:dT}{s:H}(h:gh L P T a s){k:H}{l:PlL}(c:P[k]?=J l)(i:mR ((k:dT)+1) L.opened=.none):l.NF a=false:=by
 cases d:l.NF a with
 |false=>rfl
 |true=>
  have b:(l,k)∈opens a P:=mZ.2 ⟨c,d⟩;obtain⟨x,f,e⟩:=uc.1 (by rw[h.nums];exact uc.2 ⟨_,b,rfl⟩);have:=List.findIdx?_eq_none_iff.1 i x f
  grind
theorem F5{l}(q:(opens a P)[B]?=J (l,k))(x:dT)(v:a<x):opens a (NO P k x)=(opens a P).set B ({l with fin:=x},k):=by
 have⟨c,b⟩:=sL q;have m:=mZ.1 (nF q);have⟨n,hke⟩:=sL m.1;have t:l.gone=false:=by
  have:=m.2;unfold PlL.NF at this
  grind
 have r:(NO P k x).zipIdx=P.zipIdx.map λz=>if z.2=k then({l with fin:=x},k)else z:=by
  rw[km n];refine tb (by simp) λj d s=>?_
  grind
 have u:opens a (NO P k x)=(opens a P).map λz=>if z.2=k then({l with fin:=x},k)else z:=by
  unfold opens;rw[r,lk];congr 1;refine sT λz hz=>?_
  simp;by_cases h:z.2=k
  have f:z.1=l:=by
   grind
  rw[gL h,f,m.2];unfold PlL.NF;simp[t,v]
  grind
 rw[u];refine tb (by simp) λj d s=>?_
 simp[List.getElem_set];rw[lM]at d;by_cases h:B=j
 grind
 rw[eW h,eW λe=>?_];have p:=pt.1 (C7 a P);rcases Nat.lt_or_gt_of_ne h with o|o;have:=p B j c d o;rw[b,e]at this;exact ey this (Nat.lt_irrefl _);have:=p j B d c o;rw[b,e]at this;exact ey this (Nat.lt_irrefl _)
theorem gh.next(h:gh L P T d s){t}(ht:t∈T){l}(B:P[t.ls]?=J l):
  (l.NF d=Z/\dY L t.text=(L,[],⟨#[]⟩,10))\/(l.NF d=Y/\∃L',dY L t.text=(L',(l.NA.take ((t.pg+1)*l.NI)).drop (t.pg*l.NI),if(t.pg+1)*l.NI<l.NA.length then ff ((t.ls+1:H):dT) ((t.pg+1+1:H):dT)else⟨#[]⟩,0) /\
   gh L' (NO P t.ls (d+10)) (if(t.pg+1)*l.NI<l.NA.length then T++[⟨ff ((t.ls+1:H):dT) ((t.pg+1+1:H):dT),t.ls,t.pg+1⟩]else T) d (s+1)):=by
 obtain⟨n,pg,hf⟩:∃n pg,ez t.text L.told=J (n,pg):=by
  cases e:ez t.text L.told with
  |none=>exact ey e (h.here t ht)
  |some x=>exact⟨x.1,x.2,Q⟩
 obtain⟨t',aa,e1,rfl,rfl⟩:=h.told _ _ _ hf;have et:t'.ls=t.ls/\t'.pg=t.pg:=by
  have a:=(h.Ny t' aa).1;rw[e1,((h.Ny t ht).1)]at a;have:=xr a;omega
 rw[et.1,et.2]at hf;have⟨l',X,hpl⟩:=(h.Ny t ht).2;rw[B]at X;cases X;have z:=h.lists l (nF B);cases hn:mR ((t.ls:dT)+1) L.opened with
 |none=>
  refine Rf ⟨h.shut B hn,?_⟩;unfold dY
  grind
 |some i=>
  have⟨ac,hip⟩:=List.findIdx?_eq_some_iff_getElem.1 hn;obtain⟨x,hx⟩:∃x,L.opened[i]?=J x:=⟨_,eL ac⟩;have⟨k,l',o1,o2,o3,o4,o5,o6,o7⟩:=h.at hx;have ab:x.num=(t.ls:dT)+1:=by
   grind
  have hk:k=t.ls:=by omega
  subst hk;rw[B]at o2;cases o2;have R:t.pg<=1000:=by
   have:t.pg*1<=t.pg*l.NI:=Nat.mul_le_mul_left _ z.1;omega
  have p1:=LsA.OR (x:=x) (p:=l.NI) (i:=t.pg) o7 z.2.1 R (by rw[o6];omega);have A:=LsA.O4 (x:=x) (p:=l.NI) (i:=t.pg) o7 z.2.1 R;rw[o6]at p1 A;rw[ab,show((t.ls:dT)+1)=((t.ls+1:H):dT)by omega,show((t.pg:dT)+2)=((t.pg+1+1:H):dT)by omega]at A;refine Rg ⟨o3,⟨L.opened.set i (x.again 10),L.begun,if x.tok ((t.pg:dT)+1)=⟨#[]⟩then L.told else ml (x.tok ((t.pg:dT)+1)) ((t.ls:dT)+1,(t.pg:dT)+1+1) L.told,L.tm⟩,?_,?_⟩;unfold dY
  grind
  have u:=h.time;have hfew:=h.PN;have G:=(sL B).1;have v:=km G (d+10);have q:(NO P t.ls (d+10)).length=P.length:=by rw[v,List.length_set]
  have o:∀ (j:H) (m:PlL),P[j]?=J m->∃r:PlL,(NO P t.ls (d+10))[j]?=J r/\r.NI=m.NI/\r.NA=m.NA:=λj m hj=>by
   grind
  have f:(L.opened.set i (x.again 10)).map LsA.key=(opens d (NO P t.ls (d+10))).map (CO d):=by
   rw[F5 o1 _ (by omega),vf,vf,h.opened];congr 1;simp only[LsA.key,CO,LsA.again];have ea:({x with left:=10}:LsA).all=x.all:=rfl
   grind
  have c:∀m∈NO P t.ls (d+10),1<=m.NI/\m.NI<=20/\m.NA.length<=200/\m.fin<=1000*((s+1:H):dT)+10/\0<=m.fin:=λm hm=>by
   rw[v]at hm;rcases List.mem_or_eq_of_mem_set hm with hm|rfl;have:=h.lists m hm;omega;have:=h.lists _ (sq G);simp only;omega
  by_cases b:(t.pg+1)*l.NI<l.NA.length
  rw[gL b]at A ⊢;rw[A,eW (pq _ _)];refine⟨⟨u.1,u.2.1,by omega⟩,by rw[q];exact h.begun,by rw[q,lP];simp;omega,f,c,λy a=>?_,λk n pg e=>?_,λy a=>?_⟩;rcases tn.1 a with a|a;have⟨V,m,q2,q3⟩:=h.Ny y a;obtain⟨r,F,r2,D⟩:=o _ _ q2;exact⟨V,r,F,by rw[r2,D];exact q3⟩;rw[n8.1 a];obtain⟨r,F,r2,D⟩:=o _ _ B;exact⟨Q,r,F,by rw[r2,D];exact b⟩;simp[gz]at e;split at e
  rename_i e3;cases e;exact⟨_,List.mem_append_right _ (n8.2 Q),e3.s,by simp only,by simp only;omega⟩;have⟨y,V,q2⟩:=h.told k n pg e;exact⟨y,List.mem_append_left _ V,q2⟩;simp only[gz];split
  simp;rename_i e3;rcases tn.1 a with a|a;exact h.here y a;exact ey (by rw[n8.1 a]) e3;rw[eW b]at A ⊢;rw[A,gL rfl];refine⟨⟨u.1,u.2.1,by omega⟩,by rw[q];exact h.begun,by rw[q];omega,f,c,λy a=>?_,h.told,h.here⟩;have⟨V,m,q2,q3⟩:=h.Ny y a;obtain⟨r,F,r2,D⟩:=o _ _ q2;exact⟨V,r,F,by rw[r2,D];exact q3⟩
end
section
open Go.RowKit
theorem aD.OL{f:dT}(a:aD B w k vT R nx f)(tm':dT):aD B (w.setCell ⟨k,2,N⟩ (I K tm')) k vT R nx tm':=
 ⟨a.cells.OL _,a.row.kept (bH w k 2 _) (Or.inr a.apart),λe b=>(a.NL e b).kept (bH w k 2 _) (Or.inr (a.NM e b)),a.apart,a.NM,a.NN,a.pw⟩
theorem aH.OL(h:aH B w k P T vL vT)v:aH B (w.setCell ⟨k,2,N⟩ v) k P T vL vT:=
 h.Nx (cO w ⟨k,2,N⟩ ⟨k,3,N⟩ v (λe=>by have:=eV Addr.off e;simp only at this;omega)) (cO w ⟨k,2,N⟩ ⟨k,4,N⟩ v (λe=>by have:=eV Addr.off e;simp only at this;omega)) (λj=>by simp) λg _ b _ _=>Ra b
theorem C8{v:dT}w(a:aD B w k sl R nx v)(hP:aH B w k P T vL vT)(ac:B<=k)(c:Sim st R nx)(SL:gh L P T v s){b}(hz:ec B w k b (RwB sl R))(hq:Zq b)(hs:s<2199023255300)o(hk:o.kind=9)r q:
  Calls Vp 12 #[O (J ⟨k,0,N⟩),aL o,ii ⟨(fI L o.n).2,0,⟨#[]⟩⟩ r q] w (cQ B k st (fI L o.n).1 Zq s w):=by
 obtain⟨kind,j,f,F,i,d,l⟩:=o;simp only at hk ⊢;subst hk;have x:=hP.lt;have htm:=SL.time;have HH:=gB a hP ac c SL;have c2:=a.cells.c2;have af:=a.cells.fz 2;have u:=bJ hz hq;clear a hP c SL hz hq;unfold aL;by_cases G:d<0\/1000<d
 .have e:fI L d=(L,11):=by rw[fI,gL G]
  rw[e];have HC:Hid (∀D,Below ((w.alloc (E #[I K 9,U j,U f,U F,U i,I K d,I K l] 37)).alloc (E #[I K 11,I K 0,U ⟨#[]⟩,M r 0 q,U ⟨#[]⟩] 53)).drew.heap.size ((w.alloc (E #[I K 9,U j,U f,U F,U i,I K d,I K l] 37)).alloc (E #[I K 11,I K 0,U ⟨#[]⟩,M r 0 q,U ⟨#[]⟩] 53)).drew D->cW D (w.heap.size+1) (I K 11) (I K 0) (U ⟨#[]⟩) (M r 0 q) (U ⟨#[]⟩)/\Below w.heap.size w D):=λD b2=>by
   have h5:=kU (w.alloc (E #[I K 9,U j,U f,U F,U i,I K d,I K l] 37)) (I K 11) (I K 0) (U ⟨#[]⟩) (M r 0 q) (U ⟨#[]⟩) 53;rw[show(w.alloc (E #[I K 9,U j,U f,U F,U i,I K d,I K l] 37)).heap.size=w.heap.size+1 by simp]at h5;have hb:Below w.heap.size w ((w.alloc (E #[I K 9,U j,U f,U F,U i,I K d,I K l] 37)).alloc (E #[I K 11,I K 0,U ⟨#[]⟩,M r 0 q,U ⟨#[]⟩] 53)).drew:=(((bR _ w).alloc Q0 _).alloc (by simp) _).drew;exact⟨(h5.on ((Q9).drew)).on b2,hb.t (b2.m hb.size)⟩
  have HS:=eB ⟨11,0,⟨#[]⟩⟩ r q;have HN:=fx 11;unfold aG ii at HS;unfold aG at HN;unfold ii;rcases G with G|G;all_goals
   first|have hu':¬d<0:=by omega|skip
   go_enter (Yq.nq func12),ntmps12
   go_upto_region 15 with fail
   go_region_with (first
    |(go_at_call 34;refine(HN _).m ?_;rintro e D ⟨rfl,b2⟩;have⟨⟨d0,d1,d2,d3,d4⟩,V⟩:=HC.o D b2;have aa:Hid (Below w.heap.size w D):=V;clear b2 V)
    |(go_at_call 30;refine(HS _).m ?_;rintro e w3 ⟨rfl,b3⟩))
   all_goals
    go_wp2_with fail
    go_ret;have z:=aa.o.t (b3.m aa.o.size);exact cQ.mk u.o.1 u.o.2 (HH.o.1.below z) (HH.o.2.1.below z) HH.o.2.2.2.1 (HH.o.2.2.2.2.m (by omega)) (PFr.below x z) (λ_ _ h=>h)
 .have e:fI L d=(nL {L with tm:=IntKind.u64.wrap (L.tm+d)} d,0):=by rw[fI,eW G]
  rw[e];have ab:=aq (HH.o.2.2.2.2.tick d (by omega) (by omega));have hu1:¬d<0:=by omega
  have hu2:¬(1000:dT)<d:=by omega
  clear G e;have HS:=eB ⟨0,0,⟨#[]⟩⟩ r q;unfold aG ii at HS;unfold ii;simp only at HS ⊢;generalize nL {L with tm:=IntKind.u64.wrap (L.tm+d)} d=L' at *;go_enter (Yq.nq func12),ntmps12
  go_upto_region 16 with fail
  have⟨W,hW,A⟩:=kn w 9 j f F i d l (I K 0) (I K 0) (U ⟨#[]⟩) (M r 0 q) (U ⟨#[]⟩);rw[hW];have HW:=aq A;have n5:W.cell? ⟨w.heap.size,5,N⟩=J (I K d):=A.2.1 5;clear hW A;have ad:=ag HW.o.1 c2;have X:W.frozen? ⟨k,2,N⟩=false:=(HW.o.1.frozen (p:=⟨k,2,N⟩) x).t af
  go_cut [56] (λ_ wx=>aD B wx k sl R nx (v+d)/\aH B wx k P T vL vT/\PFr B k (RwB sl R) w wx/\cW wx (w.heap.size+1) (I K 0) (I K 0) (U ⟨#[]⟩) (M r 0 q) (U ⟨#[]⟩))
  case first=>
   go_region
   all_goals
    go_wp2_with fail
    go_meet
    case rel=>
     have hd:Below (W.setCell ⟨k,2,N⟩ (I K (v+d))).heap.size (W.setCell ⟨k,2,N⟩ (I K (v+d))) (W.setCell ⟨k,2,N⟩ (I K (v+d))).drew:=(Q9).drew;have X1:=(HH.o.1.below HW.o.1).OL (v+d);exact⟨X1.below hd,((HH.o.2.1.below HW.o.1).OL (I K (v+d))).below hd,((PFr.below x HW.o.1).t (PFr.set HH.o.2.2.1 2 (by omega) _)).t (PFr.below X1.lt hd),HW.o.2.2.block (Ra (show w.heap.size+1≠k by omega))⟩
  case rest=>
  obtain⟨X1,X2,X3,⟨d0,d1,d2,d3,d4⟩⟩:=hcut;have HX:=eM X1 X2 X3;clear X1 X2 X3 HW n5 ad X;go_wp2_with fail
  refine(HS _).m ?_;rintro e w3 ⟨rfl,b3⟩;have y:=aq b3;clear b3 HS;go_wp2_with fail
  go_ret;exact cQ.mk u.o.1 u.o.2 (HX.o.1.below y.o) (HX.o.2.1.below y.o) HH.o.2.2.2.1 ab.o (HX.o.2.2.t (PFr.below HX.o.1.lt y.o)) (λ_ _ h=>h)
def fL(tm:dT)(P:S PlL)(i:H):S ItD:=((P.take i).filter (PlL.NF tm)).map λl=>⟨0,⟨#[]⟩,l.fin-tm⟩
theorem zJ(a:dT)(P:S PlL)(i:H)(h:i<P.length):fL a P (i+1)=if P[i].NF a then fL a P i++[⟨0,⟨#[]⟩,P[i].fin-a⟩]else fL a P i:=by
 unfold fL;rw[tS h,List.filter_append,List.map_append]
 grind
theorem C9(a:dT)P:fL a P P.length=(opens a P).map λz=>⟨0,⟨#[]⟩,z.1.fin-a⟩:=by
 have e:P.filter (PlL.NF a)=(opens a P).map (·.1):=by
  conv=>lhs;rw[<-List.zipIdx_map_fst 0 P]
  rw[lk];rfl
 unfold fL
 simp_all
theorem Da(a:dT)P i:(fL a P i).length<=(opens a P).length:=by
 rw[xu];unfold fL
 conv=>rhs;rw[<-List.take_append_drop i P]
 grind
theorem Yq.Pe:(Yq.prog.info? 67).map (λi=>(i.zero,i.size,i.bytes))=J (J (Rd #[I K 0,U ⟨#[]⟩,I K 0]),3,32):=by kernel_rfl
theorem Db w(c:aD B w k sl R nx d)(hP:aH B w k P T vL vT)(a:Sim st R nx)(SL:gh L P T d s)(hs:s<2199023255300)(al:L.opened.length<=3)vi(hI:∀w',Below w.heap.size w w'->j6 w' vi (L.opened.map iT)):
  Calls Vp 35 #[O (J ⟨k,0,N⟩),Rd #[I K 0,I K st.count,U ⟨#[]⟩,vi,U ⟨#[]⟩]] w λe w'=>e=Rc (C Y)/\Below w.heap.size w w':=by
 have⟨i0,a5,ai,ap,ar⟩:=Rl Yq.Pe;have z:=a.count;have hlim:=a.NW;have htm:=SL.time;have hfew:=SL.PN;rw[SL.Qq,<-C9]at hI;have D:∀i,(fL d P i).length<=3:=λi=>lT (Da d P i) (by rw[SL.count];exact al)
 have HC:Hid (∀W,Below w.heap.size w W->Calls Vp 67 #[O (J ⟨k,0,N⟩)] W λe w'=>e=Rc (I K (totR R:dT))/\W=w'):=λW x=>nT B k sl R nx d W (c.below x) (ie R a.full) (by omega)
 have HH:=gB c hP SL hI D;obtain⟨va,vc,a4,-⟩:=ao hP.NZ;subst a4;have c2:=c.cells.c2;have c3:=hP.c3;rw[z];clear c hP a SL hI D z;go_enter (Yq.nq func35),ntmps35;go_wp2_with fail
 have HW:Hid (Below w.heap.size w (w.alloc (E #[I K 0,I K (totR R:dT),U ⟨#[]⟩,vi,U ⟨#[]⟩] 53))/\cW (w.alloc (E #[I K 0,I K (totR R:dT),U ⟨#[]⟩,vi,U ⟨#[]⟩] 53)) w.heap.size (I K 0) (I K (totR R:dT)) (U ⟨#[]⟩) vi (U ⟨#[]⟩)):=⟨(bR _ w).alloc Q0 _,kU w _ _ _ _ _ _⟩;generalize w.alloc (E #[I K 0,I K (totR R:dT),U ⟨#[]⟩,vi,U ⟨#[]⟩] 53)=W at *
 go_loopw [5,6] (λs5 s6 wr=>∃i:H,i<=P.length/\s6=I K i/\wr.ownsRow W.heap.size 67 3 s5 (fL d P i).length (az (fL d P i))/\Below W.heap.size W wr) (λ_ s6 _=>P.length-(intOf s6).toNat)
 case atStart=>exact⟨0,Q8,Q,wz _ _ _ _,Q9⟩
 case round=>
  obtain⟨i,hin,rfl,f,x⟩:=hrel;obtain⟨so,sc,rfl,-⟩:=ao f;have j:=aq (HW.o.1.t (x.m HW.o.1.size));have F:=ag j.o c2;have V:=ag j.o c3;have D:=HH.o.2.2.2.2 i;by_cases p:i<P.length
  .have hii:(i:dT)<(P.length:dT):=by omega
   obtain⟨g,cap,he,-,hg,-,-,e2,-⟩:=Be HH.o.2.1.NZ i p;cases he;replace e2:=ag j.o e2;have r:=mi wr (HH.o.1.below j.o) (HH.o.2.1.below j.o) i p;have G:=aq (zJ d P i p);have ad:=HH.o.2.2.1.lists _ (sq p);have a2:Hid (P[i].NF d=Y->d<P[i].fin):=λh=>by
    unfold PlL.NF at h;rw[bT]at h;exact of_decide_eq_true h.2
   have HO:=bJ f x;clear f x;generalize P[i].NF d=bo at *;generalize P[i]=l at *;generalize fL d P i=q at *;obtain⟨NA,v,pp,fn,gone⟩:=l;simp only at e2 G ad;have hbsz:=HO.o.2.size;go_wp2_with fail
   refine r.m ?_;rintro e A ⟨rfl,b1⟩;have y:=aq b1;have hsz1:=b1.size;replace F:=ag b1 F;replace V:=ag b1 V;replace e2:=ag b1 e2;clear b1 r;cases bo
   .go_wp2_with fail
    refine⟨⟨i+1,p,by go_num,?_,HO.o.2.t (y.o.m HO.o.2.size)⟩,by simp[intOf];omega⟩;rw[G.o,eW (by simp)];exact HO.o.1.kept (aQ y.o N) (eh _)
   .go_upto_region 7 with fail
    have hop2:d<fn:=a2.o (by first|trivial|rfl);have af:Hid (IntKind.i64.wrap (fn-d)=fn-d):=wrap_small _ (by omega) (by omega);have a0:Hid (∀X:Obj,(A.alloc X).ownsRow W.heap.size 67 3 (M so q.length sc) q.length (az q)):=λX=>(HO.o.1.kept (aQ y.o N) (eh _)).alloc X
    go_region_law (refine Rk _ Q _ _ 51 Q W.heap.size 67 i0 _ 3 32 (Yq.u underlying51) a5 ai ap ar Q (by decide) (M so q.length sc) q.length (az q) (by simp[Act.eval]) (a0.o _) ⟨A.heap.size,0,N⟩ 1 1 [I K 0,U ⟨#[]⟩,I K (IntKind.i64.wrap (fn-d))] (by simp[Act.eval]) Q (Bf A _ _ _ _) (by simp[yz]) (by omega) (by simp only[Rm];omega) (by omega) (by simp;omega) (A.heap.size+1) (by simp) ?_;intro g ab w3 aj n hgg hlt3;have ac:Hid (w3.ownsRow W.heap.size 67 3 (M (J ⟨g,0,N⟩) (q.length+1) ab) (q.length+1) (az q++[I K 0,U ⟨#[]⟩,I K (IntKind.i64.wrap (fn-d))])/\(A.alloc (E #[I K 0,U ⟨#[]⟩,I K (IntKind.i64.wrap (fn-d))] 67)).grownBy w3 (xt so q.length sc).ownBlock):=⟨aj,⟨n.os,n.tape,n.output,n.size,n.block⟩⟩)
    all_goals
     go_wp2_with fail
     refine⟨⟨i+1,p,by go_num,?_,?_⟩,by simp[intOf];omega⟩
     .rw [G.o,gL (by trivial),lP,lS];have e:az (q++[⟨0,⟨#[]⟩,fn-d⟩])=az q++[I K 0,U ⟨#[]⟩,I K (IntKind.i64.wrap (fn-d))]:=by rw[af.o];simp[az]
      rw[e];exact ac.o.1
     .have aa:Below W.heap.size W A:=HO.o.2.t (y.o.m HO.o.2.size);exact(aa.alloc aa.size _).grown ac.o.2 (by have:=aa.size;simp;omega) (λb e=>(HO.o.1.lt b e).1)
  .have a3:i=P.length:=by omega
   subst a3;have HO:Hid (wr.ownsRow W.heap.size 67 3 (M so (fL d P P.length).length sc) (fL d P P.length).length (az (fL d P P.length))/\Below W.heap.size W wr):=⟨f,x⟩;have r:=HC.o wr j.o;have⟨d0,d1,d2,d3,d4⟩:=HW.o.2.on x;have HS:=nU vi (M so (fL d P P.length).length sc) (fL d P P.length) wr (HH.o.2.2.2.1 wr j.o) (po f).o (by omega);have HD:=aq (HW.o.2.on x);clear f x HC;go_wp2_with fail
   refine r.m ?_;rintro e A ⟨rfl,av⟩;subst av;clear r;go_wp2_with fail
   refine HS.m ?_;rintro e w2 ⟨rfl,b2⟩;have⟨f0,f1,f2,f3,f4⟩:=HD.o.on b2;have a1:=aq (j.o.t (b2.m j.o.size));clear b2 HS d0 d1 d2 d3 d4 F V;go_wp2_with fail
   go_ret;exact⟨Q,a1.o⟩
theorem zK{A:dT}w(c:aD B w k vT R nx A)(y:aH B w k P T vL sl)(b:Sim st R nx)(SL:gh L P T A s){a}(hz:ec B w k a (RwB vT R))(hq:Zq a)(hs:s<2199023255300)(v:L.opened.length<=3)o(hk:o.kind=10)r(F:∀p,PFr B k (RwB vT R) w p->j6 p r (L.opened.map iT)):
  Calls Vp 12 #[O (J ⟨k,0,N⟩),aL o,Rd #[I K 0,I K st.count,U ⟨#[]⟩,r,U ⟨#[]⟩]] w (cQ B k st L Zq s w):=by
 obtain⟨kind,u,i,fe,n,nn,z⟩:=o;subst hk;have f:=y.lt;have HH:=ig c y b SL;have j:Below w.heap.size w ((w.alloc (E #[I K 10,U u,U i,U fe,U n,I K nn,I K z] 37)).alloc (E #[I K 0,I K st.count,U ⟨#[]⟩,r,U ⟨#[]⟩] 53)):=((bR _ w).alloc Q0 _).alloc (by simp) _;have HB:=aq j;have l:=bJ hz hq;unfold aL;go_enter (Yq.nq func12),ntmps12;go_wp2_with fail
 refine(Db _ (c.below j) (y.below j) b SL hs v r (λp h=>F p (PFr.below f (j.t (h.m j.size))))).m ?_;rintro e w2 ⟨rfl,X⟩;have d:=aq (HB.o.t (X.m HB.o.size));go_wp2_with fail
 go_ret;exact cQ.mk l.o.1 l.o.2 (HH.o.1.below d.o) (HH.o.2.1.below d.o) HH.o.2.2.1 (HH.o.2.2.2.m (by omega)) (PFr.below f d.o) (λ_ _ h=>h)
end
