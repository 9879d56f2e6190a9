/- A part. -/
import Derived.Test.YteidaiooccmmmaaGreatDoorQP07
import Derived.Lib.AppendStr
import Derived.OwnWalkIn
import Derived.Shelf.SlSortCmp.WholeK
import Derived.Shelf.SlSortCmp.NoneTotal
import Derived.Deep.QuietTactic
import Derived.BigQuiet
set_option maxHeartbeats 4000000
set_option maxRecDepth 100000
open Go renaming World->Wj,Value->Wx,TypeId->Ww
namespace Go.Proofs.Qw
open Option renaming none->N,some->J
open Bool renaming true->Y,false->Z
open Value renaming int->I,string->U,slice->M,pointer->O,bool->C
open IntKind renaming i64->K
open Obj renaming cells->E
variable {Q:Exit->Act->Wj->Prop}{T:Ww}
section
open Go.Conc Go.ConcX Go.ConcX.Gen Go.RowKit
theorem zG(c:Int)(w:Wj):(Instr.build 46 #[(0,I K c)]).run Yq.prog w=.ok (.agg #[I K c,I K 0,U ⟨#[]⟩,M N 0 0,U ⟨#[]⟩]) w:=by kernel_rfl
theorem zH(v:Int)(b:Option Addr)(a c:Nat)(w:Wj):(Instr.build 46 #[(1,I K v),(3,M b a c)]).run Yq.prog w=.ok (.agg #[I K 0,I K v,U ⟨#[]⟩,M b a c,U ⟨#[]⟩]) w:=by kernel_rfl
theorem mj(c:Int)(b:Option Addr)(a d:Nat)(t:ByteArray)(w:Wj):(Instr.build 46 #[(0,I K c),(3,M b a d),(4,U t)]).run Yq.prog w=.ok (.agg #[I K c,I K 0,U ⟨#[]⟩,M b a d,U t]) w:=by kernel_rfl
section
variable {A:Nat->Prop} {B k0:Nat} {w:Wj} {st:St} {L:Lg}
def dP(w:Wj)(o:OpD):Wj:=(w.alloc (E #[I K o.kind,U o.key,U o.body,U o.delim,U o.past,I K o.n,I K o.src] 30)).alloc (E #[I K 0,I K 0,U ⟨#[]⟩,M N 0 0,U ⟨#[]⟩] 46)
theorem ba(o:OpD):au w (dP w o):=(au.refl.alloc _).alloc _
theorem bc(o:OpD):(dP w o).heap.size=w.heap.size+2:=by simp[dP]
theorem js(o:OpD):(dP w o).heap[w.heap.size+1]?=J (E #[I K 0,I K 0,U ⟨#[]⟩,M N 0 0,U ⟨#[]⟩] 46):=by
 have:=aN (w.alloc (E #[I K o.kind,U o.key,U o.body,U o.delim,U o.past,I K o.n,I K o.src] 30)) (E #[I K 0,I K 0,U ⟨#[]⟩,M N 0 0,U ⟨#[]⟩] 46)
 rwa [World.size_alloc]at this
theorem i6(o:OpD)(h:dE A B w k0 L):∀g,jY k0 (dP w o) g->g<w.heap.size:=λg d=>by
 obtain⟨v,a,e⟩:=d;obtain⟨v4,c,zs,z1,b,-⟩:=h.opened;rw[(ba o).cell c]at a;cases a;exact(b.lt g e).2
theorem rx(o:OpD)(h:dE A B w k0 L){a:Wj}(b:FrC k0 (dP w o) a):a.heap[w.heap.size+1]?=J (E #[I K 0,I K 0,U ⟨#[]⟩,M N 0 0,U ⟨#[]⟩] 46):=by
 have hlt:=h.lt;rw[b.keep _ ⟨_,js o,rfl⟩ (by omega) (λc=>by have:=i6 o h _ c;omega)];exact js o
def Box5(w1:Wj)(r:Nat):Prop:=
  (w1.cell? ⟨r,0,N⟩=J (I K 0)/\w1.cell? ⟨r,1,N⟩=J (I K 0)/\w1.cell? ⟨r,2,N⟩=J (U ⟨#[]⟩)/\w1.cell? ⟨r,3,N⟩=J (M N 0 0)/\w1.cell? ⟨r,4,N⟩=J (U ⟨#[]⟩)) /\
  (w1.frozen? ⟨r,0,N⟩=Z/\w1.frozen? ⟨r,1,N⟩=Z/\w1.frozen? ⟨r,2,N⟩=Z/\w1.frozen? ⟨r,3,N⟩=Z/\w1.frozen? ⟨r,4,N⟩=Z)
theorem box5{a:Wj}{r:Nat}(e:a.heap[r]?=J (E #[I K 0,I K 0,U ⟨#[]⟩,M N 0 0,U ⟨#[]⟩] 46)):Box5 a r:=by
 refine⟨⟨?_,?_,?_,?_,?_⟩,?_,?_,?_,?_,?_⟩<;>simp[World.cell?,World.frozen?,e]
theorem wk(h:br A B w k0 st L)(X:B<=w.heap.size)(p:L.opened.length<=3)(s:∀x∈L.opened,0<=x.left/\x.left<=10)(o:OpD)(u:o.kind=9):
  Calls Yq.prog 8 #[O (J ⟨k0,0,N⟩),aT o] w (cQ A B k0 w st (eR L o.n).1 ⟨(eR L o.n).2,0,⟨#[]⟩,[],⟨#[]⟩⟩):=by
 have HT:=He (dP w o) (h.left (ba o)) p o.n s;have d:∀a,FrC k0 (dP w o) a->_:=λa z=>box5 (rx o h.ls z)
 have HB:Hid (∀a,FrC k0 (dP w o) a->_):=d;have HF:Hid (∀a i t m l k,br A B a k0 st (eR L o.n).1->gO A B k0 (dP w o) a->FrC k0 (dP w o) a->cQ A B k0 w st (eR L o.n).1 ⟨(eR L o.n).2,0,⟨#[]⟩,[],⟨#[]⟩⟩ (.returned (ll ⟨(eR L o.n).2,0,⟨#[]⟩,[],⟨#[]⟩⟩ (M N 0 0))) (put5 a (w.heap.size+1) i t m l k)):=λa i t m l k q j f=>by
  have⟨P,e2,S,V⟩:=rv (A':=A) (sv:=M N 0 0) (its:=[]) (r:=w.heap.size+1) (ba o) h.ls.lt X (by omega) (by rw[bc];omega) ⟨_,js o,rfl⟩ (λ_ h=>h) (λb G=>.inl G) h.ls.inn q j f (i6 o h.ls) ⟨N,0,rfl,λ_=>rfl,λh=>absurd rfl h⟩ i t m l k;exact⟨_,rfl,A,λ_ h=>h,P,e2,S,V⟩
 have hb1:=zG;have HD:Hid (br A B w k0 st L):=h;generalize T:(eR L o.n)=R at *;obtain⟨L',c⟩:=R;simp only at HT HF ⊢;obtain⟨kind,key,body,delim,past,n,src⟩:=o;simp only at u;subst u;unfold dP at HT HF HB;clear h d T;unfold aT;go_enter (Yq.nq Tryz.func8),Tryz.ntmps8;go_wp2_with (go_at_call 20;refine HT.mono ?_;clear HT;rintro e a ⟨rfl,q,j,f⟩;have⟨⟨Q,y,D,H,F⟩,f0,f1,f2,f3,f4⟩:=HB.out a f)
 exact bodyPost_ret (v:=ll ⟨c,0,⟨#[]⟩,[],⟨#[]⟩⟩ (M N 0 0)) (by simp[results,Tryz.results8,go_sem,ll,Q,y,D,H,F]) rfl (HF.out a _ _ _ _ _ q j f)
end
section
variable {A:Nat->Prop} {B k0:Nat} {w W w2:Wj} {st st':St} {L L':Lg} {o:OpD} {its:List ItD} {sv:Wx}
theorem EW(h:dE A B w k0 L)(b:au (dP w o) W)(a:bE A B k0 W L' its sv w2):w2.heap[w.heap.size+1]?=J (E #[I K 0,I K 0,U ⟨#[]⟩,M N 0 0,U ⟨#[]⟩] 46):=by
 obtain⟨A',-,-,-,-,-,c⟩:=a;have hlt:=h.lt;exact rx o h ((FrC.left (by rw[bc];omega) b).trans c)
theorem B7(L:Lg)(f:List UInt8->List Ver)(q:Qy)(n:Int):(eQ L f q n).1.tm=L.tm:=by
 unfold eQ
 repeat' split
 all_goals rfl
theorem EX(L:Lg)(a:ByteArray):(dO L a).1.tm=L.tm:=by
 unfold dO
 repeat' split
 all_goals rfl
theorem EY(h:br A B w k0 st L)(G:B<=w.heap.size)(d:au (dP w o) W)(q:bE A B k0 W L' its sv w2)(a:j8)(y:a.items=its)(s:L'.tm=L.tm)(k p n m l:Wx):cQ A B k0 w st L' a (.returned (ll a sv)) (put5 w2 (w.heap.size+1) k p n m l):=by
 subst y;obtain⟨A',f,z,H,j,P,u⟩:=q;have e:=h.ls.lt;have i:=h.left ((ba o).trans d);have hsW:=d.size;have F:=i.step j f H s;have c:k0<(dP w o).heap.size:=by rw[bc];omega
 have⟨v,Q,x,D⟩:=rv (A':=A') (sv:=sv) (its:=a.items) (r:=w.heap.size+1) (ba o) e G (by omega) (by rw[bc];omega) ⟨_,js o,rfl⟩ f (λb t=>(z b t).imp id (by omega)) h.ls.inn F ((gO.left c d).trans j.weak) ((FrC.left c d).trans u) (i6 o h.ls) P k p n m l;exact⟨_,rfl,A',f,v,Q,x,D⟩
theorem B8(h:br A B w k0 st L)(hB:B<=w.heap.size)(y:au (dP w o) W)(hp:bE A B k0 W L' its sv w2)(a:j8)(ha:a.items=its)(ht:L'.tm=L.tm)(c:Nat)(hb1:w.heap.size+2<=c)(hb2:c<W.heap.size)(q:dp W c)(p t V x1 x2 x3 X:Wx):cQ A B k0 w st L' a (.returned (ll a sv)) (put5 ((w2.setCell ⟨c,0,N⟩ p).setCell ⟨c,1,N⟩ t) (w.heap.size+1) V x1 x2 x3 X):=by
 subst ha;obtain⟨A',H,a2,a3,a4,a5,T⟩:=hp;have P:=h.ls.lt;have hlow:=h.ls.low;have S:=h.left ((ba o).trans y);have hsW:=y.size;have d1:=S.step a4 H a3 ht;have s:k0<(dP w o).heap.size:=by rw[bc];omega
 have i:¬A' c:=λf=>by
  rcases a2 c f with f|f
  .have:=h.ls.inn c f;omega
  .omega
 have l:¬jY k0 W c:=by
  rintro⟨v,G,Q⟩;obtain⟨v4,c4,zs,z1,z2,-⟩:=h.ls.opened;rw[((ba o).trans y).cell c4]at G;cases G;have:=(z2.lt c Q).2;omega
 have m:¬jY k0 w2 c:=λf=>by
  rcases T.own c f with f|f
  .exact l f
  .omega
 have z:dp w2 c:=q.same (T.keep c q (by omega) l);have F:¬jY k0 (w2.setCell ⟨c,0,N⟩ p) c:=by
  rintro⟨v,G,Q⟩;exact m ⟨v,(cB (a:=⟨k0,4,N⟩) (bS _ _ _ _ (show k0≠c by omega))).symm.trans G,Q⟩
 have d:c≠k0:=by omega
 have d2:=(d1.other (j:=0) (x:=p) d i z m (by omega)).other (j:=1) (x:=t) d i z.set F (by omega);have D:∀b,b≠c->((w2.setCell ⟨c,0,N⟩ p).setCell ⟨c,1,N⟩ t).heap[b]?=w2.heap[b]?:=λb n=>by rw[bS _ _ _ _ n,bS _ _ _ _ n]
 have k:¬A c:=λf=>i (H c f)
 have u:gO A B k0 (dP w o) ((w2.setCell ⟨c,0,N⟩ p).setCell ⟨c,1,N⟩ t):=(((gO.left s y).trans a4.weak).trans (aV.other d k (by omega)).weak).trans (aV.other d k (by omega)).weak;have R:FrC k0 (dP w o) ((w2.setCell ⟨c,0,N⟩ p).setCell ⟨c,1,N⟩ t):=(((FrC.left s y).trans T).fresh (by rw[bc];omega) d).fresh (by rw[bc];omega) d;have⟨e1,e2,e3,e4⟩:=rv (A':=A') (sv:=sv) (its:=a.items) (r:=w.heap.size+1) (ba o) P hB (by omega) (by rw[bc];omega) ⟨_,js o,rfl⟩ H (λb n=>(a2 b n).imp id (by omega)) h.ls.inn d2 u R (i6 o h.ls) (bZ.keep a5 λb n _=>⟨n,D b (λe=>i (e▸n))⟩) V x1 x2 x3 X;exact⟨_,rfl,A',H,e1,e2,e3,e4⟩
end
def dQ(toks:List ByteArray)(src:Int)(body:ByteArray):ByteArray:=
 if 0<=src/\src<toks.length then(if toks[src.toNat]?.getD ⟨#[]⟩=⟨#[]⟩then body else toks[src.toNat]?.getD ⟨#[]⟩)else body
noncomputable def wl:Array Oper:=oW (iz (iz (dh (bV Tryz.f19))))
noncomputable def EZ:Array Oper:=oW (iz (iz (dh (bV Tryz.f25))))
def Ju(ops:Array Oper)(s so j i1 i2:Nat)(lv:Wx)(b:Bool):Prop:=
 (ops=wl/\j=8/\i1=so+s*5/\i2=so+s*5+4/\∃t:ByteArray,lv=U t/\b=!(t.toList == []))\/(ops=EZ/\j=7/\i1=so+s*7/\i2=so+s*7/\∃t:Int,lv=I K t/\b=(t==11))
theorem FP{id m:Nat}{H:Act}{W:Wj}{k0 y u n R s so j i1 i2:Nat}{q:Int}{ops:Array Oper}{lv:Wx}{b:Bool}(hs:H.tmps.size=32)(e0:H.eval (.tmp 0)=ptr k0)(e3:H.eval (.tmp 3)=ptr y)(c6:W.cell? ⟨y,6,N⟩=J (I K q))(B:Ju ops s so j i1 i2 lv b)(c8:W.cell? ⟨k0,j,N⟩=J (M (J ⟨u,so,N⟩) n R))(S:q=s)(aa:s<n)(ct:W.cell? ⟨u,i2,N⟩=J lv)
  (hA:Calls Yq.prog 48 #[ptr k0,I K q] {W with drawn:=W.drawn+1} λe w'=>e=.returned (C Y)/\w'={W with drawn:=W.drawn+1})
  (A:∀a,a.tmps.size=32->a.defers=H.defers->(∀t,t<5->a.eval (.tmp t)=H.eval (.tmp t))->a.eval (.tmp 20)=C b->Q .normal a {W with drawn:=W.drawn+1}):
  (Code.region id ops Y).wpIn (wf N) m Yq.prog Q H W:=by
 obtain⟨W1,D⟩:∃W1:Wj,W1={W with drawn:=W.drawn+1}:=⟨_,rfl⟩;rw[<-D]at hA A;have F:∀a,W1.cell? a=W.cell? a:=λa=>by rw[D];rfl
 have d6:W1.cell? ⟨y,6,N⟩=J (I K q):=(F _).trans c6;have d8:W1.cell? ⟨k0,j,N⟩=J (M (J ⟨u,so,N⟩) n R):=(F _).trans c8;have ac:W1.cell? ⟨y,6,N⟩=J (I K (s:Int)):=by rw[d6,S]
 have dt:W1.cell? ⟨u,i2,N⟩=J lv:=(F _).trans ct;obtain⟨o4,ab,ad⟩:∃o4,ops[4]?=J o4/\o4.dst=J 9:=by rcases B with⟨rfl,-⟩|⟨rfl,-⟩<;>exact⟨_,rfl,rfl⟩
 rcases B with⟨rfl,hj,P,T,t,L,hb⟩|⟨rfl,hj,P,T,t,L,hb⟩;all_goals
  refine fS (ro:=N) (a0:=H) (w0:=W) mixed 5 16 (λi=>match i with| 0=>ptr k0| 1=>O (J ⟨y,6,N⟩)| 2=>I K q| 3=>C Y| 4=>C Y| 5=>ptr k0| 6=>ptr k0| 7=>O (J ⟨k0,j,N⟩)| 8=>M (J ⟨u,so,N⟩) n R| 9=>O (J ⟨y,6,N⟩)| 10=>I K (s:Int)| 11=>O (J ⟨u,i1,N⟩)| 12=>O (J ⟨u,i2,N⟩)| 13=>lv|_=>C b) (λ_ w=>w=W1) (by omega) (by rfl) (by rfl) (λlisted a w i o hi p V k hcl=>?_) (λa w P T h3 h4 h5=>?_) (by rw[D])
  rotate_left
  .obtain ⟨d,-,rfl⟩:=h5;exact A a (P.trans hs) T h3 (h4 15 (by omega) (by decide))
  obtain rfl:w=W1:=V.world;have hlt:i<16:=(cR hi).1;have HY:=λh=>jm (a:=a) (x:=Y) ab ad (by rw[V.size,hs];omega) (V.new 4 (by omega) h)
  rcases i with - | - | - | - | - | - | - | - | - | - | - | - | - | - | - | - |i;all_goals first|omega|(have G:=p;dsimp only[wl,EZ,bV,Tryz.f19,Tryz.f25,iz,dh,oW,Option.getD]at G;simp only[gA,gS,gZ,oI,Nat.reduceAdd,zA]at G;subst G)
  .have l:a.eval (.tmp 0)=ptr k0:=(V.old 0 (by omega)).trans e0;refine ao p rfl (λc h=>by cases h) (v:=ptr k0) (w':=w) (by generalize a.eval=r at l ⊢;simp[go_sem,l]) ⟨_,rfl,λ_=>rfl,V.world⟩
  .have l:a.eval (.tmp 3)=ptr y:=(V.old 3 (by omega)).trans e3;refine ao p rfl (λc h=>by cases h) (v:=O (J ⟨y,6,N⟩)) (w':=w) (by generalize a.eval=r at l ⊢;simp[go_sem,l,ptr]) ⟨_,rfl,λ_=>rfl,V.world⟩
  .have l:a.eval (.tmp 6)=O (J ⟨y,6,N⟩):=V.new 1 (by omega) (k ⟨1,.data⟩ (by simp) rfl);refine ao p rfl (λc h=>by cases h) (v:=I K q) (w':=w) (by generalize a.eval=r at l ⊢;simp[go_sem,l,d6]) ⟨_,rfl,λ_=>rfl,V.world⟩
  .have l:a.eval (.tmp 5)=ptr k0:=V.new 0 (by omega) (k ⟨0,.data⟩ (by simp) rfl);have z:a.eval (.tmp 7)=I K q:=V.new 2 (by omega) (k ⟨2,.data⟩ (by simp) rfl);refine iT (f:=48) (args:=#[ptr k0,I K q]) (w':=w) p rfl (λc h=>by cases h) (by have qf:=hfun a rfl 48;generalize a.eval=r at l z qf ⊢;simp[go_sem,l,z,qf]) (hA.mono ?_);rintro e X ⟨rfl,rfl⟩;exact⟨_,rfl,_,rfl,λ_=>rfl,V.world⟩
  .have l:a.eval (.tmp 8)=C true:=V.new 3 (by omega) (k ⟨3,.data⟩ (by simp) rfl);refine ao p rfl (λc h=>by cases h) (v:=C Y) (w':=w) (by generalize a.eval=r at l ⊢;simp[go_sem,l]) ⟨_,rfl,λ_=>rfl,V.world⟩
  .have l:a.eval (.tmp 0)=ptr k0:=(V.old 0 (by omega)).trans e0;refine ao p (by simp[Region.wanted,HY (k ⟨4,.guard⟩ (by simp) rfl)]) (λc h=>by cases h) (v:=ptr k0) (w':=w) (by generalize a.eval=r at l ⊢;simp[go_sem,l]) ⟨_,rfl,λ_=>rfl,V.world⟩
  .have l:a.eval (.tmp 10)=ptr k0:=V.new 5 (by omega) (k ⟨5,.data⟩ (by simp) rfl);refine ao p (by simp[Region.wanted,HY (k ⟨4,.guard⟩ (by simp) rfl)]) (λc h=>by cases h) (v:=ptr k0) (w':=w) (by generalize a.eval=r at l ⊢;simp[go_sem,l,ptr]) ⟨_,rfl,λ_=>rfl,V.world⟩
  .have l:a.eval (.tmp 11)=ptr k0:=V.new 6 (by omega) (k ⟨6,.data⟩ (by simp) rfl);refine ao p (by simp[Region.wanted,HY (k ⟨4,.guard⟩ (by simp) rfl)]) (λc h=>by cases h) (v:=O (J ⟨k0,j,N⟩)) (w':=w) (by generalize a.eval=r at l ⊢;simp[go_sem,l,ptr,hj]) ⟨_,rfl,λ_=>rfl,V.world⟩
  .have l:a.eval (.tmp 12)=O (J ⟨k0,j,N⟩):=V.new 7 (by omega) (k ⟨7,.data⟩ (by simp) rfl);refine ao p (by simp[Region.wanted,HY (k ⟨4,.guard⟩ (by simp) rfl)]) (λc h=>by cases h) (v:=M (J ⟨u,so,N⟩) n R) (w':=w) (by generalize a.eval=r at l ⊢;simp[go_sem,l,d8]) ⟨_,rfl,λ_=>rfl,V.world⟩
  .have l:a.eval (.tmp 3)=ptr y:=(V.old 3 (by omega)).trans e3;refine ao p (by simp[Region.wanted,HY (k ⟨4,.guard⟩ (by simp) rfl)]) (λc h=>by cases h) (v:=O (J ⟨y,6,N⟩)) (w':=w) (by generalize a.eval=r at l ⊢;simp[go_sem,l,ptr]) ⟨_,rfl,λ_=>rfl,V.world⟩
  .have l:a.eval (.tmp 14)=O (J ⟨y,6,N⟩):=V.new 9 (by omega) (k ⟨9,.data⟩ (by simp) rfl);refine ao p (by simp[Region.wanted,HY (k ⟨4,.guard⟩ (by simp) rfl)]) (λc h=>by cases h) (v:=I K (s:Int)) (w':=w) (by generalize a.eval=r at l ⊢;simp[go_sem,l,ac]) ⟨_,rfl,λ_=>rfl,V.world⟩
  .have l:a.eval (.tmp 13)=M (J ⟨u,so,N⟩) n R:=V.new 8 (by omega) (k ⟨8,.data⟩ (by simp) rfl);have z:a.eval (.tmp 15)=I K (s:Int):=V.new 10 (by omega) (k ⟨10,.data⟩ (by simp) rfl);refine ao p (by simp[Region.wanted,HY (k ⟨4,.guard⟩ (by simp) rfl)]) (λc h=>by cases h) (v:=O (J ⟨u,i1,N⟩)) (w':=w) (by generalize a.eval=r at l z ⊢;simp[go_sem,l,z,aa,P]) ⟨_,rfl,λ_=>rfl,V.world⟩
  .have l:a.eval (.tmp 16)=O (J ⟨u,i1,N⟩):=V.new 11 (by omega) (k ⟨11,.data⟩ (by simp) rfl);refine ao p (by simp[Region.wanted,HY (k ⟨4,.guard⟩ (by simp) rfl)]) (λc h=>by cases h) (v:=O (J ⟨u,i2,N⟩)) (w':=w) (by generalize a.eval=r at l ⊢;simp[go_sem,l,P,T]) ⟨_,rfl,λ_=>rfl,V.world⟩
  .have l:a.eval (.tmp 17)=O (J ⟨u,i2,N⟩):=V.new 12 (by omega) (k ⟨12,.data⟩ (by simp) rfl);refine ao p (by simp[Region.wanted,HY (k ⟨4,.guard⟩ (by simp) rfl)]) (λc h=>by cases h) (v:=lv) (w':=w) (by generalize a.eval=r at l ⊢;simp[go_sem,l,dt,L]) ⟨_,rfl,λ_=>rfl,V.world⟩
  .have l:a.eval (.tmp 18)=lv:=V.new 13 (by omega) (k ⟨13,.data⟩ (by simp) rfl);have z:∀c,a.eval (.const c)=c:=λ_=>rfl
   refine ao p (by simp[Region.wanted,HY (k ⟨4,.guard⟩ (by simp) rfl)]) (λc h=>by cases h) (v:=C b) (w':=w) (by generalize a.eval=r at l z ⊢;simp[go_sem,l,z,L,hb]) ⟨_,rfl,λ_=>rfl,V.world⟩
  .have l:a.eval (.tmp 9)=C true:=V.new 4 (by omega) (k ⟨4,.data⟩ (by simp) rfl);have z:a.eval (.tmp 19)=C b:=V.new 14 (by omega) (k ⟨14,.data⟩ (by simp) rfl);have q2:a.eval (.const (C Z))=C false:=rfl;refine ao p rfl (λc h=>by cases h) (v:=C b) (w':=w) (by generalize a.eval=r at l z q2 ⊢;simp[go_sem,l,z,q2]) ⟨_,rfl,λ_=>rfl,V.world⟩
theorem I6{id m:Nat}{u:Act}{W:Wj}{k0 s  :Nat}{k:Int}{ops:Array Oper}  (G:u.tmps.size=32)(R:u.eval (.tmp 0)=ptr k0)(e3:u.eval (.tmp 3)=ptr s)(c6:W.cell? ⟨s,6,N⟩=J (I K k))(p:ops=wl\/ops=EZ)
  (L:Calls Yq.prog 48 #[ptr k0,I K k] {W with drawn:=W.drawn+1} λe w'=>e=.returned (C Z)/\w'={W with drawn:=W.drawn+1})
  (n:∀a,a.tmps.size=32->a.defers=u.defers->(∀t,t<5->a.eval (.tmp t)=u.eval (.tmp t))->a.eval (.tmp 20)=C Z->Q .normal a {W with drawn:=W.drawn+1}):
  (Code.region id ops Y).wpIn (wf N) m Yq.prog Q u W:=by
 obtain⟨W1,r⟩:∃W1:Wj,W1={W with drawn:=W.drawn+1}:=⟨_,rfl⟩;rw[<-r]at L n;have z:∀a,W1.cell? a=W.cell? a:=λa=>by rw[r];rfl
 have d6:W1.cell? ⟨s,6,N⟩=J (I K k):=(z _).trans c6;obtain⟨A,D,B⟩:∃A,ops[4]?=J A/\A.dst=J 9:=by rcases p with rfl|rfl<;>exact⟨_,rfl,rfl⟩
 rcases p with rfl|rfl;all_goals
  refine fS (ro:=N) (a0:=u) (w0:=W) mixed 5 16 (λi=>match i with| 0=>ptr k0| 1=>O (J ⟨s,6,N⟩)| 2=>I K k| 3=>C Z| 4=>C Z| 15=>C Z|_=>undef) (λ_ w=>w=W1) (by omega) (by rfl) (by rfl) (λlisted a w i o hi l V b hcl=>?_) (λa w h1 S T h4 h5=>?_) (by rw[r])
  rotate_left
  .obtain ⟨d,-,rfl⟩:=h5;exact n a (h1.trans G) S T (h4 15 (by omega) (by decide))
  obtain rfl:w=W1:=V.world;have hlt:i<16:=(cR hi).1;have HY:=λh=>jm (a:=a) (x:=Z) D B (by rw[V.size,G];omega) (V.new 4 (by omega) h)
  rcases i with - | - | - | - | - | - | - | - | - | - | - | - | - | - | - | - |i;all_goals first|omega|(have q:=l;dsimp only[wl,EZ,bV,Tryz.f19,Tryz.f25,iz,dh,oW,Option.getD]at q;simp only[gA,gS,gZ,oI,Nat.reduceAdd,zA]at q;subst q)
  .have j:a.eval (.tmp 0)=ptr k0:=(V.old 0 (by omega)).trans R;refine ao l rfl (λc h=>by cases h) (v:=ptr k0) (w':=w) (by generalize a.eval=y at j ⊢;simp[go_sem,j]) ⟨_,rfl,λ_=>rfl,V.world⟩
  .have j:a.eval (.tmp 3)=ptr s:=(V.old 3 (by omega)).trans e3;refine ao l rfl (λc h=>by cases h) (v:=O (J ⟨s,6,N⟩)) (w':=w) (by generalize a.eval=y at j ⊢;simp[go_sem,j,ptr]) ⟨_,rfl,λ_=>rfl,V.world⟩
  .have j:a.eval (.tmp 6)=O (J ⟨s,6,N⟩):=V.new 1 (by omega) (b ⟨1,.data⟩ (by simp) rfl);refine ao l rfl (λc h=>by cases h) (v:=I K k) (w':=w) (by generalize a.eval=y at j ⊢;simp[go_sem,j,d6]) ⟨_,rfl,λ_=>rfl,V.world⟩
  .have j:a.eval (.tmp 5)=ptr k0:=V.new 0 (by omega) (b ⟨0,.data⟩ (by simp) rfl);have H:a.eval (.tmp 7)=I K k:=V.new 2 (by omega) (b ⟨2,.data⟩ (by simp) rfl);refine iT (f:=48) (args:=#[ptr k0,I K k]) (w':=w) l rfl (λc h=>by cases h) (by have F:=hfun a rfl 48;generalize a.eval=y at j H F ⊢;simp[go_sem,j,H,F]) (L.mono ?_);rintro e X ⟨rfl,rfl⟩;exact⟨_,rfl,_,rfl,λ_=>rfl,V.world⟩
  .have j:a.eval (.tmp 8)=C false:=V.new 3 (by omega) (b ⟨3,.data⟩ (by simp) rfl);refine ao l rfl (λc h=>by cases h) (v:=C Z) (w':=w) (by generalize a.eval=y at j ⊢;simp[go_sem,j]) ⟨_,rfl,λ_=>rfl,V.world⟩
  iterate 10 exact sX l (by simp[Region.wanted,HY (b ⟨4,.guard⟩ (by simp) rfl)]) ⟨_,rfl,λ_=>rfl,V.world⟩
  .have j:a.eval (.tmp 9)=C false:=V.new 4 (by omega) (b ⟨4,.data⟩ (by simp) rfl);have P:a.eval (.const (C Z))=C false:=rfl;refine ao l rfl (λc h=>by cases h) (v:=C Z) (w':=w) (by generalize a.eval=y at j P ⊢;simp[go_sem,j,P]) ⟨_,rfl,λ_=>rfl,V.world⟩
theorem E1(k0 R c:Nat)(d:List ByteArray)(o:OpD)(w:Wj)(hn:d.length<=2199023255552)(S:w.cell? ⟨k0,8,N⟩=J (M (J ⟨R,0,N⟩) d.length c))(ht:∀s (V:s<d.length),w.cell? ⟨R,s*5+4,N⟩=J (U d[s])):
  Calls Yq.prog 19 #[O (J ⟨k0,0,N⟩),aT o] w λe w'=>e=.returned (U (dQ d o.src o.body))/\Below w.heap.size w w':=by
 obtain⟨B,P,h,p,y,n,f⟩:=o;have hlt:k0<w.heap.size:=bC w _ S;obtain⟨W,T⟩:∃W,W=w.alloc (E #[I K B,U P,U h,U p,U y,I K n,I K f] 30):=⟨_,rfl⟩;have i:Below w.heap.size w W:=by rw[T];exact(bR _ _).alloc (lR _) _
 have G:Below w.heap.size w {W with drawn:=W.drawn+1}:=⟨i.os,i.tape,i.output,i.size,i.block⟩;have d8:=ah i S;have HA:=ET k0 (J ⟨R,0,N⟩) d.length c f {W with drawn:=W.drawn+1} hn (ah G S);have r:W.heap[w.heap.size]?=J (E #[I K B,U P,U h,U p,U y,I K n,I K f] 30):=by rw[T];exact aN _ _
 have d6:W.cell? ⟨w.heap.size,6,N⟩=J (I K f):=by simp[World.cell?,r]
 have HB:Hid (Below w.heap.size w W/\W.cell? ⟨k0,8,N⟩=J (M (J ⟨R,0,N⟩) d.length c)/\W.cell? ⟨w.heap.size,6,N⟩=J (I K f)):=⟨i,d8,d6⟩;have HW:Hid (W=w.alloc (E #[I K B,U P,U h,U p,U y,I K n,I K f] 30)):=T;have ab:({W with drawn:=W.drawn+1}:Wj).cell? ⟨w.heap.size,2,N⟩=J (U h):=by
  show W.cell? _=_;simp[World.cell?,r]
 have ac:({W with drawn:=W.drawn+1}:Wj).cell? ⟨w.heap.size,6,N⟩=J (I K f):=d6;have ad:({W with drawn:=W.drawn+1}:Wj).cell? ⟨k0,8,N⟩=J (M (J ⟨R,0,N⟩) d.length c):=d8;obtain⟨D,Q⟩:∃D:Wj,D={W with drawn:=W.drawn+1}:=⟨_,rfl⟩;have k:Hid (D={W with drawn:=W.drawn+1}/\Below w.heap.size w D):=⟨Q,by rw[Q];exact G⟩;rw[<-Q]at ab ac ad HA;unfold aT;simp only;by_cases v:0<=f/\f<d.length
 .have hd:decide (0<=f/\f<d.length)=true:=by simp[v]
  rw[hd]at HA;obtain⟨s,rfl⟩:∃s:Nat,f=s:=⟨f.toNat,by omega⟩;have V:s<d.length:=by omega
  have c4:=ht s V;have ct:=ah i c4;have ctD:D.cell? ⟨R,s*5+4,N⟩=J (U d[s]):=by rw[Q];exact ct
  have e0:d[(s:Int).toNat]?.getD ⟨#[]⟩=d[s]:=by simp[V]
  have hR:dQ d s h=if d[s]=⟨#[]⟩then h else d[s]:=by rw[dQ,if_pos v,e0]
  rw[hR];generalize d[s]=t at *;clear T i G d8 d6 r ht S c4 Q;by_cases F:t=⟨#[]⟩
  .have L:(!(t.toList == []))=false:=by rw[F];simp
   rw[if_pos F];go_enter (Yq.nq Tryz.func19),Tryz.ntmps19
   go_upto_region 1 with fail
   rename_i K1 X K2 l;rw[<-HW.out];refine wpIn_wide.1 (show Code.wpIn (wf N) 0 _ _ _ _ _ from FP (id:=1) (m:=0) (s:=s) (so:=0) (j:=8) (i1:=0+s*5) (i2:=0+s*5+4) (lv:=U t) (b:=!(t.toList == [])) (ops:=wl) rfl rfl rfl HB.out.2.2 (.inl ⟨rfl,rfl,rfl,rfl,t,rfl,rfl⟩) HB.out.2.1 rfl V (by rw[zA];exact ct) (by rw[<-k.out.1];exact HA) (λa H q z u=>?_));rw[<-k.out.1];have q:a.defers=[]:=q;have v:=oy a 32 H;rw[L]at u;have x:a.eval (.tmp 0)=O (J ⟨k0,0,N⟩):=z 0 (by decide);have A:a.eval (.tmp 3)=O (J ⟨w.heap.size,0,N⟩):=z 3 (by decide);refine l _ _ ?_;rw[v,q];clear v H q z;generalize a.eval=ρ at x A u ⊢;simp only[List.range,List.range.loop,List.map_cons,List.map_nil,x,A,u];clear x A u l K2 HA ct;go_wp2_with fail
   go_ret;exact⟨rfl,k.out.2⟩
  .have aa:¬t.toList=[]:=λhx=>by
    have:(t==(⟨#[]⟩:ByteArray))=true:=by rw[beq_toListBytes];simpa using hx
    exact F ((MapKept.bytes_beq _ _).1 this)
   have L:(!(t.toList == []))=true:=by simpa using aa
   rw[if_neg F];go_enter (Yq.nq Tryz.func19),Tryz.ntmps19
   go_upto_region 1 with fail
   rename_i K1 X K2 l;rw[<-HW.out];refine wpIn_wide.1 (show Code.wpIn (wf N) 0 _ _ _ _ _ from FP (id:=1) (m:=0) (s:=s) (so:=0) (j:=8) (i1:=0+s*5) (i2:=0+s*5+4) (lv:=U t) (b:=!(t.toList == [])) (ops:=wl) rfl rfl rfl HB.out.2.2 (.inl ⟨rfl,rfl,rfl,rfl,t,rfl,rfl⟩) HB.out.2.1 rfl V (by rw[zA];exact ct) (by rw[<-k.out.1];exact HA) (λa H q z u=>?_));rw[<-k.out.1];have q:a.defers=[]:=q;have v:=oy a 32 H;rw[L]at u;have x:a.eval (.tmp 0)=O (J ⟨k0,0,N⟩):=z 0 (by decide);have A:a.eval (.tmp 3)=O (J ⟨w.heap.size,0,N⟩):=z 3 (by decide);refine l _ _ ?_;rw[v,q];clear v H q z;generalize a.eval=ρ at x A u ⊢;simp only[List.range,List.range.loop,List.map_cons,List.map_nil,x,A,u];clear x A u l K2 HA ct;have h1i:¬((s:Int)<0):=by omega
   go_wp2_with fail
   go_region
   all_goals
    go_wp2;go_ret;exact⟨rfl,k.out.2.drew⟩
 .have hd:decide (0<=f/\f<d.length)=false:=by simpa using v
  rw[hd]at HA;have hR:dQ d f h=h:=by rw[dQ,if_neg v]
  rw[hR];clear T i G d8 d6 r ht S Q;go_enter (Yq.nq Tryz.func19),Tryz.ntmps19
  go_upto_region 1 with fail
  rename_i K1 X K2 l;rw[<-HW.out];refine wpIn_wide.1 (show Code.wpIn (wf N) 0 _ _ _ _ _ from I6 (id:=1) (m:=0) (ops:=wl) rfl rfl rfl HB.out.2.2 (.inl rfl) (by rw[<-k.out.1];exact HA) (λa H q z u=>?_));rw[<-k.out.1];have q:a.defers=[]:=q;have v:=oy a 32 H;have x:a.eval (.tmp 0)=O (J ⟨k0,0,N⟩):=z 0 (by decide);have A:a.eval (.tmp 3)=O (J ⟨w.heap.size,0,N⟩):=z 3 (by decide);refine l _ _ ?_;rw[v,q];clear v H q z;generalize a.eval=ρ at x A u ⊢;simp only[List.range,List.range.loop,List.map_cons,List.map_nil,x,A,u];clear x A u l K2 HA;go_wp2_with fail
  go_ret;exact⟨rfl,k.out.2⟩
theorem dG{P:Program}{i:Array Oper}{o:Oper}{H:Act}{w:Wj}{b:Act->Wj->Prop}{E:Prop}
  (s:o.guard=N) (f:FuncId) (j:Array Operand) (l:Array Ww) (k:o.op=Op.call {callee:=Callee.value (.func f),args:=j,argTypes:=l})
  (c:Array Wx) (t:j.map H.eval=c) (h:(callFunc f c).run P w=.ok (.enter f c) w)
  (R:Wx->Wj->Prop) (n:Calls P f c w λe w'=>∃v,e=.returned v/\R v w') (r:∀v w',R v w'->b (H.put o.dst v) w'):
  if Region.wanted o (yielded i H.tmps)=Y then Oper.wp P o H w b Q else E:=by
 have m:Region.wanted o (yielded i H.tmps)=true:=by simp[Region.wanted,s]
 rw[if_pos m];subst t;unfold Oper.wp;have e:(execOp H.eval o).run P w=.ok (.enter f (j.map H.eval)) w:=by
  have p:execOp H.eval o=(do let d <-resolve H.eval {callee:=Callee.value (.func f),args:=j,argTypes:=l} o.type;invoke d.target d.args):=by simp only[execOp,k]
  rw[p];simpa[resolve,Deferred.ofValue,Act.eval,invoke]using h
 rw[e,Oper.upon_enter];refine n.mono ?_;rintro e w' ⟨v,rfl,q⟩;exact r v w' q
theorem aw{w:Wj}{b j:Nat}{v:Wx}(h:w.cell? ⟨b,j,N⟩=J v)(a:Obj):(w.alloc a).cell? ⟨b,j,N⟩=J v:=by
 exact(au.refl.alloc a).cell h
theorem aH{w:Wj}{b j:Nat}{v:Wx}{f:Bool}(h:w.cell? ⟨b,j,N⟩=J v)(i:w.frozen? ⟨b,j,N⟩=f)(a:Obj):(w.alloc a).frozen? ⟨b,j,N⟩=f:=by
 have d:b<w.heap.size:=by
  rcases Nat.lt_or_ge b w.heap.size with c|c
  .exact c
  .simp [World.cell?,Array.getElem?_eq_none c]at h
 have e:=(au.refl.alloc a (w:=w)).block b d;rw[<-i];simp only[World.frozen?,e]
theorem bE.alloc{A:Nat->Prop}{B k0:Nat}{w w':Wj}{L':Lg}{its:List ItD}{sv:Wx}(h:bE A B k0 w L' its sv w')(a:Obj):bE A B k0 w L' its sv (w'.alloc a):=by
 obtain⟨A',i,j,e,f,l,m⟩:=h;have d:au w' (w'.alloc a):=au.refl.alloc a;have c:=e.lt;exact⟨A',i,j,e.left d,f.trans (aV.left c d),bZ.keep l λb k c=>⟨k,d.block b c⟩,m.trans (FrC.left c d)⟩
section
variable {A:Nat->Prop} {B k0:Nat} {w:Wj} {st:St} {L:Lg}
structure I7 (A:Nat->Prop)(B k0:Nat)(w:Wj)(st:St)(o:OpD)(R:Lg×List ItD×ByteArray×Int):Prop where
 bx:∀W w2 bb,au (dP w o) W->∀ {its:List ItD} {sv:Wx} {L':Lg},bE A B k0 W L' its sv w2->w.heap.size+2<=bb->W.heap[bb]?=J (E #[M N 0 0,U ⟨#[]⟩] 69)->w2.cell? ⟨bb,0,N⟩=J (M N 0 0)/\w2.cell? ⟨bb,1,N⟩=J (U ⟨#[]⟩)/\w2.frozen? ⟨bb,0,N⟩=Z/\w2.frozen? ⟨bb,1,N⟩=Z
 b5:∀W w2,au (dP w o) W->∀ {sv:Wx},bE A B k0 W R.1 R.2.1 sv w2->Box5 w2 (w.heap.size+1)
 la:∀W w2 so sn sc,au (dP w o) W->bE A B k0 W R.1 R.2.1 (M so sn sc) w2->∀x0 x1 x2 x3 x4 O,cQ A B k0 w st R.1 ⟨R.2.2.2,0,⟨#[]⟩,R.2.1,R.2.2.1⟩ (.returned (ll ⟨R.2.2.2,0,⟨#[]⟩,R.2.1,R.2.2.1⟩ (M so sn sc))) (put5 (w2.alloc O) (w.heap.size+1) x0 x1 x2 x3 x4)
 lb:∀W w2 so sn sc,au (dP w o) W->bE A B k0 W R.1 R.2.1 (M so sn sc) w2->∀bb,w.heap.size+2<=bb->W.heap[bb]?=J (E #[M N 0 0,U ⟨#[]⟩] 69)->∀y0 y1 x0 x1 x2 x3 x4,cQ A B k0 w st R.1 ⟨R.2.2.2,0,⟨#[]⟩,R.2.1,R.2.2.1⟩ (.returned (ll ⟨R.2.2.2,0,⟨#[]⟩,R.2.1,R.2.2.1⟩ (M so sn sc))) (put5 ((w2.setCell ⟨bb,0,N⟩ y0).setCell ⟨bb,1,N⟩ y1) (w.heap.size+1) x0 x1 x2 x3 x4)
theorem B9(h:br A B w k0 st L)(r:B<=w.heap.size)(o:OpD)(R:Lg×List ItD×ByteArray×Int)(i:R.1.tm=L.tm):I7 A B k0 w st o R where
 bx:=λW w2 d c its sv L' b hbb f=>by
  obtain⟨A',-,-,-,-,-,s⟩:=b;have hlt:=h.ls.lt;have e:w2.heap[d]?=J (E #[M N 0 0,U ⟨#[]⟩] 69):=by
   rw[s.keep d ⟨_,f,rfl⟩ (by omega) ?_]
   .exact f
   .rintro ⟨v,k,j⟩;obtain⟨v4,F,zs,z1,z,-⟩:=h.ls.opened;rw[((ba o).trans c).cell F]at k;cases k;have:=(z.lt d j).2;omega
  exact⟨by simp[World.cell?,e],by simp[World.cell?,e],by simp[World.frozen?,e],by simp[World.frozen?,e]⟩
 b5:=λW w2 c sv b=>box5 (EW h.ls c b)
 la:=λW w2 u t D c b l q p n m a=>EY h r c (b.alloc a) _ rfl i l q p n m
 lb:=λW w2 u t D c b d k j y x l q p n m=>B8 h r c b _ rfl i d k (eS j).1 ⟨_,j,rfl⟩ y x l q p n m
theorem wm(Qok:Qy->Prop)(hQ:∀q,Qok q->ig q/\ii q)(h:br A B w k0 st L)(hB:B<=w.heap.size)(bd:L.opened.length<=3)(o:OpD)(hk:o.kind=8)(g0 cp:Nat)(i:List ByteArray)(hn:i.length<=2199023255552)(c8:w.cell? ⟨k0,8,N⟩=J (M (J ⟨g0,0,N⟩) i.length cp))(ht:∀s (X:s<i.length),w.cell? ⟨g0,s*5+4,N⟩=J (U i[s]))
  (ab:∀x∈L.opened,Qok x.q/\fH (cz x.f x.q.p.data.toList)<=1000/\x.q.p.size<=maxLen) (a8:∀ap n pg,dN ap L.told=J (n,pg)->0<=pg/\pg<2199023255552) (G:Wj->Prop) (a0:∀w',G w'->dn w') (hG:∀w',aV A B k0 w w'->G w') (hT:∀ap n pg,dN ap L.told=J (n,pg)->(jZ n L.opened).isSome=Y->kQ G n (pg+1)):
  Calls Yq.prog 8 #[O (J ⟨k0,0,N⟩),aT o] w λe w'=>cQ A B k0 w st (dO L (dQ i o.src o.body)).1 ⟨(dO L (dQ i o.src o.body)).2.2.2,0,⟨#[]⟩,(dO L (dQ i o.src o.body)).2.1,(dO L (dQ i o.src o.body)).2.2.1⟩ e w'\/Stop Qok e w':=by
 obtain⟨y,ad⟩:∃y,y=dQ i o.src o.body:=⟨_,rfl⟩;obtain⟨R,hR⟩:∃R,R=dO L y:=⟨_,rfl⟩;have Q:Hid (∀W,au (dP w o) W->Calls Yq.prog 19 #[O (J ⟨k0,0,N⟩),aT o] W λe w'=>∃v,e=.returned v/\(v=U y/\Below W.heap.size W w')):=λW hl=>by
  have a5:=(ba o).trans hl;refine(E1 k0 g0 cp i o W hn (a5.cell c8) (λs X=>a5.cell (ht s X))).mono ?_;rintro e w' ⟨rfl,hb⟩;exact⟨_,rfl,by rw[ad],hb⟩
 have m:Hid (∀W,au (dP w o) W->Calls Yq.prog 18 #[O (J ⟨k0,4,N⟩),U y] W λe w'=>(∃v,e=.returned v/\∃k V l,v=.tuple #[.agg #[M k V l,U R.2.2.1],I K R.2.2.2]/\bE A B k0 W R.1 R.2.1 (M k V l) w')\/∃t,e=.panicked t/\Stop Qok (.panicked t) w'):=λW hl=>by
  have hd:=h.left ((ba o).trans hl);have X:=((ba o).trans hl).size;refine(Hf Qok hQ W hd.ls (by omega) y bd ab (a8 y) G a0 (λw' bb=>hG w' ((aV.left h.ls.lt ((ba o).trans hl)).trans bb)) (hT y)).mono ?_;rw[<-hR];rintro e w' (⟨sv,rfl,hp⟩|af)
  .obtain ⟨A',a1,a2,a3,a4,⟨k,l,rfl,a6⟩,a7⟩:=hp;exact .inl ⟨_,rfl,k,_,l,rfl,A',a1,a2,a3,a4,⟨k,l,rfl,a6⟩,a7⟩
  .obtain ⟨a,b,r,rfl,af⟩:=af;exact .inr ⟨_,rfl,a,b,r,rfl,af⟩
 rw[<-ad,<-hR];have H:Hid (∀ (f:Nat) (z:Array Wx) (wx:Wj),(f=18\/f=19)->(callFunc f z).run Yq.prog wx=.ok (.enter f z) wx):=λf z wx hf=>by rcases hf with rfl|rfl<;>go_simp
 have HD:Hid (br A B w k0 st L):=h;have P:=B9 h hB o R (by rw[hR];exact EX _ _);have S:Hid _:=P.bx;have aa:Hid (∀j,Below ((dP w o).alloc (E #[M N 0 0,U ⟨#[]⟩] 69)).drew.heap.size ((dP w o).alloc (E #[M N 0 0,U ⟨#[]⟩] 69)).drew j->j.heap[w.heap.size+1+1]?=J (E #[M N 0 0,U ⟨#[]⟩] 69)):=λj hb=>by
  have:=aN (dP w o) (E #[M N 0 0,U ⟨#[]⟩] 69);rw[bc]at this;exact(hb.block _ (by simp[bc])).trans this
 have u:Hid (∀j,Below (dP w o).drew.heap.size (dP w o).drew j->w.heap.size+2<=j.heap.size):=λj hb=>by
  have:=hb.size;have e:(dP w o).drew.heap.size=w.heap.size+2:=bc o;omega
 have F:Hid _:=P.b5;have ac:Hid _:=P.la;have T:Hid _:=P.lb;have hb3:=mj;clear ad hR P;obtain⟨kind,be,ar,al,av,n,bi⟩:=o;simp only at hk;subst hk;unfold dP at Q m S aa u F ac T;clear h c8 ht ab a8 hT hG a0 hQ;unfold aT at Q ⊢;go_enter (Yq.nq Tryz.func8),Tryz.ntmps8;go_wp2_with fail
 go_region_law (first
  |(refine dG rfl 19 #[.tmp 124,.tmp 125] #[58,30] rfl #[O (J ⟨k0,0,N⟩),.agg #[I K 8,U be,U ar,U al,U av,I K n,I K bi]] (by simp[Act.eval]) (H.out _ _ _ (Or.inr rfl)) _ (Q.out _ (by first|exact au.refl.drew|exact(au.refl.alloc _).drew)) ?_;rintro v j ⟨rfl,d⟩)
  |(refine cE rfl 18 #[.tmp 123,.tmp 126] #[40,9] rfl #[O (J ⟨k0,4,N⟩),U y] (by simp[Act.eval]) (H.out _ _ _ (Or.inl rfl)) _ (λt w'=>Stop Qok (.panicked t) w') (m.out _ (au.refl.drew.trans (.below d))) (λt w' X=>⟨rfl,Or.inr X⟩) ?_;rintro v w2 ⟨k,V,l,rfl,c⟩;obtain⟨⟨t0,t1,t2,t3,t4⟩,u0,u1,u2,u3,u4⟩:=F.out _ w2 (au.refl.drew.trans (.below d)) c;have D:=ac.out _ w2 k V l (au.refl.drew.trans (.below d)) c;have q0:=aw t0;have q1:=aw t1;have q2:=aw t2;have q3:=aw t3;have q4:=aw t4;have p0:=aH t0 u0;have p1:=aH t1 u1;have p2:=aH t2 u2;have p3:=aH t3 u3;have p4:=aH t4 u4;clear c d)
  |(refine cE rfl 18 #[.tmp 123,.tmp 126] #[40,9] rfl #[O (J ⟨k0,4,N⟩),U y] (by simp[Act.eval]) (H.out _ _ _ (Or.inl rfl)) _ (λt w'=>Stop Qok (.panicked t) w') (m.out _ ((au.refl.alloc _).drew.trans (.below d))) (λt w' X=>⟨rfl,Or.inr X⟩) ?_;rintro v w2 ⟨k,V,l,rfl,c⟩;obtain⟨v0,v1,o0,o1⟩:=S.out j w2 (w.heap.size+1+1) ((au.refl.alloc _).drew.trans (.below d)) c (by omega) (aa.out _ d);obtain⟨⟨t0,t1,t2,t3,t4⟩,u0,u1,u2,u3,u4⟩:=F.out _ w2 ((au.refl.alloc _).drew.trans (.below d)) c;have D:=T.out _ w2 k V l ((au.refl.alloc _).drew.trans (.below d)) c (w.heap.size+1+1) (by omega) (aa.out _ d);clear c d)
  |(refine cE rfl 18 #[.tmp 123,.tmp 126] #[40,9] rfl #[O (J ⟨k0,4,N⟩),U y] (by simp[Act.eval]) (H.out _ _ _ (Or.inl rfl)) _ (λt w'=>Stop Qok (.panicked t) w') (m.out _ ((au.refl.drew.trans (.below d)).alloc _)) (λt w' X=>⟨rfl,Or.inr X⟩) ?_;rintro v w2 ⟨k,V,l,rfl,c⟩;obtain⟨v0,v1,o0,o1⟩:=S.out _ w2 j.heap.size ((au.refl.drew.trans (.below d)).alloc _) c (u.out _ d) (aN j _);obtain⟨⟨t0,t1,t2,t3,t4⟩,u0,u1,u2,u3,u4⟩:=F.out _ w2 ((au.refl.drew.trans (.below d)).alloc _) c;have D:=T.out _ w2 k V l ((au.refl.drew.trans (.below d)).alloc _) c j.heap.size (u.out _ d) (aN j _);have a9:w.heap.size+1≠j.heap.size:=(by have:=u.out _ d;omega);have hne2:j.heap.size≠w.heap.size+1:=a9.symm;clear c d))
 all_goals
  go_wp2
 all_goals clear Q m S aa u F ac T H HD
 all_goals
  refine bodyPost_ret (v:=ll ⟨R.2.2.2,0,⟨#[]⟩,R.2.1,R.2.2.1⟩ (M k V l)) ?_ rfl (.inl ?_)
  .clear D;first
    |simp[results,Tryz.results8,go_sem,ll,q0,q1,q2,q3,q4]
    |simp[results,Tryz.results8,go_sem,ll,t0,t1,t2,t3,t4]
    |simp[results,Tryz.results8,go_sem,ll,t0,t1,t2,t3,t4]
  .unfold put5 at D;refine D ..
end
section
variable {A:Nat->Prop} {B k0:Nat} {w w':Wj} {st st':St} {L:Lg}
theorem dE.grown(h:dE A B w k0 L)(a:cX w w' k0)(r:∀j,w'.frozen? ⟨k0,j,N⟩=Z){A':Nat->Prop}(q:∀b,A b->A' b)(s:∀b,A' b->A b\/w.heap.size<=b)(F:∀b,A' b->b<w'.heap.size):dE A' B w' k0 L:=by
 have d:=h.lt;have hlow:=h.low;have f:∀b,b<w.heap.size->b≠k0->w'.heap[b]?=w.heap[b]?:=λb l Q=>a.g.block b l (λe=>Q (oJ e))
 have c:∀g,g<w.heap.size->¬A g->¬A' g:=λg a T P=>by
  rcases s g P with h|h
  .exact T h
  .omega
 have⟨v,c4,D,V,p,H,S⟩:=h.opened;have⟨R,X,n⟩:=h.told;refine⟨⟨v,(a.t 4 (by omega)).trans c4,D,V,bW p λg q a=>f g a (by omega),λg a=>c g (p.lt g a).2 (H g a),λz hz=>am.keep (λb l d=>⟨q b l,f b d (λe=>h.avoid (e▸l))⟩) 41 _ _ (S z hz)⟩,(a.t 5 (by omega)).trans h.begun,⟨R,(a.t 6 (by omega)).trans X,?_⟩,r,c k0 d h.avoid,h.low,F⟩;rcases n with n|⟨m,x,i,G,o,u,m4,y⟩
 .exact .inl n
 .have k:=(eS o).1;exact .inr ⟨m,x,i,G,(f m k (by omega)).trans o,u,c m k m4,y⟩
theorem E2(h:br A B w k0 st L){r:St×Ax}{e:Ending}(o:dD A w k0 r.1 (aD r.2) e w'):cQ A B k0 w r.1 L ⟨r.2.code,r.2.ver,r.2.body,[],⟨#[]⟩⟩ e w':=by
 obtain⟨rfl,c,d⟩:=o;have f:=h.ls.lt;have n:=d.g.size;have l:∀b,A b->Grow A w b/\b<w'.heap.size:=λb a=>⟨.inl ⟨a,h.ls.inn b a⟩,by have:=h.ls.inn b a;omega⟩
 have k:∀b,(Grow A w b/\b<w'.heap.size)->A b\/w.heap.size<=b:=λb a=>a.1.imp (·.1) id
 have i:∀b,b<w.heap.size->b≠k0->w'.heap[b]?=w.heap[b]?:=λb a x=>d.g.block b a (λe=>x (oJ e))
 have q:=h.time;have⟨p,y,v⟩:=c.tree;refine⟨M N 0 0,rfl,λb=>Grow A w b/\b<w'.heap.size,l,k,⟨⟨λb a=>c.avoid b a.1,⟨p,y,am.keep (λb a f=>⟨⟨a,f⟩,rfl⟩) 41 _ _ v⟩,c.count,c.last,c.frozen⟩,h.ls.grown d c.frozen l k (λb a=>a.2),(d.t 3 (by omega)).trans q⟩,⟨d.g.os,n,λb _ m s=>i b m s,λb a m=>i b m (λe=>h.ls.avoid (e▸a)),λj hj=>d.t j (by omega),λj=>(c.frozen j).trans (h.store.frozen j).symm⟩,N,0,rfl,λ_=>rfl,λu=>absurd rfl u⟩
theorem zI(h:br A B w k0 st L)(s:Nat)(o:OpD)(c:o.key.size<=maxLen)(a:o.body.size<=maxLen)(e:Inv st s)(f:s<2199023255340)(d:o.kind<6\/12<o.kind):
  Calls Yq.prog 8 #[O (J ⟨k0,0,N⟩),aT o] w (cQ A B k0 w (aA st o).1 L ⟨(aA st o).2.code,(aA st o).2.ver,(aA st o).2.body,[],⟨#[]⟩⟩):=
 (zE A k0 st s o w c a h.store e f d).mono λ_ _ b=>E2 h b
end
end
section
open Go.RowKit
theorem oO(a:List OpD)(i j:Nat)(c:i<a.length)(b:j<7):(a.flatMap bP)[i*7+j]?=(bP a[i])[j]?:=ce 7 bP (λ_=>rfl) a i j c b
theorem Yq.infoOp:(Yq.prog.info? 30).map (λi=>(i.zero,i.size,i.bytes))=J (J (.agg #[I K 0,U ⟨#[]⟩,U ⟨#[]⟩,U ⟨#[]⟩,U ⟨#[]⟩,I K 0,I K 0]),7,88):=by kernel_rfl
theorem wn{w:Wj}{b:Nat}{v:Wx}{n:Nat}{ops:List OpD}(h:w.ownsRow b 30 7 v n (ops.flatMap bP))(m:n=ops.length)(e:Sized ops)(d:ops.length<=2199023255552):il w v ops:=by
 subst m;rcases h.2 with⟨rfl,k⟩|⟨g,c,cur,rfl,hbg,hg,hnc,hcm,hcs,htake⟩
 .have:ops=[]:=List.length_eq_zero_iff.1 k;subst this;exact⟨⟨N,0,rfl,λh=>absurd rfl h⟩,e,d⟩
 .refine ⟨⟨_,c,rfl,λ_=>⟨g,0,rfl,λi l=>?_⟩⟩,e,d⟩;have a:∀j,j<7->w.cell? ⟨g,0+i*7+j,N⟩=(bP ops[i])[j]?:=λj f=>by
   rw[zA,<-oO ops i j l f];exact h.cellAt _ (by omega)
  exact⟨a 0 (by omega),a 1 (by omega),a 2 (by omega),a 3 (by omega),a 4 (by omega),a 5 (by omega),a 6 (by omega)⟩
theorem zJ(w:Wj)(o:OpD)(T:Ww):∀j u,(bP o)[j]?=J u->(w.alloc (E #[I K o.kind,U o.key,U o.body,U o.delim,U o.past,I K o.n,I K o.src] T)).cell? ((⟨w.heap.size,0,N⟩:Addr).add j)=J u:=by
 intro j u a;rw[Addr.add_lit,cA (w:=w) _ _ w.heap.size _ rfl];simpa[bP]using a
theorem one7(o:OpD):∀u∈bP o,u.oneCell'=true:=by
 intro u a;simp[bP]at a;rcases a with rfl|rfl|rfl|rfl|rfl|rfl|rfl<;>rfl
section
variable {P:Program}
end
def Ca(s:ByteArray):List Wx:=[I .u8 ((s.size:Int)%256)]++Lib.strCells s
theorem tY(s:ByteArray):(Ca s).length=1+s.size:=by simp[Ca,Lib.strCells_length];omega
def num8(m:Int)(k:Nat):List Wx:=(List.range k).map λi=>I .u8 (m/2 ^ (8*(7-i))%256)
theorem ry(m:Int)(k:Nat):(num8 m k).length=k:=by simp[num8]
def I8(k:ByteArray)(v:Ver):List Wx:=if v.mark then[I .u8 2]++num8 v.num 8++Ca k else[I .u8 1]++num8 v.num 8++Ca k++Ca v.body
def IB(k:ByteArray)(v:Ver):Nat:=if v.mark then 10+k.size else 11+k.size+v.body.size
theorem E3{l:Int}(h0:0<=l)(h1:l<=9223372036854775807):IntKind.u64.wrap l=l:=by
 simp[IntKind.wrap,IntKind.bits,IntKind.signed];omega
def Jm(x y:Int):Int:=if x<y then -1 else if y<x then 1 else 0
def Hg(L:List (ByteArray×Ver)):List Wx:=L.flatMap λe=>I8 e.1 e.2
def Cb(L:List (ByteArray×Ver)):Nat:=(L.map λe=>IB e.1 e.2).sum
end
section
open Go.Conc Go.ConcX Go.ConcX.Gen Go.RowKit
def E5(l:KVs):List (ByteArray×Ver):=l.flatMap λx=>x.2.map λv=>(⟨x.1.toArray⟩,v)
section
variable {t:Nat} {w3 X Y:Wj} {E:List (ByteArray×Ver)}
end
section
attribute [local go_sem] Oper.semAt_some kP
end
end
end Go.Proofs.Qw
namespace Go.Proofs
open Option renaming none->N,some->J
open Bool renaming true->Y,false->Z
open Value renaming int->I,string->U,slice->M,pointer->O,bool->C
open IntKind renaming i64->K
open Obj renaming cells->E
variable {Q:Exit->Act->Wj->Prop}{T:Ww}
section
open Go.Shelf Go.RowKit Go.Lib Go.Sort
end
end Go.Proofs
namespace Go.Proofs.Qw
open Option renaming none->N,some->J
open Bool renaming true->Y,false->Z
open Value renaming int->I,string->U,slice->M,pointer->O,bool->C
open IntKind renaming i64->K
open Obj renaming cells->E
variable {Q:Exit->Act->Wj->Prop}{T:Ww}
section
open Go.Shelf Go.RowKit Go.Sort
@[reducible] def IC:Inhabited (ByteArray×Ver):=⟨(⟨#[]⟩,⟨0,⟨#[]⟩,Z⟩)⟩
def cfE(x y:ByteArray×Ver):Int:=Jm x.2.num y.2.num
def rz(E:List (ByteArray×Ver)):List (ByteArray×Ver):=(@Sort.pdq _ IC (ltOf cfE) E.toArray 0 E.length (Lib.bitLen E.length) Y Y).toList
theorem ltE(x y:ByteArray×Ver):ltOf cfE x y=decide (x.2.num<y.2.num):=by
 unfold ltOf cfE Jm;by_cases a:x.2.num<y.2.num
 .simp [a]
 .by_cases b:y.2.num<x.2.num<;>simp[a,b]
theorem Jv:SWO (ltOf cfE) where
 irrefl x:=by rw[ltE];simp
 trans x y z h1 h2:=by rw[ltE]at *;simp at *;omega
 ntrans x y z h1 h2:=by rw[ltE]at *;simp at *;omega
theorem wo(E:List (ByteArray×Ver)):@PermIn _ IC 0 E.length E.toArray (rz E).toArray/\@SortedIn _ IC (ltOf cfE) 0 E.length (rz E).toArray:=by
 letI:=IC
 have h:=pdq_sorts (ltOf cfE) Jv E.toArray 0 E.length (Lib.bitLen E.length) Y Y (Nat.zero_le _) (by simp) (Or.inl rfl);unfold rz;rw[Array.toArray_toList];exact h
theorem p9(E:List (ByteArray×Ver)):(rz E).Perm E:=by
 letI:=IC
 have h:=(wo E).1;have h1:(rz E).length=E.length:=by simpa using h.1
 have a:=h.2.2;rw[List.extract_toArray,List.extract_toArray]at a;have b:List.take E.length (rz E)=rz E:=tO (by omega);simpa[List.extract,b]using a
theorem Cc(E:List (ByteArray×Ver)):(rz E).length=E.length:=(p9 E).length_eq
end
section
open Go.Conc Go.ConcX Go.ConcX.Gen Go.RowKit
theorem Cd(l:KVs):(E5 l).length=fH l:=by
 simp[E5,fH,List.length_flatMap]
section
attribute [local go_sem] Oper.semAt_some kP
end
def bytesOf(xs:List Wx):ByteArray:=⟨(xs.map λv=>UInt8.ofNat (intOf v).toNat).toArray⟩
def tZ(st:St):List (ByteArray×Ver):=rz (E5 (cz st.f []))
def Cf(st:St)(tm:Int):ByteArray:=bytesOf (Hg (tZ st)++([I .u8 3]++num8 (st.last+1) 8++([I .u8 4]++num8 tm 8)))
theorem ub(n:Nat):∀ (f:List UInt8->List Ver)(c:List UInt8),∀x∈db n f c,∃k,x.1=c++k/\x.2=f k:=by
 induction n with
 |zero=>intro f c x a;simp[db]at a
 |succ n ih=>
  intro f c x a;simp only[db,List.mem_append,List.mem_flatMap]at a;rcases a with a|⟨b,-,a⟩
  .split at a
   .simp at a
   .simp only[List.mem_singleton]at a;subst a;exact⟨[],by simp,rfl⟩
  .obtain ⟨k,d,e⟩:=ih _ _ x a;exact⟨b::k,by rw[d];simp,e⟩
theorem qg{st:St}{e:ByteArray×Ver}(h:e∈tZ st):e.1.size<=40/\∃k,e.2∈st.f k:=by
 have a:=(p9 _).mem_iff.1 h;simp only[E5,List.mem_flatMap,List.mem_map]at a;obtain⟨x,b,v,c,rfl⟩:=a;obtain⟨k,-,d⟩:=ub _ _ _ x b;have:=(tM b).2;exact⟨by simpa[ByteArray.size]using this,k,by simpa[d]using c⟩
theorem Cg{E:List (ByteArray×Ver)}(h:∀e∈E,e.1.size<=40/\e.2.body.size<=100):Cb E<=E.length*200:=by
 induction E with
 |nil=>simp[Cb]
 |cons e E ih=>
  have a:=ih λx b=>h x (by simp[b])
  have h2:=h e (by simp);have h3:IB e.1 e.2<=200:=by unfold IB;split<;>omega
  simp only[Cb,List.map_cons,List.sum_cons,lC]at a ⊢;omega
section
variable {A:Nat->Prop} {B k0:Nat} {w:Wj} {st:St} {L:Lg}
end
def tkB(s:ByteArray)(n:Nat):ByteArray:=s.extract 0 (min n s.size)
def rsB(s:ByteArray)(n:Nat):ByteArray:=s.extract (min n s.size) s.size
def Jn(l:List UInt8):Nat:=l.foldl (λa b=>a*256+b.toNat) 0
def txL(s:ByteArray):Nat:=Jn (tkB s 1).data.toList
def zK(a:Int)(m:Nat):Option Int:=if(m:Int)<=a\/9223372036854775808<m then N else J (m-1)
theorem Hh(n:Nat)(f:List UInt8->List Ver)(k:List UInt8)(h:k.length<n):(f k).length<=tot n f:=by
 have a:=vQ k n f;obtain⟨m,c⟩:∃m,n-k.length=m+1:=⟨n-k.length-1,by omega⟩;rw[c]at a;refine lT ?_ a;simp only[tot,db,List.append_nil];by_cases b:f k=[]
 .simp [b]
 .have e:(f k).isEmpty=false:=by simpa using b
  simp[e,fH]
theorem Inv.norm{st:St}{s:Nat}(h:Inv st s)(a:gp st):Inv st 0:=by
 have h1:=a.cnt;have h2:=a.le;refine⟨h.last0,h.lastS,by omega,by omega,λk=>?_,h.sorted,h.bounds⟩;by_cases b:40<k.length
 .rw [a.long k b];simp
 .have:=Hh 41 st.f k (by omega);omega
def lastSt(st:St)(l:Int):St:=⟨st.f,st.count,l⟩
theorem Inv.lastSt{st:St}{s:Nat}(h:Inv st s){l:Int}(a:st.last<=l)(c:l<=9223372036854775807):Inv (lastSt st l) s:=
 ⟨Int.le_trans h.last0 a,c,h.countL,h.countU,h.len,h.sorted,λk i b=>⟨(h.bounds k i b).1,Int.le_trans (h.bounds k i b).2 a⟩⟩
theorem gp.lastSt{st:St}(h:gp st)(l:Int):gp (lastSt st l):=⟨h.cnt,h.le,h.long,h.body⟩
theorem xS{a:Int}{m:Nat}{l:Int}(h:zK a m=J l):a<=l/\l<=9223372036854775807:=by
 unfold zK at h;split at h
 .cases h
 .cases h;omega
theorem E6{st:St}{s:Nat}(h:Inv st s)(f:gp st)(b a:ByteArray):Inv (nD st b a).1 (s+1)/\gp (nD st b a).1:=by
 have e:=mb st ⟨1,b,a,⟨#[]⟩,⟨#[]⟩,0,0⟩ rfl;have c:=h.step ⟨1,b,a,⟨#[]⟩,⟨#[]⟩,0,0⟩;have d:=f.step ⟨1,b,a,⟨#[]⟩,⟨#[]⟩,0,0⟩;rw[e]at c d;exact⟨c,d⟩
theorem Ch{st:St}{s:Nat}(h:Inv st s)(d:gp st)(a:ByteArray):Inv (fI st a).1 (s+1)/\gp (fI st a).1:=by
 have e:=jX st ⟨4,a,⟨#[]⟩,⟨#[]⟩,⟨#[]⟩,0,0⟩ rfl;have c:=h.step ⟨4,a,⟨#[]⟩,⟨#[]⟩,⟨#[]⟩,0,0⟩;have b:=d.step ⟨4,a,⟨#[]⟩,⟨#[]⟩,⟨#[]⟩,0,0⟩;rw[e]at c b;exact⟨c,b⟩
def nm8(s:ByteArray):Nat:=Jn (tkB s 8).data.toList
def txB(s:ByteArray):ByteArray:=tkB (rsB s 1) (txL s)
def txR(s:ByteArray):ByteArray:=rsB (rsB s 1) (txL s)
def Hi(st:St)(tm:Int)(s:ByteArray):Option (St×Int×ByteArray):=
 if txL s=1 then
  match zK st.last (nm8 (rsB s 1))with
  |none=>N
  |some l=>if(nD (lastSt st l) (txB (rsB (rsB s 1) 8)) (txB (txR (rsB (rsB s 1) 8)))).2.2=0 then J ((nD (lastSt st l) (txB (rsB (rsB s 1) 8)) (txB (txR (rsB (rsB s 1) 8)))).1,tm,txR (txR (rsB (rsB s 1) 8)))else N
 else if txL s=2 then
  match zK st.last (nm8 (rsB s 1))with
  |none=>N
  |some l=>if(fI (lastSt st l) (txB (rsB (rsB s 1) 8))).2.2=0 then J ((fI (lastSt st l) (txB (rsB (rsB s 1) 8))).1,tm,txR (rsB (rsB s 1) 8))else N
 else if txL s=3 then
  match zK st.last (nm8 (rsB s 1))with
  |none=>N
  |some l=>J (lastSt st l,tm,rsB (rsB s 1) 8)
 else if txL s=4 then J (st,nm8 (rsB s 1),rsB (rsB s 1) 8)
 else N
def zL:Nat->St->Int->ByteArray->Option (St×Int)
 | 0,_,_,_=>N
 |n+1,st,tm,s=>if s.size=0 then J (st,tm)else match Hi st tm s with
  |none=>N
  |some x=>zL n x.1 x.2.1 x.2.2
def Ci(a:ByteArray):Option (St×Int):=match zL (a.size+1) st0 0 a with
 |none=>N
 |some x=>if Cf x.1 x.2=a then J x else N
theorem jt{t:ByteArray}(h:t≠⟨#[]⟩):t.toList.isEmpty=false:=by
 rw[ByteArray.toList_eq];cases e:t.data.toList with
 |nil=>exact absurd (ByteArray.ext (Array.toList_inj.1 (e.trans rfl))) h
 |cons a r=>rfl
def qh(ks:List Int)(bs:List ByteArray)(src:Int)(body:ByteArray):ByteArray:=
 if 0<=src/\src<bs.length then(if ks[src.toNat]?.getD 0=11 then bs[src.toNat]?.getD ⟨#[]⟩else body)else body
def ws(st:St)(L:Lg)(b:ByteArray):St×Lg×j8:=match Ci b with
 |none=>(st,L,⟨12,0,⟨#[]⟩,[],⟨#[]⟩⟩)
 |some x=>(x.1,{L with opened:=[],tm:=x.2},⟨0,0,⟨#[]⟩,[],⟨#[]⟩⟩)
theorem Cj{st:St}{d:Int}{s:ByteArray}{x:St×Int×ByteArray}(b:Inv st 0)(c:gp st)(h:Hi st d s=J x):Inv x.1 0/\gp x.1:=by
 have a:∀l,zK st.last (nm8 (rsB s 1))=J l->Inv (lastSt st l) 0/\gp (lastSt st l):=λl e=>⟨b.lastSt (xS e).1 (xS e).2,c.lastSt l⟩
 unfold Hi at h;split at h
 .split at h
  .exact absurd h (by simp)
  .rename_i l e;split at h
   .rw [<-oJ h];dsimp only;have:=E6 (a l e).1 (a l e).2 (txB (rsB (rsB s 1) 8)) (txB (txR (rsB (rsB s 1) 8)));exact⟨this.1.norm this.2,this.2⟩
   .exact absurd h (by simp)
 .split at h
  .split at h
   .exact absurd h (by simp)
   .rename_i l e;split at h
    .rw [<-oJ h];dsimp only;have:=Ch (a l e).1 (a l e).2 (txB (rsB (rsB s 1) 8));exact⟨this.1.norm this.2,this.2⟩
    .exact absurd h (by simp)
  .split at h
   .split at h
    .exact absurd h (by simp)
    .rename_i l e;rw[<-oJ h];dsimp only;exact a l e
   .split at h
    .rw [<-oJ h];dsimp only;exact⟨b,c⟩
    .exact absurd h (by simp)
theorem uc:∀ (n:Nat)(st:St)(a:Int)(s:ByteArray)(x:St×Int),Inv st 0->gp st->zL n st a s=J x->Inv x.1 0/\gp x.1
 | 0,_,_,_,_,_,_,h=>by simp[zL]at h
 |n+1,st,a,s,x,hI,hT,h=>by
  unfold zL at h;split at h
  .cases h;exact⟨hI,hT⟩
  .split at h
   .exact absurd h (by simp)
   .rename_i y e;have:=Cj hI hT e;exact uc n _ _ _ x this.1 this.2 h
theorem zM{b:ByteArray}{x:St×Int}(h:Ci b=J x):zL (b.size+1) st0 0 b=J x/\Cf x.1 x.2=b:=by
 unfold Ci at h;split at h
 .exact absurd h (by simp)
 .rename_i y e;split at h
  .rename_i a;cases h;exact⟨e,a⟩
  .exact absurd h (by simp)
theorem Ck{b:ByteArray}{x:St×Int}(h:Ci b=J x):Inv x.1 0/\gp x.1:=
 uc _ _ _ _ x inv0 Iv (zM h).1
theorem ud(a:List Wx):(bytesOf a).size=a.length:=by simp[bytesOf,ByteArray.size]
theorem E7(k:ByteArray)(v:Ver):(I8 k v).length=IB k v:=by
 unfold I8 IB;split
 .simp only[lP,lS,ry,tY];omega
 .simp only[lP,lS,ry,tY];omega
theorem Cl(E:List (ByteArray×Ver)):(Hg E).length=Cb E:=by
 induction E with
 |nil=>rfl
 |cons e E ih=>
  simp only[Hg,Cb,List.flatMap_cons,lP,List.map_cons,List.sum_cons]at ih ⊢;rw[ih,E7]
theorem zN{st:St}(a:gp st):(tZ st).length<=200:=by
 have h3:fH (cz st.f [])=tot 41 st.f:=rfl;have:=a.cnt;have:=a.le;rw[tZ,Cc,Cd];omega
theorem zO{st:St}(b:gp st)(d:Int):(Cf st d).size<=maxLen:=by
 have hn:=Cg (E:=tZ st) λe a=>⟨(qg a).1,by have⟨k,c⟩:=(qg a).2;exact b.body k _ c⟩
 have hl:=zN b;rw[Cf,ud];simp only[lP,lS,ry,Cl,maxLen];omega
structure Jo (w:Wj)(k0 g0 s:Nat)(ks:List Int)(bs:List ByteArray):Prop where
 kl:ks.length=s
 bl:bs.length=s
 small:∀b∈bs,b.size<=maxLen
 script:∃sb so sn sc,w.cell? ⟨k0,7,N⟩=J (M (J ⟨sb,so,N⟩) sn sc)/\s<=sn/\∀i (hi:i<ks.length),w.cell? ⟨sb,so+i*7,N⟩=J (I K ks[i])
 bodies:∀i (hi:i<bs.length),w.cell? ⟨g0,i*5+2,N⟩=J (U bs[i])
section
variable {A:Nat->Prop} {B k0:Nat} {w:Wj} {st:St} {L:Lg}
theorem ue(h:br A B w k0 st L)(hB:B<=w.heap.size)(t:L.opened.length<=3)(o:OpD)(z:o.kind=10):
  Calls Yq.prog 8 #[O (J ⟨k0,0,N⟩),aT o] w (cQ A B k0 w st L ⟨0,st.count,⟨#[]⟩,L.opened.map fU,⟨#[]⟩⟩):=by
 have f:br A B (dP w o).drew k0 st L:=h.left ((ba o).drew);have HT:=BX (dP w o).drew f.ls t;have HN:=EQ k0 st.count (dP w o).drew f.store.count;obtain⟨its,c⟩:∃its,its=L.opened.map fU:=⟨_,rfl⟩;rw[<-c]at HT ⊢;have d:au (dP w o) (dP w o).drew:=au.refl.drew;have l:k0<(dP w o).heap.size:=by have:=h.ls.lt;rw[bc];omega
 have HB:Hid (∀b,Below (dP w o).drew.heap.size (dP w o).drew b->_):=λb j=>box5 (rx o h.ls (FrC.left l (d.trans (.below j))))
 have HF:Hid (∀b i m k p y u s q,Below (dP w o).drew.heap.size (dP w o).drew b->b.ownsRow (dP w o).drew.heap.size 117 3 (M i m k) its.length (an its)->cQ A B k0 w st L ⟨0,st.count,⟨#[]⟩,its,⟨#[]⟩⟩ (.returned (ll ⟨0,st.count,⟨#[]⟩,its,⟨#[]⟩⟩ (M i m k))) (put5 b (w.heap.size+1) p y u s q)):=λb i m k p y u s q j a=>by
  have T:au (dP w o) b:=d.trans (.below j);obtain⟨A',x,a2,Q,D,R,a6⟩:=bE.page (h.ls.left (ba o)) T a (lR _) (λ_ _ _=>rfl);have P:=(h.left (ba o)).step D x Q rfl;have⟨e1,S,e3,e4⟩:=rv (A':=A') (sv:=M i m k) (its:=its) (r:=w.heap.size+1) (ba o) h.ls.lt hB (by omega) (by rw[bc];omega) ⟨_,js o,rfl⟩ x a2 h.ls.inn P D.weak a6 (i6 o h.ls) R p y u s q;exact⟨_,rfl,A',x,e1,S,e3,e4⟩
 have hb1:=zH;clear c f d l;obtain⟨kind,key,body,delim,past,n,src⟩:=o;simp only at z;subst z;unfold dP at HT HF HB HN;clear h;unfold aT;go_enter (Yq.nq Tryz.func8),Tryz.ntmps8;go_wp2_with fail
 go_region_with (first
  |(go_at_call 21;refine HN.mono ?_;rintro e b ⟨rfl,rfl⟩)
  |(go_at_call 22;refine HT.mono ?_;rintro e b ⟨sv,rfl,a,j⟩;obtain⟨i,k,rfl,-⟩:=az a;have⟨⟨H,F,V,G,X⟩,f0,f1,f2,f3,f4⟩:=HB.out b j))
 all_goals
  go_wp2;exact bodyPost_ret (v:=ll ⟨0,st.count,⟨#[]⟩,its,⟨#[]⟩⟩ (M i its.length k)) (by simp[results,Tryz.results8,go_sem,ll,H,F,V,G,X]) rfl (HF.out b _ _ _ _ _ _ _ _ j a)
end
def Cm(R:Lg×List ItD×ByteArray×Int):j8:=⟨R.2.2.2,0,⟨#[]⟩,R.2.1,R.2.2.1⟩
def stepA(st:St)(L:Lg)(toks:List ByteArray)(o:OpD):St×Lg×j8:=
 if o.kind=6 then(st,(eQ L st.f ⟨Z,o.key,o.delim,o.past⟩ o.n).1,Cm (eQ L st.f ⟨Z,o.key,o.delim,o.past⟩ o.n))
 else if o.kind=7 then(st,(eQ L st.f ⟨Y,o.key,o.delim,o.past⟩ o.n).1,Cm (eQ L st.f ⟨Y,o.key,o.delim,o.past⟩ o.n))
 else if o.kind=8 then(st,(dO L (dQ toks o.src o.body)).1,Cm (dO L (dQ toks o.src o.body)))
 else if o.kind=9 then(st,(eR L o.n).1,⟨(eR L o.n).2,0,⟨#[]⟩,[],⟨#[]⟩⟩)
 else if o.kind=10 then(st,L,⟨0,st.count,⟨#[]⟩,L.opened.map fU,⟨#[]⟩⟩)
 else if o.kind=11 then(st,L,⟨0,0,Cf st L.tm,[],⟨#[]⟩⟩)
 else((aA st o).1,L,⟨(aA st o).2.code,(aA st o).2.ver,(aA st o).2.body,[],⟨#[]⟩⟩)
def pe(st:St)(L:Lg)(toks:List ByteArray)(b:ByteArray)(o:OpD):St×Lg×j8:=if o.kind=12 then ws st L b else stepA st L toks o
structure uf (Qok:Qy->Prop)(o:OpD):Prop where
 q:o.kind=6->Qok ⟨Z,o.key,o.delim,o.past⟩
 q7:o.kind=7->Qok ⟨Y,o.key,o.delim,o.past⟩
structure kV (Qok:Qy->Prop)(o:OpD):Prop where
 k12:o.kind≠12
 q:o.kind=6->Qok ⟨Z,o.key,o.delim,o.past⟩
 q7:o.kind=7->Qok ⟨Y,o.key,o.delim,o.past⟩
theorem kV.e{Qok:Qy->Prop}{o:OpD}(h:kV Qok o):uf Qok o:=⟨h.q,h.q7⟩
structure rB (Qok:Qy->Prop)(L:Lg)(s:Nat):Prop where
 len:L.opened.length<=3
 left:∀x∈L.opened,0<=x.left/\x.left<=10
 ok:∀x∈L.opened,Qok x.q/\fH (cz x.f x.q.p.data.toList)<=1000/\x.q.p.size<=maxLen
 begun:0<=L.begun/\L.begun<=s
 told:∀tok n pg,dN tok L.told=J (n,pg)->(0<=n/\n<=s)/\0<=pg/\pg<=s+1
theorem fo(k c:ByteArray)(x:Int×Int)(t:Told):dN k (j7 c x t)=if k=c then J x else dN k t:=by
 induction t with
 |nil=>simp[j7,dN]
 |cons a r ih=>
  obtain⟨d,a2⟩:=a;by_cases h:c=d
  .subst h;simp only[j7,if_true,dN];by_cases b:k=c<;>simp[b]
  .simp only[j7,if_neg h,dN,ih];by_cases b:k=d
   .subst b;rw[if_pos rfl,if_neg (λe=>h e.symm),if_pos rfl]
   .rw [if_neg b,if_neg b]
theorem gp.sum{st:St}(h:gp st)(p:List UInt8):fH (cz st.f p)<=1000:=by
 have h2:=vQ p 41 st.f;have h3:fH (cz st.f p)=tot (41-p.length) λk=>st.f (p++k):=oE _ _ _ _
 have:=h.cnt;have:=h.le;omega
section
variable {Qok:Qy->Prop} {L:Lg} {s:Nat} {st:St}
theorem rB.mono(h:rB Qok L s){s':Nat}(hs:s<=s'):rB Qok L s':=
 ⟨h.len,h.left,h.ok,⟨h.begun.1,by have:=h.begun.2;omega⟩,λa n b e=>by have:=h.told a n b e;omega⟩
theorem rB.beg(h:rB Qok L s)(k:gp st)(q:Qy)(n:Int)(j:Qok q)(c:q.p.size<=maxLen):rB Qok (eQ L st.f q n).1 (s+1):=by
 have hb:=h.begun;unfold eQ;split
 .exact h.mono (by omega)
 .split
  .exact h.mono (by omega)
  .split
   .exact h.mono (by omega)
   .refine ⟨by simp only[lP,lS];omega,λx a=>?_,λx a=>?_,⟨by simp only;omega,by simp only;omega⟩,λb d i e=>?_⟩
    .rcases List.mem_append.1 a with a|a
     .exact h.left x a
     .simp only[List.mem_singleton]at a;subst a;exact⟨by simp[ip],by simp[ip]⟩
    .rcases List.mem_append.1 a with a|a
     .exact h.ok x a
     .simp only[List.mem_singleton]at a;subst a;exact⟨j,k.sum _,c⟩
    .simp only[fo]at e;split at e
     .cases e;omega
     .have:=h.told b d i e;omega
theorem rB.next(h:rB Qok L s)(c:ByteArray):rB Qok (dO L c).1 (s+1):=by
 unfold dO;split
 .exact h.mono (by omega)
 .rename_i n j k;split
  .exact h.mono (by omega)
  .split
   .exact h.mono (by omega)
   .rename_i i e2 x l;have o:x∈L.opened:=List.mem_of_getElem? l;have m:=h.begun;refine⟨by simpa using h.len,λy b=>?_,λy b=>?_,⟨m.1,by simp only;omega⟩,λa f d e=>?_⟩
    .rcases List.mem_or_eq_of_mem_set b with b|rfl
     .exact h.left y b
     .exact ⟨by simp[LsA.again],by simp[LsA.again]⟩
    .rcases List.mem_or_eq_of_mem_set b with b|rfl
     .exact h.ok y b
     .exact h.ok x o
    .simp only at e;split at e
     .have:=h.told a f d e;omega
     .rw [fo]at e;split at e
      .cases e;have:=h.told c n j k;omega
      .have:=h.told a f d e;omega
theorem rB.tick(h:rB Qok L s)(u:Int):rB Qok (eR L u).1 (s+1):=by
 unfold eR;split
 .exact h.mono (by omega)
 .rename_i hu;have f:=h.begun;refine⟨?_,λy a=>?_,λy a=>?_,⟨f.1,by simp only[mi];omega⟩,λb n d e=>by have:=h.told b n d e;omega⟩
  .have:=List.length_filter_le (λx:LsA=>!decide (x.left<=0)) (L.opened.map λx=>x.again (x.left-u));rw[lM]at this;exact lT this h.len
  .simp only[mi,List.mem_filter,List.mem_map]at a;obtain⟨⟨x,c,rfl⟩,a⟩:=a;have:=h.left x c;have hy':¬(x.left-u<=0):=λe=>by simp[LsA.again,e]at a
   show 0<=x.left-u/\x.left-u<=10;omega
  .simp only[mi,List.mem_filter,List.mem_map]at a;obtain⟨⟨x,c,rfl⟩,a⟩:=a;exact h.ok x c
theorem rB.step(h:rB Qok L s)(d:gp st)(a:List ByteArray)(o:OpD)(c:uf Qok o)(b:o.key.size<=maxLen):rB Qok (stepA st L a o).2.1 (s+1):=by
 unfold stepA;split
 .rename_i f;exact h.beg d _ _ (c.q f) b
 .split
  .rename_i e;exact h.beg d _ _ (c.q7 e) b
  .split
   .exact h.next _
   .split
    .exact h.tick _
    .split
     .exact h.mono (by omega)
     .split
      .exact h.mono (by omega)
      .exact h.mono (by omega)
theorem gp.stepA(b:gp st)(a:List ByteArray)(o:OpD):gp (stepA st L a o).1:=by
 unfold Go.Proofs.Qw.stepA
 repeat' split
 all_goals first|exact b|exact b.step o
theorem Inv.stepA(b:Inv st s)(a:List ByteArray)(o:OpD):Inv (stepA st L a o).1 (s+1):=by
 have c:Inv st (s+1):=b.mono (by omega);unfold Go.Proofs.Qw.stepA
 repeat' split
 all_goals first|exact c|exact b.step o
end
def jF(Qok:Qy->Prop)(K:OpD->Prop)(G:Wj->Prop)(N:Nat):Prop:=
 ∀ {A:Nat->Prop} {B k0:Nat} {w:Wj} {st:St} {L:Lg} (_:br A B w k0 st L) (_:B<=w.heap.size) (_:∀w',aV A B k0 w w'->G w') (o:OpD) (_:K o) (_:uf Qok o) (_:o.key.size<=maxLen) (_:o.body.size<=maxLen) {s:Nat} (_:Inv st s) (_:gp st) (_:rB Qok L s) (_:s<N)
  (d f:Nat) (a:List ByteArray) (_:a.length=s) (_:w.cell? ⟨k0,8,none⟩=J (M (J ⟨d,0,none⟩) s f)) (_:∀i (hi:i<a.length),w.cell? ⟨d,i*5+4,none⟩=J (U a[i])) (b:List Int) (c:List ByteArray) (_:Jo w k0 d s b c),
  Calls Yq.prog 8 #[O (J ⟨k0,0,none⟩),aT o] w λe w'=>cQ A B k0 w (pe st L a (qh b c o.src o.body) o).1 (pe st L a (qh b c o.src o.body) o).2.1 (pe st L a (qh b c o.src o.body) o).2.2 e w'\/Stop Qok e w'
structure Dk where
 st:St
 L:Lg
 al:List j8
def Dk.toks(d:Dk):List ByteArray:=d.al.map (·.tok)
def gg(d:Dk)(o:OpD):Dk:=⟨(stepA d.st d.L d.toks o).1,(stepA d.st d.L d.toks o).2.1,d.al++[(stepA d.st d.L d.toks o).2.2]⟩
def dk0:Dk:=⟨st0,⟨[],0,[],0⟩,[]⟩
def ir(ops:List OpD):Dk:=ops.foldl gg dk0
theorem Cn(a:List OpD)(o:OpD):ir (a++[o])=gg (ir a) o:=by simp[ir]
theorem Co(a:List OpD):∀d:Dk,(a.foldl gg d).al.length=d.al.length+a.length:=by
 induction a with
 |nil=>intro d;rfl
 |cons o r ih=>intro d;rw[List.foldl_cons,ih];simp[gg];omega
theorem nF(a:List OpD):(ir a).al.length=a.length:=by rw[ir,Co];simp[dk0]
structure FQ (Qok:Qy->Prop)(d:Dk)(s:Nat):Prop where
 i:Inv d.st s
 t:gp d.st
 l:rB Qok d.L s
 n:d.al.length=s
theorem ID(Qok:Qy->Prop):FQ Qok dk0 0:=⟨inv0,Iv,⟨by simp[dk0],by simp[dk0],by simp[dk0],by simp[dk0],by simp[dk0,dN]⟩,rfl⟩
theorem FQ.step{Qok:Qy->Prop}{d:Dk}{s:Nat}(h:FQ Qok d s)(o:OpD)(b:kV Qok o)(a:o.key.size<=maxLen):FQ Qok (gg d o) (s+1):=
 ⟨h.i.stepA _ o,h.t.stepA _ o,h.l.step h.t _ o b.e a,by simp[gg,h.n]⟩
theorem Cp{Qok:Qy->Prop}(a:List OpD):∀ (d:Dk)(s:Nat),(∀o∈a,kV Qok o/\o.key.size<=maxLen)->FQ Qok d s->FQ Qok (a.foldl gg d) (s+a.length):=by
 induction a with
 |nil=>intro d s _ h;exact h
 |cons o r ih=>
  intro d s b h;have:=ih (gg d o) (s+1) (λx c=>b x (by simp[c])) (h.step o (b o (by simp)).1 (b o (by simp)).2);rw[List.foldl_cons,lC,show s+(r.length+1)=s+1+r.length by omega];exact this
theorem xT{Qok:Qy->Prop}(a:List OpD)(b:∀o∈a,kV Qok o/\o.key.size<=maxLen):FQ Qok (ir a) a.length:=by
 have:=Cp a dk0 0 b (ID Qok)
 rwa [zA]at this
def Dk.bods(d:Dk):List ByteArray:=d.al.map (·.body)
def oP(a:List OpD)(d:Dk)(o:OpD):St×Lg×j8:=pe d.st d.L d.toks (qh (a.map (·.kind)) d.bods o.src o.body) o
def ml(a:List OpD)(d:Dk)(o:OpD):Dk:=⟨(oP a d o).1,(oP a d o).2.1,d.al++[(oP a d o).2.2]⟩
def nh(ops:List OpD)(x:List OpD×Dk):List OpD×Dk:=ops.foldl (λx o=>(x.1++[o],ml x.1 x.2 o)) x
def j9(ops:List OpD):Dk:=(nh ops ([],dk0)).2
theorem Cq(a:List OpD):∀x,(nh a x).1=x.1++a:=by
 induction a with
 |nil=>intro x;simp[nh]
 |cons o r ih=>intro x;show(nh r _).1=_;rw[ih];simp
theorem ug(a b:List OpD)(x:List OpD×Dk):nh (a++b) x=nh b (nh a x):=by simp[nh]
theorem Cr(a:List OpD)(o:OpD):j9 (a++[o])=ml a (j9 a) o:=by
 rw[j9,ug];show ml (nh a ([],dk0)).1 _ o=_;rw[Cq];rfl
theorem xU{a:List OpD}{d:Dk}{o:OpD}(h:o.kind≠12):ml a d o=gg d o:=by simp only[ml,oP,pe,if_neg h,gg]
theorem Hj{ops:List OpD}(h:∀o∈ops,o.kind≠12):j9 ops=ir ops:=by
 have:∀ (ops:List OpD) (x:List OpD×Dk),(∀o∈ops,o.kind≠12)->(nh ops x).2=ops.foldl gg x.2:=λops=>by
  induction ops with
  |nil=>intro x _;rfl
  |cons o r ih=>
   intro x h;show(nh r _).2=_;rw[ih _ λy a=>h y (by simp[a]),List.foldl_cons];congr 1;exact xU (h o (by simp))
 exact this ops _ h
structure Hk (Qok:Qy->Prop)(d:Dk)(s:Nat):Prop extends FQ Qok d s where
 small:∀b∈d.bods,b.size<=maxLen
theorem Cs{st:St}{L:Lg}{s:Nat}{Qok:Qy->Prop}(b:ByteArray)(f:Inv st s)(j:gp st)(c:rB Qok L s):Inv (ws st L b).1 (s+1)/\gp (ws st L b).1/\rB Qok (ws st L b).2.1 (s+1)/\(ws st L b).2.2.body=⟨#[]⟩:=by
 unfold ws;cases h:Ci b with
 |none=>exact⟨f.mono (by omega),j,c.mono (by omega),rfl⟩
 |some x=>
  have⟨k,i⟩:=Ck h;have l:=c.begun;exact⟨k.mono (by omega),i,⟨by simp,by simp,by simp,⟨l.1,by simp only;omega⟩,λa n d e=>by have:=c.told a n d e;omega⟩,rfl⟩
theorem wu{st:St}{L:Lg}(d:gp st)(a:List ByteArray)(o:OpD):(stepA st L a o).2.2.body.size<=maxLen:=by
 have c:(⟨#[]⟩:ByteArray).size<=maxLen:=Nat.zero_le _;have b:∀k,∀v∈st.f k,v.body.size<=maxLen:=λk v b=>lT (d.body k v b) (by simp only[maxLen];decide)
 unfold stepA
 repeat' split
 all_goals first
  |exact c
  |exact zO d _
  |skip
 unfold aA;simp only
 repeat' split
 all_goals first
  |exact c
  |(rename_i e _;exact b _ _ (List.mem_of_getLast? e))
  |(rename_i e _;exact b _ _ (List.mem_of_getElem? e))
theorem Hk.step{Qok:Qy->Prop}{d:Dk}{s:Nat}{a:List OpD}(h:Hk Qok d s)(o:OpD)(k:uf Qok o)(j:o.key.size<=maxLen):Hk Qok (ml a d o) (s+1):=by
 by_cases f:o.kind=12
 .have ⟨q,m,r,p⟩:=Cs (qh (a.map (·.kind)) d.bods o.src o.body) h.i h.t h.l;have e:oP a d o=ws d.st d.L (qh (a.map (·.kind)) d.bods o.src o.body):=by simp only[oP,pe,if_pos f]
  refine⟨⟨by rw[ml,e];exact q,by rw[ml,e];exact m,by rw[ml,e];exact r,by simp[ml,h.n]⟩,λb c=>?_⟩;simp only[Dk.bods,ml,List.map_append,List.mem_append,List.map_cons,List.map_nil,List.mem_singleton]at c;rcases c with c|rfl
  .exact h.small b c
  .rw [e,p];exact Nat.zero_le _
 .rw [xU f];refine⟨⟨h.i.stepA _ o,h.t.stepA _ o,h.l.step h.t _ o k j,by simp[gg,h.n]⟩,λb c=>?_⟩;simp only[Dk.bods,gg,List.map_append,List.mem_append,List.map_cons,List.map_nil,List.mem_singleton]at c;rcases c with c|rfl
  .exact h.small b c
  .exact wu h.t _ o
theorem E8{Qok:Qy->Prop}(a:List OpD)(b:∀o∈a,uf Qok o/\o.key.size<=maxLen):Hk Qok (j9 a) a.length:=by
 have:∀ (a:List OpD) (x:List OpD×Dk) (s:Nat),(∀o∈a,uf Qok o/\o.key.size<=maxLen)->Hk Qok x.2 s->Hk Qok (nh a x).2 (s+a.length):=λa=>by
  induction a with
  |nil=>intro x s _ h;exact h
  |cons o r ih=>
   intro x s b h;have:=ih (x.1++[o],ml x.1 x.2 o) (s+1) (λy c=>b y (by simp[c])) (h.step o (b o (by simp)).1 (b o (by simp)).2);rw[lC,show s+(r.length+1)=s+1+r.length by omega];exact this
 have:=this a ([],dk0) 0 b ⟨ID Qok,by simp[Dk.bods,dk0]⟩
 rwa [zA]at this
def bg(zs:List (j8×Wx)):List Wx:=zs.flatMap λz=>[I K z.1.code,I K z.1.ver,U z.1.body,z.2,U z.1.tok]
theorem qi(a:List (j8×Wx)):(bg a).length=a.length*5:=fO 5 _ (λ_=>rfl) a
theorem oQ(a:List (j8×Wx))(z:j8×Wx):bg (a++[z])=bg a++[I K z.1.code,I K z.1.ver,U z.1.body,z.2,U z.1.tok]:=by simp[bg]
theorem i7:∀ (a:List (j8×Wx))(i:Nat)(b:i<a.length),(bg a)[i*5]?=J (I K a[i].1.code)/\(bg a)[i*5+1]?=J (I K a[i].1.ver)/\(bg a)[i*5+2]?=J (U a[i].1.body)/\(bg a)[i*5+3]?=J a[i].2/\(bg a)[i*5+4]?=J (U a[i].1.tok)
 | [],i,b=>by simp at b
 |z::a,0,b=>by simp[bg]
 |z::a,i+1,b=>by
  have ih:=i7 a i (by simpa using b);have e:bg (z::a)=[I K z.1.code,I K z.1.ver,U z.1.body,z.2,U z.1.tok]++bg a:=by simp[bg]
  have c:∀j,(bg (z::a))[(i+1)*5+j]?=(bg a)[i*5+j]?:=λj=>by
   rw[e,aR (by simp;omega)];congr 1;simp;omega
  simp only[List.getElem_cons_succ];exact⟨(c 0).trans ih.1,(c 1).trans ih.2.1,(c 2).trans ih.2.2.1,(c 3).trans ih.2.2.2.1,(c 4).trans ih.2.2.2.2⟩
def Ct(A:Nat->Prop)(w:Wj)(zs:List (j8×Wx)):Prop:=∀z∈zs,bZ A w z.2 z.1.items.length (an z.1.items)
def wv(ops:List OpD)(w:Wj)(e:Ending)(w':Wj):Prop:=
 ∃ (A:Nat->Prop) (a:List (j8×Wx)),e=.returned (M (J ⟨w.heap.size,0,N⟩) ops.length ops.length)/\a.map (·.1)=(ir ops).al/\w'.ownsRow w.heap.size 46 5 (M (J ⟨w.heap.size,0,N⟩) ops.length ops.length) ops.length (bg a)/\Ct A w' a/\(∀b,A b->w.heap.size<b)/\au w w'
def fV(ops:List OpD)(w:Wj)(e:Ending)(w':Wj):Prop:=
 ∃ (A:Nat->Prop) (a:List (j8×Wx)),e=.returned (M (J ⟨w.heap.size,0,N⟩) ops.length ops.length)/\a.map (·.1)=(j9 ops).al/\w'.ownsRow w.heap.size 46 5 (M (J ⟨w.heap.size,0,N⟩) ops.length ops.length) ops.length (bg a)/\Ct A w' a/\(∀b,A b->w.heap.size<b)/\au w w'
theorem fV.d{a:List OpD}{w w':Wj}{e:Ending}(h:fV a w e w')(b:∀o∈a,o.kind≠12):wv a w e w':=by
 unfold fV at h;rw[Hj b]at h;exact h
section
variable {A:Nat->Prop} {B k0:Nat} {w w':Wj} {st:St} {L:Lg}
theorem br.apart{g0:Nat}(h:br A B w k0 st L)(hsz:w.heap.size<=w'.heap.size)(a:∀b,b<w.heap.size->b≠k0->b≠g0->w'.heap[b]?=w.heap[b]?)(hA:¬A g0)(hgB:g0<B)(d:∀j,j<7->w'.cell? ⟨k0,j,N⟩=w.cell? ⟨k0,j,N⟩)(r:∀j,w'.frozen? ⟨k0,j,N⟩=w.frozen? ⟨k0,j,N⟩):br A B w' k0 st L:=by
 have l:=h.ls.avoid;have hlow:=h.ls.low;have t:∀n p f,am A n w p f->am A n w' p f:=λn p f R=>am.keep (λb i k=>⟨i,a b k (λe=>l (e▸i)) (λe=>hA (e▸i))⟩) n p f R
 have y:=h.time;have⟨p,c0,u⟩:=h.store.tree;have⟨v,c4,G,X,T,Q,V⟩:=h.ls.opened;have⟨S,c6,q⟩:=h.ls.told;refine⟨⟨h.store.avoid,⟨p,(d 0 (by omega)).trans c0,t _ _ _ u⟩,(d 1 (by omega)).trans h.store.count,(d 2 (by omega)).trans h.store.last,λj=>(r j).trans (h.store.frozen j)⟩,⟨⟨v,(d 4 (by omega)).trans c4,G,X,bW T λg h1 P=>a g P (by omega) (by omega),Q,λz hz=>t _ _ _ (V z hz)⟩,(d 5 (by omega)).trans h.ls.begun,⟨S,(d 6 (by omega)).trans c6,?_⟩,λj=>(r j).trans (h.ls.frozen j),h.ls.avoid,h.ls.low,λb i=>by have:=h.ls.inn b i;omega⟩,(d 3 (by omega)).trans y⟩;rcases q with q|⟨m,D,c,H,s,x,m4,F⟩
 .exact .inl q
 .have o:=(eS s).1;exact .inr ⟨m,D,c,H,(a m o (by omega) (by omega)).trans s,x,m4,F⟩
theorem Cu{v b:Wx}:br (λ_=>False) (w.heap.size+1) (w.alloc (E #[O N,I K 0,I K 0,I .u64 0,M N 0 0,I K 0,.map N,v,b] T)) w.heap.size st0 ⟨[],0,[],0⟩:=by
 have a:∀j,(w.alloc (E #[O N,I K 0,I K 0,I .u64 0,M N 0 0,I K 0,.map N,v,b] T)).cell? ⟨w.heap.size,j,N⟩=(#[O N,I K 0,I K 0,I .u64 0,M N 0 0,I K 0,.map N,v,b]:Array Wx)[j]?:=λj=>cA (w:=w) _ _ w.heap.size j rfl
 have d:∀j,(w.alloc (E #[O N,I K 0,I K 0,I .u64 0,M N 0 0,I K 0,.map N,v,b] T)).frozen? ⟨w.heap.size,j,N⟩=false:=λj=>World.frozen?_alloc_at (w:=w) _ _ w.heap.size j rfl
 refine⟨⟨λ_ h=>h.elim,⟨N,a 0,am.nil (λ_=>rfl)⟩,a 1,a 2,d⟩,⟨⟨_,a 4,[],rfl,⟨by simp[bf],.inl ⟨rfl,rfl⟩⟩,λg h=>by simp[Value.ownBlock]at h,λz e=>by simp at e⟩,a 5,⟨_,a 6,.inl ⟨rfl,rfl⟩⟩,d,λh=>h,by omega,λ_ h=>h.elim⟩,a 3⟩
theorem Hl{b:List (j8×Wx)}{c:List j8}(j:b.map (·.1)=c){m n d g:Nat}(h:w.ownsRow m T 5 (M (J ⟨g,0,N⟩) n d) n (bg b)):∀i (f:i<(c.map (·.body)).length),w.cell? ⟨g,i*5+2,N⟩=J (U (c.map (·.body))[i]):=by
 subst j;intro i f;have e:i<b.length:=by simpa using f
 have:=(i7 b i e).2.2.1;rw[h.cellAt _ (by have:=h.1;rw[qi]at this;omega)];simpa using this
theorem Hm{b:List (j8×Wx)}{c:List j8}(j:b.map (·.1)=c){m n d g:Nat}(h:w.ownsRow m T 5 (M (J ⟨g,0,N⟩) n d) n (bg b)):∀i (f:i<(c.map (·.tok)).length),w.cell? ⟨g,i*5+4,N⟩=J (U (c.map (·.tok))[i]):=by
 subst j;intro i f;have e:i<b.length:=by simpa using f
 have:=(i7 b i e).2.2.2.2;rw[h.cellAt _ (by have:=h.1;rw[qi]at this;omega)];simpa using this
end
theorem zP{A:Nat->Prop}{B k0:Nat}{w w':Wj}(h:gO A B k0 w w'){m n b g:Nat}{xs:List Wx}(d:w.ownsRow m T 5 (M (J ⟨g,0,N⟩) n b) n xs)(f:g<B)(e:g≠k0):w'.ownsRow m T 5 (M (J ⟨g,0,N⟩) n b) n xs:=
 im d λg' c=>by
  simp[Value.ownBlock]at c;subst c;exact h.low _ f (d.lt _ rfl).2 e
structure Dl (Qok:Qy->Prop)(ops:List OpD)(sc:Wx)(n k0:Nat)(w wr:Wj)(i:Nat)(A:Nat->Prop)(zs:List (j8×Wx)):Prop where
 desk:br A (k0+1) wr k0 (j9 (ops.take i)).st (j9 (ops.take i)).L
 above:∀b,A b->w.heap.size<b
 c7:wr.cell? ⟨k0,7,N⟩=J sc
 c8:wr.cell? ⟨k0,8,N⟩=J (M (J ⟨w.heap.size,0,N⟩) i n)
 own:wr.ownsRow w.heap.size 46 5 (M (J ⟨w.heap.size,0,N⟩) i n) i (bg zs)
 al:zs.map (·.1)=(j9 (ops.take i)).al
 rows:Ct A wr zs
 left:au w wr
 k0:w.heap.size<k0
theorem Dl.leftD{Qok:Qy->Prop}{d:List OpD}{v:Wx}{n k0 m:Nat}{w wr W1 w':Wj}{A:Nat->Prop}{f:List (j8×Wx)}(h:Dl Qok d v n k0 w wr m A f)(e:au wr W1)(a:aV A (k0+1) k0 W1 w'):au w w':=by
 have c:=h.left;have hk:=h.k0;have hs:=c.size;have hs1:=e.size;refine⟨a.os.trans (e.os.trans c.os),by have:=a.size;omega,λb j=>?_⟩;rw[a.low b (by omega) (by omega) (by omega),e.block b (by omega),c.block b j]
theorem Dl.next{Qok:Qy->Prop}{c:List OpD}{sc:Wx}{n k0 i:Nat}{w wr W1 w2 w3:Wj}{A:Nat->Prop}{L:List (j8×Wx)}(h:Dl Qok c sc n k0 w wr i A L)(hi:i<c.length)(s:au wr W1){sv:Wx}{X:Obj}(hp:cQ A (k0+1) k0 W1 (oP (c.take i) (j9 (c.take i)) c[i]).1 (oP (c.take i) (j9 (c.take i)) c[i]).2.1 (oP (c.take i) (j9 (c.take i)) c[i]).2.2 (.returned (ll (oP (c.take i) (j9 (c.take i)) c[i]).2.2 sv)) w2)
  (ho:w3.ownsRow w.heap.size 46 5 (M (J ⟨w.heap.size,0,N⟩) (i+1) n) (i+1) (bg (L++[((oP (c.take i) (j9 (c.take i)) c[i]).2.2,sv)]))) (y:(w2.alloc X).grownBy w3 (J w.heap.size)) (R:w3.cell? ⟨k0,8,N⟩=J (M (J ⟨w.heap.size,0,N⟩) i n)):
  ∃A',Dl Qok c sc n k0 w (w3.setCell ⟨k0,8,N⟩ (M (J ⟨w.heap.size,0,N⟩) (i+1) n)) (i+1) A' (L++[((oP (c.take i) (j9 (c.take i)) c[i]).2.2,sv)]):=by
 obtain⟨P,he,A',a1,a2,D,r,x⟩:=hp;have G:P=sv:=by
  simp[ll]at he;exact he.symm
 subst G;have H:c.take (i+1)=c.take i++[c[i]]:=tS hi;have t:j9 (c.take (i+1))=ml (c.take i) (j9 (c.take i)) c[i]:=by rw[H,Cr]
 have hk:=h.k0;have hs0:=h.left.size;have hs1:=s.size;have hs2:=r.size;have F:=y.size;simp at F;have l:∀b,b<w2.heap.size->b≠k0->b≠w.heap.size->(w3.setCell ⟨k0,8,N⟩ (M (J ⟨w.heap.size,0,N⟩) (i+1) n)).heap[b]?=w2.heap[b]?:=λb d B h2=>by
  rw[bS _ _ _ _ B,y.block b (by simp;omega) (λe=>h2 (oJ e)),bA _ _ _ d]
 have Q:k0<w2.heap.size:=D.ls.lt;have u:w3.heap[k0]?=w2.heap[k0]?:=by
  rw[y.block k0 (by simp;omega) (λe=>by have:=oJ e;omega),bA _ _ _ Q]
 have o:∀b,A' b->w.heap.size<b:=λb d=>by
  rcases a2 b d with B|B
  .exact h.above b B
  .have:=h.desk.ls.lt;omega
 have S:∀j,j≠8->(w3.setCell ⟨k0,8,N⟩ (M (J ⟨w.heap.size,0,N⟩) (i+1) n)).cell? ⟨k0,j,N⟩=w2.cell? ⟨k0,j,N⟩:=λj V=>by
  rw[cO _ _ _ _ (bO (λe=>V e.symm))];exact cB (a:=⟨k0,j,N⟩) u
 have hf:∀j,(w3.setCell ⟨k0,8,N⟩ (M (J ⟨w.heap.size,0,N⟩) (i+1) n)).frozen? ⟨k0,j,N⟩=w2.frozen? ⟨k0,j,N⟩:=λj=>by
  rw[World.frozen?_setCell];exact fB (a:=⟨k0,j,N⟩) u
 refine⟨A',?_,o,(S 7 (by omega)).trans ((r.cells 7 (by omega)).trans (s.cell h.c7)),cS _ _ _ (by rw[R];rfl),?_,?_,?_,?_,h.k0⟩
 .rw [t];show br A' (k0+1) _ k0 (oP _ _ _).1 (oP _ _ _).2.1;exact D.apart (g0:=w.heap.size) (by simp;omega) l (λhx=>by have:=o _ hx;omega) (by omega) (λj V=>S j (by omega)) hf
 .exact im ho λg q=>by
   simp[Value.ownBlock]at q;subst q;exact bS _ _ _ _ (by show w.heap.size≠k0;omega)
 .rw [t,List.map_append,h.al];rfl
 .intro z p;have f:∀ {v:Wx} {m:Nat} {T:List Wx},bZ A' w2 v m T->bZ A' (w3.setCell ⟨k0,8,N⟩ (M (J ⟨w.heap.size,0,N⟩) (i+1) n)) v m T:=λhr=>bZ.keep hr λb d k=>⟨d,l b k (λe=>D.ls.avoid (e▸d)) (λe=>by have:=o b d;omega)⟩
  rcases List.mem_append.1 p with p|p
  .refine f (bZ.keep (h.rows z p) λb d k=>⟨a1 b d,?_⟩);rw[r.tree b d (by omega),s.block b k]
  .simp only[List.mem_singleton]at p;subst p;exact f x
 .refine ⟨?_,by simp;omega,λb d=>?_⟩
  .show w3.os=w.os;rw[y.os];exact r.os.trans (s.os.trans h.left.os)
  .have hkk:=h.desk.ls.lt;rw[l b (by omega) (by omega) (by omega),r.low b (by omega) (by omega) (by omega),s.block b (by omega),h.left.block b d]
theorem Cv(Qok:Qy->Prop)(d:OpD->Prop)(G:Wj->Prop)(c:Nat)(bd:jF Qok d G c)(b S V:Nat)(f:List OpD)(w:Wj)(hG:∀w',au w w'->G w')(hS:ij w b S f)(hz:Sized f)(hn:f.length<=c)(hN:c<2199023255300)(b7:∀o∈f,uf Qok o)(bq:∀o∈f,d o):
  Calls Yq.prog 6 #[M (J ⟨b,S,N⟩) f.length V] w λe w'=>fV f w e w'\/Stop Qok e w':=by
 have⟨i0,bw,cv,b2,cc⟩:=info_parts Yq.infoAns;have bb:Hid (ij w b S f/\Sized f):=⟨hS,hz⟩;have b4:Hid (∀o∈f,uf Qok o):=b7;have bs:Hid (jF Qok d G c):=bd;have dd:Hid (∀w',au w w'->G w'):=hG;have b8:Hid (∀o∈f,d o):=bq;have b9:Hid (∀e w',fV f w e w'↔fV f w e w'):=λ_ _=>Iff.rfl
 obtain⟨P,hP⟩:∃P:Ending->Wj->Prop,P=λe w'=>fV f w e w'\/Stop Qok e w':=⟨_,rfl⟩
 have df:Hid (∀e w',fV f w e w'->P e w'):=λe w' h=>by rw[hP];exact .inl h
 have cl:Hid (∀e w',Stop Qok e w'->P e w'):=λe w' h=>by rw[hP];exact .inr h
 rw[<-hP];obtain⟨n,bn⟩:∃n,f.length=n:=⟨_,rfl⟩;have HN:Hid (f.length=n):=bn;rw[bn]at hn ⊢;clear hS hz bn b7 bd hP b9 bq hG;go_enter (Yq.nq Tryz.func6),Tryz.ntmps6;go_wp2_with (at_make;refine wpList_make_own _ rfl _ _ 26 rfl w.heap.size 46 i0 _ 5 (Yq.u Tryz.underlying26) bw cv b2 _ _ _ n rfl rfl (by omega) ?qb1 ?qb2 ?qb3 ?_)
 case qb1=>rw[cc];omega
 case qb2=>simp only[maxLen];omega
 case qb3=>simp
 intro w1 ab s;have b0:w.heap.size<w1.heap.size:=(ab.lt w.heap.size rfl).2;have b1:Below w.heap.size w w1:=⟨s.os,s.tape,s.output,s.size,λk hk=>s.block k hk (by simp)⟩;go_wp2_with fail
 obtain⟨W0,be⟩:∃W0,W0=w1.alloc (E #[O N,I K 0,I K 0,I .u64 0,M N 0 0,I K 0,.map N,M (J ⟨b,S,N⟩) n V,M (J ⟨w.heap.size,0,N⟩) 0 n] 42):=⟨_,rfl⟩;have b5:Hid (Dl Qok f (M (J ⟨b,S,N⟩) n V) n w1.heap.size w W0 0 (λ_=>False) []):=by
  rw[be];exact⟨Cu,λ_ h=>h.elim,by rw[rn];rfl,by rw[rn];rfl,ab.alloc _,rfl,λz hz=>by simp at hz,(au.below b1).alloc _,b0⟩
 rw[<-be];generalize w1.heap.size=k0 at *;clear b1 ab s be
 go_loopw [5,13] (λ_ s12 wr=>∃ (i:Nat) (A:Nat->Prop) (zs:List (j8×Wx)),i<=n/\s12=I K i/\Dl Qok f (M (J ⟨b,S,N⟩) n V) n k0 w wr i A zs) (λ_ s12 _=>n-(intOf s12).toNat)
 case atStart=>exact⟨0,λ_=>False,[],Nat.zero_le _,rfl,b5.out⟩
 case round=>
  obtain⟨i,A,zs,hin,rfl,bp⟩:=hrel;have HR:Hid (Dl Qok f (M (J ⟨b,S,N⟩) n V) n k0 w wr i A zs):=bp;clear bp b5;by_cases ct:i<n
  .have ap:i<f.length:=by rw[HN.out];exact ct
   have hb:=HR.out.left;have⟨c0,c1,c2,c3,c4,c5,c6⟩:=bb.out.1 i ap;replace c0:=hb.cell c0;replace c1:=hb.cell c1;replace c2:=hb.cell c2;replace c3:=hb.cell c3;replace c4:=hb.cell c4;replace c5:=hb.cell c5;replace c6:=hb.cell c6;have⟨a9,a8⟩:=bb.out.2 f[i] (List.getElem_mem ap);have bk:=b4.out f[i] (List.getElem_mem ap);have bi:=b8.out f[i] (List.getElem_mem ap);have aa:Hk Qok (j9 (f.take i)) i:=by
    have:=E8 (Qok:=Qok) (f.take i) (λo ho=>⟨b4.out o (List.mem_of_mem_take ho),(bb.out.2 o (List.mem_of_mem_take ho)).1⟩)
    rwa [tL,Nat.min_eq_left (by omega)]at this
   have ac:∀ (W1 w2 w3:Wj) (sv:Wx) (X:Obj),au wr W1->cQ A (k0+1) k0 W1 (oP (f.take i) (j9 (f.take i)) f[i]).1 (oP (f.take i) (j9 (f.take i)) f[i]).2.1 (oP (f.take i) (j9 (f.take i)) f[i]).2.2 (.returned (ll (oP (f.take i) (j9 (f.take i)) f[i]).2.2 sv)) w2->w3.ownsRow w.heap.size 46 5 (M (J ⟨w.heap.size,0,N⟩) (i+1) n) (i+1) (bg (zs++[((oP (f.take i) (j9 (f.take i)) f[i]).2.2,sv)]))->(w2.alloc X).grownBy w3 (J w.heap.size)->w3.cell? ⟨k0,8,N⟩=J (M (J ⟨w.heap.size,0,N⟩) i n)->∃A' af,Dl Qok f (M (J ⟨b,S,N⟩) n V) n k0 w (w3.setCell ⟨k0,8,N⟩ (M (J ⟨w.heap.size,0,N⟩) (i+1) n)) (i+1) A' af:=
    λW1 w2 w3 sv X hl hp ho hg hc=>by
     have⟨A',h⟩:=HR.out.next ap hl hp ho hg hc
     exact⟨A',_,h⟩
   obtain⟨o,ho⟩:∃o,o=f[i]:=⟨_,rfl⟩;rw[<-ho]at ac c0 c1 c2 c3 c4 c5 c6 a9 a8 bk bi;obtain⟨F,R,B,q,D,nn,T⟩:=o;simp only at c0 c1 c2 c3 c4 c5 c6 a9 a8;obtain⟨W1,a7⟩:∃W1,W1=wr.alloc (E #[I K F,U R,U B,U q,U D,I K nn,I K T] 30):=⟨_,rfl⟩;have Q:au wr W1.drew:=by rw[a7];exact(au.refl.alloc _).drew
   have hkl:k0<wr.heap.size:=HR.out.desk.ls.lt;have b3:W1.drew.cell? ⟨k0,8,N⟩=J (M (J ⟨w.heap.size,0,N⟩) i n):=Q.cell HR.out.c8;have ds:Jo W1.drew k0 w.heap.size i ((f.take i).map (·.kind)) (j9 (f.take i)).bods:=by
    refine⟨by simp;omega,by rw[Dk.bods,lM];exact aa.n,aa.small,⟨b,S,n,V,Q.cell HR.out.c7,by omega,λj hj=>?_⟩,λj hj=>Q.cell (Hl HR.out.al HR.out.own j hj)⟩;have dc:j<f.length:=by simp at hj;omega
    have:=(HR.out.left.trans Q).cell (bb.out.1 j dc).1;simpa using this
   have a0:=bs.out (HR.out.desk.left Q) (by have:=Q.size;omega) (λw' hd=>dd.out w' (HR.out.leftD Q hd)) ⟨F,R,B,q,D,nn,T⟩ bi bk a9 a8 aa.i aa.t aa.l (by omega) w.heap.size n (j9 (f.take i)).toks (by rw[Dk.toks,lM];exact aa.n) b3 (λj hj=>Q.cell (Hm HR.out.al HR.out.own j hj)) ((f.take i).map (·.kind)) (j9 (f.take i)).bods ds;change Calls _ _ _ _ (λe w'=>cQ A (k0+1) k0 W1.drew (oP (f.take i) (j9 (f.take i)) ⟨F,R,B,q,D,nn,T⟩).1 (oP (f.take i) (j9 (f.take i)) ⟨F,R,B,q,D,nn,T⟩).2.1 (oP (f.take i) (j9 (f.take i)) ⟨F,R,B,q,D,nn,T⟩).2.2 e w'\/Stop Qok e w')at a0;generalize oP (f.take i) (j9 (f.take i)) ⟨F,R,B,q,D,nn,T⟩=sr at a0 ac;obtain⟨st',L',ad⟩:=sr;obtain⟨p,H,m,its,L⟩:=ad;simp only[aT]at a0 ac;have bo:Hid (∀ (w2 w3:Wj) (sv:Wx) (X:Obj),cQ A (k0+1) k0 W1.drew st' L' ⟨p,H,m,its,L⟩ (.returned (ll ⟨p,H,m,its,L⟩ sv)) w2->w3.ownsRow w.heap.size 46 5 (M (J ⟨w.heap.size,0,N⟩) (i+1) n) (i+1) (bg zs++[I K p,I K H,U m,sv,U L])->(w2.alloc X).grownBy w3 (J w.heap.size)->w3.cell? ⟨k0,8,N⟩=J (M (J ⟨w.heap.size,0,N⟩) i n)->∃A' af,Dl Qok f (M (J ⟨b,S,N⟩) n V) n k0 w (w3.setCell ⟨k0,8,N⟩ (M (J ⟨w.heap.size,0,N⟩) (i+1) n)) (i+1) A' af):=
    λw2 w3 sv X hp ho hg hc=>ac _ w2 w3 sv X Q hp (by rw[oQ];exact ho) hg hc
   have dt:Hid (Calls Yq.prog 8 #[O (J ⟨k0,0,N⟩),.agg #[I K F,U R,U B,U q,U D,I K nn,I K T]] W1.drew λe w'=>(∃v,e=.returned v/\∃so sn sc,v=.agg #[I K p,I K H,U m,M so sn sc,U L]/\cQ A (k0+1) k0 W1.drew st' L' ⟨p,H,m,its,L⟩ (.returned (ll ⟨p,H,m,its,L⟩ (M so sn sc))) w')\/∃ch,e=.panicked ch/\Stop Qok (.panicked ch) w'):=
    a0.mono λe w' h=>by
     rcases h with⟨sv,rfl,A',a1,a2,a3,a4,a5⟩|bl
     .obtain ⟨so,sc,rfl,a6⟩:=a5;exact .inl ⟨_,rfl,so,_,sc,rfl,_,rfl,A',a1,a2,a3,a4,so,sc,rfl,a6⟩
     .obtain ⟨x,y,r,rfl,bl⟩:=bl;exact .inr ⟨_,rfl,x,y,r,rfl,bl⟩
   have ca:Hid (∀w2 sv,cQ A (k0+1) k0 W1.drew st' L' ⟨p,H,m,its,L⟩ (.returned (ll ⟨p,H,m,its,L⟩ sv)) w2->w2.cell? ⟨k0,8,N⟩=J (M (J ⟨w.heap.size,0,N⟩) i n)/\(∀X:Obj,(w2.alloc X).ownsRow w.heap.size 46 5 (M (J ⟨w.heap.size,0,N⟩) i n) i (bg zs))/\∀ (w3:Wj) (X:Obj),(w2.alloc X).grownBy w3 (J w.heap.size)->w3.cell? ⟨k0,8,N⟩=J (M (J ⟨w.heap.size,0,N⟩) i n)/\w3.frozen? ⟨k0,8,N⟩=Z):=λw2 sv hp=>by
    obtain⟨_,-,A',-,-,hd,hw,-⟩:=hp;have hk0:=HR.out.k0;have e2:w2.cell? ⟨k0,8,N⟩=J (M (J ⟨w.heap.size,0,N⟩) i n):=(hw.cells 8 (by omega)).trans b3;have b6:=hd.ls.lt;refine⟨e2,λX=>(zP hw (bW HR.out.own λg _ hg=>Q.block g hg) (by omega) (by omega)).alloc X,λw3 X av=>?_⟩;have bv:w3.heap[k0]?=w2.heap[k0]?:=by
     rw[av.block k0 (by simp;omega) (λe=>by have:=oJ e;omega),bA _ _ _ b6]
    exact⟨(cB (a:=⟨k0,8,N⟩) bv).trans e2,(fB (a:=⟨k0,8,N⟩) bv).trans (hd.ls.frozen 8)⟩
   have cj:Hid (W1=wr.alloc (E #[I K F,U R,U B,U q,U D,I K nn,I K T] 30)):=a7;have W1c:∀j,W1.drew.cell? ⟨wr.heap.size,j,N⟩=(#[I K F,U R,U B,U q,U D,I K nn,I K T]:Array Wx)[j]?:=λj=>by rw[a7];exact rn wr _ _ j
   have q0:=W1c 0;have q1:=W1c 1;have q2:=W1c 2;have q3:=W1c 3;have q4:=W1c 4;have q5:=W1c 5;have q6:=W1c 6;have da:Hid (∀ (ar:Array Wx) (wx:Wj),(callFunc 8 ar).run Yq.prog wx=.ok (.enter 8 ar) wx):=λar wx=>by go_simp
   have k8n:=HR.out.c8;clear W1c a7 hb aa ac a0 bk bi a9 a8 ho Q;simp only[gA,gZ,gS]at q0 q1 q2 q3 q4 q5 q6
   go_upto_region 5 with fail
   rw[<-cj.out]
   go_region_law (first
    |(refine cE rfl 8 #[.tmp 3,.tmp 19] #[42,30] rfl #[O (J ⟨k0,0,N⟩),.agg #[I K F,U R,U B,U q,U D,I K nn,I K T]] (by simp[Act.eval]) (da.out _ _) _ _ dt.out (by intro ch w' hs;exact⟨rfl,cl.out _ _ hs⟩) ?_;rintro v w2 ⟨so,sn,sc,rfl,hp⟩;obtain⟨cd,o8,f8⟩:=ca.out w2 _ hp;have k8d:(w2.alloc (E #[I K p,I K H,U m,M so sn sc,U L] 46)).cell? ⟨k0,8,N⟩=J (M (J ⟨w.heap.size,0,N⟩) i n):=aw cd _;have c9:Hid (cQ A (k0+1) k0 W1.drew st' L' ⟨p,H,m,its,L⟩ (.returned (ll ⟨p,H,m,its,L⟩ (M so sn sc))) w2):=hp;have cb:Hid (∀X:Obj,(w2.alloc X).ownsRow w.heap.size 46 5 (M (J ⟨w.heap.size,0,N⟩) i n) i (bg zs)):=o8;have cr:Hid (∀ (w3:Wj) (X:Obj),(w2.alloc X).grownBy w3 (J w.heap.size)->w3.cell? ⟨k0,8,N⟩=J (M (J ⟨w.heap.size,0,N⟩) i n)/\w3.frozen? ⟨k0,8,N⟩=Z):=f8;clear hp o8 f8)
    |(refine nf rfl (.tmp 18) (.tmp 21) 26 rfl w.heap.size 46 i0 5 (Yq.u Tryz.underlying26) bw b2 w.heap.size i n (bg zs) (by simp[Act.eval]) (cb.out _) ⟨w2.heap.size,0,N⟩ 1 1 [I K p,I K H,U m,M so sn sc,U L] (by simp[Act.eval]) rfl (pZ _ _ _ _ _ _ _) (by intro u hu;simp at hu;rcases hu with rfl|rfl|rfl|rfl|rfl<;>rfl) (by omega) ?_;intro w3 bx av;obtain⟨cp,f8c⟩:=cr.out _ _ av;have bt:Hid (w3.ownsRow w.heap.size 46 5 (M (J ⟨w.heap.size,0,N⟩) (i+1) n) (i+1) (bg zs++[I K p,I K H,U m,M so sn sc,U L])/\(w2.alloc (E #[I K p,I K H,U m,M so sn sc,U L] 46)).grownBy w3 (J w.heap.size)):=⟨bx,av⟩;clear bx av))
   all_goals
    go_wp2;obtain⟨A',af,ck⟩:=bo.out w2 w3 _ _ c9.out bt.out.1 bt.out.2 cp;exact⟨⟨i+1,A',af,by omega,by go_num,ck⟩,by simp[intOf];omega⟩
  .have cm:i=n:=by omega
   subst cm;have HT:Hid (f.take i=f):=tO (by rw[HN.out];exact lR _);have c8:=HR.out.c8;go_wp2;refine df.out _ _ ⟨A,zs,by rw[HN.out];rfl,?_,?_,HR.out.rows,HR.out.above,HR.out.left⟩
   .have:=HR.out.al;rw[HT.out]at this;exact this
   .rw [HN.out];exact HR.out.own
theorem E9(Qok:Qy->Prop)(c:OpD->Prop)(G:Wj->Prop)(a:Nat)(k:jF Qok c G a)(b i l:Nat)(f:List OpD)(w:Wj)(r:∀w',au w w'->G w')(p:ij w b i f)(t:Sized f)(s:f.length<=a)(q:a<2199023255300)(j:∀o∈f,kV Qok o)(n:∀o∈f,c o):
  Calls Yq.prog 6 #[M (J ⟨b,i,N⟩) f.length l] w λe w'=>wv f w e w'\/Stop Qok e w':=
 (Cv Qok c G a k b i l f w r p t s q (λo m=>(j o m).e) n).mono λ_ _ h=>h.imp (λh=>h.d λo m=>(j o m).k12) id
end
section
open Go.RowKit
end
section
open Go.Conc Go.ConcX Go.ConcX.Gen Go.RowKit
theorem Fb(Qok:Qy->Prop)(d:OpD->Prop)(G:Wj->Prop)(c:Nat)(i:jF Qok d G c)(v:Wx)(f:List OpD)(w:Wj)(q:∀w',au w w'->G w')(h:il w v f)(k:f≠[])(t:f.length<=c)(r:c<2199023255300)(j:∀o∈f,kV Qok o)(n:∀o∈f,d o):
  Calls Yq.prog 6 #[v] w λe w'=>wv f w e w'\/Stop Qok e w':=by
 obtain⟨a,m,rfl,s⟩:=h.form;obtain⟨b,l,rfl,p⟩:=s k;exact E9 Qok d G c i b l m f w q p h.sized t r j n
theorem il.left{w w':Wj}{v:Wx}{ops:List OpD}(h:il w v ops)(c:au w w'):il w' v ops:=by
 obtain⟨a,f,rfl,r⟩:=h.form;refine⟨⟨a,f,rfl,λd=>?_⟩,h.sized,h.len⟩;obtain⟨b,e,rfl,k⟩:=r d;refine⟨b,e,rfl,λi q=>?_⟩;have⟨p,s,j,l,o,m,n⟩:=k i q;exact⟨c.cell p,c.cell s,c.cell j,c.cell l,c.cell o,c.cell m,c.cell n⟩
def zQ(_:Qy):Prop:=True
end
