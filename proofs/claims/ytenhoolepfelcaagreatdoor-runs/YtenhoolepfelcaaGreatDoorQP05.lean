/- A part. -/
import Derived.Test.YtenhoolepfelcaaGreatDoorQP04
set_option maxHeartbeats 4000000
set_option maxRecDepth 100000
open List renaming mem_append->dT,take_append_drop->ey
open _root_ renaming UInt8->eV,Option->eW,ByteArray->gI,absurd->gL
open Go renaming World->Wj,Value->Wx,Addr->Wu
namespace Go.Proofs.Qw
open _root_ renaming rfl->Q
open _root_ renaming Nat->H,List->S
open Option renaming none->N,some->J
open Bool renaming true->Y,false->Z
open Value renaming int->I,string->U,slice->M,pointer->O,bool->C
open IntKind renaming i64->K
open Ending renaming returned->Nm
variable {A:H->Prop}{g k n r:H}{F f:S eV->S Ver}{o q:eW Wu}{a p:S (eV×eW Wu)}{c:eV}
open Tryz
section
open Go.RowKit
theorem ao.N5{w}(h:ao A (n+1) w (J ⟨g,0,N⟩) F){b}{l t}
  (v:w.cell? ⟨g,0,N⟩=J (C b)) (p:w.cell? ⟨g,2,N⟩=J (M o l t)):ao A (n+1) w (N5 b l g) F:=by
 unfold Go.Proofs.Qw.N5;split
 rename_i m;rcases h with h|⟨g',hv,kv,ks,r,hA,j,d1,i,hh,e,hs,hch,d⟩;cases h.1;cases r;rw[v]at j;cases j;rw[p]at i;cases i;obtain⟨a,cap,u,-,-⟩:=e;cases u;have f:=List.length_eq_zero_iff.1 m.2;subst f;refine Or.inl ⟨rfl,λk=>?_⟩;cases k with
 |nil=>have:=m.1;simpa using this
 |cons c k=>exact d.1 c (λq s=>gL s List.not_mem_nil) k
 exact h
def th(n:H):Prop:=∀ (A:H->Prop)(p:eW Wu)(f:S eV->S Ver)(a:gI)(w:Wj),ao A n w p f->a.size<n->a.size<=1000->f a.data.toList≠[] ->
 Calls Yq.prog 68 #[O p,U a] w λe b=>∃q,e=Nm (O q)/\Below w.heap.size w b/\ao (Grow A w) n b q (upd f a.data.toList [])
theorem qH n(A:H->Prop)(p:eW Wu)(f:S eV->S Ver)(b:gI)w(v:ao A (n+1) w p f)(u:b.size=0):
  Calls Yq.prog 68 #[O p,U b] w λe d=>∃q,e=Nm (O q)/\Below w.heap.size w d/\ao (Grow A w) (n+1) d q (upd f b.data.toList []):=by
 have i:b.data.toList=[]:=List.eq_nil_of_length_eq_zero (by simpa using u);have hke:b.toList.isEmpty=true:=by simp_all
 have j:=aI i;go_enter (Yq.nq func68),ntmps68;go_wp2_with fail
 refine(mg A n p f w v).m ?_;rintro e c ⟨g,hv0,kv,h,rfl,a⟩;have⟨⟨c0,c1,c2⟩,fz⟩:=cC a.node;obtain⟨l,s,rfl,-⟩:=az a.kids;have k:=rv a Z (M N 0 0) [] (oF A w) Q _ Q;have hle:=m0 h a.sorted;have r:((c.setCell ⟨g,0,N⟩ (C Z)).setCell ⟨g,1,N⟩ (M N 0 0)).cell? ⟨g,0,N⟩=J (C Z):=by
  exact(cC (((a.node.stored 0 (C Z)).1.stored 1 (M N 0 0)).1)).1.1
 have t:((c.setCell ⟨g,0,N⟩ (C Z)).setCell ⟨g,1,N⟩ (M N 0 0)).cell? ⟨g,2,N⟩=J (M l h.length s):=by
  exact(cC (((a.node.stored 0 (C Z)).1.stored 1 (M N 0 0)).1)).1.2.2
 have HO:Hid (Calls Yq.prog 90 #[O (J ⟨g,0,N⟩)] ((c.setCell ⟨g,0,N⟩ (C Z)).setCell ⟨g,1,N⟩ (M N 0 0)) λe d=>e=Nm (O (N5 Z h.length g))/\d=((c.setCell ⟨g,0,N⟩ (C Z)).setCell ⟨g,1,N⟩ (M N 0 0))):=
  pN g Z l h.length s _ (by omega) r t
 have HE:Hid (ao (Grow A w) (n+1) ((c.setCell ⟨g,0,N⟩ (C Z)).setCell ⟨g,1,N⟩ (M N 0 0)) (N5 Z h.length g) (upd f [] [])):=k.2.N5 r t;go_wp2_with (go_at_call 90;refine Calls.m HO.o ?_;rintro e d ⟨rfl,rfl⟩)
 go_ret;rw[j.o];exact⟨_,Q,(show Hid (Below w.heap.size w ((c.setCell ⟨g,0,N⟩ (C Z)).setCell ⟨g,1,N⟩ (M N 0 0))/\ao (Grow A w) (n+1) ((c.setCell ⟨g,0,N⟩ (C Z)).setCell ⟨g,1,N⟩ (M N 0 0)) (J ⟨g,0,N⟩) (upd f [] []))from k).o.1,HE.o⟩
theorem Rdy.gone{w w3:Wj}{o:Wx}{b:H}(R:Rdy A n w w3 f g o k b a r c q 1)
  (F:S eV->S Ver) (D:F []=f []) (B:∀d,d≠c->(λx=>F (d::x))=λx=>f (d::x)) (hFc:∀x,F (c::x)=[]) (m:H) (hm:a.length=m+1) (G:Wj)
  (u:Below w.heap.size w G)
  (n5:G.ownsRow w.heap.size 145 3 (M (J ⟨g,0,N⟩) 1 1) 1 [C (!(f []).isEmpty),o,M (J ⟨k,0,N⟩) (m+1) b])
  (k5:G.ownsRow w.heap.size 177 2 (M (J ⟨k,0,N⟩) m b) m (aH (a.take r++a.drop (r+1)))) (wf:Wj) (P:wf=G.setCell ⟨g,2,N⟩ (M (J ⟨k,0,N⟩) m b)) (hr:r<a.length) (v:a[r].1=c):
  Below w.heap.size w wf/\ao (Grow A w) (n+1) wf (J ⟨g,0,N⟩) F/\wf.cell? ⟨g,0,N⟩=J (C (!(f []).isEmpty))/\wf.cell? ⟨g,2,N⟩=J (M (J ⟨k,0,N⟩) m b):=by
 subst P;have z:=n5.lt g Q;have n6:=n5.stored 2 (M (J ⟨k,0,N⟩) m b);have s:=u.setCell (p:=⟨g,2,N⟩) z.1 (M (J ⟨k,0,N⟩) m b);obtain⟨⟨c0,c1,X⟩,-⟩:=cC n6.1;have i:(a.take r++a.drop (r+1)).Sublist a:=by
  conv=>rhs;rw[<-ey r a]
  grind
 have L:∀x,(c,x) ∉ a.take r++a.drop (r+1):=by
  intro x l;rcases dT.1 l with h|h;have⟨j,T,e⟩:=gM h;rw[tL]at T;rw[List.getElem_take]at e;have:=kZ R.sorted j r (by omega) hr
  grind
  have⟨j,T,e⟩:=gM h;rw[lD]at T;rw[List.getElem_drop]at e;have:=kZ R.sorted r (r+1+j) (by omega) (by omega)
  grind
 refine⟨s,Or.inr ⟨g,o,_,a.take r++a.drop (r+1),Q,Or.inr z.1,by rw[D];exact c0,c1,X,by rw[D];exact cw.Mr R.OB (jY s),?_,R.sorted.sublist i,?_,?_,λd x l=>R.NH d x (i.subset l)⟩,c0,X⟩;exact dI (by rw[lP,tL,lD];omega) (k5.kept n6.2 (Or.inr (by simp[Value.ownBlock];exact R.apart))) (λj e=>by simp[Value.ownBlock]at e;subst e;exact Or.inr (k5.lt k Q).1);intro d x l;rw[B d (λe=>L x (by rw[<-e];exact l))];exact ao.Mr (jY s) n x _ (R.child d x (i.subset l));intro d V y;by_cases t:d=c
 grind
 rw[(congrFun (B d t) y)];refine R.Nl d (λx l=>V x ?_) y;rw[<-ey r a,dT]at l;rw[dT];rcases l with h|h;exact Or.inl h;rw[<-List.getElem_cons_drop hr,List.mem_cons]at h;rcases h with h|h;rw[<-h]at v;exact gL v t;exact Or.inr h
def Back(A:H->Prop)(n:H)(w:Wj)(f F:S eV->S Ver)(g:H)(hv0:Wx)(k cap:H)(ks:S (eV×eW Wu))(r:H)(c:eV)(q':eW Wu)(a:Wj):Prop:=
 (Below w.heap.size w a/\(q'≠N->ao (Grow A w) (n+1) a (J ⟨g,0,N⟩) F) /\
   a.ownsRow w.heap.size 145 3 (M (J ⟨g,0,N⟩) 1 1) 1 [C (!(f []).isEmpty),hv0,M (J ⟨k,0,N⟩) (aT ks r c q' 1).length cap] /\
   a.ownsRow w.heap.size 177 2 (M (J ⟨k,0,N⟩) (aT ks r c q' 1).length cap) (aT ks r c q' 1).length (aH (aT ks r c q' 1)))/\(q'=N->∀x,F (c::x)=[])
theorem Rdy.back{w i}{d}{e}(R:Rdy A n w i f g d k e p r c q 1)
  (h:Wj) (s:Below i.heap.size i h) (j:eW Wu) (a:S eV)
  (o:ao (Grow (λb=>A b/\b<w.heap.size) i) n h j (upd (λx=>f (c::x)) a [])) (wf:Wj) (m:wf=h.setCell ⟨k,r*2+1,N⟩ (O j)):
  Back A n w f (upd f (c::a) []) g d k e p r c j wf:=by
 refine⟨R.done h s j (upd f (c::a) []) (jy _ _ _ _) (λc' l=>pP _ _ _ _ _ l) (by rw[upd_same];exact o) wf m,?_⟩;rintro rfl x;have:=o.of_nil x;rw[<-upd_same]at this;exact this
theorem Bu(hr:r<=a.length):(aT a r c q 1).take r++(aT a r c q 1).drop (r+1)=a.take r++a.drop (r+1):=by
 have b:(a.take r).length=r:=by grind
 unfold aT;rw[List.take_left' b,show(a.take r++(c,q)::a.drop (r+1))=(a.take r++[(c,q)])++a.drop (r+1)by simp,List.drop_left' (by simp[b])]
theorem ti n(ih:th n)(A:H->Prop)(p:eW Wu)(f:S eV->S Ver)(h:gI)w(hN:ao A (n+1) w p f)(hk:0<h.size)(hkn:h.size<n+1)(hk2:h.size<=1000)(hf:f h.data.toList≠[]):
  Calls Yq.prog 68 #[O p,U h] w λe X=>∃q,e=Nm (O q)/\Below w.heap.size w X/\ao (Grow A w) (n+1) X q (upd f h.data.toList []):=by
 have av:=mg A n p f w hN;have af:=zJ h hk;have hke:h.toList.isEmpty=false:=by rw[ByteArray.toList_eq,af];rfl
 have z:Hid (h.data.toList=h[0]::(h.extract 1 h.size).data.toList/\f h.data.toList≠[]):=⟨af,hf⟩;have IH:Hid (th n):=ih;clear af hN hf ih;go_enter (Yq.nq func68),ntmps68;go_wp2_with fail
 refine av.m ?_;rintro e w1 ⟨g,aj,kv,v,rfl,a⟩;have⟨⟨c0,c1,c2⟩,fz⟩:=cC a.node;have ar:ju (λ_=>True) w1 kv v:=dI Q a.kids (λ_ _=>trivial);have a0:=pM (λ_=>True) g kv v h[0] w1 c2 ar a.sorted;clear av c0 c1 c2 fz ar;go_wp2_with fail
 refine a0.m ?_;rintro e w2 ⟨r,hp,rfl,al⟩;clear a0;have D:qz v h[0] r=true:=by
  cases D:qz v h[0] r with
  |true=>rfl
  |false=>
   have:=a.Nl h[0] (hp.N6 a.sorted D) (h.extract 1 h.size).data.toList;rw[<-z.o.1]at this;exact gL this z.o.2
 obtain⟨k,u,q,rfl,R⟩:=a.rdy al hp D;have⟨c2,d1,fr,hl⟩:=R.cells;have hr:=iu (c:=h[0]) (q:=q) (d:=1) hp.le;have⟨bb,ap⟩:=Place.mem D;have HR:Hid (v[r].1=h[0]/\qz v h[0] r=Y):=⟨ap,D⟩;have L:(aT v r h[0] q 1).length=v.length:=by
  unfold aT;rw[lP,tL,lC,lD];omega
 rw[L]at c2 hr hl;have a3:Hid ((aT v r h[0] q 1).length=v.length):=L;clear ap D a hp L;obtain⟨m,hm⟩:∃m,v.length=m+1:=⟨v.length-1,by omega⟩;have a2:Hid (v.length=m+1):=hm;rw[hm]at c2 hr hl;clear hm;have a5:=bC w2 _ d1;have aa:g≠k:=λe=>R.apart e.s
 have hkg:k≠g:=R.apart;have HQ:Hid (ao (λb=>A b/\b<w.heap.size) n w2.drew q (λx=>f (h[0]::x))):=
  ao.Mr (A:=A) (A':=λb=>A b/\b<w.heap.size) (w:=w) (w':=w2.drew) (λb h1 h2=>⟨⟨h1,h2⟩,R.below.block b h2⟩) n q _ R.this
 have P:Hid ((h.extract 1 h.size).size<n/\(h.extract 1 h.size).size<=1000/\(λx=>f (h[0]::x)) (h.extract 1 h.size).data.toList≠[]):=by
  have:(h.extract 1 h.size).size=h.size-1:=by simp
  refine⟨by omega,by omega,?_⟩;have:=z.o.2;rw[z.o.1]at this;exact this
 go_upto_region 7 with fail
 go_cut [] (λwx=>∃V,Back A n w f (upd f (h[0]::(h.extract 1 h.size).data.toList) []) g aj k u v r h[0] V wx)
 case first=>
  go_region_with (go_at_call 68;refine(IH.o (λb=>A b/\b<w.heap.size) q (λx=>f (h[0]::x)) _ _ ?_ ?_ ?_ ?_).m ?_;exact HQ.o;exact P.o.1;exact P.o.2.1;exact P.o.2.2;rintro e w4 ⟨V,rfl,ab,a6⟩;have k2:=ag (W:=w2.drew) ab c2;have kd:=ag (W:=w2.drew) ab d1;have kf:=(ab.frozen (p:=⟨k,r*2+1,N⟩) a5).t fr)
  all_goals
   go_wp2_with fail
   go_meet
   case rel=>exact⟨V,R.back w4 ((bR _ w2).drew.t ab) V _ a6 _ Q⟩
 case rest=>
  obtain⟨V,B⟩:=hcut;obtain⟨⟨bw,bn,l,i⟩,y⟩:=B;have F:(aT v r h[0] V 1).length=m+1:=by rw[<-iS (q:=q),a3.o,a2.o]
  have⟨⟨e0,e1,e2⟩,ef⟩:=cC l;have a7:=ef 2;have ai:ju (λ_=>True) wc _ (aT v r h[0] V 1):=dI Q i (λ_ _=>trivial);have T:aT v r h[0] V 1≠[]:=by intro e;rw[e]at F;simp at F
  obtain⟨gk',capk',a4,-,-,ad,-⟩:=ai.cells T;have a8:=(ad r (by omega)).2;rw[m8 (by omega)]at a8;cases a4;rw[F]at e2 i l;have HB:Hid (Below w.heap.size w wc):=bw;cases V with
  |some a'=>
   have HO:Hid (Calls Yq.prog 90 #[O (J ⟨g,0,N⟩)] wc λe X=>e=Nm (O (N5 (!(f []).isEmpty) (m+1) g))/\X=wc):=pN g _ (J ⟨k,0,N⟩) (m+1) u wc (by omega) e0 e2;have HE:Hid (ao (Grow A w) (n+1) wc (N5 (!(f []).isEmpty) (m+1) g) (upd f (h[0]::(h.extract 1 h.size).data.toList) [])):=(bn (by simp)).N5 e0 e2;clear R c2 d1 fr HQ P al bw bn l i y ef ai T ad F;go_wp2_with (go_at_call 90;refine Calls.m HO.o ?_;rintro e X ⟨rfl,rfl⟩)
   go_ret;rw[z.o.1];exact⟨_,Q,HB.o,HE.o⟩
  |none=>
   have be:Hid (Calls Yq.prog 92 #[M (J ⟨k,0,N⟩) (m+1) u,I K r,I K ((r:Int)+1)] wc λe X=>e=Nm (M (J ⟨k,0,N⟩) m u) /\
     X.ownsRow w.heap.size 177 2 (M (J ⟨k,0,N⟩) m u) m (aH (v.take r++v.drop (r+1)))/\wc.grownBy X (J k)):=by
    have:=Gz w.heap.size k m u r _ wc i (by omega) (by omega) (jw _);rw[vp,Bu (by omega)]at this;exact this
   have aa:g≠k:=λe=>R.apart e.s
   have bd:Hid (Rdy A n w w2 f g aj k u v r h[0] q 1/\Below w.heap.size w wc/\wc.ownsRow w.heap.size 145 3 (M (J ⟨g,0,N⟩) 1 1) 1 [C (!(f []).isEmpty),aj,M (J ⟨k,0,N⟩) (m+1) u]/\wc.ownsRow w.heap.size 177 2 (M (J ⟨k,0,N⟩) (m+1) u) (m+1) (aH (aT v r h[0] N 1))/\∀x,upd f (h[0]::(h.extract 1 h.size).data.toList) [] (h[0]::x)=[]):=⟨R,bw,l,i,y Q⟩;have a1:g<wc.heap.size:=bC wc _ e2;clear R c2 d1 fr HQ P al bw bn l i y ef ai T ad F;go_wp2_with (go_at_call 92;refine Calls.m be.o ?_;rintro e w5 ⟨rfl,k5,ac⟩;have t2:w5.cell? ⟨g,2,N⟩=J (M (J ⟨k,0,N⟩) (m+1) u):=ac.cell e2 (by simp[aa]);have tf:w5.frozen? ⟨g,2,N⟩=false:=(bj ac ⟨g,2,N⟩ a1 (by simp[aa])).t a7)
   have⟨R,bw,l,i,y⟩:=bd.o;have n5:=l.kept ac (Or.inr (by simp[Value.ownBlock];exact aa));have b5:Below w.heap.size w w5:=bw.grown ac bw.size (λj e=>by cases e;exact(i.lt k Q).1);have G:=R.gone (upd f (h[0]::(h.extract 1 h.size).data.toList) []) (jy _ _ _ _) (λc' a9=>pP _ _ _ _ _ a9) y m a2.o w5 b5 n5 k5 _ Q bb HR.o.1;have HG:=show Hid (_/\_/\_/\_)from G;refine(pN g _ (J ⟨k,0,N⟩) m u _ (by omega) G.2.2.1 G.2.2.2).m ?_;clear R bw l i y n5 b5 G;rintro e X ⟨rfl,rfl⟩;go_wp2;go_ret;rw[z.o.1];exact⟨_,Q,HG.o.1,HG.o.2.1.N5 HG.o.2.2.1 HG.o.2.2.2⟩
theorem vw:∀n,th n:=by
 intro n;induction n with
 |zero=>intro A p f a w _ c;omega
 |succ n ih=>
  intro A p f a w d c b e;by_cases h:a.size=0
  .exact qH n A p f a w d h
  .exact ti n ih A p f a w d (by omega) c b e
end
