/- A part. -/
import Derived.Test.YthnlbojplkflaaaGreatDoorQP04
set_option maxHeartbeats 4000000
set_option maxRecDepth 100000
open List renaming mem_append->dT,take_append_drop->ey
open _root_ renaming UInt8->eV,Option->eW,ByteArray->gI,absurd->gL
open Go renaming World->Wj,Value->Wx,Addr->Wu
namespace Go.Proofs.Qw
open _root_ renaming rfl->Q
open _root_ renaming Nat->H,List->S
open Option renaming none->N,some->J
open Bool renaming false->Z
open Value renaming int->I,string->U,slice->M,pointer->O,bool->C
open IntKind renaming i64->K
open Ending renaming returned->Rc
variable {A:H->Prop}{g k n r:H}{F f:S eV->S Ver}{o q:eW Wu}{a p:S (eV×eW Wu)}{c:eV}
open Tryz
section
open Go.RowKit
theorem au.Ph{w}(h:au A (n+1) w (J ⟨g,0,N⟩) F){b}{l t}
  (v:w.cell? ⟨g,0,N⟩=J (C b)) (p:w.cell? ⟨g,2,N⟩=J (M o l t)):au A (n+1) w (Ph b l g) F:=by
 unfold Go.Proofs.Qw.Ph;split
 rename_i m;rcases h with h|⟨g',hv,kv,ks,r,hA,j,d1,i,hh,e,hs,hch,d⟩;cases h.1;cases r;rw[v]at j;cases j;rw[p]at i;cases i;obtain⟨a,cap,u,-,-⟩:=e;cases u;have f:=List.length_eq_zero_iff.1 m.2;subst f;refine Or.inl ⟨rfl,λk=>?_⟩;cases k with
 |nil=>have:=m.1;simpa using this
 |cons c k=>exact d.1 c (λq s=>gL s List.not_mem_nil) k
 exact h
def Ay(n:H):Prop:=∀ (A:H->Prop)(p:eW Wu)(f:S eV->S Ver)(a:gI)(w:Wj),au A n w p f->a.size<n->a.size<=1000->f a.data.toList≠[] ->
 Calls Yq.prog 72 #[O p,U a] w λe b=>∃q,e=Rc (O q)/\Below w.heap.size w b/\au (Grow A w) n b q (upd f a.data.toList [])
theorem rq n(A:H->Prop)(p:eW Wu)(f:S eV->S Ver)(b:gI)w(v:au A (n+1) w p f)(u:b.size=0):
  Calls Yq.prog 72 #[O p,U b] w λe d=>∃q,e=Rc (O q)/\Below w.heap.size w d/\au (Grow A w) (n+1) d q (upd f b.data.toList []):=by
 have i:b.data.toList=[]:=List.eq_nil_of_length_eq_zero (by simpa using u);have hke:b.toList.isEmpty=true:=by simp_all
 have j:=aq i;go_enter (Yq.nq func72),ntmps72;go_wp2_with fail
 refine(mG A n p f w v).m ?_;rintro e c ⟨g,hv0,kv,h,rfl,a⟩;have⟨⟨c0,c1,c2⟩,fz⟩:=cH a.node;obtain⟨l,s,rfl,-⟩:=ao a.kids;have k:=se a Z (M N 0 0) [] (pe A w) Q _ Q;have hle:=nA h a.sorted;have r:((c.setCell ⟨g,0,N⟩ (C Z)).setCell ⟨g,1,N⟩ (M N 0 0)).cell? ⟨g,0,N⟩=J (C Z):=by
  exact(cH (((a.node.stored 0 (C Z)).1.stored 1 (M N 0 0)).1)).1.1
 have t:((c.setCell ⟨g,0,N⟩ (C Z)).setCell ⟨g,1,N⟩ (M N 0 0)).cell? ⟨g,2,N⟩=J (M l h.length s):=by
  exact(cH (((a.node.stored 0 (C Z)).1.stored 1 (M N 0 0)).1)).1.2.2
 have HO:Hid (Calls Yq.prog 94 #[O (J ⟨g,0,N⟩)] ((c.setCell ⟨g,0,N⟩ (C Z)).setCell ⟨g,1,N⟩ (M N 0 0)) λe d=>e=Rc (O (Ph Z h.length g))/\d=((c.setCell ⟨g,0,N⟩ (C Z)).setCell ⟨g,1,N⟩ (M N 0 0))):=
  qp g Z l h.length s _ (by omega) r t
 have HE:Hid (au (Grow A w) (n+1) ((c.setCell ⟨g,0,N⟩ (C Z)).setCell ⟨g,1,N⟩ (M N 0 0)) (Ph Z h.length g) (upd f [] [])):=k.2.Ph r t;go_wp2_with (go_at_call 94;refine Calls.m HO.o ?_;rintro e d ⟨rfl,rfl⟩)
 go_ret;rw[j.o];exact⟨_,Q,(show Hid (Below w.heap.size w ((c.setCell ⟨g,0,N⟩ (C Z)).setCell ⟨g,1,N⟩ (M N 0 0))/\au (Grow A w) (n+1) ((c.setCell ⟨g,0,N⟩ (C Z)).setCell ⟨g,1,N⟩ (M N 0 0)) (J ⟨g,0,N⟩) (upd f [] []))from k).o.1,HE.o⟩
theorem Rdy.gone{w w3:Wj}{o:Wx}{b:H}(R:Rdy A n w w3 f g o k b a r c q 1)
  (F:S eV->S Ver) (D:F []=f []) (B:∀d,d≠c->(λx=>F (d::x))=λx=>f (d::x)) (hFc:∀x,F (c::x)=[]) (m:H) (hm:a.length=m+1) (G:Wj)
  (u:Below w.heap.size w G)
  (n5:G.ownsRow w.heap.size 152 3 (M (J ⟨g,0,N⟩) 1 1) 1 [C (!(f []).isEmpty),o,M (J ⟨k,0,N⟩) (m+1) b])
  (k5:G.ownsRow w.heap.size 184 2 (M (J ⟨k,0,N⟩) m b) m (aI (a.take r++a.drop (r+1)))) (wf:Wj) (P:wf=G.setCell ⟨g,2,N⟩ (M (J ⟨k,0,N⟩) m b)) (hr:r<a.length) (v:a[r].1=c):
  Below w.heap.size w wf/\au (Grow A w) (n+1) wf (J ⟨g,0,N⟩) F/\wf.cell? ⟨g,0,N⟩=J (C (!(f []).isEmpty))/\wf.cell? ⟨g,2,N⟩=J (M (J ⟨k,0,N⟩) m b):=by
 subst P;have z:=n5.lt g Q;have n6:=n5.stored 2 (M (J ⟨k,0,N⟩) m b);have s:=u.setCell (p:=⟨g,2,N⟩) z.1 (M (J ⟨k,0,N⟩) m b);obtain⟨⟨c0,c1,X⟩,-⟩:=cH n6.1;have i:(a.take r++a.drop (r+1)).Sublist a:=by
  conv=>rhs;rw[<-ey r a]
  grind
 have L:∀x,(c,x) ∉ a.take r++a.drop (r+1):=by
  intro x l;rcases dT.1 l with h|h;have⟨j,T,e⟩:=gM h;rw[tL]at T;rw[List.getElem_take]at e;have:=lQ R.sorted j r (by omega) hr
  grind
  have⟨j,T,e⟩:=gM h;rw[lD]at T;rw[List.getElem_drop]at e;have:=lQ R.sorted r (r+1+j) (by omega) (by omega)
  grind
 refine⟨s,Or.inr ⟨g,o,_,a.take r++a.drop (r+1),Q,Or.inr z.1,by rw[D];exact c0,c1,X,by rw[D];exact dW.Nx R.PF (kD s),?_,R.sorted.sublist i,?_,?_,λd x l=>R.OD d x (i.subset l)⟩,c0,X⟩;exact dM (by rw[lP,tL,lD];omega) (k5.kept n6.2 (Or.inr (by simp[Value.ownBlock];exact R.apart))) (λj e=>by simp[Value.ownBlock]at e;subst e;exact Or.inr (k5.lt k Q).1);intro d x l;rw[B d (λe=>L x (by rw[<-e];exact l))];exact au.Nx (kD s) n x _ (R.child d x (i.subset l));intro d V y;by_cases t:d=c
 grind
 rw[(congrFun (B d t) y)];refine R.Ol d (λx l=>V x ?_) y;rw[<-ey r a,dT]at l;rw[dT];rcases l with h|h;exact Or.inl h;rw[<-List.getElem_cons_drop hr,List.mem_cons]at h;rcases h with h|h;rw[<-h]at v;exact gL v t;exact Or.inr h
def Back(A:H->Prop)(n:H)(w:Wj)(f F:S eV->S Ver)(g:H)(hv0:Wx)(k cap:H)(ks:S (eV×eW Wu))(r:H)(c:eV)(q':eW Wu)(a:Wj):Prop:=
 (Below w.heap.size w a/\(q'≠N->au (Grow A w) (n+1) a (J ⟨g,0,N⟩) F) /\
   a.ownsRow w.heap.size 152 3 (M (J ⟨g,0,N⟩) 1 1) 1 [C (!(f []).isEmpty),hv0,M (J ⟨k,0,N⟩) (aZ ks r c q' 1).length cap] /\
   a.ownsRow w.heap.size 184 2 (M (J ⟨k,0,N⟩) (aZ ks r c q' 1).length cap) (aZ ks r c q' 1).length (aI (aZ ks r c q' 1)))/\(q'=N->∀x,F (c::x)=[])
theorem Rdy.back{w i}{d}{e}(R:Rdy A n w i f g d k e p r c q 1)
  (h:Wj) (s:Below i.heap.size i h) (j:eW Wu) (a:S eV)
  (o:au (Grow (λb=>A b/\b<w.heap.size) i) n h j (upd (λx=>f (c::x)) a [])) (wf:Wj) (m:wf=h.setCell ⟨k,r*2+1,N⟩ (O j)):
  Back A n w f (upd f (c::a) []) g d k e p r c j wf:=by
 refine⟨R.done h s j (upd f (c::a) []) (jV _ _ _ _) (λc' l=>qq _ _ _ _ _ l) (by rw[upd_same];exact o) wf m,?_⟩;rintro rfl x;have:=o.of_nil x;rw[<-upd_same]at this;exact this
theorem Cj(hr:r<=a.length):(aZ a r c q 1).take r++(aZ a r c q 1).drop (r+1)=a.take r++a.drop (r+1):=by
 have b:(a.take r).length=r:=by grind
 unfold aZ;rw[List.take_left' b,show(a.take r++(c,q)::a.drop (r+1))=(a.take r++[(c,q)])++a.drop (r+1)by simp,List.drop_left' (by simp[b])]
theorem ud n(ih:Ay n)(A:H->Prop)(p:eW Wu)(f:S eV->S Ver)(h:gI)w(hN:au A (n+1) w p f)(hk:0<h.size)(hkn:h.size<n+1)(hk2:h.size<=1000)(hf:f h.data.toList≠[]):
  Calls Yq.prog 72 #[O p,U h] w λe w'=>∃q,e=Rc (O q)/\Below w.heap.size w w'/\au (Grow A w) (n+1) w' q (upd f h.data.toList []):=by
 have ap:=mG A n p f w hN;have ad:=Ax h hk;have hke:h.toList.isEmpty=false:=by rw[ByteArray.toList_eq,ad];rfl
 have z:=bJ ad hf;have IH:=aq ih;clear ad hN hf ih;go_enter (Yq.nq func72),ntmps72;go_wp2_with fail
 refine ap.m ?_;rintro e w1 ⟨g,a7,kv,y,rfl,a⟩;have⟨⟨c0,c1,c2⟩,fz⟩:=cH a.node;have al:jR (λ_=>True) w1 kv y:=dM Q a.kids (λ_ _=>trivial);have ar:=qo (λ_=>True) g kv y h[0] w1 c2 al a.sorted;clear ap c0 c1 c2 fz al;go_wp2_with fail
 refine ar.m ?_;rintro e w2 ⟨r,hp,rfl,ai⟩;clear ar;have D:rp y h[0] r=true:=by
  cases D:rp y h[0] r with
  |true=>rfl
  |false=>
   have:=a.Ol h[0] (hp.O3 a.sorted D) (h.extract 1 h.size).data.toList;rw[<-z.o.1]at this;exact gL this z.o.2
 obtain⟨k,v,q,rfl,R⟩:=a.rdy ai hp D;have⟨c2,d1,fr,hl⟩:=R.cells;have hr:=iP (c:=h[0]) (q:=q) (d:=1) hp.le;have⟨a8,aj⟩:=Place.mem D;have HR:=bJ aj D;have L:(aZ y r h[0] q 1).length=y.length:=by
  unfold aZ;rw[lP,tL,lC,lD];omega
 rw[L]at c2 hr hl;have a1:=aq L;clear aj D a hp L;obtain⟨m,hm⟩:∃m,y.length=m+1:=⟨y.length-1,by omega⟩;have a0:=aq hm;rw[hm]at c2 hr hl;clear hm;have X:g≠k:=λe=>R.apart e.s
 have hkg:k≠g:=R.apart;have HQ:Hid (au (λb=>A b/\b<w.heap.size) n w2.drew q (λx=>f (h[0]::x))):=
  au.Nx (A:=A) (A':=λb=>A b/\b<w.heap.size) (w:=w) (w':=w2.drew) (λb h1 h2=>⟨⟨h1,h2⟩,R.below.block b h2⟩) n q _ R.this
 have P:Hid ((h.extract 1 h.size).size<n/\(h.extract 1 h.size).size<=1000/\(λx=>f (h[0]::x)) (h.extract 1 h.size).data.toList≠[]):=by
  have:(h.extract 1 h.size).size=h.size-1:=by simp
  refine⟨by omega,by omega,?_⟩;have:=z.o.2;rw[z.o.1]at this;exact this
 go_upto_region 7 with fail
 go_cut [] (λwx=>∃V,Back A n w f (upd f (h[0]::(h.extract 1 h.size).data.toList) []) g a7 k v y r h[0] V wx)
 case first=>
  go_region_with (go_at_call 72;refine(IH.o (λb=>A b/\b<w.heap.size) q (λx=>f (h[0]::x)) _ _ ?_ ?_ ?_ ?_).m ?_;exact HQ.o;exact P.o.1;exact P.o.2.1;exact P.o.2.2;rintro e w4 ⟨V,rfl,aa,a3⟩;have k2:=ag (W:=w2.drew) aa c2;have kd:=ag (W:=w2.drew) aa d1;have kf:=(aa.frozen (p:=⟨k,r*2+1,N⟩) (bC w2 _ d1)).t fr)
  all_goals
   go_wp2_with fail
   go_meet
   case rel=>exact⟨V,R.back w4 ((bR _ w2).drew.t aa) V _ a3 _ Q⟩
 case rest=>
  obtain⟨V,B⟩:=hcut;obtain⟨⟨bw,bn,l,i⟩,u⟩:=B;have F:(aZ y r h[0] V 1).length=m+1:=by rw[<-jn (q:=q),a1.o,a0.o]
  have⟨⟨e0,e1,e2⟩,ef⟩:=cH l;have a4:=ef 2;have af:jR (λ_=>True) wc _ (aZ y r h[0] V 1):=dM Q i (λ_ _=>trivial);have T:aZ y r h[0] V 1≠[]:=by intro e;rw[e]at F;simp at F
  obtain⟨gk',capk',a2,-,-,ac,-⟩:=af.cells T;have a5:=(ac r (by omega)).2;rw[nC (by omega)]at a5;cases a2;rw[F]at e2 i l;have HB:=aq bw;cases V with
  |some a'=>
   have HO:=aq (qp g _ (J ⟨k,0,N⟩) (m+1) v wc (by omega) e0 e2);have HE:=aq ((bn (by simp)).Ph e0 e2);clear R c2 d1 fr HQ P ai bw bn l i u ef af T ac F;go_wp2_with (go_at_call 94;refine Calls.m HO.o ?_;rintro e w' ⟨rfl,rfl⟩)
   go_ret;rw[z.o.1];exact⟨_,Q,HB.o,HE.o⟩
  |none=>
   have bb:Hid (Calls Yq.prog 96 #[M (J ⟨k,0,N⟩) (m+1) v,I K r,I K ((r:Int)+1)] wc λe w'=>e=Rc (M (J ⟨k,0,N⟩) m v) /\
     w'.ownsRow w.heap.size 184 2 (M (J ⟨k,0,N⟩) m v) m (aI (y.take r++y.drop (r+1)))/\wc.grownBy w' (J k)):=by
    have:=Hv w.heap.size k m v r _ wc i (by omega) (by omega) (jT _);rw[wg,Cj (by omega)]at this;exact this
   have X:g≠k:=λe=>R.apart e.s
   have a9:=gB R bw l i (u Q);have av:g<wc.heap.size:=bC wc _ e2;clear R c2 d1 fr HQ P ai bw bn l i u ef af T ac F;go_wp2_with (go_at_call 96;refine Calls.m bb.o ?_;rintro e w5 ⟨rfl,k5,ab⟩;have t2:w5.cell? ⟨g,2,N⟩=J (M (J ⟨k,0,N⟩) (m+1) v):=ab.cell e2 (by simp[X]);have tf:w5.frozen? ⟨g,2,N⟩=false:=(bD ab ⟨g,2,N⟩ av (by simp[X])).t a4)
   have⟨R,bw,l,i,u⟩:=a9.o;have n5:=l.kept ab (Or.inr (by simp[Value.ownBlock];exact X));have b5:Below w.heap.size w w5:=bw.grown ab bw.size (λj e=>by cases e;exact(i.lt k Q).1);have G:=R.gone (upd f (h[0]::(h.extract 1 h.size).data.toList) []) (jV _ _ _ _) (λc' a6=>qq _ _ _ _ _ a6) u m a0.o w5 b5 n5 k5 _ Q a8 HR.o.1;have HG:=show Hid (_/\_/\_/\_)from G;refine(qp g _ (J ⟨k,0,N⟩) m v _ (by omega) G.2.2.1 G.2.2.2).m ?_;clear R bw l i u n5 b5 G;rintro e w' ⟨rfl,rfl⟩;go_wp2;go_ret;rw[z.o.1];exact⟨_,Q,HG.o.1,HG.o.2.1.Ph HG.o.2.2.1 HG.o.2.2.2⟩
theorem wl:∀n,Ay n:=by
 intro n;induction n with
 |zero=>intro A p f a w _ c;omega
 |succ n ih=>
  intro A p f a w d c b e;by_cases h:a.size=0
  exact rq n A p f a w d h;exact ud n ih A p f a w d (by omega) c b e
end
