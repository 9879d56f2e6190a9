/- A part. -/
import Derived.Test.YteidaiooccmmmaaGreatDoorQP04
set_option maxHeartbeats 4000000
set_option maxRecDepth 100000
open Go renaming World->Wj,Value->Wx,Addr->Wu
namespace Go.Proofs.Qw
open Option renaming none->N,some->J
open Bool renaming true->Y,false->Z
open Value renaming int->I,string->U,slice->M,pointer->O,bool->C
open IntKind renaming i64->K
variable {A:Nat->Prop}{g k n r:Nat}{F f:List UInt8->List Ver}{o q:Option Wu}{a:List (UInt8×Option Wu)}
open Tryz
section
open Go.RowKit
theorem am.orP{w:Wj}(h:am A (n+1) w (J ⟨g,0,N⟩) F){b:Bool}{l t:Nat}
  (x:w.cell? ⟨g,0,N⟩=J (C b)) (p:w.cell? ⟨g,2,N⟩=J (M o l t)):am A (n+1) w (orP b l g) F:=by
 unfold Go.Proofs.Qw.orP;split
 .rename_i m;rcases h with h|⟨g',hv,kv,s,r,hA,j,d1,i,hh,e,hs,hch,d⟩
  .cases h.1
  .cases r;rw[x]at j;cases j;rw[p]at i;cases i;obtain⟨a,cap,v,-,-⟩:=e;cases v;have f:s=[]:=List.length_eq_zero_iff.1 m.2;subst f;refine Or.inl ⟨rfl,λk=>?_⟩;cases k with
   |nil=>have:=m.1;simpa using this
   |cons c k=>exact d.1 c (λq u=>absurd u List.not_mem_nil) k
 .exact h
def qX(n:Nat):Prop:=∀ (A:Nat->Prop)(p:Option Wu)(f:List UInt8->List Ver)(a:ByteArray)(w:Wj),am A n w p f->a.size<n->a.size<=1000->f a.data.toList≠[] ->
 Calls Yq.prog 68 #[O p,U a] w λe b=>∃q,e=.returned (O q)/\Below w.heap.size w b/\am (Grow A w) n b q (upd f a.data.toList [])
theorem pd(n:Nat)(A:Nat->Prop)(p:Option Wu)(f:List UInt8->List Ver)(b:ByteArray)(w:Wj)(v:am A (n+1) w p f)(t:b.size=0):
  Calls Yq.prog 68 #[O p,U b] w λe h=>∃q,e=.returned (O q)/\Below w.heap.size w h/\am (Grow A w) (n+1) h q (upd f b.data.toList []):=by
 have i:=kH A n p f w v;have d:b.data.toList=[]:=List.eq_nil_of_length_eq_zero (by simpa using t);have hke:b.toList.isEmpty=true:=by rw[ByteArray.toList_eq,d];rfl
 have m:Hid (b.data.toList=[]):=d;clear d t v;go_enter (Yq.nq func68),ntmps68;go_wp2_with fail
 refine i.mono ?_;rintro e c ⟨g,hv0,kv,j,rfl,a⟩;have⟨⟨c0,c1,c2⟩,r⟩:=ci a.node;have f0:=r 0;have f1:=r 1;obtain⟨s,u,rfl,-⟩:=az a.kids;have k:=pR a Z (M N 0 0) [] (nB A w) rfl _ rfl;have hle:=lJ j a.sorted;have HD:=show Hid (Below w.heap.size w ((c.setCell ⟨g,0,N⟩ (C Z)).setCell ⟨g,1,N⟩ (M N 0 0))/\am (Grow A w) (n+1) ((c.setCell ⟨g,0,N⟩ (C Z)).setCell ⟨g,1,N⟩ (M N 0 0)) (J ⟨g,0,N⟩) (upd f [] []))from k;have l:((c.setCell ⟨g,0,N⟩ (C Z)).setCell ⟨g,1,N⟩ (M N 0 0)).cell? ⟨g,0,N⟩=J (C Z):=by
  have s2:=((a.node.stored 0 (C Z)).1.stored 1 (M N 0 0)).1;simp only[List.set_cons_zero,List.set_cons_succ]at s2;exact(ci s2).1.1
 have o:((c.setCell ⟨g,0,N⟩ (C Z)).setCell ⟨g,1,N⟩ (M N 0 0)).cell? ⟨g,2,N⟩=J (M s j.length u):=by
  have s2:=((a.node.stored 0 (C Z)).1.stored 1 (M N 0 0)).1;simp only[List.set_cons_zero,List.set_cons_succ]at s2;exact(ci s2).1.2.2
 have HO:Hid (Calls Yq.prog 90 #[O (J ⟨g,0,N⟩)] ((c.setCell ⟨g,0,N⟩ (C Z)).setCell ⟨g,1,N⟩ (M N 0 0)) λe h=>e=.returned (O (orP Z j.length g))/\h=((c.setCell ⟨g,0,N⟩ (C Z)).setCell ⟨g,1,N⟩ (M N 0 0))):=
  oz g Z s j.length u _ (by omega) l o
 have HE:Hid (am (Grow A w) (n+1) ((c.setCell ⟨g,0,N⟩ (C Z)).setCell ⟨g,1,N⟩ (M N 0 0)) (orP Z j.length g) (upd f [] [])):=k.2.orP l o;clear i l o k a;go_wp2_with (go_at_call 90;refine Calls.mono HO.out ?_;rintro e h ⟨rfl,rfl⟩)
 go_ret;rw[m.out];exact⟨_,rfl,HD.out.1,HE.out⟩
theorem Rdy.gone{w w3:Wj}{t:Wx}{d:Nat}{c:UInt8}(R:Rdy A n w w3 f g t k d a r c q 1)
  (F:List UInt8->List Ver) (D:F []=f []) (B:∀b,b≠c->(λx=>F (b::x))=λx=>f (b::x)) (H:∀x,F (c::x)=[]) (m:Nat) (hm:a.length=m+1) (G:Wj)
  (v:Below w.heap.size w G)
  (n5:G.ownsRow w.heap.size 145 3 (M (J ⟨g,0,N⟩) 1 1) 1 [C (!(f []).isEmpty),t,M (J ⟨k,0,N⟩) (m+1) d])
  (k5:G.ownsRow w.heap.size 177 2 (M (J ⟨k,0,N⟩) m d) m (aC (a.take r++a.drop (r+1)))) (wf:Wj) (Q:wf=G.setCell ⟨g,2,N⟩ (M (J ⟨k,0,N⟩) m d)) (P:r<a.length) (o:a[r].1=c):
  Below w.heap.size w wf/\am (Grow A w) (n+1) wf (J ⟨g,0,N⟩) F/\wf.cell? ⟨g,0,N⟩=J (C (!(f []).isEmpty))/\wf.cell? ⟨g,2,N⟩=J (M (J ⟨k,0,N⟩) m d):=by
 subst Q;have z:=n5.lt g rfl;have S:=k5.lt k rfl;have n6:=n5.stored 2 (M (J ⟨k,0,N⟩) m d);have k6:=k5.kept n6.2 (Or.inr (by simp[Value.ownBlock];exact R.apart));have u:=v.setCell (p:=⟨g,2,N⟩) z.1 (M (J ⟨k,0,N⟩) m d);obtain⟨⟨c0,c1,X⟩,-⟩:=ci n6.1;have hl:m=(a.take r++a.drop (r+1)).length:=by rw[lP,tL,lD];omega
 have l:(a.take r++a.drop (r+1)).Sublist a:=by
  conv=>rhs;rw[<-List.take_append_drop r a]
  refine List.Sublist.append (List.Sublist.refl _) ?_;rw[<-List.getElem_cons_drop P];exact List.sublist_cons_self _ _
 have L:∀x,(c,x) ∉ a.take r++a.drop (r+1):=by
  intro x s;rcases List.mem_append.1 s with h|h
  .have ⟨j,T,e⟩:=gM h;rw[tL]at T;rw[List.getElem_take]at e;have:=jR R.sorted j r (by omega) P;rw[e,o]at this;simp at this
  .have ⟨j,T,e⟩:=gM h;rw[lD]at T;rw[List.getElem_drop]at e;have:=jR R.sorted r (r+1+j) (by omega) (by omega);rw[e,o]at this;simp at this
 refine⟨u,Or.inr ⟨g,t,_,a.take r++a.drop (r+1),rfl,Or.inr z.1,by rw[D];exact c0,c1,X,by rw[D];exact bZ.keep R.hist (jn u),?_,R.sorted.sublist l,?_,?_,λb x s=>R.noNil b x (l.subset s)⟩,c0,X⟩
 .exact dw hl k6 (λj e=>by simp[Value.ownBlock]at e;subst e;exact Or.inr S.1)
 .intro b x s;have i:b≠c:=λe=>L x (by rw[<-e];exact s)
  rw[B b i];exact am.keep (jn u) n x _ (R.child b x (l.subset s))
 .intro b V y;by_cases i:b=c
  .rw [i];exact H y
  .have e:F (b::y)=f (b::y):=congrFun (B b i) y;rw[e];refine R.noKid b (λx s=>V x ?_) y;rw[<-List.take_append_drop r a,List.mem_append]at s;rw[List.mem_append];rcases s with h|h
   .exact Or.inl h
   .rw [<-List.getElem_cons_drop P,List.mem_cons]at h;rcases h with h|h
    .rw [<-h]at o;exact absurd o i
    .exact Or.inr h
def Back(A:Nat->Prop)(n:Nat)(w:Wj)(f F:List UInt8->List Ver)(g:Nat)(b:Wx)(k cap:Nat)(ks:List (UInt8×Option Wu))(r:Nat)(c:UInt8)(q':Option Wu)(a:Wj):Prop:=
 (Below w.heap.size w a/\(q'≠N->am (Grow A w) (n+1) a (J ⟨g,0,N⟩) F) /\
   a.ownsRow w.heap.size 145 3 (M (J ⟨g,0,N⟩) 1 1) 1 [C (!(f []).isEmpty),b,M (J ⟨k,0,N⟩) (aO ks r c q' 1).length cap] /\
   a.ownsRow w.heap.size 177 2 (M (J ⟨k,0,N⟩) (aO ks r c q' 1).length cap) (aO ks r c q' 1).length (aC (aO ks r c q' 1)))/\(q'=N->∀x,F (c::x)=[])
theorem Rdy.back{w i:Wj}{d:Wx}{e:Nat}{p:List (UInt8×Option Wu)}{c:UInt8}(R:Rdy A n w i f g d k e p r c q 1)
  (h:Wj) (s:Below i.heap.size i h) (j:Option Wu) (a:List UInt8)
  (o:am (Grow (λb=>A b/\b<w.heap.size) i) n h j (upd (λx=>f (c::x)) a [])) (wf:Wj) (m:wf=h.setCell ⟨k,r*2+1,N⟩ (O j)):
  Back A n w f (upd f (c::a) []) g d k e p r c j wf:=by
 refine⟨R.done h s j (upd f (c::a) []) (iV _ _ _ _) (λc' l=>oA _ _ _ _ _ l) (by rw[upd_same];exact o) wf m,?_⟩;rintro rfl x;have:=o.of_nil x;rw[<-upd_same]at this;exact this
theorem zo{c:UInt8}(hr:r<=a.length):(aO a r c q 1).take r++(aO a r c q 1).drop (r+1)=a.take r++a.drop (r+1):=by
 have b:(a.take r).length=r:=by rw[tL];omega
 unfold aO;rw[List.take_left' b,show(a.take r++(c,q)::a.drop (r+1))=(a.take r++[(c,q)])++a.drop (r+1)by simp,List.drop_left' (by simp[b])]
theorem qY(n:Nat)(ih:qX n)(A:Nat->Prop)(p:Option Wu)(f:List UInt8->List Ver)(h:ByteArray)(w:Wj)(hN:am A (n+1) w p f)(hk:0<h.size)(hkn:h.size<n+1)(hk2:h.size<=1000)(hf:f h.data.toList≠[]):
  Calls Yq.prog 68 #[O p,U h] w λe L=>∃q,e=.returned (O q)/\Below w.heap.size w L/\am (Grow A w) (n+1) L q (upd f h.data.toList []):=by
 have ap:=kH A n p f w hN;have aa:=xD h hk;have hke:h.toList.isEmpty=false:=by rw[ByteArray.toList_eq,aa];rfl
 have u:Hid (h.data.toList=h[0]::(h.extract 1 h.size).data.toList/\f h.data.toList≠[]):=⟨aa,hf⟩;have IH:Hid (qX n):=ih;clear aa hN hf ih;go_enter (Yq.nq func68),ntmps68;go_wp2_with fail
 refine ap.mono ?_;rintro e w1 ⟨g,ac,kv,s,rfl,a⟩;have⟨⟨c0,c1,V⟩,fz⟩:=ci a.node;have al:gz (λ_=>True) w1 kv s:=dw rfl a.kids (λ_ _=>trivial);have ar:=ox (λ_=>True) g kv s h[0] w1 V al a.sorted;clear ap c0 c1 V fz al;go_wp2_with fail
 refine ar.mono ?_;rintro e w2 ⟨r,hp,rfl,ad⟩;clear ar;have v:nA s h[0] r=true:=by
  cases v:nA s h[0] r with
  |true=>rfl
  |false=>
   have:=a.noKid h[0] (hp.nomem a.sorted v) (h.extract 1 h.size).data.toList;rw[<-u.out.1]at this;exact absurd this u.out.2
 obtain⟨k,o,q,rfl,R⟩:=a.rdy ad hp v;have⟨V,d1,fr,hl⟩:=R.cells;have hr:=gF (c:=h[0]) (q:=q) (d:=1) hp.le;have⟨a8,af⟩:=Place.mem v;have HR:Hid (s[r].1=h[0]/\nA s h[0] r=Y):=⟨af,v⟩;have z:(aO s r h[0] q 1).length=s.length:=by
  unfold aO;rw[lP,tL,lC,lD];omega
 rw[z]at V hr hl;have a1:Hid ((aO s r h[0] q 1).length=s.length):=z;clear af v a hp z;obtain⟨m,hm⟩:∃m,s.length=m+1:=⟨s.length-1,by omega⟩;have a0:Hid (s.length=m+1):=hm;rw[hm]at V hr hl;clear hm;have a3:=bC w2 _ d1;have P:g≠k:=λe=>R.apart e.symm
 have hkg:k≠g:=R.apart;have HQ:Hid (am (λb=>A b/\b<w.heap.size) n w2.drew q (λx=>f (h[0]::x))):=
  am.keep (A:=A) (A':=λb=>A b/\b<w.heap.size) (w:=w) (w':=w2.drew) (λb h1 h2=>⟨⟨h1,h2⟩,R.below.block b h2⟩) n q _ R.this
 have D:Hid ((h.extract 1 h.size).size<n/\(h.extract 1 h.size).size<=1000/\(λx=>f (h[0]::x)) (h.extract 1 h.size).data.toList≠[]):=by
  have:(h.extract 1 h.size).size=h.size-1:=by simp
  refine⟨by omega,by omega,?_⟩;have:=u.out.2;rw[u.out.1]at this;exact this
 go_upto_region 7 with fail
 go_cut [] (λwx=>∃H,Back A n w f (upd f (h[0]::(h.extract 1 h.size).data.toList) []) g ac k o s r h[0] H wx)
 case first=>
  go_region_with (go_at_call 68;refine(IH.out (λb=>A b/\b<w.heap.size) q (λx=>f (h[0]::x)) _ _ ?_ ?_ ?_ ?_).mono ?_;exact HQ.out;exact D.out.1;exact D.out.2.1;exact D.out.2.2;rintro e w4 ⟨H,rfl,Q,a4⟩;have k2:=ah (W:=w2.drew) Q V;have kd:=ah (W:=w2.drew) Q d1;have kf:=(Q.frozen (p:=⟨k,r*2+1,N⟩) a3).trans fr)
  all_goals
   go_wp2_with fail
   go_meet
   case rel=>exact⟨H,R.back w4 ((bR _ w2).drew.trans Q) H _ a4 _ rfl⟩
 case rest=>
  obtain⟨H,B⟩:=hcut;obtain⟨⟨T,bn,l,i⟩,t⟩:=B;have y:(aO s r h[0] H 1).length=m+1:=by rw[<-ie (q:=q),a1.out,a0.out]
  have⟨⟨e0,e1,e2⟩,ef⟩:=ci l;have a5:=ef 2;have ab:gz (λ_=>True) wc _ (aO s r h[0] H 1):=dw rfl i (λ_ _=>trivial);have F:aO s r h[0] H 1≠[]:=by intro e;rw[e]at y;simp at y
  obtain⟨gk',capk',a2,-,-,X,-⟩:=ab.cells F;have a6:=(X r (by omega)).2;rw[lQ (by omega)]at a6;cases a2;rw[y]at e2 i l;have HB:Hid (Below w.heap.size w wc):=T;cases H with
  |some a'=>
   have HO:Hid (Calls Yq.prog 90 #[O (J ⟨g,0,N⟩)] wc λe L=>e=.returned (O (orP (!(f []).isEmpty) (m+1) g))/\L=wc):=oz g _ (J ⟨k,0,N⟩) (m+1) o wc (by omega) e0 e2;have HE:Hid (am (Grow A w) (n+1) wc (orP (!(f []).isEmpty) (m+1) g) (upd f (h[0]::(h.extract 1 h.size).data.toList) [])):=(bn (by simp)).orP e0 e2;clear R V d1 fr HQ D ad T bn l i t ef ab F X y;go_wp2_with (go_at_call 90;refine Calls.mono HO.out ?_;rintro e L ⟨rfl,rfl⟩)
   go_ret;rw[u.out.1];exact⟨_,rfl,HB.out,HE.out⟩
  |none=>
   have bb:Hid (Calls Yq.prog 92 #[M (J ⟨k,0,N⟩) (m+1) o,I K r,I K ((r:Int)+1)] wc λe L=>e=.returned (M (J ⟨k,0,N⟩) m o) /\
     L.ownsRow w.heap.size 177 2 (M (J ⟨k,0,N⟩) m o) m (aC (s.take r++s.drop (r+1)))/\wc.grownBy L (J k)):=by
    have:=Ed w.heap.size k m o r _ wc i (by omega) (by omega) (iU _);rw[ti,zo (by omega)]at this;exact this
   have P:g≠k:=λe=>R.apart e.symm
   have a9:Hid (Rdy A n w w2 f g ac k o s r h[0] q 1/\Below w.heap.size w wc/\wc.ownsRow w.heap.size 145 3 (M (J ⟨g,0,N⟩) 1 1) 1 [C (!(f []).isEmpty),ac,M (J ⟨k,0,N⟩) (m+1) o]/\wc.ownsRow w.heap.size 177 2 (M (J ⟨k,0,N⟩) (m+1) o) (m+1) (aC (aO s r h[0] N 1))/\∀x,upd f (h[0]::(h.extract 1 h.size).data.toList) [] (h[0]::x)=[]):=⟨R,T,l,i,t rfl⟩;have av:g<wc.heap.size:=bC wc _ e2;clear R V d1 fr HQ D ad T bn l i t ef ab F X y;go_wp2_with (go_at_call 92;refine Calls.mono bb.out ?_;rintro e w5 ⟨rfl,k5,S⟩;have t2:w5.cell? ⟨g,2,N⟩=J (M (J ⟨k,0,N⟩) (m+1) o):=S.cell e2 (by simp[P]);have tf:w5.frozen? ⟨g,2,N⟩=false:=(bG S ⟨g,2,N⟩ av (by simp[P])).trans a5)
   have⟨R,T,l,i,t⟩:=a9.out;have n5:=l.kept S (Or.inr (by simp[Value.ownBlock];exact P));have b5:Below w.heap.size w w5:=T.grown S T.size (λj e=>by cases e;exact(i.lt k rfl).1);have G:=R.gone (upd f (h[0]::(h.extract 1 h.size).data.toList) []) (iV _ _ _ _) (λc' a7=>oA _ _ _ _ _ a7) t m a0.out w5 b5 n5 k5 _ rfl a8 HR.out.1;have HG:=show Hid (_/\_/\_/\_)from G;refine(oz g _ (J ⟨k,0,N⟩) m o _ (by omega) G.2.2.1 G.2.2.2).mono ?_;clear R T l i t n5 b5 G;rintro e L ⟨rfl,rfl⟩;go_wp2;go_ret;rw[u.out.1];exact⟨_,rfl,HG.out.1,HG.out.2.1.orP HG.out.2.2.1 HG.out.2.2.2⟩
theorem tz:∀n,qX n:=by
 intro n;induction n with
 |zero=>intro A p f a w _ c;omega
 |succ n ih=>
  intro A p f a w d c b e;by_cases h:a.size=0
  .exact pd n A p f a w d h
  .exact qY n ih A p f a w d (by omega) c b e
end
