/- A part. -/
import Derived.Test.YteidaiooccmmmaaGreatDoorQP05
import Derived.Lib.Strings
import Derived.Lib.BufferWrite
import Derived.Lib.UnsafeStr
import Derived.Laws.MakeOwn
import Derived.RangeFuncBox
import Derived.Sort.CutIn
import Derived.Lib.ItoaNum
import Derived.Shelf.LaysM
import Derived.Shelf.Strconv.Itoa3
import Derived.Conc.LeavingOf
import Derived.Lib.LaidTab
set_option maxHeartbeats 4000000
set_option maxRecDepth 100000
open Go renaming World->Wj,Value->Wx,Program->Wv,TypeId->Ww,Frame->Wy,Addr->Wu,undef->Wo
namespace Go.Proofs.Qw
open Option renaming none->N,some->J
open Bool renaming true->Y,false->Z
open Value renaming int->I,string->U,slice->M,pointer->O,bool->C
open IntKind renaming i64->K
open Obj renaming cells->E
variable {A A' X:Nat->Prop}{b k0:Nat}{Q:Exit->Act->Wj->Prop}{D:Ww}{xs:List Wx}{W' W0 w1:Wj}{m u:ByteArray}
section
open Go.RowKit
theorem tA{w d e:Wj}{n:Nat}{p:Option Wu}{F:List UInt8->List Ver}(_hw2:w.heap.size<=d.heap.size)(h:am (Grow (λb=>A b/\b<w.heap.size) d) n e p F)(a o:Nat)(v:Wx)(h1:w.heap.size<=a)(h2:a<d.heap.size):
  am (Grow A w) n (e.setCell ⟨a,o,N⟩ v) p F:=by
 refine am.keep (λb f _=>?_) n p F h;rcases f with⟨⟨i,c⟩,_⟩|hge
 .exact ⟨Or.inl ⟨i,c⟩,bS _ _ _ _ (by show b≠a;omega)⟩
 .exact ⟨Or.inr (by omega),bS _ _ _ _ (by show b≠a;omega)⟩
theorem tB(A:Nat->Prop)(n:Nat)(p:Option Wu)(f:List UInt8->List Ver)(a:ByteArray)(o:Wx)(h:List Ver)(w:Wj)(D:am A n w p f)(H:a.size<n)(r:a.size<=1000)(x:bm A w o h)(s:h≠[]):
  Calls Yq.prog 42 #[.agg #[O p],U a,o] w λe k=>∃q,e=.returned (.agg #[O q])/\Below w.heap.size w k/\am (Grow A w) n k q (upd f a.data.toList h):=by
 have i:∀d:Wj,Below w.heap.size w d->Calls Yq.prog 69 #[O p,U a,o] d λe k=>∃g,e=.returned (O (J ⟨g,0,N⟩))/\Below d.heap.size d k/\am (Grow (λb=>A b/\b<w.heap.size) d) n k (J ⟨g,0,N⟩) (upd f a.data.toList h):=λd z=>
  BC n _ p f a o h d (am.keep (λb t m=>⟨⟨t,m⟩,z.block b m⟩) n p f D) H r (bZ.keep x (λb t m=>⟨⟨t,m⟩,z.block b m⟩)) s
 have HC:Hid (∀d:Wj,Below w.heap.size w d->Calls Yq.prog 69 #[O p,U a,o] d λe k=>∃g,e=.returned (O (J ⟨g,0,N⟩))/\Below d.heap.size d k/\am (Grow (λb=>A b/\b<w.heap.size) d) n k (J ⟨g,0,N⟩) (upd f a.data.toList h)):=i;obtain⟨ha,hc,rfl,-⟩:=x;clear i D;go_enter (Yq.nq Tryz.func42),Tryz.ntmps42;go_wp2_with fail
 have c:Below w.heap.size w ((w.alloc (E #[O p] 33)).alloc (E #[O N] 33)):=((bR _ w).alloc (lR _) _).alloc (by simp) _;have u:((w.alloc (E #[O p] 33)).alloc (E #[O N] 33)).cell? ⟨w.heap.size+1,0,N⟩=J (O N):=by rw[cA (w:=w.alloc (E #[O p] 33)) _ _ (w.heap.size+1) 0 (by simp)];rfl
 have B:((w.alloc (E #[O p] 33)).alloc (E #[O N] 33)).frozen? ⟨w.heap.size+1,0,N⟩=false:=World.frozen?_alloc_at (w:=w.alloc (E #[O p] 33)) _ _ (w.heap.size+1) 0 (by simp);have F:w.heap.size+1<((w.alloc (E #[O p] 33)).alloc (E #[O N] 33)).heap.size:=by simp
 have G:Hid (Below w.heap.size w ((w.alloc (E #[O p] 33)).alloc (E #[O N] 33))):=c;refine(HC.out _ c).mono ?_;generalize(w.alloc (E #[O p] 33)).alloc (E #[O N] 33)=W2 at *;rintro e y ⟨g,rfl,j,l⟩;have L:=ah j u;have q4:=(j.frozen (p:=⟨w.heap.size+1,0,N⟩) F).trans B;have HF:Hid (Below w.heap.size w (y.setCell ⟨w.heap.size+1,0,N⟩ (O (J ⟨g,0,N⟩)))/\am (Grow A w) n (y.setCell ⟨w.heap.size+1,0,N⟩ (O (J ⟨g,0,N⟩))) (J ⟨g,0,N⟩) (upd f a.data.toList h)):=
  ⟨(c.trans (j.mono c.size)).setCell (by show w.heap.size<=w.heap.size+1;omega) _,tA c.size l (w.heap.size+1) 0 _ (by omega) F⟩
 clear c u B j l HC;go_wp2;exact bodyPost_ret (v:=.agg #[O (J ⟨g,0,N⟩)]) (by simp[results,Tryz.results42,go_sem,L]) rfl ⟨_,rfl,HF.out⟩
theorem tC(A:Nat->Prop)(n:Nat)(p:Option Wu)(f:List UInt8->List Ver)(c:ByteArray)(w:Wj)(G:am A n w p f)(S:c.size<n)(z:c.size<=1000)(y:f c.data.toList≠[]):
  Calls Yq.prog 41 #[.agg #[O p],U c] w λe h=>∃q,e=.returned (.agg #[O q])/\Below w.heap.size w h/\am (Grow A w) n h q (upd f c.data.toList []):=by
 have j:∀d:Wj,Below w.heap.size w d->Calls Yq.prog 68 #[O p,U c] d λe h=>∃q,e=.returned (O q)/\Below d.heap.size d h/\am (Grow (λb=>A b/\b<w.heap.size) d) n h q (upd f c.data.toList []):=λd B=>
  tz n _ p f c d (am.keep (λb F x=>⟨⟨F,x⟩,B.block b x⟩) n p f G) S z y
 have r:∀d:Wj,Below w.heap.size w d->Calls Yq.prog 38 #[.agg #[O p],U c] d λe h=>∃s,e=.returned (.tuple #[s,C Y])/\Below d.heap.size d h:=λd B=>by
  refine(nC A n p f c d S (by simp only[maxLen];omega) (am.keep (λb F x=>⟨F,B.block b x⟩) n p f G)).mono ?_;rintro e h ⟨s,rfl,_,D⟩;refine⟨s,?_,D⟩;cases hc:f c.data.toList with
  |nil=>exact absurd hc y
  |cons a l=>rfl
 have HC:Hid (∀d:Wj,Below w.heap.size w d->Calls Yq.prog 68 #[O p,U c] d λe h=>∃q,e=.returned (O q)/\Below d.heap.size d h/\am (Grow (λb=>A b/\b<w.heap.size) d) n h q (upd f c.data.toList [])):=j;have HG:Hid (∀d:Wj,Below w.heap.size w d->Calls Yq.prog 38 #[.agg #[O p],U c] d λe h=>∃s,e=.returned (.tuple #[s,C Y])/\Below d.heap.size d h):=r;clear j G r y;go_enter (Yq.nq Tryz.func41),Tryz.ntmps41;go_wp2_with fail
 have k:Below w.heap.size w ((w.alloc (E #[O p] 33)).alloc (E #[O N] 33)):=((bR _ w).alloc (lR _) _).alloc (by simp) _;have L:((w.alloc (E #[O p] 33)).alloc (E #[O N] 33)).cell? ⟨w.heap.size+1,0,N⟩=J (O N):=by rw[cA (w:=w.alloc (E #[O p] 33)) _ _ (w.heap.size+1) 0 (by simp)];rfl
 have T:((w.alloc (E #[O p] 33)).alloc (E #[O N] 33)).frozen? ⟨w.heap.size+1,0,N⟩=false:=World.frozen?_alloc_at (w:=w.alloc (E #[O p] 33)) _ _ (w.heap.size+1) 0 (by simp);have H:w.heap.size+1<((w.alloc (E #[O p] 33)).alloc (E #[O N] 33)).heap.size:=by simp
 have X:((w.alloc (E #[O p] 33)).alloc (E #[O N] 33)).cell? ⟨w.heap.size,0,N⟩=J (O p):=by
  rw[World.cell?_alloc_past (w:=w.alloc (E #[O p] 33)) _ w.heap.size 0 (by simp),cA (w:=w) _ _ w.heap.size 0 rfl];rfl
 refine(HG.out _ k).mono ?_;generalize(w.alloc (E #[O p] 33)).alloc (E #[O N] 33)=W1 at *;rintro e W2 ⟨s,rfl,i⟩;have u:Below w.heap.size w W2:=k.trans (i.mono k.size);have V:=ah i L;have P:=(i.frozen (p:=⟨w.heap.size+1,0,N⟩) H).trans T;have R:w.heap.size+1<W2.heap.size:=lL H i.size;have r5:=ah i X;have m:Hid (Below w.heap.size w W2):=u;clear k L T H X i HG u;go_wp2_with fail
 refine(HC.out W2 m.out).mono ?_;rintro e Q ⟨q,rfl,o,t⟩;have q3:=ah o V;have q4:=(o.frozen (p:=⟨w.heap.size+1,0,N⟩) R).trans P;have HF:Hid (Below w.heap.size w (Q.setCell ⟨w.heap.size+1,0,N⟩ (O q))/\am (Grow A w) n (Q.setCell ⟨w.heap.size+1,0,N⟩ (O q)) q (upd f c.data.toList [])):=
  ⟨(m.out.trans (o.mono m.out.size)).setCell (by show w.heap.size<=w.heap.size+1;omega) _,tA m.out.size t (w.heap.size+1) 0 _ (by omega) R⟩
 clear V P o t HC;go_wp2;exact bodyPost_ret (v:=.agg #[O q]) (by simp[results,Tryz.results41,go_sem,q3]) rfl ⟨_,rfl,HF.out⟩
def nums(h:List Ver)(i:Nat):Int:=((h[i]?).map (·.num)).getD 0
def bods(h:List Ver)(i:Nat):ByteArray:=((h[i]?).map (·.body)).getD ⟨#[]⟩
def mrks(h:List Ver)(i:Nat):Bool:=((h[i]?).map (·.mark)).getD Z
theorem qZ{h:List Ver}{i:Nat}(a:i<h.length):nums h i=h[i].num:=by simp[nums,a]
theorem GR{h:List Ver}{i:Nat}(a:i<h.length):bods h i=h[i].body:=by simp[bods,a]
theorem GS{h:List Ver}{i:Nat}(a:i<h.length):mrks h i=h[i].mark:=by simp[mrks,a]
structure BD (h:List Ver)(n:Int)(r:Nat):Prop where
 le:r<=h.length
 lo:∀j,j<h.length->j<r->nums h j<n
 hi:∀j,j<h.length->r<=j->n<=nums h j
def zp(h:List Ver)(n:Int)(r:Nat):Bool:=decide (r<h.length/\nums h r=n)
theorem BE(A:Nat->Prop)(t:Wx)(h:List Ver)(n:Int)(w:Wj)(p:bm A w t h)(q:∀i j,i<j->j<h.length->nums h i<nums h j)(x:h.length<=2199023255552):
  Calls Yq.prog 67 #[t,I K n] w λe c=>∃r:Nat,BD h n r/\e=.returned (.tuple #[I K r,C (zp h n r)])/\Below w.heap.size w c:=by
 by_cases d:h=[]
 .subst d;obtain⟨a,b,rfl,-,-⟩:=p;go_enter (Yq.nq Tryz.func67),Tryz.ntmps67;go_wp2_with (go_at_call 87;refine(D9 _ _ _ _).mono ?_;rintro e c ⟨rfl,rfl⟩)
  go_ret2
  exact⟨0,⟨lR _,λj h=>absurd h (Nat.not_lt_zero _),λj h=>absurd h (Nat.not_lt_zero _)⟩,by simp[zp],bR _ _⟩
 .obtain ⟨s,b,rfl,-,-,u,-⟩:=p.cells d;have k:Calls Yq.prog 87 #[M (J ⟨s,0,N⟩) h.length b,I K n,.func (.func 88) #[] #[]] w λe c=>∃r:Nat,BD h n r /\
    e=.returned (.tuple #[I K r,C (zp h n r)])/\Below w.heap.size w c:=by
   refine(GL s h.length b (nums h) (bods h) (mrks h) n w x (λi f=>by rw[qZ f,GR f,GS f];exact u i f) q).mono ?_;rintro e c ⟨r,m,v,y,rfl,o⟩;exact⟨r,⟨m,λj _ l=>v j l,λj h l=>y j l h⟩,rfl,o⟩
  clear u q;go_enter (Yq.nq Tryz.func67),Tryz.ntmps67;go_wp2_with (go_at_call 87;refine k.mono ?_;rintro e c ⟨r,m,rfl,o⟩)
  go_ret2
  exact⟨r,m,rfl,o⟩
def cx(v:Ver):Wx:=.agg #[I K v.num,U v.body,C v.mark]
theorem zq(g k a:Nat)(c:Int)(b:ByteArray)(d:Bool)(w:Wj)(hk:k<=2199023255552)(h:w.cell? ⟨g,k*3,N⟩=J (I K c))(c1:w.cell? ⟨g,k*3+1,N⟩=J (U b))(c2:w.cell? ⟨g,k*3+2,N⟩=J (C d)):
  Calls Yq.prog 39 #[M (J ⟨g,0,N⟩) (k+1) a] w λe f=>e=.returned (.agg #[I K c,U b,C d])/\Below w.heap.size w f:=by
 have hg:=bC w _ h;go_enter (Yq.nq Tryz.func39),Tryz.ntmps39;go_wp2;exact bodyPost_ret (v:=.agg #[I K c,U b,C d]) (by simp[results,Tryz.results39,go_sem]) rfl ⟨rfl,(bR _ _).alloc (lR _) _⟩
theorem lU(A:Nat->Prop)(c:Wx)(h:List Ver)(w:Wj)(j:bm A w c h)(a:h≠[])(hl:h.length<=2199023255552):
  Calls Yq.prog 39 #[c] w λe i=>e=.returned (cx (h.getLast a))/\Below w.heap.size w i:=by
 obtain⟨g,b,rfl,-,-,m,-⟩:=j.cells a;have hlen:0<h.length:=List.length_pos_iff.2 a;obtain⟨k,f⟩:∃k,h.length=k+1:=⟨h.length-1,by omega⟩;have⟨l,n,d⟩:=m k (by omega);have e:h.getLast a=h[k]:=by rw[List.getLast_eq_getElem];congr 1;omega
 rw[e];generalize h[k]=v at *;rw[f];exact zq g k b _ _ _ w (by omega) l n d
theorem tD(A:Nat->Prop)(l:Wx)(h:List Ver)(r:Nat)(w:Wj)(p:bm A w l h)(hr:r<h.length)(x:h.length<=2199023255552):
  Calls Yq.prog 43 #[l,I K r] w λe o=>∃q s u,e=.returned (M q s u)/\bm (λb=>w.heap.size<=b) o (M q s u) (h.take r++h.drop (r+1))/\Below w.heap.size w o:=by
 have d:=pP A l h w p x;obtain⟨k,i⟩:∃k,h.length=k+1:=⟨h.length-1,by omega⟩;obtain⟨ha,hc,rfl,-⟩:=p;have HK:Hid (h.length=k+1):=i;rw[i]at d ⊢;clear i;go_enter (Yq.nq Tryz.func43),Tryz.ntmps43;go_wp2_with fail
 refine d.mono ?_;rintro e v ⟨v',rfl,a,t⟩;obtain⟨g,m,rfl,-,-,-⟩:=cW a (Nat.succ_pos _);have f:=Ee w.heap.size g k m r (aq h) v a (by have:=HK.out;omega) (by have:=HK.out;omega) (eK h);have hr':(r:Int)<=2199023255552:=by omega
 go_wp2_with (go_at_call 70;refine f.mono ?_;rintro e w2 ⟨rfl,c,n⟩)
 go_ret;refine⟨_,_,_,rfl,?_,t.grown n t.size (λj e=>by cases e;exact(a.lt g rfl).1)⟩;rw[tq]at c;exact mK (by have:=HK.out;rw[lP,tL,lD];omega) c (λj e=>(c.lt j e).1)
theorem iW{P:Wv}{ops:Array Oper}{o:Oper}{a0:Act}{w:Wj}{b:Act->Wj->Prop}{d:Prop}
  (hg:o.guard=N) (s x:Operand) (t:Ww) (R:o.op=Op.call {callee:=Callee.builtin Builtin.append,args:=#[s,x],argTypes:=#[t,t]})
  (p:Nat) (e:Ww) (i:TypeInfo) (z:Wx) (f l:Nat) (ht:P.underlying t=J (.slice e)) (hi:P.info? e=J i) (hz:i.zero=J z)
  (r:i.size=f) (G:i.bytes=l) (S:z.cells.size=f) (V:0<f)
  (v:Wx) (n:Nat) (H:List Wx) (hs:a0.eval s=v) (B:w.ownsRow p e f v n H)
  (L:Wu) (m c:Nat) (k:List Wx) (hx:a0.eval x=.slice (J L) m c) (hl:k.length=m*f) (y:∀j u,k[j]?=J u->w.cell? (L.add j)=J u) (h1:∀u∈k,u.oneCell'=Y)
  (T:n+m<=maxLen) (q:(n+m)*l<=140737488355328) (A:p<=w.heap.size)
  (h:∀F D,D.ownsRow p e f F (n+m) (H++k)->w.grownBy D v.ownBlock->b (a0.put o.dst F) D):
  if Region.wanted o (yielded ops a0.tmps)=Y then Oper.wp P o a0 w b Q else d:=by
 have⟨F,D,hr,X,h3,_⟩:=run_append_own (P:=P) w p t o.type e i z f l ht hi hz r G S V v n H B L m c k hl y h1 T q A;exact ee hg s x t t R v _ hs hx hr (h F D X h3)
theorem kJ(h:List Ver)(v:Ver):aq (h++[v])=aq h++[I K v.num,U v.body,C v.mark]:=by simp[aq]
theorem Ej{W d:Wj}(e:Below W.heap.size W d){o q c:Wu}{x y z:Wx}(h:W.cell? o=J x/\W.cell? q=J y/\W.cell? c=J z):d.cell? o=J x/\d.cell? q=J y/\d.cell? c=J z:=
 ⟨ah e h.1,ah e h.2.1,ah e h.2.2⟩
theorem oB{w d:Wj}{c:Option Nat}(f:w.grownBy d c){k n i:Nat}{x y z:Wx}(a:c≠J b)(h:w.cell? ⟨b,k,N⟩=J x/\w.cell? ⟨b,n,N⟩=J y/\w.cell? ⟨b,i,N⟩=J z):d.cell? ⟨b,k,N⟩=J x/\d.cell? ⟨b,n,N⟩=J y/\d.cell? ⟨b,i,N⟩=J z:=
 ⟨f.cell h.1 (λe=>a e.symm),f.cell h.2.1 (λe=>a e.symm),f.cell h.2.2 (λe=>a e.symm)⟩
theorem gG{w:Wj}{s base':Nat}{v:Wx}{n:Nat}(h:w.ownsRow s D b v n xs)(j:base'<=s):w.ownsRow base' D b v n xs:=by
 refine⟨h.1,?_⟩;rcases h.2 with i|⟨g,d,c,f,k,r⟩
 .exact Or.inl i
 .exact Or.inr ⟨g,d,c,f,lT j k,r⟩
theorem news3(W:Wj)(x y z:Wx)(T:Ww):∀j u,[x,y,z][j]?=J u->(W.alloc (E #[x,y,z] T)).cell? ((⟨W.heap.size,0,N⟩:Wu).add j)=J u:=by
 intro j u a;rw[Addr.add_lit,cA (w:=W) _ _ W.heap.size _ rfl];simpa using a
theorem one3(d:Int)(c:ByteArray)(b:Bool):∀u∈[Value.int K d,U c,C b],u.oneCell'=true:=by
 intro u a;simp at a;rcases a with rfl|rfl|rfl<;>rfl
theorem BF(A:Nat->Prop)(V:Wx)(h:List Ver)(a:Int)(d:ByteArray)(c:Bool)(w:Wj)(hh:bm A w V h)(hl:h.length<=2199023255552):
  Calls Yq.prog 64 #[V,.agg #[I K a,U d,C c]] w λe n=>∃v vl x,e=.returned (M v vl x)/\bm (λb=>w.heap.size<=b) n (M v vl x) (h++[⟨a,d,c⟩])/\Below w.heap.size w n:=by
 have⟨i0,G,y,z,B⟩:=info_parts Yq.infoVer;have T:Hid (∀s:Wj,Below w.heap.size w s->Calls Yq.prog 71 #[V] s λe n=>∃P,e=.returned P/\n.ownsRow s.heap.size 62 3 P h.length (aq h)/\Below s.heap.size s n):=λs hq=>
  pP A _ h s (bZ.keep hh (λb q L=>⟨q,hq.block b L⟩)) hl
 obtain⟨ha,hc,rfl,-⟩:=hh;have b1:Below w.heap.size w (w.alloc (E #[I K a,U d,C c] 62)):=(bR _ w).alloc (lR _) _;have l:Hid (Below w.heap.size w (w.alloc (E #[I K a,U d,C c] 62))):=b1;have B0:(w.alloc (E #[I K a,U d,C c] 62)).cell? ⟨w.heap.size,0,N⟩=J (I K a):=by rw[cA (w:=w) _ _ w.heap.size 0 rfl];rfl
 have B1:(w.alloc (E #[I K a,U d,C c] 62)).cell? ⟨w.heap.size,1,N⟩=J (U d):=by rw[cA (w:=w) _ _ w.heap.size 1 rfl];rfl
 have B2:(w.alloc (E #[I K a,U d,C c] 62)).cell? ⟨w.heap.size,2,N⟩=J (C c):=by rw[cA (w:=w) _ _ w.heap.size 2 rfl];rfl
 clear b1;go_enter (Yq.nq Tryz.func64),Tryz.ntmps64;go_wp2_with fail
 go_region_held3 (λn=>n.cell? ⟨w.heap.size,0,N⟩=J (I K a)/\n.cell? ⟨w.heap.size,1,N⟩=J (U d)/\n.cell? ⟨w.heap.size,2,N⟩=J (C c)) (first|assumption|go_keep)
  (first
   |(refine iW rfl _ _ 96 rfl w.heap.size 62 i0 _ 3 32 (Yq.u Tryz.underlying96) G y z B rfl (by decide) (M v h.length x) h.length (aq h) (by simp[Act.eval]) (i.alloc _) ⟨X.heap.size,0,N⟩ 1 1 [I K a,U d,C c] (by simp[Act.eval]) rfl (news3 _ _ _ _ _) (one3 _ _ _) (by simp only[maxLen];omega) (by omega) (lT p (by simp)) ?_;intro v2 Q r m;have F:Below w.heap.size w Q:=(o.alloc o.size _).grown m (lT p (by simp)) (λk e=>(i.lt k e).1);have S:=oB m D (by assumption))
   |(refine iW rfl _ _ 96 rfl w.heap.size 62 i0 _ 3 32 (Yq.u Tryz.underlying96) G y z B rfl (by decide) (M v h.length x) h.length (aq h) (by simp[Act.eval]) i ⟨w.heap.size+1,0,N⟩ 1 1 [I K a,U d,C c] (by simp[Act.eval]) rfl (λj u hj=>ah q (by have:=news3 (w.alloc (E #[I K a,U d,C c] 62)) _ _ _ 62 j u hj;simpa using this)) (one3 _ _ _) (by simp only[maxLen];omega) (by omega) p ?_;intro v2 Q r m;have F:Below w.heap.size w Q:=o.grown m o.size (λk e=>(i.lt k e).1);have S:=oB m D (by assumption))
   |(go_at_call 71;go_loud (refine(T.out _ ?_).mono ?_);go_loud (first|exact l.out|exact l.out.drew|exact(l.out.alloc (by simp) _).drew);rintro e X ⟨P,rfl,f,q⟩;obtain⟨v,x,rfl,-⟩:=az f;have i:=gG (base':=w.heap.size) f (by simp<;>omega);have D:(Value.slice v h.length x).ownBlock≠J w.heap.size:=λe=>absurd (f.lt _ e).1 (by simp<;>omega);have p:w.heap.size<=X.heap.size:=lT (by simp<;>omega) q.size;have o:Below w.heap.size w X:=(by first|exact l.out.drew.trans (q.mono l.out.size)|exact((l.out.alloc (by simp) _).drew).trans (q.mono (by simp<;>omega)));have kS:=Ej q (by assumption)))
 all_goals
  obtain⟨H,R,rfl,-⟩:=az r;go_wp2;go_ret;have t:=r;rw[show aq h++[I K a,U d,C c]=aq (h++[⟨a,d,c⟩])from(kJ h ⟨a,d,c⟩).symm]at t;exact⟨H,h.length+1,R,rfl,mK (by simp) t (λj e=>(t.lt j e).1),F⟩
theorem Yq.infoU8:(Yq.prog.info? 5).map (λi=>(i.zero,i.size,i.bytes))=J (J (I .u8 0),1,1):=by kernel_rfl
theorem vP(s:ByteArray)(w:Wj)(hlim:s.size<=281474976710656):
  Calls Yq.prog 65 #[U s] w λe F=>e=.returned (U s)/\Below w.heap.size w F:=by
 by_cases D:s.size=0
 .have G:s=⟨#[]⟩:=by
   apply ByteArray.ext;exact Array.eq_empty_of_size_eq_zero D
  subst G;go_enter (Yq.nq Tryz.func65),Tryz.ntmps65;go_wp2;go_ret;exact⟨rfl,bR _ _⟩
 .have ⟨B,v,r,c,m⟩:=info_parts Yq.infoU8;have d:(Yq.prog.info? 5).map (·.size)=J 1:=by rw[v];simp[c]
  have y:Yq.prog.cellsOf 5=1:=by simp[Program.cellsOf,v,c]
  obtain⟨a,q⟩:∃a,a=madeCells (Value.int .u8 0).cells (((s.size:Nat):Int).toNat*B.size):=⟨_,rfl⟩;have hMs:a.size=s.size:=by rw[q,size_madeCells,c];simp
  have hmk:∀W:Wj,(Instr.makeSlice 118 (I K (s.size:Int)) (I K (s.size:Int))).run Yq.prog W=.ok (M (J ⟨W.heap.size,0,N⟩) s.size s.size) (W.alloc (E a 5)):=λW=>by
   have h:=run_make (P:=Yq.prog) W 118 5 B (I .u8 0) (Yq.u Tryz.underlying118) v r K K (s.size:Int) (s.size:Int) (by omega) (by omega) (by rw[m];omega) (by omega);rw[<-q]at h;simpa using h
  clear q;have n:=Lib.run_copy_row_string (P:=Yq.prog) (w.alloc (E a 5)) 118 9 3 5 w.heap.size 0 s.size s.size s a 5 (Yq.u Tryz.underlying118) d (heap_alloc_new w _) (lR _) (by omega);obtain⟨b,A⟩:∃b,b=(a.toList.take 0++Lib.byteCells s.data.toList++a.toList.drop (0+s.size)).toArray:=⟨_,rfl⟩;rw[<-A]at n;have f:b.toList=Lib.byteCells s.data.toList:=by
   rw[A,List.toList_toArray,List.take_zero,List.nil_append,List.drop_of_length_le (by rw[lY];omega),List.append_nil]
  have hYs:b.size=s.size:=by rw[<-lY,f,Lib.byteCells_length,<-Lib.size_eq]
  have i:((w.alloc (E a 5)).setRow w.heap.size b).heap[w.heap.size]?=J (E b 5 (0,0)):=setRow_heap _ _ a _ 5 (0,0) (heap_alloc_new w _);have o:s.data.toList≠[]:=λe=>D (by rw[Lib.size_eq,e];rfl)
  have l:=Lib.run_unsafeString_row (P:=Yq.prog) ((w.alloc (E a 5)).setRow w.heap.size b) 170 3 9 5 (Yq.u Tryz.underlying170) y w.heap.size b.size (by unfold World.shape?;rw[i]) s.data.toList o (by rw[<-Lib.size_eq];omega) (by rw[<-Lib.size_eq];omega)
   (λj x H=>Lib.cells_of_row i b.size j _ (by rw[tO (by rw[lY];exact lR _),f];simp[Lib.byteCells,H]))
  rw[<-Lib.size_eq]at l;clear A;go_enter (Yq.nq Tryz.func65),Tryz.ntmps65;go_wp2;go_ret;have z:Below w.heap.size w (w.alloc (E a 5)):=(bR _ w).alloc (lR _) _;have t:Below w.heap.size (w.alloc (E a 5)) ((w.alloc (E a 5)).setRow w.heap.size b):=⟨rfl,rfl,rfl,by simp,λk hk=>setRow_other _ _ _ _ (by omega)⟩;exact⟨rfl,Lib.below_freeze (z.trans t) (p:=⟨w.heap.size,0,N⟩) (lR _) _⟩
theorem zr(s:ByteArray)(w:Wj)(a:s.size<=281474976710656):
  Calls Yq.prog 37 #[U s] w λe b=>e=.returned (U s)/\Below w.heap.size w b:=by
 go_enter (Yq.nq Tryz.func37),Tryz.ntmps37;go_wp2_with (go_at_call 65;refine(vP _ _ a).mono ?_;rintro e b ⟨rfl,c⟩)
 go_ret;exact⟨rfl,c⟩
structure St where
 f:List UInt8->List Ver
 count:Int
 last:Int
structure OpD where
 kind:Int
 key:ByteArray
 body:ByteArray
 delim:ByteArray
 past:ByteArray
 n:Int
 src:Int
structure Ax where
 code:Int
 ver:Int
 body:ByteArray
def aT(o:OpD):Wx:=.agg #[I K o.kind,U o.key,U o.body,U o.delim,U o.past,I K o.n,I K o.src]
def aD(a:Ax):Wx:=.agg #[I K a.code,I K a.ver,U a.body,M N 0 0,U ⟨#[]⟩]
def aK(k:ByteArray):Bool:=decide (1<=k.size/\k.size<=40)
def cJ(st:St)(key body:ByteArray)(mark:Bool):St:=
 ⟨upd st.f key.data.toList (st.f key.data.toList++[⟨st.last+1,body,mark⟩]),st.count+1,st.last+1⟩
def cD(h:List Ver)(n:Int):Option Nat:=h.findIdx? (λv=>v.num==n)
def bL(st:St)(key:ByteArray)(r:Nat):St:=
 ⟨upd st.f key.data.toList ((st.f key.data.toList).take r++(st.f key.data.toList).drop (r+1)),st.count-1,st.last⟩
def aA(st:St)(o:OpD):St×Ax:=
 let N:Ax:=⟨0,0,⟨#[]⟩⟩
 if o.kind=1 then
  if aK o.key=Z then(st,{N with code:=2})
  else if 100<o.body.size then(st,{N with code:=3})
  else if 200<=st.count\/st.last=9223372036854775807 then(st,{N with code:=4})
  else(cJ st o.key o.body Z,{N with ver:=st.last+1})
 else if o.kind=2 then
  if aK o.key=Z then(st,{N with code:=2})
  else match(st.f o.key.data.toList).getLast? with
   | .none=>(st,{N with code:=5})
   |some v=>if v.mark then(st,{N with code:=5})else(st,⟨0,v.num,v.body⟩)
 else if o.kind=3 then
  if aK o.key=Z then(st,{N with code:=2})
  else match cD (st.f o.key.data.toList) o.n with
   | .none=>(st,{N with code:=5})
   |some r=>match(st.f o.key.data.toList)[r]? with
    | .none=>(st,{N with code:=5})
    |some v=>if v.mark then(st,{N with code:=6})else(st,⟨0,0,v.body⟩)
 else if o.kind=4 then
  if aK o.key=Z then(st,{N with code:=2})
  else if 200<=st.count\/st.last=9223372036854775807 then(st,{N with code:=4})
  else(cJ st o.key ⟨#[]⟩ Y,{N with ver:=st.last+1})
 else if o.kind=5 then
  if aK o.key=Z then(st,{N with code:=2})
  else match cD (st.f o.key.data.toList) o.n with
   | .none=>(st,{N with code:=5})
   |some r=>(bL st o.key r,N)
 else(st,{N with code:=1})
structure Inv (st:St)(s:Nat):Prop where
 last0:0<=st.last
 lastS:st.last<=9223372036854775807
 countL:-(s:Int)<=st.count
 countU:st.count<=s+200
 len:∀k,(st.f k).length<=s+200
 sorted:∀k i j,i<j->j<(st.f k).length->nums (st.f k) i<nums (st.f k) j
 bounds:∀k i,i<(st.f k).length->1<=nums (st.f k) i/\nums (st.f k) i<=st.last
theorem dS{h:List Ver}{v:Ver}{i:Nat}(a:i<h.length):nums (h++[v]) i=nums h i:=by
 simp[nums,List.getElem?_append_left a]
theorem iB{h:List Ver}{v:Ver}:nums (h++[v]) h.length=v.num:=by simp[nums]
theorem Inv.mono{st:St}{s s':Nat}(h:Inv st s)(hs:s<=s'):Inv st s':=
 ⟨h.last0,h.lastS,by have:=h.countL;omega,by have:=h.countU;omega,λk=>by have:=h.len k;omega,h.sorted,h.bounds⟩
theorem Inv.add{c:St}{s:Nat}(h:Inv c s)(a l:ByteArray)(m:Bool)(hl:¬c.last=9223372036854775807):Inv (cJ c a l m) (s+1):=by
 refine⟨by have:=h.last0;simp[cJ];omega,by have:=h.lastS;simp[cJ];omega,by have:=h.countL;simp[cJ];omega,by have:=h.countU;simp[cJ];omega,λk=>?_,?_,?_⟩
 .have h1:=h.len k;have h2:=h.len a.data.toList;unfold cJ upd;dsimp only;split
  .rw [lP,lS];omega
  .omega
 .intro k i j b o;by_cases d:k=a.data.toList
  .subst d;simp only[cJ,upd,if_true]at o ⊢;rw[lP,lS]at o;by_cases e:j<(c.f a.data.toList).length
   .rw [dS e,dS (by omega)];exact h.sorted _ i j b e
   .have r:j=(c.f a.data.toList).length:=by omega
    subst r;rw[iB,dS b];have:=(h.bounds a.data.toList i b).2;simp only;omega
  .simp only[cJ,upd,if_neg d]at o ⊢;exact h.sorted k i j b o
 .intro k i p;by_cases d:k=a.data.toList
  .subst d;simp only[cJ,upd,if_true]at p ⊢;rw[lP,lS]at p;by_cases n:i<(c.f a.data.toList).length
   .rw [dS n];have:=h.bounds _ i n;omega
   .have q:i=(c.f a.data.toList).length:=by omega
    subst q;rw[iB];have:=h.last0;simp only;omega
  .simp only[cJ,upd,if_neg d]at p ⊢;have:=h.bounds k i p;omega
theorem q9{h:List Ver}{n i:Nat}(hr:n<h.length):nums (h.take n++h.drop (n+1)) i=nums h (if i<n then i else i+1):=by
 unfold nums;have b:(h.take n).length=n:=by rw[tL];omega
 by_cases a:i<n
 .rw [if_pos a,aL (by omega),List.getElem?_take,if_pos a]
 .rw [if_neg a,aR (by omega),b,List.getElem?_drop];congr 3;omega
theorem Inv.drop{l:St}{s:Nat}(h:Inv l s)(a:ByteArray)(r:Nat)(m:r<(l.f a.data.toList).length):Inv (bL l a r) (s+1):=by
 refine⟨h.last0,by have:=h.lastS;simp[bL];omega,by have:=h.countL;simp[bL];omega,by have:=h.countU;simp[bL];omega,λk=>?_,?_,?_⟩
 .have h1:=h.len k;have h2:=h.len a.data.toList;unfold bL upd;dsimp only;split
  .rw [lP,tL,lD];omega
  .omega
 .intro k i j e c;by_cases b:k=a.data.toList
  .subst b;simp only[bL,upd,if_true]at c ⊢;rw[lP,tL,lD]at c;rw[q9 m,q9 m];exact h.sorted _ _ _ (by split<;>split<;>omega) (by split<;>omega)
  .simp only[bL,upd,if_neg b]at c ⊢;exact h.sorted k i j e c
 .intro k i d;by_cases b:k=a.data.toList
  .subst b;simp only[bL,upd,if_true]at d ⊢;rw[lP,tL,lD]at d;rw[q9 m];exact h.bounds _ _ (by split<;>omega)
  .simp only[bL,upd,if_neg b]at d ⊢;exact h.bounds k i d
theorem Ek{h:List Ver}{n:Int}{s:Nat}(d:BD h n s)(p:∀i j,i<j->j<h.length->nums h i<nums h j):cD h n=if zp h n s then J s else none:=by
 unfold cD;cases c:zp h n s with
 |true=>
  have:=of_decide_eq_true c;obtain⟨l,m⟩:=this;simp only[if_true];rw[List.findIdx?_eq_some_iff_getElem];refine⟨l,?_,λj a=>?_⟩
  .rw [qZ l]at m;simp[m]
  .have:=d.lo j (by omega) a;rw[qZ (by omega)]at this;simp;omega
 |false=>
  simp only[Bool.false_eq_true,if_false];rw[List.findIdx?_eq_none_iff];intro v o;have⟨j,a,e⟩:=gM o;have f:=of_decide_eq_false c;have hj':nums h j=v.num:=by rw[qZ a,e]
  by_cases k:j<s
  .have:=d.lo j a k;simp;omega
  .have h1:=d.hi s (by omega) (lR _);by_cases b:j=s
   .subst b;have:¬nums h j=n:=λe=>f ⟨a,e⟩
    simp;omega
   .have h2:=p s j (by omega) a;simp;omega
structure aG (A:Nat->Prop)(w:Wj)(k0:Nat)(st:St):Prop where
 avoid:∀b,A b->b≠k0
 tree:∃p,w.cell? ⟨k0,0,N⟩=J (O p)/\am A 41 w p st.f
 count:w.cell? ⟨k0,1,N⟩=J (I K st.count)
 last:w.cell? ⟨k0,2,N⟩=J (I K st.last)
 frozen:∀j,w.frozen? ⟨k0,j,N⟩=Z
theorem dC{w:Wj}{n:Nat}(h:w.grownBy W0 (J n))(o:Nat)(v:Wx):w.grownBy (W0.setCell ⟨n,o,N⟩ v) (J n):=
 ⟨h.os,h.tape,h.output,by have:=h.size;simp[World.setCell];omega,λk d c=>(bS _ _ _ _ (λe=>c (by rw[e]))).trans (h.block k d c)⟩
theorem ra{w a:Wj}{r:Option Nat}(h:w.grownBy a r)(hb:w.heap.size<=b)(o:Nat)(v:Wx):w.grownBy (a.setCell ⟨b,o,N⟩ v) r:=
 ⟨h.os,h.tape,h.output,by have:=h.size;simp[World.setCell];omega,λk c d=>(bS _ _ _ _ (by show k≠b;omega)).trans (h.block k c d)⟩
theorem aG.lt{w:Wj}{n:Nat}{b:St}(S:aG A w n b):n<w.heap.size:=bC w _ S.count
theorem GT{w d:Wj}{n:Nat}(f:w.grownBy d (J n))(h:∀b,A b->b≠n):∀b,A b->b<w.heap.size->A b/\d.heap[b]?=w.heap[b]?:=
 λb c i=>⟨c,f.block b i (by intro e;cases e;exact h n c rfl)⟩
theorem aG.on{w w':Wj}{st:St}(S:aG A w b st)(a:Below w.heap.size w w'):aG A w' b st:=by
 have⟨p,c,d⟩:=S.tree;exact⟨S.avoid,⟨p,ah a c,d.on a⟩,ah a S.count,ah a S.last,λj=>(a.frozen (p:=⟨b,j,N⟩) S.lt).trans (S.frozen j)⟩
theorem aG.grow{w:Wj}{n:Nat}{st:St}(S:aG A w n st):aG (Grow A w) w n st:=by
 have⟨p,d,f⟩:=S.tree;refine⟨?_,⟨p,d,am.keep (λb c e=>⟨Or.inl ⟨c,e⟩,rfl⟩) _ _ _ f⟩,S.count,S.last,S.frozen⟩;rintro b (⟨h,_⟩|h)
 .exact S.avoid b h
 .have:=S.lt;omega
def d7:Ver:=⟨0,⟨#[]⟩,Z⟩
theorem kK(a:ByteArray)(w:Wj)(h:a.size<=maxLen):Calls Yq.prog 34 #[U a] w λe c=>e=.returned (C (aK a))/\w=c:=by
 unfold maxLen at h;by_cases d:1<=a.size
 .by_cases b:a.size<=40
  .have e:aK a=true:=by simp[aK,d,b]
   go_enter (Yq.nq Tryz.func34),Tryz.ntmps34;go_wp2;go_ret;exact⟨by simp[e]<;>omega,rfl⟩
  .have e:aK a=false:=by simp[aK,b]
   go_enter (Yq.nq Tryz.func34),Tryz.ntmps34;go_wp2;go_ret;exact⟨by simp[e]<;>omega,rfl⟩
 .go_enter (Yq.nq Tryz.func34),Tryz.ntmps34;go_wp2;go_ret;exact⟨by simp[aK]<;>omega,rfl⟩
def jT(st:St):Bool:=decide (200<=st.count\/st.last=9223372036854775807)
theorem pS(c:Nat)(a:St)(w:Wj)(hc:w.cell? ⟨c,1,N⟩=J (I K a.count))(hl:w.cell? ⟨c,2,N⟩=J (I K a.last)):Calls Yq.prog 35 #[O (J ⟨c,0,N⟩)] w λe f=>e=.returned (C (jT a))/\w=f:=by
 by_cases b:200<=a.count
 .have e:jT a=true:=by simp[jT,b]
  have d:decide (200<=a.count)=true:=by simp[b]
  rw[e];go_enter (Yq.nq Tryz.func35),Tryz.ntmps35;go_wp2;go_ret;exact⟨rfl,rfl⟩
 .have d:decide (200<=a.count)=false:=by simp[b]
  have e:jT a=(a.last==9223372036854775807):=by rw[jT,Bool.eq_iff_iff];simp[b]
  rw[e];go_enter (Yq.nq Tryz.func35),Tryz.ntmps35;go_wp2;go_ret;exact⟨rfl,rfl⟩
theorem gH(h:aK u=Y):u.size<41/\u.size<=1000:=by
 have:=of_decide_eq_true h;omega
def El(A:Nat->Prop)(st:St)(key:ByteArray)(n:Int)(w:Wj)(e:Ending)(w':Wj):Prop:=
  Below w.heap.size w w' /\
  ((aK key=Z/\e=.returned (.tuple #[M N 0 0,I K 0,I K 2])) \/
   (aK key=Y/\cD (st.f key.data.toList) n=N/\e=.returned (.tuple #[M N 0 0,I K 0,I K 5])) \/
   (aK key=Y/\∃ (r:Nat) (a:Option Wu) (b:Nat),cD (st.f key.data.toList) n=J r/\r<(st.f key.data.toList).length/\bm A w' (M a (st.f key.data.toList).length b) (st.f key.data.toList) /\
      e=.returned (.tuple #[M a (st.f key.data.toList).length b,I K r,I K 0])))
theorem tE(A:Nat->Prop)(B:Nat)(c:St)(s:Nat)(a:ByteArray)(n:Int)(w:Wj)(y:a.size<=maxLen)(S:aG A w B c)(x:Inv c s)(hs:s<=2199023255340):
  Calls Yq.prog 40 #[O (J ⟨B,0,N⟩),U a,I K n] w (El A c a n w):=by
 have⟨p,c0,F⟩:=S.tree;have k:=kK a w y;cases b:aK a with
 |false=>
  rw[b]at k;have HK:Hid (aK a=Z):=b;clear b;go_enter (Yq.nq Tryz.func40),Tryz.ntmps40;go_wp2_with (go_at_call 34;refine k.mono ?_;rintro e G ⟨rfl,rfl⟩)
  go_ret3
  exact⟨bR _ _,Or.inl ⟨HK.out,rfl⟩⟩
 |true=>
  rw[b]at k;have HK:Hid (aK a=Y):=b;have u:=gH b;clear b;have HG:=nC A 41 p c.f a w u.1 y F;have hle:=x.len a.data.toList;have l:=x.sorted a.data.toList;clear F;go_enter (Yq.nq Tryz.func40),Tryz.ntmps40;go_wp2_with (go_at_call 34;refine k.mono ?_;rintro e G ⟨rfl,rfl⟩)
  refine HG.mono ?_;rintro e v ⟨H,rfl,q,o⟩;have HF:=BE A H (c.f a.data.toList) n v q l (by omega);obtain⟨z,D,rfl,-⟩:=id q;have HH:Hid (bm A v (M z (c.f a.data.toList).length D) (c.f a.data.toList)/\∀i j,i<j->j<(c.f a.data.toList).length->nums (c.f a.data.toList) i<nums (c.f a.data.toList) j):=⟨q,l⟩;clear q l HG;go_wp2_with fail
  refine HF.mono ?_;rintro e L ⟨r,t,rfl,m⟩;have d:=Ek t HH.out.2;have HB:Hid (Below w.heap.size w L):=o.trans (m.mono o.size);cases h:zp (c.f a.data.toList) n r with
  |true=>
   rw[h]at d;have HP:Hid (cD (c.f a.data.toList) n=J r/\r<(c.f a.data.toList).length):=⟨by simpa using d,(of_decide_eq_true h).1⟩;clear d t HF h;go_wp2
   go_ret3
   exact⟨HB.out,Or.inr (Or.inr ⟨HK.out,r,z,D,HP.out.1,HP.out.2,HH.out.1.on m,rfl⟩)⟩
  |false=>
   rw[h]at d;have HP:Hid (cD (c.f a.data.toList) n=N):=show cD (c.f a.data.toList) n=N by simpa using d
   clear d t HF h;go_wp2
   go_ret3
   exact⟨HB.out,Or.inr (Or.inl ⟨HK.out,HP.out,rfl⟩)⟩
theorem pT(c:Int)(b:ByteArray)(a:Bool)(w:Wj):(Instr.field 62 (.agg #[I K c,U b,C a]) 2).run Yq.prog w=.ok (C a) w:=by kernel_rfl
def kM(st:St)(key:ByteArray):Ver×Int:=
 if aK key=Z then(d7,2)
 else match(st.f key.data.toList).getLast? with
  |none=>(d7,5)
  |some v=>if v.mark then(d7,5)else(v,0)
theorem Em(A:Nat->Prop)(k0:Nat)(d:St)(s:Nat)(a:ByteArray)(w:Wj)(hk:a.size<=maxLen)(S:aG A w k0 d)(hI:Inv d s)(hs:s<=2199023255340):
  Calls Yq.prog 11 #[O (J ⟨k0,0,N⟩),U a] w λe u=>e=.returned (.tuple #[cx (kM d a).1,I K (kM d a).2])/\Below w.heap.size w u:=by
 have B0:Below w.heap.size w (w.alloc (E #[I K 0,U ⟨#[]⟩,C Z] 62)):=(bR _ w).alloc (lR _) _;have S1:=S.on B0;have⟨p,c0,hN⟩:=S1.tree;have o:=kK a (w.alloc (E #[I K 0,U ⟨#[]⟩,C Z] 62)) hk;have a0:(w.alloc (E #[I K 0,U ⟨#[]⟩,C Z] 62)).cell? ⟨w.heap.size,0,N⟩=J (I K 0):=by rw[cA (w:=w) _ _ w.heap.size 0 rfl];rfl
 have a1:(w.alloc (E #[I K 0,U ⟨#[]⟩,C Z] 62)).cell? ⟨w.heap.size,1,N⟩=J (U ⟨#[]⟩):=by rw[cA (w:=w) _ _ w.heap.size 1 rfl];rfl
 have a2:(w.alloc (E #[I K 0,U ⟨#[]⟩,C Z] 62)).cell? ⟨w.heap.size,2,N⟩=J (C Z):=by rw[cA (w:=w) _ _ w.heap.size 2 rfl];rfl
 have F:∀j,(w.alloc (E #[I K 0,U ⟨#[]⟩,C Z] 62)).frozen? ⟨w.heap.size,j,N⟩=false:=λj=>World.frozen?_alloc_at (w:=w) _ _ w.heap.size j rfl
 have q:Hid (Below w.heap.size w (w.alloc (E #[I K 0,U ⟨#[]⟩,C Z] 62))):=B0;have n:w.heap.size<(w.alloc (E #[I K 0,U ⟨#[]⟩,C Z] 62)).heap.size:=by simp
 clear B0 S S1;cases h:aK a with
 |false=>
  rw[h]at o;have HR:Hid (kM d a=(d7,2)):=show kM d a=(d7,2)by simp[kM,h]
  clear h;go_enter (Yq.nq Tryz.func11),Tryz.ntmps11;go_wp2_with (go_at_call 34;refine o.mono ?_;rintro e u ⟨rfl,rfl⟩)
  refine bodyPost_ret (v:=.tuple #[cx (kM d a).1,I K (kM d a).2]) (by rw[HR.out];simp[results,Tryz.results11,go_sem,cx,d7]) rfl ⟨rfl,?_⟩;exact q.out
 |true=>
  rw[h]at o;have Q:=gH h;have HK:Hid (aK a=Y):=h;clear h;have HG:=nC A 41 p d.f a _ Q.1 hk hN;have hle:=hI.len a.data.toList;clear hN;go_enter (Yq.nq Tryz.func11),Tryz.ntmps11;go_wp2_with (go_at_call 34;refine o.mono ?_;rintro e u ⟨rfl,rfl⟩)
  refine HG.mono ?_;generalize w.alloc (E #[I K 0,U ⟨#[]⟩,C Z] 62)=W0 at *;rintro e m ⟨hv,rfl,T,k⟩;have D:=ah k a0;have B:=ah k a1;have z:=ah k a2;have L:=(k.frozen (p:=⟨w.heap.size,0,N⟩) n).trans (F 0);have R:=(k.frozen (p:=⟨w.heap.size,1,N⟩) n).trans (F 1);have H:=(k.frozen (p:=⟨w.heap.size,2,N⟩) n).trans (F 2);have hb:Below w.heap.size w m:=q.out.trans (k.mono q.out.size);have i:w.heap.size<m.heap.size:=lL n k.size;have HB:Hid (Below w.heap.size w m):=hb;clear hb k a0 a1 a2 F n q o HG c0;by_cases b:d.f a.data.toList=[]
  .have HR:Hid (kM d a=(d7,5)):=show kM d a=(d7,5)by simp[kM,HK.out,b]
   have he:(d.f a.data.toList).isEmpty=true:=by rw[b];rfl
   clear T b;go_wp2;refine bodyPost_ret (v:=.tuple #[cx (kM d a).1,I K (kM d a).2]) (by rw[HR.out];simp[results,Tryz.results11,go_sem,cx,d7,D,B,z]) rfl ⟨rfl,?_⟩;exact((HB.out.setCell (lR _) _).setCell (lR _) _).setCell (lR _) _
  .have HN:Hid (∀t:Wj,Below m.heap.size m t->Calls Yq.prog 39 #[hv] t λe u=>e=.returned (cx ((d.f a.data.toList).getLast b))/\Below t.heap.size t u):=λt hq=>
    lU A hv _ t (T.on hq) b (by omega)
   have he:(d.f a.data.toList).isEmpty=false:=by simp[b]
   obtain⟨v,r⟩:∃v,v=(d.f a.data.toList).getLast b:=⟨_,rfl⟩;have y:(d.f a.data.toList).getLast?=J v:=by rw[r,List.getLast?_eq_some_getLast b]
   have HR:Hid (kM d a=if v.mark then(d7,5)else(v,0)):=show kM d a=_ by simp[kM,HK.out,y]
   rw[<-r]at HN;obtain⟨nm,bd,mk⟩:=v;obtain⟨ha,hc,rfl,-⟩:=T;clear b r y;have hfm:=pT nm bd;cases mk with
   |true=>
    go_wp2_with fail
    refine(HN.out m (bR _ _)).mono ?_;rintro e w2 ⟨rfl,c⟩;have G:=ah c D;have X:=ah c B;have P:=ah c z;have f0:=(c.frozen (p:=⟨w.heap.size,0,N⟩) i).trans L;have f1:=(c.frozen (p:=⟨w.heap.size,1,N⟩) i).trans R;have f2:=(c.frozen (p:=⟨w.heap.size,2,N⟩) i).trans H;simp only[cx];go_wp2;refine bodyPost_ret (v:=.tuple #[cx (kM d a).1,I K (kM d a).2]) (by rw[HR.out];simp[results,Tryz.results11,go_sem,cx,d7,G,X,P]) rfl ⟨rfl,?_⟩;exact(((HB.out.trans (c.mono HB.out.size)).setCell (lR _) _).setCell (lR _) _).setCell (lR _) _
   |false=>
    go_wp2_with fail
    refine(HN.out m (bR _ _)).mono ?_;rintro e w2 ⟨rfl,c⟩;simp only[cx];go_wp2_with fail
    refine(HN.out w2 c).mono ?_;rintro e w3 ⟨rfl,x⟩;have l:Below m.heap.size m w3:=c.trans (x.mono c.size);have G:=ah l D;have X:=ah l B;have P:=ah l z;have f0:=(l.frozen (p:=⟨w.heap.size,0,N⟩) i).trans L;have f1:=(l.frozen (p:=⟨w.heap.size,1,N⟩) i).trans R;have f2:=(l.frozen (p:=⟨w.heap.size,2,N⟩) i).trans H;have V:Hid (Below m.heap.size m w3):=l;clear c x l D B z L R H;simp only[cx];go_wp2;refine bodyPost_ret (v:=.tuple #[cx (kM d a).1,I K (kM d a).2]) (by rw[HR.out];simp[results,Tryz.results11,go_sem,cx,G,X,P]) rfl ⟨rfl,?_⟩;exact(((HB.out.trans (V.out.mono HB.out.size)).setCell (lR _) _).setCell (lR _) _).setCell (lR _) _
theorem cs{w:Wj}{o:Wu}{v u:Wx}(h:w.cell? o=J u):(w.setCell o v).cell? o=J v:=by first|exact World.cell?_setCell_same w o v h|exact World.cell?_setCell_same _ _ _ h
theorem co{w:Wj}{o q:Wu}{v u:Wx}(c:o≠q)(h:w.cell? q=J u):(w.setCell o v).cell? q=J u:=(cO w o q v c).trans h
theorem fs{w:Wj}{o q:Wu}{v:Wx}(h:w.frozen? q=Z):(w.setCell o v).frozen? q=false:=by simpa using h
structure aW (w:Wj)(b:Nat)(x y z:Wx):Prop where
 c0:w.cell? ⟨b,0,N⟩=J x
 c1:w.cell? ⟨b,1,N⟩=J y
 c2:w.cell? ⟨b,2,N⟩=J z
 fz:∀j,w.frozen? ⟨b,j,N⟩=Z
theorem aW.on{w w':Wj}{x y z:Wx}(h:aW w b x y z)(a:Below w.heap.size w w'):aW w' b x y z:=
 ⟨ah a h.c0,ah a h.c1,ah a h.c2,λj=>(a.frozen (p:=⟨b,j,N⟩) (show b<w.heap.size from bC w ⟨b,0,N⟩ h.c0)).trans (h.fz j)⟩
theorem aW.lt{w:Wj}{x y v:Wx}(h:aW w b x y v):b<w.heap.size:=bC w ⟨b,0,N⟩ h.c0
theorem aW.set0{w:Wj}{x y z:Wx}(h:aW w b x y z)(v:Wx):aW (w.setCell ⟨b,0,N⟩ v) b v y z:=
 ⟨cs h.c0,co (by simp) h.c1,co (by simp) h.c2,λj=>fs (h.fz j)⟩
theorem aW.set1{w:Wj}{x y z:Wx}(h:aW w b x y z)(v:Wx):aW (w.setCell ⟨b,1,N⟩ v) b x v z:=
 ⟨co (by simp) h.c0,cs h.c1,co (by simp) h.c2,λj=>fs (h.fz j)⟩
theorem aW.set2{w:Wj}{x y z:Wx}(h:aW w b x y z)(v:Wx):aW (w.setCell ⟨b,2,N⟩ v) b x y v:=
 ⟨co (by simp) h.c0,co (by simp) h.c1,cs h.c2,λj=>fs (h.fz j)⟩
theorem aW.far{w:Wj}{x y z:Wx}(h:aW w b x y z)(c o:Nat)(v:Wx)(a:c≠b):aW (w.setCell ⟨c,o,N⟩ v) b x y z:=
 ⟨co (λe=>a (congrArg Addr.block e)) h.c0,co (λe=>a (congrArg Addr.block e)) h.c1,co (λe=>a (congrArg Addr.block e)) h.c2,λj=>fs (h.fz j)⟩
theorem gJ(w:Wj)(x y z:Wx)(T:Ww):aW (w.alloc (E #[x,y,z] T)) w.heap.size x y z:=
 ⟨by rw[cA (w:=w) _ _ w.heap.size 0 rfl];rfl,by rw[cA (w:=w) _ _ w.heap.size 1 rfl];rfl,by rw[cA (w:=w) _ _ w.heap.size 2 rfl];rfl,λj=>World.frozen?_alloc_at (w:=w) _ _ w.heap.size j rfl⟩
theorem aG.cells{A:Nat->Prop}{w:Wj}{b:Nat}{a:St}(S:aG A w b a):∃p,aW w b (O p) (I K a.count) (I K a.last)/\am A 41 w p a.f:=by
 have⟨p,c,d⟩:=S.tree;exact⟨p,⟨c,S.count,S.last,S.frozen⟩,d⟩
theorem gK{w:Wj}{n:Nat}{st:St}{p:Option Wu}(h:aW w n (O p) (I K st.count) (I K st.last))(c:am A 41 w p st.f)(d:∀b,A b->b≠n):aG A w n st:=
 ⟨d,⟨p,h.c0,c⟩,h.c1,h.c2,h.fz⟩
structure cX (w w':Wj)(k0:Nat):Prop where
 g:w.grownBy w' (J k0)
 lt:k0<w.heap.size
 t:∀j,3<=j->w'.cell? ⟨k0,j,N⟩=w.cell? ⟨k0,j,N⟩
theorem eB{w:Wj}(c:k0<w.heap.size)(d:Below w.heap.size w W0):cX w W0 k0:=
 ⟨aS d _,c,λj _=>cB (w:=w) (w':=W0) (a:=⟨k0,j,N⟩) (d.block k0 c)⟩
theorem GU{w:Wj}(a:k0<w.heap.size):cX w w k0:=eB a (bR _ _)
theorem rb{a c:Wj}(h:cX a W0 k0)(e:cX W0 c k0):cX a c k0:=⟨cw h.g e.g,h.lt,λj d=>(e.t j d).trans (h.t j d)⟩
theorem fR{w a:Wj}(h:cX w a k0)(c:Below a.heap.size a W0):cX w W0 k0:=rb h (eB (by have:=h.g.size;have:=h.lt;omega) c)
theorem En{w a:Wj}(h:cX w a k0)(o:Obj):cX w (a.alloc o) k0:=fR h ((bR _ _).alloc (lR _) _)
theorem pU{w a:Wj}(h:cX w a k0)(o:Nat)(v:Wx)(ho:o<3:=by decide):cX w (a.setCell ⟨k0,o,N⟩ v) k0:=
 ⟨dC h.g _ _,h.lt,λj b=>(cO a ⟨k0,o,N⟩ ⟨k0,j,N⟩ v (λe=>by have:=congrArg Addr.off e;simp at this;omega)).trans (h.t j b)⟩
theorem tF{w a:Wj}(h:cX w a k0)(f:w.heap.size<=b)(o:Nat)(v:Wx):cX w (a.setCell ⟨b,o,N⟩ v) k0:=
 ⟨ra h.g f _ _,h.lt,λj d=>(cO a ⟨b,o,N⟩ ⟨k0,j,N⟩ v (λe=>by have c:=congrArg Addr.block e;have h2:=h.lt;simp at c;omega)).trans (h.t j d)⟩
theorem oC{w e:Wj}{c:Nat}{p:Option Wu}{F:List UInt8->List Ver}(hw3:w.heap.size<=W0.heap.size)(j:∀b,A b->b≠c)(hk:c<w.heap.size)(h:am (Grow (λb=>(A b/\b<w.heap.size)\/w.heap.size<=b) W0) 41 e p F)(o:Nat)(v:Wx):
  am (Grow A w) 41 (e.setCell ⟨c,o,N⟩ v) p F:=by
 refine am.keep (λb k _=>?_) 41 p F h;rcases k with⟨⟨i,d⟩|a,_⟩|a
 .exact ⟨Or.inl ⟨i,d⟩,bS _ _ _ _ (j b i)⟩
 .exact ⟨Or.inr a,bS _ _ _ _ (by show b≠c;omega)⟩
 .exact ⟨Or.inr (by omega),bS _ _ _ _ (by show b≠c;omega)⟩
theorem gN{w:Wj}{n:Nat}(c:∀b,A b->b≠n)(hk:n<w.heap.size):∀b,Grow A w b->b≠n:=by
 rintro b (⟨h,_⟩|h)
 .exact c b h
 .omega
theorem xE(A:Nat->Prop)(h:Nat)(c:St)(s:Nat)(d:ByteArray)(aa:Int)(m:ByteArray)(l:Bool)(w:Wj)(hk:d.size<41)(S:aG A w h c)(P:Inv c s)(hs:s<2199023255340)(hlx:¬c.last=9223372036854775807):
  Calls Yq.prog 36 #[O (J ⟨h,0,N⟩),U d,.agg #[I K aa,U m,C l]] w λe u=>e=.returned (I K (c.last+1))/\aG (Grow A w) u h (cJ c d m l)/\cX w u h:=by
 have⟨p,a,H⟩:=S.cells;have c0:=a.c0;have c1:=a.c1;have c2:=a.c2;have f0:=a.fz 0;have f1:=a.fz 1;have f2:=a.fz 2;have D:=S.lt;have l0:=P.last0;have l1:=P.lastS;have l2:=P.countL;have l3:=P.countU;have hle:=P.len d.data.toList;have hne:¬w.heap.size=h:=by omega
 have hne':¬h=w.heap.size:=by omega
 obtain⟨W1,n⟩:∃W1,W1=((w.setCell ⟨h,2,N⟩ (I K (c.last+1))).setCell ⟨h,1,N⟩ (I K (c.count+1))).alloc (E #[I K (c.last+1),U m,C l] 62):=⟨_,rfl⟩;have R:cX w ((w.setCell ⟨h,2,N⟩ (I K (c.last+1))).setCell ⟨h,1,N⟩ (I K (c.count+1))) h:=pU (pU (GU D) _ _) _ _;have L:((w.setCell ⟨h,2,N⟩ (I K (c.last+1))).setCell ⟨h,1,N⟩ (I K (c.count+1))).heap.size=w.heap.size:=by simp[World.setCell]
 have j:cX w W1 h:=by rw[n];exact En R _
 have C1:aW W1 h (O p) (I K (c.count+1)) (I K (c.last+1)):=by
  rw[n];exact((a.set2 _).set1 _).on ((bR _ _).alloc (lR _) _)
 have X1:aW W1 w.heap.size (I K (c.last+1)) (U m) (C l):=by
  rw[n,<-L];exact gJ _ _ _ _ _
 have Q:am A 41 W1 p c.f:=am.keep (GT j.g S.avoid) 41 p c.f H;have HG:=nC A 41 p c.f d W1 hk (by simp only[maxLen];omega) Q;have HS:Hid (aG A w h c/\am A 41 w p c.f/\cX w W1 h/\aW W1 h (O p) (I K (c.count+1)) (I K (c.last+1))/\aW W1 w.heap.size (I K (c.last+1)) (U m) (C l)):=⟨S,H,j,C1,X1⟩;have V:Hid (W1=((w.setCell ⟨h,2,N⟩ (I K (c.last+1))).setCell ⟨h,1,N⟩ (I K (c.count+1))).alloc (E #[I K (c.last+1),U m,C l] 62)):=n;clear H S a R L j C1 X1 Q n;go_enter (Yq.nq Tryz.func36),Tryz.ntmps36;go_wp2_with fail
 rw[<-V.out];refine HG.mono ?_;rintro e k ⟨hv,rfl,T,y⟩;obtain⟨ha,hc,rfl,-⟩:=id T;have⟨S,H,j,C1,X1⟩:=HS.out;have C2:=C1.on y;have X2:=X1.on y;have x:cX w k h:=fR j y;have a0:=C2.c0;have q0:=X2.c0;have q1:=X2.c1;have q2:=X2.c2;have HW:Hid (Calls Yq.prog 64 #[M ha (c.f d.data.toList).length hc,.agg #[I K (c.last+1),U m,C l]] k.drew λe u=>∃o r t,e=.returned (M o r t)/\bm (λb=>k.heap.size<=b) u (M o r t) (c.f d.data.toList++[⟨c.last+1,m,l⟩])/\Below k.heap.size k u):=by
  refine(BF A _ _ (c.last+1) m l k.drew (bZ.keep T (λb F G=>⟨F,rfl⟩)) (by omega)).mono ?_;rintro e u ⟨o,r,t,F,G,h3⟩;exact⟨o,r,t,F,G,(bR _ k).drew.trans h3⟩
 have HT:Hid (∀ (v:Wj) (o:Option Wu) (r t:Nat),Below k.heap.size k v->bm (λb=>k.heap.size<=b) v (M o r t) (c.f d.data.toList++[⟨c.last+1,m,l⟩]) ->
   Calls Yq.prog 42 #[.agg #[O p],U d,M o r t] v λe u=>∃q,e=.returned (.agg #[O q])/\Below v.heap.size v u/\am (Grow (λb=>(A b/\b<w.heap.size)\/w.heap.size<=b) v) 41 u q (upd c.f d.data.toList (c.f d.data.toList++[⟨c.last+1,m,l⟩]))):=λv o r t i B=>by
  refine tB _ 41 p c.f d _ _ v (am.keep (λb F G=>⟨Or.inl ⟨F,G⟩,(fR x i).g.block b G (by intro e;cases e;exact S.avoid h F rfl)⟩) 41 p c.f H) hk (by omega) (bZ.keep B (λb F G=>⟨Or.inr ?_,rfl⟩)) (by simp);have:=x.g.size;omega
 have HC:Hid (aW k h (O p) (I K (c.count+1)) (I K (c.last+1))/\aW k w.heap.size (I K (c.last+1)) (U m) (C l)/\cX w k h):=⟨C2,X2,x⟩;clear S H j C1 X1 C2 X2 x T y HG;go_wp2_with fail
 go_region_with (first
  |(go_at_call 64;refine HW.out.mono ?_;rintro e v ⟨o,r,t,rfl,B,i⟩;have b0:=ah i a0)
  |(go_at_call 42;refine(HT.out _ o r t i B).mono ?_;rintro e w4 ⟨q,rfl,z,X⟩;have d0:=ah z b0;have D4:=(HC.out.2.1.on i).on z;have E4:=(HC.out.1.on i).on z;have r0:=D4.c0;have r1:=E4.c0;have r2:=E4.fz 0))
 all_goals
  go_wp2;go_ret;refine⟨rfl,?_,?_⟩
  .refine gK (p:=q) ?_ ?_ (gN HS.out.1.avoid D)
   .exact E4.set0 _
   .exact oC (by have:=HC.out.2.2.g.size;have:=i.size;omega) HS.out.1.avoid D X _ _
  .exact pU (fR (fR HC.out.2.2 i) z) _ _
end
section
open Go.Conc Go.ConcX Go.ConcX.Gen Go.RowKit
structure ItD where
 kind:Int
 text:ByteArray
 ver:Int
def itVal(i:ItD):Wx:=.agg #[I K i.kind,U i.text,I K i.ver]
def an(l:List ItD):List Wx:=l.flatMap λi=>[I K i.kind,U i.text,I K i.ver]
theorem eC(l:List ItD):(an l).length=l.length*3:=by
 induction l with
 |nil=>rfl
 |cons i l ih=>simp[an]at ih ⊢;omega
theorem mM(l:List ItD)(i:ItD):an (l++[i])=an l++[I K i.kind,U i.text,I K i.ver]:=by simp[an]
theorem Yq.infoItem:(Yq.prog.info? 117).map (λi=>(i.zero,i.size,i.bytes))=J (J (.agg #[I K 0,U ⟨#[]⟩,I K 0]),3,32):=by kernel_rfl
def dl(n:Nat)(l:Lst)(a:Int)(c:Nat)(b:Int)(u:Nat->Wx):Array Wx:=
 #[lV l,I K a,ptr n,Wo,ptr (n+1),ptr (n+2),I K (IntKind.i64.wrap (a*l.size)),I K b,u 8,I K a,O (J ⟨n,6,N⟩),I K l.size,I K (IntKind.i64.wrap (a*l.size)),O (J ⟨n,2,N⟩),qV l.vs l.p l.d l.af,O (J ⟨n,1,N⟩),sV l.root,.chan (J c),u 18,u 19,u 20,u 21,u 22,u 23,u 24,u 25,u 26,u 27,u 28,u 29,u 30,u 31,u 32,u 33,u 34,u 35,u 36,u 37,u 38,u 39,Wo,Wo,Wo,Wo,Wo,Wo,Wo,Wo,Wo]
theorem jD{P:Wv}{b:Wy}{a0:Act}{k:List Item}{cs:List Wy}{w:Wj}{f:Bool}{ops:Array Oper}{i:Nat}{e:List Nat}{o:Oper}{cases:Array CommCase}{c:Bool}{d:CommShape}(m:ops[i]?=J o)(l:Region.wanted o (yielded ops a0.tmps)=Y)
  (n:(execOp a0.eval o).run P w=.ok (.comm cases c d) W0):
  ∃p,stepG P f (G (b.at a0 (.inRegion ops (i::e)::k)) cs) w=.comm (G (b.at a0 (.inRegion ops (i::e)::k)) cs) cases c d W0 p:=by
 rw[stepG_oper m l];simp only[stepG.apply,G,Frame.at,GStep.after,if_true];have j:((execOp a0.eval o).runT P w #[]).1=.ok (.comm cases c d) W0:=by rw[Sem.runT_eq];exact n
 generalize(execOp a0.eval o).runT P w #[]=x at j;obtain⟨x1,x2⟩:=x;subst j;exact⟨_,rfl⟩
theorem GV{a:Act}{w:Wj}{c k s q:Nat}{v:Wx}{rest:List Wx}(h17:a.eval (.tmp 17)=.chan (J c))(hsz:a.tmps.size=49)(hrow:w.heap[c]?=J (.chan k (v::rest).toArray Y s q Z))
  (h:Q .normal ((a.put (J 18) (.tuple #[v,.bool Y])).put (J 19) (.bool Y)) (w.setChan c k rest.toArray Y s (q+1) Z)):(Code.region 5 eT Z).wp Yq.prog Q a w:=by
 intro b kk cs;refine⟨.normal,_,_,h,?_⟩;refine Steps.head step_region ?_;have hr:List.range eT.size=[0,1]:=rfl;rw[hr];obtain⟨es,hcomm⟩:∃es,stepG Yq.prog Y (G (b.at a (.inRegion eT [0,1]::kk)) cs) w=.comm (G (b.at a (.inRegion eT [0,1]::kk)) cs) #[rcase c (.agg #[.int .i64 0,.string ⟨#[]⟩,.int .i64 0])] Y (.recv Y) w es:=by
  refine jD (o := { dst := J 18, op := .recv 151 (.tmp 17) Y, type := 0, pos := "listing.go:108", after := #[], guard := N }) rfl rfl ?_
  have e : execOp a.eval { dst := J 18, op := .recv 151 (.tmp 17) Y, type := 0, pos := "listing.go:108", after := #[], guard := N } = (do
   let .chan _ elem ← underlying 151 | stuck "receive: channel type expected"
   pure (.comm #[{chan:=a.eval (.tmp 17),send:=N,zero:=<-zeroValue elem}] Y (.recv Y))):=rfl
  rw[e,h17];simp[go_sem,rcase]
 have st1:=step_lone_recv_buf Y hcomm hrow (by simp);have e1:(v::rest).toArray.extract 1 (v::rest).toArray.size=rest.toArray:=by simp
 have e2:(v::rest).toArray.getD 0 Wo=v:=rfl;rw[e1,e2,Frame.finish_at]at st1;refine Steps.head st1 ?_;have hput:(a.put ((eT[0]?).bind (·.dst)) (got Y v Y))=a.put (J 18) (.tuple #[v,.bool Y]):=rfl;rw[hput];have h18:(a.put (J 18) (.tuple #[v,.bool Y])).eval (.tmp 18)=.tuple #[v,.bool Y]:=by
  simp[Act.put,Act.eval,hsz]
 have st2 := vC (P := Yq.prog) (ops := eT) (a := a.put (J 18) (.tuple #[v, .bool Y])) (i := 1) (rest := []) (b := b) (k := kk) (cs := cs) (w := w.setChan c k rest.toArray Y s (q + 1) Z) (w' := w.setChan c k rest.toArray Y s (q + 1) Z) (v := .bool Y) (o := { dst := J 19, op := .extract (.tmp 18) 1, type := 4, pos := "listing.go:108", after := #[{ on := 0, ground := .data }], guard := N }) rfl rfl (by
  have e : execOp (a.put (J 18) (.tuple #[v, .bool Y])).eval { dst := J 19, op := .extract (.tmp 18) 1, type := 4, pos := "listing.go:108", after := #[{ on := 0, ground := .data }], guard := N } = (do let v ← Instr.extract ((a.put (J 18) (.tuple #[v, .bool Y])).eval (.tmp 18)) 1; pure (.value v)) := rfl
  rw[e,h18];rfl)
 exact Steps.head st2 (.one step_region_end)
structure PgI (w0 w:Wj)(n c:Nat)(items:List ItD)(rest:List Wx):Prop where
 os:w.os=w0.os
 size:w0.heap.size<=w.heap.size
 block:∀b,b<w0.heap.size->b≠c->b≠n+2->w.heap[b]?=w0.heap[b]?
 ch:∃k s q,w.heap[c]?=J (.chan k rest.toArray Y s q Z)
 row:∃sv,w.cell? ⟨n+2,0,N⟩=J sv/\w.ownsRow w0.heap.size 117 3 sv items.length (an items)
 tok:w.cell? ⟨n+2,1,N⟩=J (U ⟨#[]⟩)
 fz:∀j,w.frozen? ⟨n+2,j,N⟩=Z
def iC(l:Lst)(a k:Int):Bool:=decide (IntKind.i64.wrap (IntKind.i64.wrap (a*l.size)-l.size)<k)&&decide (k<=IntKind.i64.wrap (a*l.size))
theorem PgI.setChan{w:Wj}{n c k s q:Nat}{f:List ItD}{v:Wx}{rest:List Wx}(d:PgI W0 w n c f (v::rest))(A:c<W0.heap.size)(hn:n+2<c):PgI W0 (w.setChan c k rest.toArray Y s q Z) n c f rest:=by
 have u:c<w.heap.size:=lL A d.size;have e:∀b,b≠c->(w.setChan c k rest.toArray Y s q Z).heap[b]?=w.heap[b]?:=λb m=>aP _ _ _ _ _ _ _ _ m
 have i:∀b j,b≠c->(w.setChan c k rest.toArray Y s q Z).cell? ⟨b,j,N⟩=w.cell? ⟨b,j,N⟩:=λb j m=>cB (a:=⟨b,j,N⟩) (e b m)
 refine⟨d.os,by rw[size_setChan];exact d.size,λb p l y=>(e b l).trans (d.block b p l y),⟨_,_,_,heap_setChan _ _ _ _ _ _ _ _ u⟩,?_,(i _ _ (by omega)).trans d.tok,λj=>(fB (a:=⟨n+2,j,N⟩) (e _ (by simp;omega))).trans (d.fz j)⟩;have⟨x,p,l⟩:=d.row;refine⟨x,(i _ _ (by omega)).trans p,l.1,?_⟩;rcases l.2 with h|⟨g,r,o,rfl,m,z,rest⟩
 .exact .inl h
 .exact .inr ⟨g,r,o,rfl,m,(e g (by omega)).trans z,rest⟩
theorem PgI.alloc{w:Wj}{n c:Nat}{f:List ItD}{rest:List Wx}(d:PgI W0 w n c f rest)(u:c<W0.heap.size)(hn:n+2<c)(o:Obj):PgI W0 (w.alloc o) n c f rest:=by
 have e:∀b,b<W0.heap.size->(w.alloc o).heap[b]?=w.heap[b]?:=λb t=>bA w o b (lL t d.size)
 have⟨k,s,q,h⟩:=d.ch;have⟨p,i,m⟩:=d.row;refine⟨d.os,lT d.size (by simp),λb i m r=>(e b i).trans (d.block b i m r),⟨k,s,q,(e c u).trans h⟩,⟨p,(cB (a:=⟨n+2,0,N⟩) (e _ (by simp;omega))).trans i,m.alloc o⟩,(cB (a:=⟨n+2,1,N⟩) (e _ (by simp;omega))).trans d.tok,λj=>(fB (a:=⟨n+2,j,N⟩) (e _ (by simp;omega))).trans (d.fz j)⟩
theorem PgI.app{w o:Wj}{n c:Nat}{f:List ItD}{rest:List Wx}{i:ItD}{H r:Wx}(d:PgI W0 w n c f rest)(P:c<W0.heap.size)(hn:n+2<c)(u:w.grownBy o H.ownBlock)(A:∀k,H.ownBlock=J k->W0.heap.size<=k)(F:o.ownsRow W0.heap.size 117 3 r (f.length+1) (an f++[I K i.kind,U i.text,I K i.ver])):PgI W0 (o.setCell ⟨n+2,0,N⟩ r) n c (f++[i]) rest:=by
 have l:∀b,b<W0.heap.size->o.heap[b]?=w.heap[b]?:=λb h=>u.block b (lL h d.size) (λe=>by have:=A b e.symm;omega)
 have m:∀b,b≠n+2->(o.setCell ⟨n+2,0,N⟩ r).heap[b]?=o.heap[b]?:=λb h=>bS _ _ _ _ h
 have⟨k,s,q,h⟩:=d.ch;have⟨z,v,G⟩:=d.row;have y:o.cell? ⟨n+2,0,N⟩=J z:=(cB (a:=⟨n+2,0,N⟩) (l _ (by simp;omega))).trans v;have D:(o.setCell ⟨n+2,0,N⟩ r).heap.size=o.heap.size:=by simp
 refine⟨((bR 0 o).setCell (p:=⟨n+2,0,N⟩) (Nat.zero_le _) r).os.trans (u.os.trans d.os),by rw[D];exact lT d.size u.size,λb v G L=>(m b L).trans ((l b v).trans (d.block b v G L)),⟨k,s,q,(m c (by omega)).trans ((l c P).trans h)⟩,⟨r,cs y,?_⟩,co (by simp) ((cB (a:=⟨n+2,1,N⟩) (l _ (by simp;omega))).trans d.tok),λj=>fs ((fB (a:=⟨n+2,j,N⟩) (l _ (by simp;omega))).trans (d.fz j))⟩;rw[mM,lP,lS];refine⟨F.1,?_⟩;rcases F.2 with h|⟨g,B,x,rfl,A,u,rest⟩
 .exact .inl h
 .exact .inr ⟨g,B,x,rfl,A,(m g (by omega)).trans u,rest⟩
theorem lW(w:Wj)(a c b:Wx)(T:Ww):∀j u,[a,c,b][j]?=J u->(w.alloc (E #[a,c,b] T)).cell? ((⟨w.heap.size,0,N⟩:Wu).add j)=J u:=by
 intro j u d;rw[Addr.add_lit,cA (w:=w) _ _ w.heap.size _ rfl];simpa using d
theorem lX(n:Int):IntKind.i64.wrap n=wrap64 n:=by unfold wrap64;exact IntKind.wrap_i64 n
def GW(l:Lst)(f:Int)(n c d:Nat)(i:ItD)(rest:List Wx)(b:List ItD)(w0:Wj)(e:Exit)(a:Act)(w':Wj):Prop:=
 e=.normal/\a=⟨dl n l f c ((d:Int)+1) (λi=>a.tmps.getD i Wo),[]⟩/\PgI w0 w' n c (if iC l f ((d:Int)+1)then b++[i]else b) rest
theorem tG(l:Lst)(pn:Int)(n c G:Nat)(i:ItD)(j:List Wx)(f:List ItD)(u:Nat->Wx)(t w:Wj)(hn:n+2<c)(hc:c<t.heap.size)(F:t.cell? ⟨n,6,N⟩=J (I K l.size))(b:PgI t w n c f (itVal i::j))(hlen:f.length<=1000)(hcnt:G<=1000):
  cU.wp Yq.prog (GW l pn n c G i j f t) ⟨dl n l pn c G u,[]⟩ w:=by
 have⟨kc,A,qc,D⟩:=b.ch;show(Code.seq (.region 5 eT Z) (dh cU)).wp Yq.prog _ _ _;refine wp_seq (GV (c:=c) rfl rfl D ?_);have I1:=b.setChan (k:=kc) (s:=A) (q:=qc+1) hc hn;generalize w.setChan c kc j.toArray Y A (qc+1) Z=x at I1 ⊢;clear D b;have y:Hid (PgI t x n c f j):=I1;have⟨sv,ab,m⟩:=I1.row;have ar:=I1.fz 0;have B:x.cell? ⟨n,6,N⟩=J (I K l.size):=(cB (a:=⟨n,6,N⟩) (I1.block n (by omega) (by omega) (by omega))).trans F;clear I1;obtain⟨num,root,vs,p,d,af,V,left⟩:=l;obtain⟨r,o,z⟩:=i;simp only at B;have⟨i0,hi,aa,ac,ad⟩:=info_parts Yq.infoItem;obtain⟨P,Q,A,rfl⟩:∃P Q A,sv=M P Q A:=by
  rcases m.2 with⟨rfl,-⟩|⟨g,cap,cur,rfl,-⟩
  .exact ⟨_,_,_,rfl⟩
  .exact ⟨_,_,_,rfl⟩
 have L:Hid (∀k,(Value.slice P Q A).ownBlock=J k->t.heap.size<=k):=λk h=>(m.lt k h).1
 have hnl:n<x.heap.size:=lL (by omega) y.out.size;have hnl2:n+2<x.heap.size:=lL (by omega) y.out.size;obtain⟨O1,R⟩:∃O1,O1=Obj.cells #[I K r,U o,I K z] 117:=⟨_,rfl⟩;have v:Hid (O1=Obj.cells #[I K r,U o,I K z] 117):=R;have H:Hid (PgI t (x.alloc O1) n c f j):=y.out.alloc hc hn _;have X:Hid (PgI t ((x.alloc O1).alloc O1) n c f j):=H.out.alloc hc hn _;have kA:(x.alloc O1).cell? ⟨n,6,N⟩=J (I K V):=ah ((bR _ _).alloc (lR _) _) B;have kB:(x.alloc O1).cell? ⟨n+2,0,N⟩=J (M P Q A):=ah ((bR _ _).alloc (lR _) _) ab;have al:Hid (((x.alloc O1).alloc O1).ownsRow t.heap.size 117 3 (M P Q A) f.length (an f)):=(m.alloc _).alloc _;clear m;rw[R]at kA kB;show Code.wp Yq.prog (dh cU) _ _ _;unfold dl qV sV ptr lV aM itVal;simp only[Act.put];dsimp only[cU,cIn,bV,cf,Tryz.f44,iz,dh,oW,Option.getD];go_wp2_with (at_builtin;rw[<-v.out];refine wpList_append_own _ rfl _ _ 44 rfl t.heap.size 117 i0 _ 3 32 (Yq.u Tryz.underlying44) hi aa ac ad rfl (by decide) _ _ _ rfl al.out ⟨(x.alloc O1).heap.size,0,N⟩ 1 1 [I K r,U o,I K z] ?qa rfl ?qb ?qc ?qd ?qe ?qf ?_)
 case qc=>simp[Value.oneCell']
 case qd=>simp only[maxLen];omega
 case qe=>omega
 case qf=>have:=y.out.size;omega
 .intro v' w3 ho T _;rw[<-v.out]at T;obtain⟨g',S,rfl⟩:=ownsRow_succ ho;have hcel:w3.cell? ⟨n+2,0,N⟩=J (M P Q A):=by
   refine T.cell (ah ((bR _ _).alloc (lR _) _) (by rw[v.out];exact kB)) (λe=>?_);have:=L.out _ e.symm;simp at this;omega
  have hfr:w3.frozen? ⟨n+2,0,N⟩=false:=by
   rw[bG T ⟨n+2,0,N⟩ (by simp;omega) (λe=>by have:=L.out _ e.symm;simp at this;omega)];exact X.out.fz 0
  have ap:Hid (PgI t (w3.setCell ⟨n+2,0,N⟩ (M (J ⟨g',0,N⟩) (f.length+1) S)) n c (f++[⟨r,o,z⟩]) j):=X.out.app hc hn T L.out ho;clear ho T ar;go_wp2_with fail
  refine⟨rfl,by simp only[dl,lX];rfl,?_⟩;rw[if_pos (by simp only[iC,lX,bT,decide_eq_true_eq];exact⟨by assumption,by assumption⟩)];exact ap.out
 .refine ⟨rfl,by simp only[dl,lX];rfl,?_⟩;rw[if_neg (by simp only[iC,lX,bT,decide_eq_true_eq];rintro⟨h1,h2⟩;omega)];rw[<-v.out];exact H.out
 .refine ⟨rfl,by simp only[dl,lX];rfl,?_⟩;rw[if_neg (by simp only[iC,lX,bT,decide_eq_true_eq];rintro⟨h1,h2⟩;omega)];rw[<-v.out];exact H.out
def ep(l:Lst)(a:Int):Nat->List ItD->List ItD
 |_,[]=>[]
 |k,i::r=>(if iC l a ((k:Int)+1)then[i]else[])++ep l a (k+1) r
noncomputable def oD(a:Act):Wy:=(base 44).at a [.code cU,.inLoop cU,.inBlock 0,.code (dh cf)]
theorem Iq(n c:Nat)(l:Lst)(a:Int)(cs:List Wy)(w:Wj):Steps Yq.prog (lone (pF2 n l a c) cs w) (lone (oD ⟨dl n l a c 0 (λ_=>Wo),[]⟩) cs w):=
 .head step_region_end (.head (step_block (id:=0) (c:=.loop cU)) (.one step_loop))
theorem Ir(a:Act)(cs:List Wy)(w:Wj):Steps Yq.prog (lone (oD a) cs w) (lone (kC a [0,1]) cs w):=
 .head (step_seq (x:=.region 5 eT Z) (y:=dh cU)) (.one step_region)
theorem Eo(l:Lst)(m:Int)(n c:Nat)(p:Wj)(cs:List Wy)(y:n+2<c)(A:c<p.heap.size)(k:p.cell? ⟨n,6,N⟩=J (I K l.size)):
  ∀ (j:List ItD) (d:Nat) (f:List ItD) (u:Nat->Wx) (w:Wj),PgI p w n c f (j.map itVal)->f.length<=d->d+j.length<=1000 ->
   ∃t q,Steps Yq.prog (lone (oD ⟨dl n l m c d u,[]⟩) cs w) (lone (oD ⟨dl n l m c ((d+j.length:Nat):Int) t,[]⟩) cs q)/\PgI p q n c (f++ep l m d j) []:=by
 intro j;induction j with
 |nil=>exactλd f u w b _ _=>⟨u,w,by simpa using Steps.refl _ _,by simpa[ep]using b⟩
 |cons i r ih=>
  intro d f u w b hi x;have x:d+(r.length+1)<=1000:=x;obtain⟨e,a,v,⟨rfl,z,I1⟩,s⟩:=tG l m n c d i (r.map itVal) f u p w y A k b (by omega) (by omega) (base 44) [.inLoop cU,.inBlock 0,.code (dh cf)] cs;have s:Steps Yq.prog (lone (oD ⟨dl n l m c d u,[]⟩) cs w) (lone ((base 44).at a [.inLoop cU,.inBlock 0,.code (dh cf)]) cs v):=s;rw[z]at s;obtain⟨t,q,o,I'⟩:=ih (d+1) _ _ v I1 (by split<;>(try simp only[lP,lS])<;>omega) (by omega);refine⟨t,q,Steps.trans s (.head step_inLoop ?_),?_⟩
  .have e:(((d+1:Nat):Int))=(d:Int)+1:=rfl;rw[e]at o;have B:d+(i::r).length=d+1+r.length:=by simp;omega
   rw[B];exact o
  .rw [ep];by_cases h:iC l m ((d:Int)+1)=Y
   .rw [if_pos h]at I' ⊢;simpa using I'
   .rw [if_neg h]at I' ⊢;simpa using I'
theorem Ep(L:List Wx)(h:∀v∈L,∃ (a b:Int)(s:ByteArray),v=.agg #[I K a,U s,I K b]):∃c:List ItD,L=c.map itVal:=by
 induction L with
 |nil=>exact⟨[],rfl⟩
 |cons v L ih=>
  obtain⟨a,b,s,rfl⟩:=h v (by simp);obtain⟨c,rfl⟩:=ih (λv d=>h v (by simp[d]));exact⟨⟨a,s,b⟩::c,rfl⟩
theorem tH{w:Wj}{n c:Nat}{b:List ItD}(a:w.heap[n+2]?=J (E #[M N 0 0,U ⟨#[]⟩] 69))(d:∃k s q,w.heap[c]?=J (.chan k (b.map itVal).toArray Y s q Z)):PgI w w n c [] (b.map itVal):=
 ⟨rfl,lR _,λ_ _ _ _=>rfl,d,⟨_,by simp[World.cell?,a],World.ownsRow_nil _ _ _ _⟩,by simp[World.cell?,a],λj=>by simp[World.frozen?,a]⟩
theorem GX:xr:=by
 intro l f L n c w cs r b t m _ j e;obtain⟨d,rfl⟩:=Ep L r;have o:c<w.heap.size:=by
  obtain⟨k,s,q,h⟩:=e;exact(eS h).1
 have b:d.length<=1000:=by simpa using b
 have⟨u',i,p,a⟩:=Eo l f n c w cs t o (by simp[World.cell?,m,aM]) d 0 [] (λ_=>Wo) w (tH j e) (by simp) (by omega);exact⟨_,i,Steps.trans (Iq n c l f cs w) (Steps.trans p (Ir _ cs i)),rfl,a.ch⟩
structure Qy where
 vs:Bool
 p:ByteArray
 d:ByteArray
 af:ByteArray
def nd(h:List Ver):Ver:=h.getLast?.getD ⟨0,⟨#[]⟩,Z⟩
def iX(a key:ByteArray):Bool:=!Op.bytesLess key.toList a.toList && !decide (key.toList=a.toList)
def fZ(q:Qy)(k:List UInt8)(h:List Ver):Bool:=iX q.af ⟨k.toArray⟩&&(q.vs || !(nd h).mark)
def dx(d:List UInt8):List UInt8->Option Nat
 | []=>if d=[]then J 0 else N
 |b::r=>if d.isPrefixOf (b::r)then J 0 else(dx d r).map (·+1)
def aU(q:Qy)(k:List UInt8):Option (List UInt8):=if q.d.size=0 then N else(dx q.d.data.toList (k.drop q.p.size)).map λi=>k.take (q.p.size+i+q.d.size)
def eD(k:List UInt8)(v:Ver):ItD:=⟨if v.mark then 4 else 3,⟨k.toArray⟩,v.num⟩
def bj(a:Bool)(k:List UInt8)(h:List Ver):List ItD:=if a then h.reverse.map (eD k)else[⟨1,⟨k.toArray⟩,(nd h).num⟩]
def bM(q:Qy)(s:List ItD×List UInt8)(kh:List UInt8×List Ver):List ItD×List UInt8:=
 if fZ q kh.1 kh.2 then
  match aU q kh.1 with
  |none=>(s.1++bj q.vs kh.1 kh.2,s.2)
  |some c=>if c=s.2 then s else(s.1++[⟨2,⟨c.toArray⟩,0⟩],c)
 else s
def aE(q:Qy)(l:List (List UInt8×List Ver)):List ItD×List UInt8:=l.foldl (bM q) ([],[])
def bH(q:Qy)(l:List (List UInt8×List Ver)):List ItD:=(aE q l).1
theorem mN(q:Qy)(l:List (List UInt8×List Ver))(x:List UInt8×List Ver):aE q (l++[x])=bM q (aE q l) x:=by simp[aE]
theorem rd(q:Qy)(s:List ItD×List UInt8)(x:List UInt8×List Ver)(a:x.2≠[]):s.1.length<=(bM q s x).1.length/\(bM q s x).1.length<=s.1.length+x.2.length:=by
 have h1:0<x.2.length:=List.length_pos_iff.2 a;unfold bM;split
 .split
  .simp only[lP,bj];split<;>simp<;>omega
  .split<;>simp<;>omega
 .omega
def fH(l:List (List UInt8×List Ver)):Nat:=(l.map λx=>x.2.length).sum
theorem pV(q:Qy)(l:List (List UInt8×List Ver))(a:∀x∈l,x.2≠[]):∀s,s.1.length<=(l.foldl (bM q) s).1.length/\(l.foldl (bM q) s).1.length<=s.1.length+fH l:=by
 induction l with
 |nil=>intro s;simp[fH]
 |cons x r ih=>
  intro s;have h1:=rd q s x (a x (by simp));have b:=ih (λy c=>a y (by simp[c])) (bM q s x);simp only[List.foldl_cons,fH,List.map_cons,List.sum_cons]at b ⊢;omega
theorem rf(q:Qy)(l:List (List UInt8×List Ver))(a:∀x∈l,x.2≠[]):(bH q l).length<=fH l:=by
 have:=(pV q l a ([],[])).2;simpa[bH,aE]using this
theorem zt(q:Qy)(l a:List (List UInt8×List Ver))(b:∀x∈l,x.2≠[])(h:a <+:l):(aE q a).1.length<=(bH q l).length:=by
 obtain⟨r,rfl⟩:=h;unfold bH aE;rw[List.foldl_append];exact(pV q r (λx c=>b x (by simp[c])) _).1
theorem jo(n:Nat):∀ (f:List UInt8->List Ver)(c:List UInt8),∀x∈db n f c,x.2≠[]:=by
 induction n with
 |zero=>intro f c x a;simp[db]at a
 |succ n ih=>
  intro f c x a;simp only[db,List.mem_append,List.mem_flatMap]at a;rcases a with a|⟨b,-,a⟩
  .split at a
   .simp at a
   .simp at a;subst a;simp_all
  .exact ih _ _ x a
theorem jU(a b:List (List UInt8×List Ver)):fH (a++b)=fH a+fH b:=by simp[fH]
theorem tI{H:Type}(l:List H)(g:H->List (List UInt8×List Ver)):fH (l.flatMap g)=(l.map λa=>fH (g a)).sum:=by
 induction l with
 |nil=>rfl
 |cons a r ih=>simp[jU,ih]
def tot(n:Nat)(f:List UInt8->List Ver):Nat:=fH (db n f [])
theorem oE(n:Nat):∀ (f:List UInt8->List Ver)(a cs:List UInt8),fH (db n f a)=fH (db n f cs):=by
 induction n with
 |zero=>intro f a cs;rfl
 |succ n ih=>
  intro f a cs;simp only[db,jU,tI];refine congr (congrArg HAdd.hAdd ?_) (congrArg List.sum (List.map_congr_left λb _=>ih _ _ _));split<;>simp[fH]
theorem rh(n:Nat)(f:List UInt8->List Ver):tot (n+1) f=(f []).length+(Aw.map λb=>tot n (λk=>f (b::k))).sum:=by
 unfold tot;simp only[db,jU,tI];refine congr (congrArg HAdd.hAdd ?_) (congrArg List.sum (List.map_congr_left λb _=>oE _ _ _ _));split<;>simp_all[fH]
theorem Is(l:List UInt8)(g:UInt8->Nat)(b:UInt8)(h:b∈l):g b<=(l.map g).sum:=by
 induction l with
 |nil=>simp at h
 |cons a r ih=>
  rcases List.mem_cons.1 h with rfl|h
  .simp
  .have:=ih h;simp;omega
theorem GY(l:List UInt8)(g d:UInt8->Nat)(b:UInt8)(m:l.Nodup)(h:b∈l)(i:∀c,c≠b->d c=g c):(l.map d).sum+g b=(l.map g).sum+d b:=by
 induction l with
 |nil=>simp at h
 |cons a r ih=>
  have⟨f,k⟩:=List.nodup_cons.1 m;rcases List.mem_cons.1 h with rfl|h
  .have e:r.map d=r.map g:=List.map_congr_left λc j=>i c (λe=>f (e▸j))
   simp[e];omega
  .have:=ih k h;have e:=i a (λe=>f (e▸h));simp[e];omega
theorem zu:Aw.Nodup:=jS.imp (λh e=>by subst e;exact absurd h (by simp))
theorem BG(n:Nat):∀ (f:List UInt8->List Ver)(a:List UInt8)(h:List Ver),a.length<n->tot n (upd f a h)+(f a).length=tot n f+h.length:=by
 induction n with
 |zero=>intro f a h d;omega
 |succ n ih=>
  intro f a h d;rw[rh,rh];cases a with
  |nil=>
   have e:(Aw.map λb=>tot n λk=>upd f [] h (b::k))=Aw.map λb=>tot n λk=>f (b::k):=by simp[upd]
   rw[e];simp[upd];omega
  |cons c r=>
   have i:upd f (c::r) h []=f []:=by simp[upd]
   have l:(λk=>upd f (c::r) h (c::k))=upd (λk=>f (c::k)) r h:=by funext k;simp[upd]
   have e2:=ih (λk=>f (c::k)) r h (by simp at d;omega);have m:=GY Aw (λb=>tot n λk=>f (b::k)) (λb=>tot n λk=>upd f (c::r) h (b::k)) c zu (nz c) (λb j=>by simp[upd,j]);simp only[l]at m;rw[i];omega
theorem vQ(p:List UInt8):∀ (n:Nat)(f:List UInt8->List Ver),tot (n-p.length) (λk=>f (p++k))<=tot n f:=by
 induction p with
 |nil=>intro n f;exact lR _
 |cons b p ih=>
  intro n f;cases n with
  |zero=>simp[tot,db,fH]
  |succ n=>
   have h1:=ih n (λk=>f (b::k));have a:=Is Aw (λb=>tot n λk=>f (b::k)) b (nz b);have e:n+1-(b::p).length=n-p.length:=by simp
   rw[e,rh];simp only[List.cons_append]at a ⊢;omega
theorem GZ(n:Nat):tot n (λ_=>[])=0:=by rw[tot,ow _ _ _ (λ_=>rfl)];rfl
theorem xF{h:List Ver}(hne:h≠[]):nd h=h.getLast hne:=by simp[nd,List.getLast?_eq_some_getLast hne]
theorem BH(a:Int)(c:ByteArray)(b:Bool)(w:Wj):(Instr.field 62 (.agg #[I K a,U c,C b]) 0).run Yq.prog w=.ok (I K a) w:=by kernel_rfl
theorem Er(A:Nat->Prop)(q:Qy)(k:List UInt8)(l:Wx)(h:List Ver)(w:Wj)(n:bm A w l h)(c:h≠[])(x:h.length<=2199023255552):
  Calls Yq.prog 113 #[qV q.vs q.p q.d q.af,U ⟨k.toArray⟩,l] w λe u=>e=.returned (C (fZ q k h))/\Below w.heap.size w u:=by
 obtain⟨i,p,d,j⟩:=q;have HB:Hid (Below w.heap.size w (w.alloc (E #[C i,U p,U d,U j] 74))):=(bR _ _).alloc (lR _) _;have HN:=lU A l h _ (n.on HB.out) c x;have HW:Hid (∀b,b=fZ ⟨i,p,d,j⟩ k h↔b=(iX j ⟨k.toArray⟩&&(i || !(h.getLast c).mark))):=λb=>by rw[fZ,xF c]
 generalize fZ ⟨i,p,d,j⟩ k h=B at *;obtain⟨v,f⟩:∃v,h.getLast c=v:=⟨_,rfl⟩;rw[f]at HN HW;obtain⟨t,r,y⟩:=v;simp only[cx]at HN;unfold qV;clear f n;have hfm:=pT t r y;cases i
 .go_enter (Yq.nq Tryz.func113),Tryz.ntmps113;go_wp2_with (go_at_call 39;refine HN.mono ?_;clear HN;rintro e s ⟨rfl,o⟩)
  .go_ret;exact⟨by rw[(HW.out _).1 rfl];simp_all[iX],HB.out.trans (o.mono HB.out.size)⟩
  .go_ret;exact⟨by rw[(HW.out _).1 rfl];rename_i m;simp[iX];exactλa b=>absurd ⟨a,b⟩ m,HB.out⟩
 .go_enter (Yq.nq Tryz.func113),Tryz.ntmps113;go_wp2_with (go_at_call 39;refine HN.mono ?_;clear HN;rintro e s ⟨rfl,o⟩)
  .go_ret;exact⟨by rw[(HW.out _).1 rfl];simp_all[iX],HB.out⟩
  .go_ret;exact⟨by rw[(HW.out _).1 rfl];rename_i m;simp[iX];exactλa=>Classical.byContradiction λb=>m ⟨a,b⟩,HB.out⟩
theorem vR(d:Bool)(p c a:ByteArray)(w:Wj):
  Calls Yq.prog 114 #[qV d p ⟨#[]⟩ c,U a] w λe b=>e=.returned (.tuple #[U ⟨#[]⟩,C Z])/\Below w.heap.size w b:=by
 unfold qV;go_enter (Yq.nq Tryz.func114),Tryz.ntmps114;go_wp2_with fail
 go_ret2
 exact⟨rfl,(bR _ _).alloc (lR _) _⟩
theorem G0(a:Option Wu)(p:ByteArray)(w:Wj):
  Calls Yq.prog 76 #[sV a,U p] w λe b=>e=.returned (.func (.func 97) #[] #[ptr w.heap.size,ptr (w.heap.size+1)])/\b=(w.alloc (E #[O a] 33)).alloc (E #[U p] 9):=by
 unfold sV ptr;go_enter (Yq.nq Tryz.func76),Tryz.ntmps76;go_wp2_with fail
 go_ret;exact⟨rfl,rfl⟩
def oF(ops:Array Oper)(listed:Array Bool):Prop:=∀ (j:Nat)(o:Oper),ops[j]?=J o->listed.getD j Z=Y->∀e∈o.after,Region.binds .any e=Y->listed.getD e.on Z=Y
theorem xG{t:Array Bool}{i k:Nat}(h:t.getD k Z=Y):(t.setIfInBounds i Y).getD k Z=true:=by
 rw[gD,Array.getElem?_setIfInBounds];rw[gD]at h;split
 .split
  .rfl
  .simp_all
 .exact h
theorem oF.set{ops:Array Oper}{t:Array Bool}{i:Nat}(h:oF ops t)(l:i∈Region.ready .any ops t):oF ops (t.setIfInBounds i Y):=by
 intro j o c f e k d;by_cases b:j=i
 .subst b;exact xG (lI l c e k d)
 .have:t.getD j Z=true:=by
   rw[gD,Array.getElem?_setIfInBounds,if_neg (λe=>b e.symm)]at f;rw[gD];exact f
  exact xG (h j o c this e k d)
def Jl(ops:Array Oper)(j k:Nat):Bool:=((ops[j]?).map λo=>o.after.toList.any λe=>e.on==k&&Region.binds .any e).getD Z
theorem oF.dep{ops:Array Oper}{t:Array Bool}(h:oF ops t){j k:Nat}(b:Jl ops j k=Y)(f:t.getD j Z=Y):t.getD k Z=true:=by
 unfold Jl at b;cases c:ops[j]? with
 |none=>simp[c]at b
 |some o=>
  simp only[c,Option.map_some,Option.getD_some,List.any_eq_true,bT,beq_iff_eq]at b;obtain⟨e,i,rfl,d⟩:=b;exact h j o c f e (Array.mem_toList_iff.1 i) d
section
variable {P:Wv} {ops:Array Oper} {ro:Option Nat}
theorem fS{id n:Nat}{a0:Act}{w0:Wj}(L:P.follows .mixedOrders=Y)(c k:Nat)(f:Nat->Wx)(Wd:(Nat->Bool)->Wj->Prop)(z:c+k<=a0.tmps.size)
  (l:GJ ops c k=Y) (s:Bu ops=Y)
  (m:∀ (b:Array Bool) (a:Act) (w:Wj) (i:Nat) (o:Oper),i∈Region.ready .any ops b->ops[i]?=J o->Vals a0 c k f Wd ops.size b a w->(∀e∈o.after,Region.binds .any e=Y->b.getD e.on Z=Y)->oF ops b ->
   yX P ops ro i a w (λB A=>∃v,B=a.put o.dst v/\(i<k->v=f i)/\Wd (ed (λj=>b.getD j Z) i) A))
  (r:∀a w,a.tmps.size=a0.tmps.size->a.defers=a0.defers->(∀t,t<c->a.eval (.tmp t)=a0.eval (.tmp t))->(∀i,i<k->i<ops.size->a.eval (.tmp (c+i))=f i)->(∃d,(∀i,i<ops.size->d i=Y)/\Wd d w)->Q .normal a w)
  (H:Wd (λ_=>Z) {w0 with drawn:=w0.drawn+1}):(Code.region id ops Y).wpIn (wf ro) n P Q a0 w0:=by
 have u:∀i,(Array.replicate ops.size Z).getD i Z=false:=λi=>by
  rw[gD,Array.getElem?_replicate];split<;>rfl
 refine pL L (λb a w=>Vals a0 c k f Wd ops.size b a w/\oF ops b) (λb a w i V p=>?_) (λb a w V G=>?_) ⟨⟨rfl,rfl,λ_ _=>rfl,λi _ h=>?_,by rw[show(λi=>(Array.replicate ops.size Z).getD i Z)=λ_=>Z from funext u];exact H,by simp⟩,λj o _ h=>?_⟩
 .have x:=(cR p).1;have q:=eG x;refine(m b a w i _ p q V.1 (lI p q) V.2).mono ?_;rintro B A ⟨v,rfl,R,F⟩;exact⟨V.1.step p q (xy l i _ q).1 (xy l i _ q).2 z R F,V.2.set p⟩
 .have D:=xx s V.1.len G;exact r a w V.1.size V.1.defers V.1.old (λi p y=>V.1.new i p (D i y)) ⟨_,D,V.1.world⟩
 .rw [u i]at h;cases h
 .rw [u j]at h;cases h
end
def It:Code->Code
 | .cond _ a _=>a
 |c=>c
noncomputable def Iu:Array Oper:=oW (iz (It (dh (iz (dh (bV Tryz.f115))))))
structure WdS (W1:Wj)(c:Nat)(buf:List Wx)(it:Wx)(d:Nat->Bool)(w:Wj):Prop where
 below:d 6=Z->Below W1.heap.size W1 w
 done:d 6=Y->∃w1,Below W1.heap.size W1 w1/\w=w1.setChan c 1000 (buf++[it]).toArray Z (buf.length+1) 0 Z
section
variable {W1:Wj} {c:Nat} {buf:List Wx} {it:Wx} {d:Nat->Bool} {w:Wj}
theorem WdS.other(h:WdS W1 c buf it d w){i:Nat}(a:6≠i):WdS W1 c buf it (ed d i) w:=⟨λe=>h.below (by rwa [dX a]at e),λe=>h.done (by rwa [dX a]at e)⟩
theorem WdS.more(h:WdS W1 c buf it d w)(a:d 6=Z){X:Wj}(b:Below w.heap.size w X):WdS W1 c buf it (ed d 3) X:=⟨λ_=>(h.below a).trans (b.mono (h.below a).size),λe=>by rw[dX (by omega),a]at e;cases e⟩
theorem WdS.sent(h:WdS W1 c buf it d w)(a:d 6=Z):WdS W1 c buf it (ed d 6) (w.setChan c 1000 (buf.toArray.push it) Z (buf.length+1) 0 Z):=⟨λe=>by simp[ed]at e,λ_=>⟨w,h.below a,by simp⟩⟩
end
theorem BI(A:Nat->Prop){id n:Nat}{D:Act}{W:Wj}{b5 b7 c:Nat}{u:Wx}{h:List Ver}{buf:List Wx}(hs:D.tmps.size=27)(e2:D.eval (.tmp 2)=u)(e5:D.eval (.tmp 5)=ptr b5)(e7:D.eval (.tmp 7)=ptr b7)
  (c5:W.cell? ⟨b5,0,N⟩=J (U m)) (c7:W.cell? ⟨b7,0,N⟩=J (.chan (J c))) (hh:bm A W u h) (l:h≠[]) (hl:h.length<=2199023255552) (hc:W.heap[c]?=J (.chan 1000 buf.toArray Z buf.length 0 Z)) (r:buf.length<1000)
  (H:∀a T,a.tmps.size=27->a.defers=D.defers->Below W.heap.size W T->Q .normal a (T.setChan c 1000 (buf++[itVal ⟨1,m,(h.getLast l).num⟩]).toArray Z (buf.length+1) 0 Z)):
  (Code.region id Iu Y).wpIn (wf N) n Yq.prog Q D W:=by
 obtain⟨W1,t⟩:∃W1:Wj,W1={W with drawn:=W.drawn+1}:=⟨_,rfl⟩;have x:Below W.heap.size W W1:=by rw[t];exact⟨rfl,rfl,rfl,lR _,λ_ _=>rfl⟩
 have P:W1.heap.size=W.heap.size:=by rw[t]
 have k5:W1.cell? ⟨b5,0,N⟩=J (U m):=ah x c5;have k7:W1.cell? ⟨b7,0,N⟩=J (.chan (J c)):=ah x c7;have aa:c<W1.heap.size:=by rw[P];exact(eS hc).1
 have hc:W1.heap[c]?=J (.chan 1000 buf.toArray Z buf.length 0 Z):=by rw[t];exact hc
 have hh:bm A W1 u h:=hh.on x;have r:buf.toArray.size<1000:=by simpa using r
 refine fS (ro:=N) (a0:=D) (w0:=W) mixed 13 6
   (λi=>match i with| 0=>.chan (J c)| 1=>U m| 2=>u| 3=>cx (h.getLast l)| 4=>I K (h.getLast l).num|_=>itVal ⟨1,m,(h.getLast l).num⟩)
   (WdS W1 c buf (itVal ⟨1,m,(h.getLast l).num⟩)) (by omega) (by rfl) (by rfl) (λb a w i o hi y V p s=>?_) (λa w h1 h2 h3 h4 h5=>?_) ⟨λ_=>by rw[<-t];exact bR _ _,λe=>by cases e⟩
 .have G:i<7:=(cR hi).1;have z:b.getD 6 Z=false:=by
   cases h:b.getD 6 Z with
   |false=>rfl
   |true=>
    exfalso;have l5:=s.dep (j:=6) (k:=5) (by rfl) h;have l0:=s.dep (j:=6) (k:=0) (by rfl) h;have l4:=s.dep (j:=5) (k:=4) (by rfl) l5;have l1:=s.dep (j:=5) (k:=1) (by rfl) l5;have l3:=s.dep (j:=4) (k:=3) (by rfl) l4;have l2:=s.dep (j:=3) (k:=2) (by rfl) l3;have L:=(cR hi).2;have S:∀j,j<7->b.getD j Z=true:=λj hj=>by
     rcases j with - | - | - | - | - | - | - |j;all_goals first|assumption|omega
    have h7:=S i G;have R:i<b.size:=by rw[V.len];exact G
    simp only[gD,eG R,Option.getD_some]at L h7;rw[L]at h7;cases h7
  have F:Below W1.heap.size W1 w:=V.world.below z;rcases i with - | - | - | - | - | - | - |i;all_goals first|omega|(have B:=y;dsimp only[Iu,It,bV,Tryz.f115,iz,dh,oW,Option.getD]at B;simp only[gA,gS,gZ,oI,Nat.reduceAdd,zA]at B;subst B)
  .have q:a.eval (.tmp 7)=ptr b7:=(V.old 7 (by omega)).trans e7;refine ao y rfl (λc h=>by cases h) (v:=.chan (J c)) (w':=w) (by generalize a.eval=ρ at q ⊢;simp[go_sem,q,ptr,ah F k7]) ⟨_,rfl,λ_=>rfl,V.world.other (by omega)⟩
  .have q:a.eval (.tmp 5)=ptr b5:=(V.old 5 (by omega)).trans e5;refine ao y rfl (λc h=>by cases h) (v:=U m) (w':=w) (by generalize a.eval=ρ at q ⊢;simp[go_sem,q,ptr,ah F k5]) ⟨_,rfl,λ_=>rfl,V.world.other (by omega)⟩
  .have q:a.eval (.tmp 2)=u:=(V.old 2 (by omega)).trans e2;refine ao y rfl (λc h=>by cases h) (v:=u) (w':=w) (by generalize a.eval=ρ at q ⊢;simp[go_sem,q]) ⟨_,rfl,λ_=>rfl,V.world.other (by omega)⟩
  .have q:a.eval (.tmp 15)=u:=V.new 2 (by omega) (p ⟨2,.data⟩ (by simp) rfl);refine iT (f:=39) (args:=#[u]) (w':=w) y rfl (λc h=>by cases h) (by have qf:=hfun a rfl 39;generalize a.eval=ρ at q qf ⊢;simp[go_sem,q,qf]) ((lU A u h w (hh.on F) l hl).mono ?_);rintro e X ⟨rfl,hX⟩;exact⟨_,rfl,_,rfl,λ_=>rfl,V.world.more z hX⟩
  .have q:a.eval (.tmp 16)=cx (h.getLast l):=V.new 3 (by omega) (p ⟨3,.data⟩ (by simp) rfl);refine ao y rfl (λc h=>by cases h) (v:=I K (h.getLast l).num) (w':=w) (by generalize a.eval=ρ at q ⊢;simp[go_sem,q,cx,BH]) ⟨_,rfl,λ_=>rfl,V.world.other (by omega)⟩
  .have q:a.eval (.tmp 14)=U m:=V.new 1 (by omega) (p ⟨1,.data⟩ (by simp) rfl);have q1:a.eval (.tmp 17)=I K (h.getLast l).num:=V.new 4 (by omega) (p ⟨4,.data⟩ (by simp) rfl);have q2:a.eval (.const (I K 1))=I K 1:=rfl;refine ao y rfl (λc h=>by cases h) (v:=itVal ⟨1,m,(h.getLast l).num⟩) (w':=w) (by generalize a.eval=ρ at q q1 q2 ⊢;simp[go_sem,q,q1,q2,itVal]) ⟨_,rfl,λ_=>rfl,V.world.other (by omega)⟩
  .have q:a.eval (.tmp 13)=.chan (J c):=V.new 0 (by omega) (p ⟨0,.data⟩ (by simp) rfl);have q1:a.eval (.tmp 18)=itVal ⟨1,m,(h.getLast l).num⟩:=V.new 5 (by omega) (p ⟨5,.data⟩ (by simp) rfl);refine ov y rfl rfl q ((F.block c aa).trans hc) r ?_;exact⟨_,rfl,λh=>absurd h (by omega),by rw[q1];exact V.world.sent z⟩
 .obtain ⟨d,hd,F⟩:=h5;obtain⟨T,hb,rfl⟩:=F.done (hd 6 (by decide));exact H a T (h1.trans hs) h2 (x.trans (by rw[P]at hb;exact hb))
end
section
open Go.RowKit
def dp(w:Wj)(b:Nat):Prop:=∃o:Obj,w.heap[b]?=J o/\o.isCells=Y
theorem dp.of_cell{w:Wj}{n:Nat}{v:Wx}(h:w.cell? ⟨b,n,N⟩=J v):dp w b:=by
 unfold World.cell? at h;cases a:w.heap[b]? with
 |none=>simp[a]at h
 |some o=>
  cases o with
  |cells c e z=>exact⟨_,a,rfl⟩
  |_=>simp[a]at h
theorem dp.lt{w:Wj}(h:dp w b):b<w.heap.size:=by
 obtain⟨o,h,-⟩:=h;exact(eS h).1
theorem bZ.inCells{w:Wj}{v:Wx}{n:Nat}(h:bZ A w v n xs):bZ (λb=>A b/\dp w b) w v n xs:=by
 obtain⟨a,e,j,d,o⟩:=h;refine⟨a,e,j,d,λc=>?_⟩;have⟨g,k,m,l,i⟩:=o c;have f:0<xs.length:=List.length_pos_iff.2 c;exact⟨g,k,⟨m,.of_cell ((i 0 f).trans (eL f))⟩,l,i⟩
theorem am.inCells{w:Wj}:∀ (n:Nat)(p:Option Wu)(f:List UInt8->List Ver),am A n w p f->am (λb=>A b/\dp w b) n w p f:=by
 intro n;induction n with
 |zero=>intro p f h;exact h
 |succ n ih=>
  intro p f h;rcases h with h|⟨g,m,t,r,j,u,i,v,k,o,d,s,e,a⟩
  .exact Or.inl h
  .exact Or.inr ⟨g,m,t,r,j,⟨u,.of_cell i⟩,i,v,k,bZ.inCells o,bZ.inCells d,s,λc q l=>ih q _ (e c q l),a⟩
theorem am.weak{w:Wj}(h:∀b,A b->A' b){n:Nat}{p:Option Wu}{f:List UInt8->List Ver}(a:am A n w p f):am A' n w p f:=am.keep (λb c _=>⟨h b c,rfl⟩) n p f a
def xH(w:Wj)(p:Option Wu)(f:List UInt8->List Ver):Prop:=am (dp w) 41 w p f
theorem xH.of{w:Wj}{p:Option Wu}{f:List UInt8->List Ver}(h:am A 41 w p f):xH w p f:=(am.inCells 41 p f h).weak λ_ h=>h.2
end
section
open Go.Conc Go.ConcX Go.ConcX.Gen Go.RowKit
def dn(w:Wj):Prop:=∃m,w.cell? ⟨0,0,N⟩=J (I K m)
theorem dn.on{w w':Wj}(h:dn w)(d:∀b,b<w.heap.size->w'.heap[b]?=w.heap[b]?):dn w':=by
 obtain⟨m,c⟩:=h;exact⟨m,(cB (a:=⟨0,0,N⟩) (d 0 (bC w _ c))).trans c⟩
def ig(q:Qy):Prop:=∀ (k:List UInt8)(w:Wj),dn w->k.length<=1000->q.p.data.toList <+:k->Calls Yq.prog 114 #[qV q.vs q.p q.d q.af,U ⟨k.toArray⟩] w λe a=>e=.returned (.tuple #[U ⟨((aU q k).getD []).toArray⟩,C (aU q k).isSome])/\Below w.heap.size w a
def ii(q:Qy):Prop:=∀ (A:Nat->Prop)(k:List UInt8)(f:Wx)(h:List Ver)(c:Nat)(buf:List Wx)(w:Wj),bm A w f h->h≠[]->h.length<=1000->w.heap[c]?=J (.chan 1000 buf.toArray Z buf.length 0 Z)->buf.length+(bj q.vs k h).length<=1000 ->
 Calls Yq.prog 115 #[qV q.vs q.p q.d q.af,U ⟨k.toArray⟩,f,.chan (J c)] w λe a=>e=.returned (.tuple #[])/\(∀b,b<w.heap.size->b≠c->a.heap[b]?=w.heap[b]?)/\w.heap.size<=a.heap.size/\a.os=w.os /\
  a.heap[c]?=J (.chan 1000 (buf++(bj q.vs k h).map itVal).toArray Z (buf.length+(bj q.vs k h).length) 0 Z)
structure ri (q:Qy)(w w6:Wj)(c:Nat)(pre:KVs)(W:Wj):Prop where
 os:W.os=w.os
 size:w6.heap.size<=W.heap.size
 block:∀b,b<w6.heap.size->b≠c->b≠w.heap.size+3->W.heap[b]?=w6.heap[b]?
 told:W.heap[w.heap.size+3]?=J (E #[U ⟨(aE q pre).2.toArray⟩] 9)
 ch:W.heap[c]?=J (.chan 1000 ((aE q pre).1.map itVal).toArray Z (aE q pre).1.length 0 Z)
theorem ma{w:Wj}{c k s n:Nat}{r:Array Wx}{j l:Bool}(h:c<w.heap.size):(w.setChan c k r j s n l).heap[c]?=J (.chan k r j s n l):=by
 unfold World.setChan;exact sS h
theorem jq{w:Wj}{c k s n i:Nat}{r:Array Wx}{l y:Bool}(h:i≠c):(w.setChan c k r l s n y).heap[i]?=w.heap[i]?:=by
 unfold World.setChan;exact sN (by omega)
theorem xI{w:Wj}{c k s n:Nat}{r:Array Wx}{j l:Bool}:(w.setChan c k r j s n l).heap.size=w.heap.size:=by simp[World.setChan]
theorem vS(q:Qy)(a:q.d=⟨#[]⟩):ig q:=by
 intro k w _ _ _;obtain⟨b,p,d,c⟩:=q;simp only at a;subst a;exact vR b p c ⟨k.toArray⟩ w
theorem tJ(q:Qy)(m:q.vs=Z):ii q:=by
 intro A k B h c buf w r j hl o i;obtain⟨vs,p,d,s⟩:=q;simp only at m;subst m;have v:c<w.heap.size:=(eS o).1;simp only[bj,Bool.false_eq_true,if_false,lS,List.map_cons,List.map_nil]at i ⊢;rw[xF j];obtain⟨W,l⟩:∃W,W=((w.alloc (E #[C Z,U p,U d,U s] 74)).alloc (E #[U ⟨k.toArray⟩] 9)).alloc (E #[.chan (J c)] 197):=⟨_,rfl⟩;have e:Below w.heap.size w W:=by rw[l];exact(((bR _ _).alloc (lR _) _).alloc (by simp) _).alloc (by simp;omega) _
 have HX:Hid (Below w.heap.size w W/\W.cell? ⟨w.heap.size+1,0,N⟩=J (U ⟨k.toArray⟩)/\W.cell? ⟨w.heap.size+2,0,N⟩=J (.chan (J c))/\bm A W B h/\W.heap[c]?=J (.chan 1000 buf.toArray Z buf.length 0 Z)):=by
  refine⟨e,?_,?_,r.on e,(e.block c v).trans o⟩
  .rw [l];refine ah ((bR _ _).alloc (lR _) _) ?_;have:=cA (w:=w.alloc (E #[C Z,U p,U d,U s] 74)) #[U ⟨k.toArray⟩] 9 (w.heap.size+1) 0 (by simp);rw[this];rfl
  .rw [l];have:=cA (w:=(w.alloc (E #[C Z,U p,U d,U s] 74)).alloc (E #[U ⟨k.toArray⟩] 9)) #[.chan (J c)] 197 (w.heap.size+2) 0 (by simp);rw[this];rfl
 have HW:Hid (W=((w.alloc (E #[C Z,U p,U d,U s] 74)).alloc (E #[U ⟨k.toArray⟩] 9)).alloc (E #[.chan (J c)] 197)):=l;clear l e o r;unfold qV;go_enter (Yq.nq Tryz.func115),Tryz.ntmps115
 go_upto_region 2 with fail
 rename_i K1 hK1 K2 x;rw[<-HW.out];have⟨e,z,D,r,o⟩:=HX.out;refine wpIn_wide.1 (show Code.wpIn (wf N) 0 _ _ _ _ _ from BI A (id:=2) (n:=0) (b5:=w.heap.size+1) (b7:=w.heap.size+2) rfl rfl rfl rfl z D r j (by omega) o (by omega) (λa w1 h1 y f=>?_));refine x _ _ (wp_ret ⟨y,.tuple #[],by simp[results,Tryz.results115,go_sem],rfl,λb u t=>?_,?_,?_,?_⟩)
 .rw [jq t,f.block b (by have:=e.size;omega)];exact e.block b u
 .rw [xI];exact lT e.size f.size
 .exact f.os.trans e.os
 .exact ma (by have:=e.size;have:=f.size;omega)
def Es:Code->Code
 | .rangeFunc _ _ _ b=>b
 |c=>c
noncomputable def BJ:Code:=Es (cIn (dh (dh (dh (bV Tryz.f95)))))
def jV(w:Wj)(q:Qy)(root:Option Wu)(c:Nat):Wj:=
 (((((w.alloc (E #[C q.vs,U q.p,U q.d,U q.af] 74)).alloc (E #[O root] 33)).alloc (E #[.chan (J c)] 197)).alloc (E #[U ⟨#[]⟩] 9)).alloc (E #[O root] 33)).alloc (E #[U q.p] 9)
theorem cK(w:Wj)(q:Qy)(a:Option Wu)(c:Nat):(jV w q a c).heap.size=w.heap.size+6:=by simp only[jV,World.alloc,Array.size_push]
theorem kN(w:Wj)(q:Qy)(a:Option Wu)(c:Nat)(h:b<w.heap.size):(jV w q a c).heap[b]?=w.heap[b]?:=by
 simp only[jV,World.alloc,gP,Array.size_push]
 repeat rw[if_neg (by omega)]
theorem kO(w:Wj)(q:Qy)(a:Option Wu)(c i:Nat)(h:i<6):(jV w q a c).heap[w.heap.size+i]?=(#[E #[C q.vs,U q.p,U q.d,U q.af] 74,E #[O a] 33,E #[.chan (J c)] 197,E #[U ⟨#[]⟩] 9,E #[O a] 33,E #[U q.p] 9]:Array Obj)[i]?:=by
 simp only[jV,World.alloc,gP,Array.size_push];rcases i with - | - | - | - | - | - |i;all_goals first|omega|skip
 all_goals
  repeat rw[if_neg (by omega)]
  simp
def gb(w:Wj)(q:Qy)(root:Option Wu)(c:Nat)(f e b a:Wx):Array Wx:=
 #[.agg #[C q.vs,U q.p,U q.d,U q.af],.agg #[O root],.chan (J c),O (J ⟨w.heap.size,0,N⟩),O (J ⟨w.heap.size+1,0,N⟩),O (J ⟨w.heap.size+2,0,N⟩),O (J ⟨w.heap.size+3,0,N⟩),f,e,Wo,Wo,
  .agg #[O root],O (J ⟨w.heap.size,1,N⟩),U q.p,.func (.func 97) #[] #[ptr (w.heap.size+4),ptr (w.heap.size+5)],b,a,Wo,Wo,Wo,Wo,Wo,Wo,Wo,Wo,Wo,Wo,Wo,Wo,Wo,Wo,Wo,Wo,Wo,Wo,Wo,Wo,Wo,Wo,Wo,Wo,Wo,Wo,Wo]
theorem ri.below{q:Qy}{w:Wj}{c:Nat}{d:KVs}{W:Wj}(a:ri q w W0 c d W)(l:c<W0.heap.size)(j:w.heap.size+3<W0.heap.size)(e:Below W.heap.size W W'):ri q w W0 c d W':=
 ⟨e.os.trans a.os,lT a.size e.size,λb h i k=>(e.block b (lL h a.size)).trans (a.block b h i k),(e.block _ (lL j a.size)).trans a.told,(e.block _ (lL l a.size)).trans a.ch⟩
theorem ri.items{q:Qy}{w e:Wj}{c:Nat}{d B:KVs}{W:Wj}(a:ri q w e c d W)(h:aE q B=aE q d):ri q w e c B W:=
 ⟨a.os,a.size,a.block,by rw[h];exact a.told,by rw[h];exact a.ch⟩
theorem kP(l:Nat):(wf (J l)).round=J l:=rfl
section
attribute [local go_sem] Oper.semAt_some kP
theorem Et(q:Qy)(a9:ig q)(bl:ii q)(s:Option Wu)(c:Nat)(w:Wj)(bt:dn w)(bo:0≠c)(hcw:c<w.heap.size)(A:Nat->Prop)(hA:∀b,A b->b<w.heap.size/\b≠c)(l:Nat)(n:KVs)(k:List UInt8)(h:List Ver)(hv:Wx)(W:Wj)(hk:k.length<=1000)(bb:q.p.data.toList <+:k)(hh:bm A (jV w q s c) hv h)(a6:h≠[])(hl:h.length<=1000)(a1:(aE q (n++[(k,h)])).1.length<=1000)(f:ri q w (jV w q s c) c n W):
  BJ.wpIn (wf (J l)) 0 Yq.prog (λe _ W'=>e=.normal/\lO c (w.heap.size+3) W W'/\ri q w (jV w q s c) c (n++[(k,h)]) W') ⟨gb w q s c (U ⟨k.toArray⟩) hv (U ⟨k.toArray⟩) hv,[]⟩ W:=by
 obtain⟨Q,hQ⟩:∃Q:Exit->Act->Wj->Prop,Q=λe _ W'=>e=.normal/\lO c (w.heap.size+3) W W'/\ri q w (jV w q s c) c (n++[(k,h)]) W':=⟨_,rfl⟩
 rw[<-hQ];have HQ:Hid (Q=λe _ W'=>e=.normal/\lO c (w.heap.size+3) W W'/\ri q w (jV w q s c) c (n++[(k,h)]) W'):=hQ;clear hQ;have T:∀i o,i<6->i≠3->(jV w q s c).heap[w.heap.size+i]?=J o->W.heap[w.heap.size+i]?=J o:=λi o h1 h2 h3=>(f.block _ (by rw[cK];omega) (by omega) (by omega)).trans h3
 have r0:=T 0 _ (by omega) (by omega) (kO w q s c 0 (by omega));have r2:=T 2 _ (by omega) (by omega) (kO w q s c 2 (by omega));simp only[Nat.add_zero]at r0;have c0:W.cell? ⟨w.heap.size,0,N⟩=J (C q.vs):=by simp[World.cell?,r0]
 have c1:W.cell? ⟨w.heap.size,1,N⟩=J (U q.p):=by simp[World.cell?,r0]
 have c2:W.cell? ⟨w.heap.size,2,N⟩=J (U q.d):=by simp[World.cell?,r0]
 have c3:W.cell? ⟨w.heap.size,3,N⟩=J (U q.af):=by simp[World.cell?,r0]
 have d2:W.cell? ⟨w.heap.size+2,0,N⟩=J (.chan (J c)):=by simp[World.cell?,r2]
 have d3:W.cell? ⟨w.heap.size+3,0,N⟩=J (U ⟨(aE q n).2.toArray⟩):=by simp[World.cell?,f.told]
 have f3:W.frozen? ⟨w.heap.size+3,0,N⟩=false:=by simp[World.frozen?,f.told]
 have hszW:w.heap.size+6<=W.heap.size:=by have:=f.size;rwa [cK]at this
 have HhW:Hid (bm A W hv h):=bZ.keep hh (λb R bw=>⟨R,f.block b bw (hA b R).2 (by have:=(hA b R).1;omega)⟩);have HI:Hid (ri q w (jV w q s c) c n W):=f;have bq:Hid (dn W):=by
  obtain⟨m,hm⟩:=bt;have h0:=bC w _ hm;exact⟨m,(cB (a:=⟨0,0,N⟩) ((f.block 0 (by rw[cK];omega) bo (by omega)).trans (kN w q s c h0))).trans hm⟩
 have x:=Er A q k hv h W HhW.out a6 (by omega);have bn:Hid (ig q):=a9;have bv:Hid (ii q):=bl;have b0:Hid (∀b,A b->b<w.heap.size/\b≠c):=hA;have a5:Hid ((aE q (n++[(k,h)])).1.length<=1000/\q.p.data.toList <+:k):=⟨a1,bb⟩;have a0:Hid (aE q (n++[(k,h)])=bM q (aE q n) (k,h)):=mN q n (k,h);clear T r0 r2 f a9 bl hA a1 bb hh;generalize bi:fZ q k h=wt at x;have ar:Hid (fZ q k h=wt):=bi;clear bi;generalize a7:aU q k=cm;have ad:Hid (aU q k=cm):=a7;clear a7;unfold gb;dsimp only[BJ,Es,bV,Tryz.f95,cIn,iz,dh,oW,Option.getD];unfold qV at x;have av:c<(jV w q s c).heap.size:=by rw[cK];omega
 have ac:w.heap.size+3<(jV w q s c).heap.size:=by rw[cK];omega
 have L:Hid (∀X,Below W.heap.size W X->Calls Yq.prog 114 #[.agg #[C q.vs,U q.p,U q.d,U q.af],U ⟨k.toArray⟩] X λe w'=>e=.returned (.tuple #[U ⟨(cm.getD []).toArray⟩,C cm.isSome])/\Below X.heap.size X w'):=λX hX=>by
  rw[<-ad.out];exact bn.out k X (bq.out.on hX.block) hk a5.out.2
 cases wt
 .gi_wp2_with (refine⟨trivial,rfl,?_⟩;gi_at_call 113;refine(CallsIn.inRound l (callsIn_wide.2 x)).mono ?_;clear x;rintro e w1 ⟨rfl,r⟩)
  rw[HQ.out];exact⟨rfl,lO.below r,(HI.out.below av ac r).items (by rw[a0.out,bM,ar.out];rfl)⟩
 .have S:Hid (∀w1 u:Wj,Below W.heap.size W w1->Below w1.heap.size w1 u->Below W.heap.size W u):=λw1 u h1 h2=>h1.trans (h2.mono h1.size)
  cases cm with
  |none=>
   have e1:aE q (n++[(k,h)])=((aE q n).1++bj q.vs k h,(aE q n).2):=by
    rw[a0.out,bM,ar.out];simp only[ad.out,if_true]
   have z:Hid (aE q (n++[(k,h)])=((aE q n).1++bj q.vs k h,(aE q n).2)):=e1;have bd:Hid (∀X,Below W.heap.size W X->Calls Yq.prog 115 #[.agg #[C q.vs,U q.p,U q.d,U q.af],U ⟨k.toArray⟩,hv,.chan (J c)] X λe w'=>e=.returned (.tuple #[])/\lO c (w.heap.size+3) W w'/\ri q w (jV w q s c) c (n++[(k,h)]) w'):=λX hX=>by
    have IX:=HI.out.below av ac hX;have G:=a5.out.1;rw[z.out,lP]at G;have be:=IX.ch;rw[show((aE q n).1.length:Nat)=((aE q n).1.map itVal).length by simp]at be;refine(bv.out A k hv h c ((aE q n).1.map itVal) X (bZ.on HhW.out hX) a6 hl be (by simpa using G)).mono ?_;rintro e w' ⟨rfl,h1,h2,h3,h4⟩;refine⟨rfl,⟨lT hX.size h2,h3.trans hX.os,λb R y _=>(h1 b (by have:=hX.size;omega) y).trans (hX.block b R)⟩,h3.trans IX.os,lT IX.size h2,λb R y H=>(h1 b (by have:=IX.size;omega) y).trans (IX.block b R y H),?_,?_⟩
    .rw [z.out];exact(h1 _ (by have:=IX.size;omega) (by omega)).trans IX.told
    .rw [z.out,h4];simp
   clear e1
   gi_wp2_with (first
    |(refine⟨trivial,rfl,?_⟩;gi_at_call 113;refine(CallsIn.inRound l (callsIn_wide.2 x)).mono ?_;clear x;rintro e w1 ⟨rfl,r⟩;replace c0:=ah r c0;replace c1:=ah r c1;replace c2:=ah r c2;replace c3:=ah r c3;replace d2:=ah r d2)
    |(refine⟨trivial,rfl,?_⟩;gi_at_call 114;refine(CallsIn.inRound l (callsIn_wide.2 (L.out _ r))).mono ?_;clear L;rintro e u ⟨rfl,t⟩;replace c0:=ah t c0;replace c1:=ah t c1;replace c2:=ah t c2;replace c3:=ah t c3;replace d2:=ah t d2)
    |(refine⟨trivial,rfl,?_⟩;gi_at_call 115;refine(CallsIn.inRound l (callsIn_wide.2 (bd.out _ (S.out _ _ r t)))).mono ?_;clear bd;rintro e D ⟨rfl,bs,bx⟩))
   rw[HQ.out];exact⟨rfl,bs,bx⟩
  |some F=>
   by_cases ap:F=(aE q n).2
   .have z:Hid (aE q (n++[(k,h)])=aE q n):=by
     show aE q (n++[(k,h)])=aE q n;rw[a0.out,bM,ar.out];simp only[ad.out,if_true,ap]
    rw[<-ap]at d3
    gi_wp2_with (first
     |(refine⟨trivial,rfl,?_⟩;gi_at_call 113;refine(CallsIn.inRound l (callsIn_wide.2 x)).mono ?_;clear x;rintro e w1 ⟨rfl,r⟩;replace c0:=ah r c0;replace c1:=ah r c1;replace c2:=ah r c2;replace c3:=ah r c3;replace d3:=ah r d3)
     |(refine⟨trivial,rfl,?_⟩;gi_at_call 114;refine(CallsIn.inRound l (callsIn_wide.2 (L.out _ r))).mono ?_;clear L;rintro e u ⟨rfl,t⟩;replace d3:=ah t d3))
    rw[HQ.out];exact⟨rfl,lO.below (S.out _ _ r t),(HI.out.below av ac (S.out _ _ r t)).items z.out⟩
   .have e1:aE q (n++[(k,h)])=((aE q n).1++[⟨2,⟨F.toArray⟩,0⟩],F):=by
     rw[a0.out,bM,ar.out];simp only[ad.out,if_true,ap,if_false]
    have z:Hid (aE q (n++[(k,h)])=((aE q n).1++[⟨2,⟨F.toArray⟩,0⟩],F)):=e1;clear e1
    gi_upto_region 10 with(first
     |(refine⟨trivial,rfl,?_⟩;gi_at_call 113;refine(CallsIn.inRound l (callsIn_wide.2 x)).mono ?_;clear x;rintro e w1 ⟨rfl,r⟩;replace c0:=ah r c0;replace c1:=ah r c1;replace c2:=ah r c2;replace c3:=ah r c3;replace d2:=ah r d2;replace d3:=ah r d3;replace f3:=(r.frozen (p:=⟨w.heap.size+3,0,N⟩) (by show w.heap.size+3<W.heap.size;omega)).trans f3)
     |(refine⟨trivial,rfl,?_⟩;gi_at_call 114;refine(CallsIn.inRound l (callsIn_wide.2 (L.out _ r))).mono ?_;clear L;rintro e u ⟨rfl,t⟩;replace d2:=ah t d2;replace d3:=ah t d3;replace f3:=(t.frozen (p:=⟨w.heap.size+3,0,N⟩) (by show w.heap.size+3<w1.heap.size;have:=r.size;omega)).trans f3))
    case refine_2=>rename_i hx;exact absurd (by simpa using hx) ap
    rename_i K1 a8;have I2:=HI.out.below av ac (S.out _ _ r t);have bk:=I2.ch;have G:=a5.out.1;rw[z.out,lP,lS]at G;have B:∀j,j≠c->(u.setChan c 1000 (((aE q n).1.map itVal).toArray.push (.agg #[I K 2,U ⟨F.toArray⟩,I K 0])) Z ((aE q n).1.length+1) 0 Z).heap[j]?=u.heap[j]?:=λj hj=>jq hj
    have hsz2:w.heap.size+6<=u.heap.size:=by have:=r.size;have:=t.size;omega
    have V:(u.setChan c 1000 (((aE q n).1.map itVal).toArray.push (.agg #[I K 2,U ⟨F.toArray⟩,I K 0])) Z ((aE q n).1.length+1) 0 Z).heap[c]?=J (.chan 1000 (((aE q n).1.map itVal).toArray.push (.agg #[I K 2,U ⟨F.toArray⟩,I K 0])) Z ((aE q n).1.length+1) 0 Z):=ma (by omega);refine Br ?_;show yY _ _ _ _ [0,1,2,3] _ _;refine ao (v:=.chan (J c)) (w':=u) rfl rfl (λc h=>by cases h) (by simp[go_sem,d2]) ?_;refine ao (v:=U ⟨F.toArray⟩) (w':=u) rfl rfl (λc h=>by cases h) (by simp[go_sem]) ?_;refine ao (v:=.agg #[I K 2,U ⟨F.toArray⟩,I K 0]) (w':=u) rfl rfl (λc h=>by cases h) (by simp[go_sem]) ?_;refine ov (c:=c) rfl rfl rfl rfl bk (by simp;omega) ?_;refine a8 _ _ ?_;show Code.wpIn (wf (J l)) 0 Yq.prog _ _ _ (u.setChan c 1000 (((aE q n).1.map itVal).toArray.push (.agg #[I K 2,U ⟨F.toArray⟩,I K 0])) Z ((aE q n).1.length+1) 0 Z);obtain⟨D,ab⟩:∃D,u.setChan c 1000 (((aE q n).1.map itVal).toArray.push (.agg #[I K 2,U ⟨F.toArray⟩,I K 0])) Z ((aE q n).1.length+1) 0 Z=D:=⟨_,rfl⟩;have aa:D.heap.size=u.heap.size:=by rw[<-ab];exact xI
    have al:D.os=u.os:=by rw[<-ab];rfl
    rw[ab]at B V ⊢;have d3':D.cell? ⟨w.heap.size+3,0,N⟩=J (U ⟨(aE q n).2.toArray⟩):=(cB (a:=⟨w.heap.size+3,0,N⟩) (B _ (show w.heap.size+3≠c by omega))).trans d3;have f3':D.frozen? ⟨w.heap.size+3,0,N⟩=false:=(fB (a:=⟨w.heap.size+3,0,N⟩) (B _ (show w.heap.size+3≠c by omega))).trans f3;have bp:Hid ((∀j,j≠c->D.heap[j]?=u.heap[j]?)/\D.heap[c]?=J (.chan 1000 (((aE q n).1.map itVal).toArray.push (.agg #[I K 2,U ⟨F.toArray⟩,I K 0])) Z ((aE q n).1.length+1) 0 Z)/\ri q w (jV w q s c) c n u/\D.heap.size=u.heap.size/\D.os=u.os):=⟨B,V,I2,aa,al⟩;clear B V I2 ab bk aa al a8 K1;gi_wp2;rw[HQ.out];have⟨B,V,I2,aa,al⟩:=bp.out;have a4:∀j,j≠w.heap.size+3->(D.setCell ⟨w.heap.size+3,0,N⟩ (U ⟨F.toArray⟩)).heap[j]?=D.heap[j]?:=λj hj=>bS _ _ _ _ hj
    have a2:(D.setCell ⟨w.heap.size+3,0,N⟩ (U ⟨F.toArray⟩)).heap.size=u.heap.size:=by simp[aa]
    have a3:(D.setCell ⟨w.heap.size+3,0,N⟩ (U ⟨F.toArray⟩)).os=u.os:=((bR 0 D).setCell (p:=⟨w.heap.size+3,0,N⟩) (Nat.zero_le _) _).os.trans al;have P:=S.out _ _ r t;refine⟨rfl,⟨by rw[a2];exact P.size,a3.trans P.os,λb R y H=>?_⟩,a3.trans I2.os,by rw[a2];exact I2.size,λb R y H=>?_,?_,?_⟩
    .rw [a4 b H,B b y];exact P.block b R
    .rw [a4 b H,B b y];exact I2.block b R y H
    .rw [z.out];have h3:=(B _ (show w.heap.size+3≠c by omega)).trans I2.told;have⟨h1,h2⟩:=eS h3;show(D.heap.modify (w.heap.size+3) _)[w.heap.size+3]?=_;rw[eG (by rw[Array.size_modify];exact h1),Array.getElem_modify_self,h2];rfl
    .rw [a4 c (by omega),V,z.out];simp[itVal]
end
theorem tK(n:Nat):∀ (f:List UInt8->List Ver)(c:List UInt8),∀x∈db n f c,c <+:x.1/\x.1.length<c.length+n:=by
 induction n with
 |zero=>intro f c x a;simp[db]at a
 |succ n ih=>
  intro f c x a;simp only[db,List.mem_append,List.mem_flatMap]at a;rcases a with a|⟨b,-,a⟩
  .split at a
   .simp at a
   .simp at a;subst a;exact⟨List.prefix_refl _,by simp⟩
  .obtain ⟨d,e⟩:=ih _ _ x a;exact⟨(List.prefix_append _ _).trans d,by simp at e;omega⟩
theorem tM{f:List UInt8->List Ver}{p:List UInt8}{x:List UInt8×List Ver}(h:x∈cz f p):p <+:x.1/\x.1.length<=40:=by
 obtain⟨a,h2⟩:=tK _ _ _ x h;have h3:=a.length_le;exact⟨a,by omega⟩
theorem Eu{l:KVs}{x:List UInt8×List Ver}(h:x∈l):x.2.length<=fH l:=by
 induction l with
 |nil=>simp at h
 |cons a r ih=>
  rcases List.mem_cons.1 h with rfl|h
  .simp [fH]
  .have:=ih h;simp[fH]at this ⊢;omega
theorem ri.stable{q:Qy}{w e:Wj}{c:Nat}{d:KVs}{Y:Wj}(a:ri q w e c d W0)(n:c<e.heap.size)(k:w.heap.size+3<e.heap.size)(h:∀b,b<e.heap.size->Y.heap[b]?=W0.heap[b]?)(m:W0.heap.size<=Y.heap.size)(i:Y.os=W0.os):ri q w e c d Y:=
 ⟨i.trans a.os,lT a.size m,λb f j l=>(h b f).trans (a.block b f j l),(h _ k).trans a.told,(h _ n).trans a.ch⟩
section
attribute [local go_sem] Oper.semAt_some kP
theorem G1(q:Qy)(aa:ig q)(ab:ii q)(y:Option Wu)(f:List UInt8->List Ver)(c:Nat)(w:Wj)(al:dn w)(hT:xH w y f)(ar:fH (cz f q.p.data.toList)<=1000)(hp:q.p.size<=maxLen)(hc:w.heap[c]?=J (.chan 1000 #[] Z 0 0 Z)):
  Calls Yq.prog 95 #[qV q.vs q.p q.d q.af,sV y,.chan (J c)] w λe w'=>e=.returned (.tuple #[])/\((∀b,b<w.heap.size->b≠c->w'.heap[b]?=w.heap[b]?)/\w.heap.size<=w'.heap.size/\w'.os=w.os) /\
   w'.heap[c]?=J (.chan 1000 ((bH q (cz f q.p.data.toList)).map itVal).toArray Z (bH q (cz f q.p.data.toList)).length 0 Z):=by
 have av:c<w.heap.size:=(eS hc).1;have a1:Hid (dn w/\0≠c):=⟨al,λe=>by
  obtain⟨m,hm⟩:=al;subst e;simp[World.cell?,hc]at hm⟩
 clear al;obtain⟨z,L⟩:∃z,cz f q.p.data.toList=z:=⟨_,rfl⟩;have G:∀x∈z,x.2≠[]:=by rw[<-L];exact jo _ _ _
 have H:∀x∈z,q.p.data.toList <+:x.1/\x.1.length<=40:=by rw[<-L];exactλx hx=>tM hx
 obtain⟨A,R⟩:∃A:Nat->Prop,A=dp w:=⟨_,rfl⟩;have hA:∀b,A b->b<w.heap.size/\b≠c:=λb P=>by
  rw[R]at P;refine⟨P.lt,λe=>?_⟩;subst e;obtain⟨o,S,h2⟩:=P;rw[hc]at S;cases S;cases h2
 have T:am A 41 (jV w q y c) y f:=am.keep (λb P a3=>⟨by rw[R];exact P,kN w q y c a3⟩) 41 y f hT;rw[L]at ar ⊢;have ad:c<(jV w q y c).heap.size:=by rw[cK];omega
 have a0:w.heap.size+3<(jV w q y c).heap.size:=by rw[cK];omega
 have V:ri q w (jV w q y c) c [] (jV w q y c):=⟨rfl,lR _,λ_ _ _ _=>rfl,kO w q y c 3 (by omega),(kN w q y c av).trans hc⟩;refine(callsIn_wide (n:=0)).1 (callsIn_of_wp_marks (F:=Fence.wide) (Yq.nq Tryz.func95) rfl trivial ?_);refine(wpIn_wide (n:=0)).2 ?_;generalize hQ:bodyPostM Fence.wide 0 Yq.prog Tryz.f95 _=Q;simp only[Tryz.ntmps95,lZ,lC,lN,Nat.reduceAdd,Nat.reduceSub,Array.replicate_succ,Array.replicate_zero,List.push_toArray,List.append_toArray,List.nil_append,List.cons_append];have HQ:Hid (bodyPostM Fence.wide 0 Yq.prog Tryz.f95 _=Q):=hQ;have HX:Hid (ig q/\ii q/\am A 41 (jV w q y c) y f/\(∀b,A b->b<w.heap.size/\b≠c)/\ri q w (jV w q y c) c [] (jV w q y c)/\(∀x∈z,x.2≠[])/\(∀x∈z,q.p.data.toList <+:x.1/\x.1.length<=40)/\A=dp w):=⟨aa,ab,T,hA,V,G,H,R⟩;clear hQ aa ab T hA V G H hT hc R;unfold qV sV;go_wp2_with (go_at_call 76;refine(G0 y q.p _).mono ?_;rintro e w6 ⟨rfl,rfl⟩)
 refine wpIn_wide.1 (show Code.wpIn (wf N) 0 Yq.prog _ (Exit.inBlock 0 Q) ⟨gb w q y c Wo Wo Wo Wo,[]⟩ (jV w q y c)from ?_);have⟨aa,ab,T,hA,V,G,H,R⟩:=HX.out;have a2:∀ (B:KVs) x,B++[x] <+:z->x∈z:=λB x h=>h.subset (by simp)
 refine By (α:=List UInt8×List Ver) (β:=List UInt8×List Ver×Wx) (encs:=λx=>#[U ⟨x.1.toArray⟩,x.2.2]) (gf:=97) (lb:=#[ptr (w.heap.size+4),ptr (w.heap.size+5)]) (λx=>(x.1,x.2.1)) rfl (λargs wx=>by go_simp) (λ_=>rfl) c (w.heap.size+3) a0 noO (λ_ _ _ _ h=>h)
  (ri q w (jV w q y c) c) (λB x=>B++[(x.1,x.2.1)] <+:z/\bm A (jV w q y c) x.2.2 x.2.1/\x.2.1≠[]) z (λ_ _ _ _ h=>h.elim) (λB X u i S _ h2 h3=>i.stable ad a0 S h2 h3) (λB X i=>⟨.inr ad,.inr ⟨_,i.ch,rfl⟩⟩) V
  (λx=>⟨gb w q y c (U ⟨x.1.toArray⟩) x.2.2 (U ⟨x.1.toArray⟩) x.2.2,[]⟩) ?call ?assign ?body ?done
 case call=>
  intro l j W hW1 ac a6 a5 a7 hy a8;have r:sZ A (jV w q y c) ((jV w q y c).heap.size+2) (w.heap.size+3) l noO z j:=⟨λb P=>by
    have⟨S,h2⟩:=hA b P;rw[R]at P;obtain⟨o,h3,h4⟩:=P;exact⟨by rw[cK];omega,by omega,o,(kN w q y c S).trans h3,h4⟩,by omega,λ_ _ _ _ h=>h,a6,a5,a7,λB k h hv X S h2 h3 h4=>hy B (k,h,hv) X ⟨S,h2,h3⟩ h4⟩
  exact Ec r y f q.p W (w.heap.size+4) (w.heap.size+5) T L.symm (λb P=>ac b (by have:=(hA b P).1;rw[cK];omega))
   (by rw[cB (a:=⟨w.heap.size+4,0,N⟩) (ac _ (by rw[cK];show w.heap.size+4<_;omega))];simp[World.cell?,kO w q y c 4 (by omega)])
   (by rw[cB (a:=⟨w.heap.size+5,0,N⟩) (ac _ (by rw[cK];show w.heap.size+5<_;omega))];simp[World.cell?,kO w q y c 5 (by omega)]) hp a8
 case assign=>
  intro l x W s hK;obtain⟨k,h,hv⟩:=x;have e:(#[15,16].zip #[Value.string ⟨k.toArray⟩,hv]).foldl (λt x=>match x with|(p,v)=>t.setIfInBounds p v) (gb w q y c Wo Wo Wo Wo)=gb w q y c Wo Wo (U ⟨k.toArray⟩) hv:=by
   simp[gb]
  show Code.wpIn _ _ _ _ _ ⟨(#[15,16].zip #[Value.string ⟨k.toArray⟩,hv]).foldl (λt x=>match x with|(p,v)=>t.setIfInBounds p v) (gb w q y c Wo Wo Wo Wo),[]⟩ _;rw[e];unfold gb;unfold gb at hK;gi_wp2;exact hK
 case body=>
  rintro l B ⟨k,h,hv⟩ W ⟨S,h2,h3⟩ i;have hm:=a2 B (k,h) S;refine wpIn_mono (Et q aa ab y c w a1.out.1 a1.out.2 av A hA l B k h hv W (by have:=(H _ hm).2;simp only at this;omega) (H _ hm).1 h2 h3 (by have:=Eu hm;simp only at this;omega) (by have h5:(aE q (B++[(k,h)])).1.length<=(bH q z).length:=zt q z _ G S;have:=rf q z G;omega) i) (λe a W' h=>⟨h.1,h.2.1.own,h.2.2⟩)
 case done=>
  intro D W hD i hK;have hQ:=HQ.out;subst hQ;refine⟨by simp,.inl ⟨_,_,rfl,run_takeDeferred hK,?_⟩⟩;have ap:∀b,b<(jV w q y c).heap.size->(W.putObj D (.deferred N)).heap[b]?=W.heap[b]?:=λb P=>pO (by omega)
  refine⟨.tuple #[],by simp[results,Tryz.results95,go_sem],rfl,⟨λb P a4=>?_,?_,?_⟩,?_⟩
  .rw [ap b (by rw[cK];omega),i.block b (by rw[cK];omega) a4 (by omega),kN w q y c P]
  .have:=i.size;rw[cK]at this;simp;omega
  .exact i.os
  .rw [ap c ad];exact i.ch
end
end
section
open Go.RowKit
theorem Ev{w d:Wj}(h:w.heap.size<=d.heap.size):∀b,Grow A d b->Grow A w b:=by
 rintro b (⟨c,h2⟩|c)
 .by_cases a:b<w.heap.size
  .exact Or.inl ⟨c,a⟩
  .exact Or.inr (by omega)
 .exact Or.inr (by omega)
theorem aG.mono{w:Wj}{a:Nat}{st:St}(S:aG A w a st)(h:∀b,A b->A' b)(e:∀b,A' b->b≠a):aG A' w a st:=by
 have⟨p,d,f⟩:=S.tree;exact⟨e,⟨p,d,am.keep (λb c _=>⟨h b c,rfl⟩) _ _ _ f⟩,S.count,S.last,S.frozen⟩
def dD(A:Nat->Prop)(w:Wj)(k0:Nat)(a:St)(v:Wx)(e:Ending)(w':Wj):Prop:=
 e=.returned v/\aG (Grow A w) w' k0 a/\cX w w' k0
theorem bB{w w':Wj}{a:St}{v:Wx}(S:aG A w b a)(c:Below w.heap.size w w'):dD A w b a v (.returned v) w':=
 ⟨rfl,S.grow.on c,eB S.lt c⟩
def nD(st:St)(key body:ByteArray):St×Int×Int:=
 if aK key=Z then(st,0,2)else if 100<body.size then(st,0,3)else if jT st then(st,0,4)else(cJ st key body Z,st.last+1,0)
def fI(st:St)(key:ByteArray):St×Int×Int:=
 if aK key=Z then(st,0,2)else if jT st then(st,0,4)else(cJ st key ⟨#[]⟩ Y,st.last+1,0)
theorem Ew(A:Nat->Prop)(m:Nat)(f:St)(s:Nat)(d a:ByteArray)(w:Wj)(x:d.size<=maxLen)(p:a.size<=maxLen)(S:aG A w m f)(u:Inv f s)(v:s<2199023255340):
  Calls Yq.prog 10 #[O (J ⟨m,0,N⟩),U d,U a] w (dD A w m (nD f d a).1 (.tuple #[I K (nD f d a).2.1,I K (nD f d a).2.2])):=by
 have i:=kK d w x;have HS:Hid (aG A w m f):=S;unfold maxLen at p;cases b:aK d with
 |false=>
  rw[b]at i;have e:nD f d a=(f,0,2):=by simp[nD,b]
  rw[e];clear b S e;go_enter (Yq.nq Tryz.func10),Tryz.ntmps10;go_wp2_with (go_at_call 34;refine i.mono ?_;rintro e n ⟨rfl,rfl⟩)
  go_ret2
  exact bB HS.out (bR _ _)
 |true=>
  rw[b]at i;have r:=gH b;by_cases j:100<a.size
  .have e:nD f d a=(f,0,3):=by simp[nD,b,j]
   rw[e];clear b S e;go_enter (Yq.nq Tryz.func10),Tryz.ntmps10;go_wp2_with (go_at_call 34;refine i.mono ?_;rintro e n ⟨rfl,rfl⟩)
   go_ret2
   exact bB HS.out (bR _ _)
  .have k:=pS m f w S.count S.last;cases c:jT f with
   |true=>
    rw[c]at k;have e:nD f d a=(f,0,4):=by simp[nD,b,j,c]
    rw[e];clear b S e c;go_enter (Yq.nq Tryz.func10),Tryz.ntmps10;go_wp2_with (first|(go_at_call 34;refine i.mono ?_;rintro e n ⟨rfl,rfl⟩)|(go_at_call 35;refine k.mono ?_;rintro e n ⟨rfl,rfl⟩))
    go_ret2
    exact bB HS.out (bR _ _)
   |false=>
    rw[c]at k;have e:nD f d a=(cJ f d a Z,f.last+1,0):=by simp[nD,b,j,c]
    have o:¬f.last=9223372036854775807:=λh=>by simp[jT,h]at c
    rw[e];clear b S e c;go_enter (Yq.nq Tryz.func10),Tryz.ntmps10;go_wp2_with (first|(go_at_call 34;refine i.mono ?_;rintro e n ⟨rfl,rfl⟩)|(go_at_call 35;refine k.mono ?_;rintro e n ⟨rfl,rfl⟩))
    refine(zr a w (by omega)).mono ?_;rintro e t ⟨rfl,l⟩;have HA:=xE A m f s d 0 a Z t r.1 (HS.out.on l) u v o;go_wp2_with (go_at_call 36;refine HA.mono ?_;rintro e w2 ⟨rfl,S2,q⟩)
    go_ret2
    exact⟨rfl,S2.mono (Ev l.size) (gN HS.out.avoid HS.out.lt),rb (eB HS.out.lt l) q⟩
theorem BK(A:Nat->Prop)(j:Nat)(d:St)(s:Nat)(c:ByteArray)(w:Wj)(o:c.size<=maxLen)(S:aG A w j d)(p:Inv d s)(q:s<2199023255340):
  Calls Yq.prog 13 #[O (J ⟨j,0,N⟩),U c] w (dD A w j (fI d c).1 (.tuple #[I K (fI d c).2.1,I K (fI d c).2.2])):=by
 have f:=kK c w o;have HS:Hid (aG A w j d):=S;cases b:aK c with
 |false=>
  rw[b]at f;have e:fI d c=(d,0,2):=by simp[fI,b]
  rw[e];clear b S e;go_enter (Yq.nq Tryz.func13),Tryz.ntmps13;go_wp2_with (go_at_call 34;refine f.mono ?_;rintro e k ⟨rfl,rfl⟩)
  go_ret2
  exact bB HS.out (bR _ _)
 |true=>
  rw[b]at f;have n:=gH b;have i:=pS j d w S.count S.last;cases a:jT d with
  |true=>
   rw[a]at i;have e:fI d c=(d,0,4):=by simp[fI,b,a]
   rw[e];clear b S e a;go_enter (Yq.nq Tryz.func13),Tryz.ntmps13;go_wp2_with (first|(go_at_call 34;refine f.mono ?_;rintro e k ⟨rfl,rfl⟩)|(go_at_call 35;refine i.mono ?_;rintro e k ⟨rfl,rfl⟩))
   go_ret2
   exact bB HS.out (bR _ _)
  |false=>
   rw[a]at i;have e:fI d c=(cJ d c ⟨#[]⟩ Y,d.last+1,0):=by simp[fI,b,a]
   have l:¬d.last=9223372036854775807:=λh=>by simp[jT,h]at a
   rw[e];clear b S e a;have HA:=xE A j d s c 0 ⟨#[]⟩ Y w n.1 HS.out p q l;go_enter (Yq.nq Tryz.func13),Tryz.ntmps13;go_wp2_with (first|(go_at_call 34;refine f.mono ?_;rintro e k ⟨rfl,rfl⟩)|(go_at_call 35;refine i.mono ?_;rintro e k ⟨rfl,rfl⟩)|(go_at_call 36;refine HA.mono ?_;rintro e w2 ⟨rfl,S2,m⟩))
   go_ret2
   exact⟨rfl,S2,m⟩
def ez(st:St)(key:ByteArray)(n:Int):St×Int:=
 if aK key=Z then(st,2)
 else match cD (st.f key.data.toList) n with
  |none=>(st,5)
  |some r=>(bL st key r,0)
theorem zv(A:Nat->Prop)(i:Nat)(d:St)(s:Nat)(c:ByteArray)(n:Int)(w:Wj)(hk:c.size<=maxLen)(S:aG A w i d)(hI:Inv d s)(hs:s<2199023255340):
  Calls Yq.prog 14 #[O (J ⟨i,0,N⟩),U c,I K n] w (dD A w i (ez d c n).1 (I K (ez d c n).2)):=by
 have HF:=tE A i d s c n w hk S hI (by omega);have HS:Hid (aG A w i d):=S;have x:=S.lt;have l2:=hI.countL;have l3:=hI.countU;have af:=hI.len c.data.toList;clear S;go_enter (Yq.nq Tryz.func14),Tryz.ntmps14;go_wp2_with fail
 refine HF.mono ?_;rintro e w1 ⟨j,T⟩;rcases T with⟨h,rfl⟩|⟨h,v,rfl⟩|⟨h,r,ha,hc,v,hr,hh,rfl⟩
 .have HR:Hid (ez d c n=(d,2)):=show ez d c n=(d,2)by simp[ez,h]
  have HB:Hid (Below w.heap.size w w1):=j;clear h HF j;go_wp2;go_ret;rw[HR.out];exact bB HS.out HB.out
 .have HR:Hid (ez d c n=(d,5)):=show ez d c n=(d,5)by simp[ez,h,v]
  have HB:Hid (Below w.heap.size w w1):=j;clear h HF j v;go_wp2;go_ret;rw[HR.out];exact bB HS.out HB.out
 .have HR:Hid (ez d c n=(bL d c r,0)):=show ez d c n=(bL d c r,0)by simp[ez,h,v]
  have L:=gH h;have⟨p,a,hN⟩:=HS.out.cells;have C1:=a.on j;have c1:=C1.c1;have f1:=C1.fz 1;have c0:=C1.c0;obtain⟨W2,o⟩:∃W2,W2=w1.setCell ⟨i,1,N⟩ (I K (d.count-1)):=⟨_,rfl⟩;have C2:aW W2 i (O p) (I K (d.count-1)) (I K d.last):=by rw[o];exact C1.set1 _
  have t:cX w W2 i:=by rw[o];exact pU (eB x j) _ _
  have aa:bm (λb=>A b\/w.heap.size<=b) W2 (M ha (d.f c.data.toList).length hc) (d.f c.data.toList):=
   bZ.keep hh (λb z V=>⟨Or.inl z,by rw[o];exact bS _ _ _ _ (HS.out.avoid b z)⟩)
  have H:∀l:Wj,W2.grownBy l (J i)->am (λb=>(A b/\b<w.heap.size)\/w.heap.size<=b) 41 l p d.f:=λl ad=>
   am.keep (λb z V=>⟨Or.inl ⟨z,V⟩,(cw t.g ad).block b V (by intro e;cases e;exact HS.out.avoid i z rfl)⟩) 41 p d.f hN
  have y:d.f c.data.toList≠[]:=by intro e;rw[e]at hr;simp at hr
  have ab:Hid (W2=w1.setCell ⟨i,1,N⟩ (I K (d.count-1))):=o;clear h HF v a hN C1;by_cases Q:(d.f c.data.toList).length=1
  .have ac:r=0:=by omega
   have HD:Hid (bL d c r=⟨upd d.f c.data.toList [],d.count-1,d.last⟩):=show bL d c r=_ by
    unfold bL;rw[ac,List.take_zero,List.nil_append,List.drop_eq_nil_of_le (by omega)]
   have HT:Hid (Calls Yq.prog 41 #[.agg #[O p],U c] W2 λe G=>∃q,e=.returned (.agg #[O q])/\Below W2.heap.size W2 G/\am (Grow (λb=>(A b/\b<w.heap.size)\/w.heap.size<=b) W2) 41 G q (upd d.f c.data.toList [])):=
    tC _ 41 p d.f c W2 (H W2 (World.grownBy.refl _ _)) L.1 L.2 y
   have HC:Hid (aW W2 i (O p) (I K (d.count-1)) (I K d.last)/\cX w W2 i):=⟨C2,t⟩;rw[Q];clear hh aa H Q ac C2 t y o hr af j;go_wp2_with fail
   rw[<-ab.out];refine HT.out.mono ?_;rintro e w4 ⟨q,rfl,u,P⟩;have D4:=HC.out.1.on u;have r1:=D4.c0;have r2:=D4.fz 0;have HX:Hid (aG (Grow A w) (w4.setCell ⟨i,0,N⟩ (O q)) i (bL d c r)/\cX w (w4.setCell ⟨i,0,N⟩ (O q)) i):=by
    refine⟨?_,pU (fR HC.out.2 u) _ _⟩;rw[HD.out];refine gK (p:=q) ?_ ?_ (gN HS.out.avoid x)
    .exact D4.set0 _
    .exact oC HC.out.2.g.size HS.out.avoid x P _ _
   clear D4 P u HT HC;go_wp2;go_ret;rw[HR.out];exact⟨rfl,HX.out.1,HX.out.2⟩
  .have HD:Hid (bL d c r=⟨upd d.f c.data.toList ((d.f c.data.toList).take r++(d.f c.data.toList).drop (r+1)),d.count-1,d.last⟩):=rfl;have HW:Hid (Calls Yq.prog 43 #[M ha (d.f c.data.toList).length hc,I K r] W2.drew λe G=>∃B D F,e=.returned (M B D F)/\bm (λb=>W2.heap.size<=b) G (M B D F) ((d.f c.data.toList).take r++(d.f c.data.toList).drop (r+1))/\Below W2.heap.size W2 G):=by
    refine(tD _ _ _ r W2.drew (bZ.keep aa (λb z V=>⟨z,rfl⟩)) hr (by omega)).mono ?_;rintro e G ⟨B,D,F,z,V,h3⟩;exact⟨B,D,F,z,V,(bR _ W2).drew.trans h3⟩
   have R:(d.f c.data.toList).take r++(d.f c.data.toList).drop (r+1)≠[]:=by
    intro e;have:=congrArg List.length e;rw[lP,tL,lD,lN]at this;omega
   have HT:Hid (∀ (l:Wj) (B:Option Wu) (D F:Nat),Below W2.heap.size W2 l->bm (λb=>W2.heap.size<=b) l (M B D F) ((d.f c.data.toList).take r++(d.f c.data.toList).drop (r+1)) ->
     Calls Yq.prog 42 #[.agg #[O p],U c,M B D F] l λe G=>∃q,e=.returned (.agg #[O q])/\Below l.heap.size l G/\am (Grow (λb=>(A b/\b<w.heap.size)\/w.heap.size<=b) l) 41 G q (upd d.f c.data.toList ((d.f c.data.toList).take r++(d.f c.data.toList).drop (r+1)))):=λl B D F k X=>by
    refine tB _ 41 p d.f c _ _ l (H l (aS k _)) L.1 L.2 (bZ.keep X (λb z V=>⟨Or.inr ?_,rfl⟩)) R;have:=t.g.size;omega
   have HC:Hid (aW W2 i (O p) (I K (d.count-1)) (I K d.last)/\cX w W2 i):=⟨C2,t⟩;have a0:=C2.c0;have hone':(((d.f c.data.toList).length:Int)==1)=false:=by simp;omega
   generalize(d.f c.data.toList).take r++(d.f c.data.toList).drop (r+1)=hnew at *;clear hh aa H C2 t y o j R;generalize(d.f c.data.toList).length=m at *;go_wp2_with fail
   rw[<-ab.out]
   go_region_with (first
    |(go_at_call 43;refine HW.out.mono ?_;rintro e l ⟨B,D,F,rfl,X,k⟩;have b0:=ah k a0)
    |(go_at_call 42;refine(HT.out _ B D F k X).mono ?_;rintro e w4 ⟨q,rfl,u,P⟩;have E4:=(HC.out.1.on k).on u;have r1:=E4.c0;have r2:=E4.fz 0))
   all_goals
    go_wp2;go_ret;rw[HR.out,HD.out];refine⟨rfl,?_,?_⟩
    .refine gK (p:=q) ?_ ?_ (gN HS.out.avoid x)
     .exact E4.set0 _
     .exact oC (by have:=HC.out.2.g.size;have:=k.size;omega) HS.out.avoid x P _ _
    .exact pU (fR (fR HC.out.2 k) u) _ _
structure gp (st:St):Prop where
 cnt:(tot 41 st.f:Int)=st.count
 le:st.count<=200
 long:∀k,40<k.length->st.f k=[]
 body:∀k,∀v∈st.f k,v.body.size<=100
theorem tN(h:aK u=Y):u.data.toList.length<=40:=by
 have:=of_decide_eq_true h;have e:u.data.toList.length=u.size:=by simp
 omega
theorem gp.add{i:St}(h:gp i)(b a:ByteArray)(d:Bool)(j:aK b=Y)(hc:¬200<=i.count)(l:a.size<=100):gp (cJ i b a d):=by
 have hl:=tN j;have e:=BG 41 i.f b.data.toList (i.f b.data.toList++[⟨i.last+1,a,d⟩]) (by omega);rw[lP,lS]at e;have:=h.cnt;refine⟨?_,?_,λk j=>?_,λk v c=>?_⟩
 .simp only[cJ];omega
 .simp only[cJ];omega
 .simp only[cJ,upd];rw[if_neg (by intro e;subst e;omega)];exact h.long k j
 .simp only[cJ,upd]at c;split at c
  .rcases List.mem_append.1 c with c|c
   .exact h.body _ v c
   .simp only[List.mem_singleton]at c;subst c;exact l
  .exact h.body k v c
theorem gp.drop{c:St}(h:gp c)(a:ByteArray)(r:Nat)(d:aK a=Y)(hr:r<(c.f a.data.toList).length):gp (bL c a r):=by
 have hl:=tN d;have e:=BG 41 c.f a.data.toList ((c.f a.data.toList).take r++(c.f a.data.toList).drop (r+1)) (by omega);rw[lP,tL,lD,Nat.min_eq_left (by omega)]at e;have:=h.cnt;have:=h.le;refine⟨?_,?_,λk d=>?_,λk v b=>?_⟩
 .simp only[bL];omega
 .simp only[bL];omega
 .simp only[bL,upd];rw[if_neg (by intro e;subst e;omega)];exact h.long k d
 .simp only[bL,upd]at b;split at b
  .rcases List.mem_append.1 b with b|b
   .exact h.body _ v (List.mem_of_mem_take b)
   .exact h.body _ v (List.mem_of_mem_drop b)
  .exact h.body k v b
theorem gp.step{a:St}(h:gp a)(o:OpD):gp (aA a o).1:=by
 unfold aA;simp only
 repeat' split
 all_goals first
  |exact h
  |exact h.add _ _ _ (by simpa using ‹¬aK o.key=Z›) (λh=>‹¬(200<=a.count\/a.last=9223372036854775807)› (.inl h)) (by first|exact Nat.le_of_not_lt ‹_› |exact Nat.zero_le _)
  |(rename_i r b;exact h.drop _ _ (by simpa using ‹¬aK o.key=Z›) (List.findIdx?_eq_some_iff_getElem.1 b).1)
theorem Iv:gp ⟨λ_=>[],0,0⟩:=⟨by rw[GZ];rfl,by simp,λ_ _=>rfl,λ_ _ h=>by simp at h⟩
end
section
open Go.Conc Go.ConcX Go.ConcX.Gen Go.RowKit
theorem rj(h:List Ver):∀v∈aq h,Good v:=λv a=>by
 simp only[aq,List.mem_flatMap]at a;obtain⟨x,-,a⟩:=a;simp at a;rcases a with rfl|rfl|rfl
 .exact .int _ _
 .exact .string _
 .exact .bool _
theorem rl(b:List (UInt8×Option Wu)):∀v∈aC b,Good v:=λv a=>by
 simp only[aC,List.mem_flatMap]at a;obtain⟨x,-,a⟩:=a;simp at a;rcases a with rfl|rfl
 .exact .int _ _
 .exact .pointer _
section
variable {ρ:Ren} {V W V':Wj}
theorem BL{v:Wx}{n:Nat}(p:∀a y i v,ρ a y->V.cell? ⟨a,i,N⟩=J v->Good v->V'.cell? ⟨a,i,N⟩=J v)(s:∀v∈xs,Good v)(k:∃m,RV ρ v m)(h:bZ A V v n xs):bZ (λ_=>True) V' v n xs:=by
 obtain⟨a,l,rfl,f,u⟩:=h;refine⟨a,l,rfl,f,λb=>?_⟩;obtain⟨g,rfl,hA,hgl,t⟩:=u b;obtain⟨m,k⟩:=k;obtain⟨y,q⟩:∃y,ρ g y:=by
  cases k with
  |slice n c h=>cases h with|some h=>exact⟨_,h.1⟩
 have d:∀j,j<xs.length->V'.cell? ⟨g,j,N⟩=xs[j]?:=λj e=>by
  have r:=(t j e).trans (eL e);rw[eL e];exact p g y j _ q r (s _ (List.getElem_mem e))
 have o:0<xs.length:=List.length_pos_iff.2 b;exact⟨g,rfl,trivial,bC V' _ ((d 0 o).trans (eL o)),d⟩
theorem Ex(S:bN ρ V W)(l:∀a y i v,ρ a y->V.cell? ⟨a,i,N⟩=J v->Good v->V'.cell? ⟨a,i,N⟩=J v):∀ (n:Nat)(p:Option Wu)(f:List UInt8->List Ver),(∃r,RAo ρ p r)->am A n V p f->am (λ_=>True) n V' p f:=by
 intro n;induction n with
 |zero=>intro p f _ h;exact h
 |succ n ih=>
  intro p f G h;rcases h with h|⟨g,P,H,X,rfl,hA,c0,c1,c2,hh,k,hs,T,u,Q⟩
  .exact Or.inl h
  .obtain ⟨r,G⟩:=G;obtain⟨y,o⟩:∃y,ρ g y:=by cases G with|some h=>exact⟨_,h.1⟩
   have hrel:∀ (b y j:Nat) (v:Wx),ρ b y->V.cell? ⟨b,j,N⟩=J v->∃z,RV ρ v z:=λb y j v hb t=>by
    rcases S.cell (a:=⟨b,j,N⟩) (a':=⟨y,j,N⟩) ⟨hb,rfl,rfl⟩with h|⟨v1,v2,h1,B,h3⟩
    .rw [h]at t;cases t
    .rw [h1]at t;cases t;exact⟨_,h3⟩
   have gh:Good P:=by obtain⟨a,m,rfl,-⟩:=hh;exact .slice _ _ _
   have D:Good H:=by obtain⟨a,m,rfl,-⟩:=k;exact .slice _ _ _
   have rk:=hrel g y 2 H o c2;refine Or.inr ⟨g,P,H,X,rfl,trivial,l g y 0 _ o c0 (.bool _),l g y 1 _ o c1 gh,l g y 2 _ o c2 D,BL l (rj _) (hrel g y 1 P o c1) hh,BL l (rl _) rk k,hs,λc q s=>ih q _ ?_ (T c q s),u,Q⟩;have x:X≠[]:=by intro e;rw[e]at s;simp at s
   obtain⟨gk,m,rfl,-,-,F,-⟩:=k.cells x;have⟨i,hi,e⟩:=gM s;obtain⟨L,R⟩:∃L,ρ gk L:=by
    obtain⟨z,d⟩:=rk;cases d with|slice n c h=>cases h with|some h=>exact⟨_,h.1⟩
   have B:=(F i hi).2;rw[e]at B;obtain⟨z,d⟩:=hrel gk L _ _ R B;cases d with|pointer h=>exact⟨_,h⟩
theorem pW(l:∀b j,b<V.heap.size->V'.cell? ⟨b,j,N⟩=V.cell? ⟨b,j,N⟩):∀ (n:Nat)(p:Option Wu)(f:List UInt8->List Ver),am A n V p f->am (λ_=>True) n V' p f:=by
 have d:∀v n e,bZ A V v n e->bZ (λ_=>True) V' v n e:=λv n e h=>by
  obtain⟨a,u,rfl,o,L⟩:=h;refine⟨a,u,rfl,o,λi=>?_⟩;obtain⟨g,rfl,T,x,S⟩:=L i;have k:∀j,j<e.length->V'.cell? ⟨g,j,N⟩=e[j]?:=λj Q=>(l g j x).trans (S j Q)
  have y:0<e.length:=List.length_pos_iff.2 i;exact⟨g,rfl,trivial,bC V' _ ((k 0 y).trans (eL y)),k⟩
 intro n;induction n with
 |zero=>intro p f h;exact h
 |succ n ih=>
  intro p f h;rcases h with h|⟨g,R,H,F,rfl,T,z,X,B,D,t,G,r,m⟩
  .exact Or.inl h
  .have s:=bC V _ z;exact Or.inr ⟨g,R,H,F,rfl,trivial,(l g 0 s).trans z,(l g 1 s).trans X,(l g 2 s).trans B,d _ _ _ D,d _ _ _ t,G,λc q P=>ih q _ (r c q P),m⟩
end
def lQy(l:Lst):Qy:=⟨l.vs,l.p,l.d,l.af⟩
def mO(l:Lst)(f:List UInt8->List Ver):List ItD:=bH (lQy l) (cz f l.p.data.toList)
structure Iw (Qok:Qy->Prop)(l:Lst)(f:List UInt8->List Ver)(w:Wj):Prop where
 tree:xH w l.root f
 ok:Qok (lQy l)
 sum:fH (cz f l.p.data.toList)<=1000
 pre:l.p.size<=maxLen
 glob:dn w
def Hz(Qok:Qy->Prop)(l:Lst)(L:List Wx)(w:Wj):Prop:=∃f,Iw Qok l f w/\L=(mO l f).map itVal
theorem jW:0<Tryz.prog.globals.size:=by
 have:Tryz.prog.globals.size=4:=by kernel_rfl
 omega
theorem BM(Qok:Qy->Prop)(x:∀q,Qok q->ig q/\ii q):Ba (Hz Qok) where
 low:=λρ V W V' l L S s k a n ⟨f,h,e⟩=>⟨f,⟨.of (Ex S a 41 l.root f s h.tree),h.ok,h.sum,h.pre,by
  have⟨m,d⟩:=h.glob;have⟨y,r⟩:=k 0 jW;exact⟨m,a 0 y 0 _ r d (.int _ _)⟩⟩,e⟩
 on:=λV V' l L a n ⟨f,h,e⟩=>⟨f,⟨.of (pW (λb j u=>a ⟨b,j,N⟩ u) 41 l.root f h.tree),h.ok,h.sum,h.pre,by
  have⟨m,d⟩:=h.glob;exact⟨m,(a _ (bC V _ d)).trans d⟩⟩,e⟩
 item:=λl L V ⟨f,h,e⟩ v o=>by
  rw[e]at o;obtain⟨i,-,rfl⟩:=List.mem_map.1 o;exact⟨_,_,_,rfl⟩
 len:=λl L V ⟨f,h,e⟩=>by
  rw[e,lM];exact lT (rf (lQy l) _ (jo _ _ _)) h.sum
 send:=λl L w c ⟨f,h,e⟩ z=>by
  obtain⟨t,p⟩:=x _ h.ok;have:=G1 (lQy l) t p l.root f c w h.glob h.tree h.sum h.pre z;rw[e,lM];exact this
theorem G2(Qok:Qy->Prop):∀l L V u,Ce V u->Hz Qok l L u->Hz Qok l L V:=λl _L _V _u a ⟨f,h,e⟩=>
 ⟨f,⟨.of (pW (λ_b _j _=>(a.2 _).symm) 41 l.root f h.tree),h.ok,h.sum,h.pre,by
  have⟨m,b⟩:=h.glob;exact⟨m,(a.2 _).symm.trans b⟩⟩,e⟩
theorem BN(t:Nat):Region.schedule (Yq.prog.follows .mixedOrders) Yq.drawOps t=[0,1]\/Region.schedule (Yq.prog.follows .mixedOrders) Yq.drawOps t=[1,0]:=by
 rw[mixed];rcases Nat.mod_two_eq_zero_or_one t with h|h
 .left
  simp[Region.schedule,Region.linearise,Region.linearise.go,Yq.drawOps,List.range,List.range.loop,h,Nat.mod_one]
 .right
  simp[Region.schedule,Region.linearise,Region.linearise.go,Yq.drawOps,List.range,List.range.loop,h,Nat.mod_one]
theorem tP{a:Act}{w:Wj}{c k s q:Nat}(h17:a.eval (.tmp 17)=.chan (J c))(hsz:a.tmps.size=49)(hrow:w.heap[c]?=J (.chan k #[] Y s q Z))
  (h:Q .normal ((a.put (J 18) (.tuple #[.agg #[.int .i64 0,.string ⟨#[]⟩,.int .i64 0],.bool Z])).put (J 19) (.bool Z)) w):(Code.region 5 eT Z).wp Yq.prog Q a w:=by
 intro b kk cs;refine⟨.normal,_,_,h,?_⟩;refine Steps.head step_region ?_;have hr:List.range eT.size=[0,1]:=rfl;rw[hr];obtain⟨es,hcomm⟩:∃es,stepG Yq.prog Y (G (b.at a (.inRegion eT [0,1]::kk)) cs) w=.comm (G (b.at a (.inRegion eT [0,1]::kk)) cs) #[rcase c (.agg #[.int .i64 0,.string ⟨#[]⟩,.int .i64 0])] Y (.recv Y) w es:=by
  refine jD (o := { dst := J 18, op := .recv 151 (.tmp 17) Y, type := 0, pos := "listing.go:108", after := #[], guard := N }) rfl rfl ?_
  have e : execOp a.eval { dst := J 18, op := .recv 151 (.tmp 17) Y, type := 0, pos := "listing.go:108", after := #[], guard := N } = (do
   let .chan _ elem ← underlying 151 | stuck "receive: channel type expected"
   pure (.comm #[{chan:=a.eval (.tmp 17),send:=N,zero:=<-zeroValue elem}] Y (.recv Y))):=rfl
  rw[e,h17];simp[go_sem,rcase]
 have st1:=step_lone_recv_shut Y hcomm hrow;rw[Frame.finish_at]at st1;refine Steps.head st1 ?_;have hput:(a.put ((eT[0]?).bind (·.dst)) (got Y (.agg #[.int .i64 0,.string ⟨#[]⟩,.int .i64 0]) Z))=a.put (J 18) (.tuple #[.agg #[.int .i64 0,.string ⟨#[]⟩,.int .i64 0],.bool Z]):=rfl;rw[hput];have h18:(a.put (J 18) (.tuple #[.agg #[.int .i64 0,.string ⟨#[]⟩,.int .i64 0],.bool Z])).eval (.tmp 18)=.tuple #[.agg #[.int .i64 0,.string ⟨#[]⟩,.int .i64 0],.bool Z]:=by
  simp[Act.put,Act.eval,hsz]
 have st2 := vC (P := Yq.prog) (ops := eT) (a := a.put (J 18) (.tuple #[.agg #[.int .i64 0, .string ⟨#[]⟩, .int .i64 0], .bool Z])) (i := 1) (rest := []) (b := b) (k := kk) (cs := cs) (w := w) (w' := w) (v := .bool Z) (o := { dst := J 19, op := .extract (.tmp 18) 1, type := 4, pos := "listing.go:108", after := #[{ on := 0, ground := .data }], guard := N }) rfl rfl (by
  have e : execOp (a.put (J 18) (.tuple #[.agg #[.int .i64 0, .string ⟨#[]⟩, .int .i64 0], .bool Z])).eval { dst := J 19, op := .extract (.tmp 18) 1, type := 4, pos := "listing.go:108", after := #[{ on := 0, ground := .data }], guard := N } = (do let v ← Instr.extract ((a.put (J 18) (.tuple #[.agg #[.int .i64 0, .string ⟨#[]⟩, .int .i64 0], .bool Z])).eval (.tmp 18)) 1; pure (.value v)) := rfl
  rw[e,h18];rfl)
 exact Steps.head st2 (.one step_region_end)
theorem Ey(l:Lst)(j:Int)(n c h:Nat)(f:List ItD)(u:Nat->Wx)(o w:Wj)(b:PgI o w n c f []):
  cU.wp Yq.prog (λe a k=>e=.exit 0/\(∃m,a=⟨dl n l j c h m,[]⟩)/\k=w) ⟨dl n l j c h u,[]⟩ w:=by
 have⟨kc,sc,qc,d⟩:=b.ch;show(Code.seq (.region 5 eT Z) (dh cU)).wp Yq.prog _ _ _;refine wp_seq (tP (c:=c) rfl rfl d ?_);clear d b;show Code.wp Yq.prog (dh cU) _ _ _;unfold dl qV sV ptr lV aM;simp only[Act.put];dsimp only[cU,cIn,bV,cf,Tryz.f44,iz,dh,oW,Option.getD];go_wp2_with fail
 exact⟨λi=>if i=18 then .tuple #[.agg #[I K 0,U ⟨#[]⟩,I K 0],C Z]else if i=19 then C Z else u i,by simp⟩
theorem zw(l:Lst)(j:Int)(n c:Nat)(m:Wj)(x:n+2<c)(A:c<m.heap.size)(k:m.cell? ⟨n,6,N⟩=J (I K l.size)):
  ∀ (h:List ItD) (f:Nat) (d:List ItD) (u:Nat->Wx) (w:Wj),PgI m w n c d (h.map itVal)->d.length<=f->f+h.length<=1000 ->
   Code.rounds Yq.prog cU (λe a s=>e=.exit 0/\(∃p,a=⟨dl n l j c ((f+h.length:Nat):Int) p,[]⟩)/\PgI m s n c (d++ep l j f h) []) (h.length+1) ⟨dl n l j c f u,[]⟩ w:=by
 intro h;induction h with
 |nil=>
  intro f d u w b _ _;rw[rounds_succ];refine wp_mono (Ey l j n c f d u m w b) ?_;rintro e a s ⟨rfl,⟨p,rfl⟩,rfl⟩;exact⟨rfl,⟨p,by simp⟩,by simpa[ep]using b⟩
 |cons i r ih=>
  intro f d u w b hi t;have t:f+(r.length+1)<=1000:=t;rw[lC,rounds_succ];refine wp_mono (tG l j n c f i (r.map itVal) d u m w x A k b (by omega) (by omega)) ?_;rintro e a q ⟨rfl,z,I1⟩;show Code.rounds _ _ _ _ a q;rw[z];have o:=ih (f+1) _ (λi=>a.tmps.getD i Wo) q I1 (by split<;>(try simp only[lP,lS])<;>omega) (by omega);have v:(((f+1:Nat):Int))=(f:Int)+1:=rfl;rw[v]at o;have B:f+1+r.length=f+(r.length+1):=by omega
  rw[B]at o;have y:(if iC l j ((f:Int)+1)then d++[i]else d)++ep l j (f+1) r=d++ep l j f (i::r):=by
   rw[ep];split<;>simp
  rw[y]at o;exact o
def dM(n pg:Int):ByteArray:=⟨(Lib.itoa n++46::Lib.itoa pg).toArray⟩
def kQ(G:Wj->Prop)(n pg:Int):Prop:=∀ (l:Lst)(w:Wj),G w->l.num=n->Calls Yq.prog 73 #[lV l,I K pg] w λe a=>e=.returned (U (dM n pg))/\Below w.heap.size w a
def Ez(l:Lst)(a:Int)(n:Nat):ByteArray:=if IntKind.i64.wrap (a*l.size)<(n:Int)then dM l.num (IntKind.i64.wrap (a+1))else⟨#[]⟩
structure au (W W':Wj):Prop where
 os:W'.os=W.os
 size:W.heap.size<=W'.heap.size
 block:∀b,b<W.heap.size->W'.heap[b]?=W.heap[b]?
theorem bW{w:Wj}{s:Nat}{v:Wx}{n:Nat}(h:w.ownsRow s D b v n xs)(m:∀g,s<=g->g<w.heap.size->W0.heap[g]?=w.heap[g]?):W0.ownsRow s D b v n xs:=by
 refine⟨h.1,?_⟩;rcases h.2 with l|⟨g,d,c,k,j,i,r⟩
 .exact Or.inl l
 .exact Or.inr ⟨g,d,c,k,j,(m g j (eS i).1).trans i,r⟩
theorem BO(l:Lst)(q:Int)(n c o:Nat)(f:List ItD)(u:Nat->Wx)(r w:Wj)(G:Wj->Prop)(hn:n+2<c)(hc:c<r.heap.size)(r0:r.heap[n]?=J (E (aM l) 107))(r1:r.heap[n+1]?=J (E #[M N 0 0,U ⟨#[]⟩] 69))(a:PgI r w n c f [])(hG:G w)(hT:IntKind.i64.wrap (q*l.size)<(o:Int)->kQ G l.num (IntKind.i64.wrap (q+1))):
  (dh cf).wp Yq.prog (bodyPost Yq.prog Yq.f44 λe A=>∃F,e=.returned (.agg #[F,U (Ez l q o)])/\A.ownsRow r.heap.size 117 3 F f.length (an f)/\(A.os=r.os/\r.heap.size<=A.heap.size/\∀b,b<n->A.heap[b]?=r.heap[b]?)) ⟨dl n l q c o u,[]⟩ w:=by
 have hl0:n<w.heap.size:=lL (by omega) a.size;have t:=(a.block n (by omega) (by omega) (by omega)).trans r0;have P:=(a.block (n+1) (by omega) (by omega) (by omega)).trans r1;have⟨F,c0,j⟩:=a.row;have c1:=a.tok;have z0:=a.fz 0;have z1:=a.fz 1;have hbk:Hid (∀k,F.ownBlock=J k->r.heap.size<=k):=λk h=>(j.lt k h).1
 have HI:Hid (PgI r w n c f []/\w.ownsRow r.heap.size 117 3 F f.length (an f)):=⟨a,j⟩;have T:w.cell? ⟨n+1,0,N⟩=J (M N 0 0):=by simp[World.cell?,P]
 have S:w.cell? ⟨n+1,1,N⟩=J (U ⟨#[]⟩):=by simp[World.cell?,P]
 have y0:w.frozen? ⟨n+1,0,N⟩=false:=by simp[World.frozen?,P]
 have y1:w.frozen? ⟨n+1,1,N⟩=false:=by simp[World.frozen?,P]
 have k0:w.cell? ⟨n,0,N⟩=J (I K l.num):=by simp[World.cell?,t,aM]
 have k1:w.cell? ⟨n,1,N⟩=J (O l.root):=by simp[World.cell?,t,aM]
 have k2:w.cell? ⟨n,2,N⟩=J (C l.vs):=by simp[World.cell?,t,aM]
 have k3:w.cell? ⟨n,3,N⟩=J (U l.p):=by simp[World.cell?,t,aM]
 have k4:w.cell? ⟨n,4,N⟩=J (U l.d):=by simp[World.cell?,t,aM]
 have k5:w.cell? ⟨n,5,N⟩=J (U l.af):=by simp[World.cell?,t,aM]
 have k6:w.cell? ⟨n,6,N⟩=J (I K l.size):=by simp[World.cell?,t,aM]
 have k7:w.cell? ⟨n,7,N⟩=J (I K l.left):=by simp[World.cell?,t,aM]
 have X:Hid (wrap64 (q*l.size)<(o:Int)->Calls Yq.prog 73 #[.agg #[I K l.num,O l.root,C l.vs,U l.p,U l.d,U l.af,I K l.size,I K l.left],I K (wrap64 (q+1))] w λe A=>e=.returned (U (dM l.num (wrap64 (q+1))))/\Below w.heap.size w A):=by
  rw[<-lX,<-lX];exactλh=>hT h l w hG rfl
 clear a j t P r0 r1 hT hG;obtain⟨B,D,H,rfl⟩:∃B D H,F=M B D H:=by
  rcases HI.out.2.2 with⟨rfl,-⟩|⟨g,cap,cur,rfl,-⟩
  .exact ⟨_,_,_,rfl⟩
  .exact ⟨_,_,_,rfl⟩
 have hszw:r.heap.size<=w.heap.size:=HI.out.1.size;have L:n+2<w.heap.size:=by omega
 generalize hQ:bodyPost Yq.prog Yq.f44 _=Q;have HQ:Hid (bodyPost Yq.prog Yq.f44 _=Q):=hQ;clear hQ;unfold dl qV sV ptr lV aM;dsimp only[bV,cf,Tryz.f44,iz,dh,Option.getD];by_cases x:wrap64 (q*l.size)<(o:Int)
 .have z:=X.out x;have s:Ez l q o=dM l.num (wrap64 (q+1)):=by rw[Ez,lX,lX,if_pos x]
  rw[s]at HQ;generalize dM l.num (wrap64 (q+1))=V at z HQ;clear s;go_wp2_with (go_at_call 73;refine z.mono ?_;clear z;rintro e w1 ⟨rfl,i⟩;replace c0:=ah i c0;replace c1:=ah i c1;replace T:=ah i T;replace S:=ah i S;replace z0:=(i.frozen (p:=⟨n+2,0,N⟩) L).trans z0;replace z1:=(i.frozen (p:=⟨n+2,1,N⟩) L).trans z1;replace y0:=(i.frozen (p:=⟨n+1,0,N⟩) (by show n+1<_;omega)).trans y0;replace y1:=(i.frozen (p:=⟨n+1,1,N⟩) (by show n+1<_;omega)).trans y1)
  rw[<-HQ.out];have⟨a,j⟩:=HI.out;have m:∀b,b≠n+1->b≠n+2->(((w1.setCell ⟨n+2,1,N⟩ (U V)).setCell ⟨n+1,0,N⟩ (M B D H)).setCell ⟨n+1,1,N⟩ (U V)).heap[b]?=w1.heap[b]?:=λb y R=>by
   rw[bS _ _ _ _ y,bS _ _ _ _ y,bS _ _ _ _ R]
  refine bodyPost_ret (v:=.agg #[M B D H,U V]) (by simp[results,Tryz.results44,go_sem,T,S]) rfl ⟨_,rfl,bW j λg y R=>?_,?_,?_,λb hb=>?_⟩
  .rw [m g (by omega) (by omega)];exact i.block g R
  .exact i.os.trans a.os
  .have:=i.size;simp;omega
  .rw [m b (by omega) (by omega),i.block b (by omega)];exact a.block b (by omega) (by omega) (by omega)
 .have s:Ez l q o=⟨#[]⟩:=by rw[Ez,lX,lX,if_neg x]
  rw[s]at HQ;clear s;go_wp2_with fail
  rw[<-HQ.out];have⟨a,j⟩:=HI.out;have m:∀b,b≠n+1->((w.setCell ⟨n+1,0,N⟩ (M B D H)).setCell ⟨n+1,1,N⟩ (U ⟨#[]⟩)).heap[b]?=w.heap[b]?:=λb y=>by
   rw[bS _ _ _ _ y,bS _ _ _ _ y]
  refine bodyPost_ret (v:=.agg #[M B D H,U ⟨#[]⟩]) (by simp[results,Tryz.results44,go_sem,T,S]) rfl ⟨_,rfl,bW j λg y R=>?_,?_,?_,λb hb=>?_⟩
  .exact m g (by omega)
  .exact a.os
  .simp;omega
  .rw [m b (by omega)];exact a.block b (by omega) (by omega) (by omega)
def Ix(V:Wj)(l:Lst)(a:Int)(its:List ItD)(e:Ending)(w':Wj):Prop:=
 ∃b,e=.returned (.agg #[b,U (Ez l a its.length)])/\w'.ownsRow V.heap.size 117 3 b (ep l a 0 its).length (an (ep l a 0 its))/\au V w'
def Stop(Qok:Qy->Prop)(e:Ending)(w':Wj):Prop:=∃x y r,e=.panicked (stopEntry x y::r)/\∃a b L,x=lV a/\y=I K b/\Hz Qok a L w'
theorem vU(Qok:Qy->Prop)(hQ:∀q,Qok q->ig q/\ii q)(l:Lst)(d:Int)(f:List UInt8->List Ver)(V:Wj)(hp:Iw Qok l f V)(G:Wj->Prop)(hG:∀j,au V j->G j)(hT:IntKind.i64.wrap (d*l.size)<((mO l f).length:Int)->kQ G l.num (IntKind.i64.wrap (d+1))):
  Calls Yq.prog 44 #[lV l,I K d] V λe j=>Ix V l d (mO l f) e j\/Stop Qok e j:=by
 have m:=BM Qok hQ;have B:Hz Qok l ((mO l f).map itVal) V:=⟨f,hp,rfl⟩;intro cs;rcases BN (V.tape V.drawn (.order 44 100))with S|S
 .have ⟨fr,A,hm,Q,hf⟩:=sJ (lV l) (I K d) cs V S;refine⟨.panicked [stopEntry (lV l) (I K d)],{V with drawn:=V.drawn+1},fr,.inr ⟨_,_,_,rfl,l,d,_,rfl,rfl,m.on V _ l _ (λ_ _=>rfl) (lR _) B⟩,A,hf,hm,Q,_,by rw[hf];exact Yq.func44⟩
 .obtain ⟨V4,A,T,R,n⟩:=sO m l d _ V cs B S;have s:∀i,i<7->i≠5->V4.heap[V.heap.size+i]?=_:=λi L X=>(T _ (by omega) (by omega)).trans (cu V l 1000 i L)
  have r0:=s 0 (by omega) (by omega);have r1:=s 1 (by omega) (by omega);have r2:=s 2 (by omega) (by omega);have hc:V.heap.size+5<V4.heap.size:=(eS R).1;have hlen:(mO l f).length<=1000:=by have:=m.len l _ V B;simpa using this
  have p:=zw l d V.heap.size (V.heap.size+5) V4 (by omega) hc (by simp only[Nat.add_zero]at r0;simp[World.cell?,r0,aM]) (mO l f) 0 [] (λ_=>Wo) V4 (tH r2 ⟨_,_,_,R⟩) (by simp) (by omega);simp only[zA,List.nil_append]at p;have o:∀b,b<V.heap.size->V4.heap[b]?=V.heap[b]?:=λb u=>(T b (by omega) (by omega)).trans (eI V l 1000 u)
  have F:(Code.block 0 (.loop cU)).wp Yq.prog (λe a w=>e=.normal/\(dh cf).wp Yq.prog (bodyPost Yq.prog Yq.f44 (Ix V l d (mO l f))) a w) ⟨dl V.heap.size l d (V.heap.size+5) 0 (λ_=>Wo),[]⟩ V4:=by
   refine wp_block (wp_mono (wp_loop_rounds _ p) ?_);rintro e a j ⟨rfl,⟨u',rfl⟩,c⟩;have ab:G j:=hG j ⟨c.os.trans n,by have:=c.size;omega,λb u=>(c.block b (by omega) (by omega) (by omega)).trans (o b u)⟩;simp only[Exit.inBlock,if_true];refine⟨trivial,wp_mono (BO l d V.heap.size (V.heap.size+5) (mO l f).length _ u' V4 j G (by omega) hc (by simpa using r0) r1 c ab hT) ?_⟩;intro e a w2 h;cases e with
   |normal=>obtain⟨L,v,X,D,r,h4,h5,h6,h7⟩:=h;exact⟨L,v,X,D,r,gG h4 (by omega),h5.trans n,by omega,λb u=>(h7 b u).trans (o b u)⟩
   |ret=>obtain⟨L,v,X,D,r,h4,h5,h6,h7⟩:=h;exact⟨L,v,X,D,r,gG h4 (by omega),h5.trans n,by omega,λb u=>(h7 b u).trans (o b u)⟩
   |panic z=>obtain⟨L,D,r,-⟩:=h;cases r
   |outgrown=>obtain⟨D,r,-⟩:=h;cases r
   |exit id=>exact h.elim
   |goto l=>exact h.elim
  obtain⟨e1,a1,w1,⟨rfl,aa⟩,y⟩:=F (base 44) [.code (dh cf)] cs;have⟨e,a',j,H,t⟩:=aa (base 44) [] cs;have x:Steps Yq.prog (lone (Frame.enter Yq.prog 44 #[lV l,I K d] .normal) cs V) (lone ((base 44).at a1 [.code (dh cf)]) cs w1):=
   Steps.trans A (Steps.trans (.one (step_region_end (P:=Yq.prog) (b:=base 44) (k:=[.code (.block 0 (.loop cU)),.code (dh cf)]))) y)
  cases e with
  |normal=>
   obtain⟨Q,v,hr,hR⟩:=H;exact⟨.returned v,j,_,.inl hR,Steps.trans x (Steps.trans t (.one step_end)),rfl,rfl,Q,rfl,_,Yq.func44,hr⟩
  |ret=>
   obtain⟨Q,v,hr,hR⟩:=H;obtain⟨todo,S⟩:=t;exact⟨.returned v,j,_,.inl hR,Steps.trans x S,rfl,rfl,Q,rfl,_,Yq.func44,hr⟩
  |panic z=>obtain⟨-,D,r,-⟩:=H;cases r
  |outgrown=>obtain⟨D,r,-⟩:=H;cases r
  |exit id=>exact H.elim
  |goto l=>exact H.elim
end
end Go.Proofs.Qw
namespace Go.Proofs
open Option renaming none->N,some->J
open Bool renaming true->Y,false->Z
open Value renaming int->I,string->U,slice->M,pointer->O,bool->C
open IntKind renaming i64->K
open Obj renaming cells->E
variable {A A' X:Nat->Prop}{b k0:Nat}{Q:Exit->Act->Wj->Prop}{D:Ww}{xs:List Wx}{W' W0 w1:Wj}{m u:ByteArray}
section
open Go.Shelf Go.Lib Go.Sort
def Yq.laysM171_ren:Go.Shelf.Ren:=⟨λ| 171=>96| 243=>116| 246=>133| 283=>142| 284=>143| 285=>144| 286=>145| 129=>126| 317=>151| 318=>152| 319=>153| 320=>154| 337=>157| 338=>158|n=>n,λ| 3=>3| 9=>9| 2=>2| 4=>4| 171=>226| 0=>0| 53=>34| 37=>118| 5=>5| 173=>228| 212=>236| 51=>209| 20=>20| 213=>237| 46=>186| 232=>240| 233=>241|n=>n,λ| 17=>1| 18=>2| 19=>3|n=>n⟩
theorem Yq.laysM171:Go.Proofs.LaysM.n171 Yq.prog Yq.laysM171_ren:={
 mixed:=by kernel_rfl
 f129:=(Yq.nq Tryz.func126).trans (congrArg J (by kernel_rfl))
 f171:=(Yq.nq Tryz.func96).trans (congrArg J (by kernel_rfl))
 f243:=(Yq.nq Tryz.func116).trans (congrArg J (by kernel_rfl))
 f246:=(Yq.nq Tryz.func133).trans (congrArg J (by kernel_rfl))
 f283:=(Yq.nq Tryz.func142).trans (congrArg J (by kernel_rfl))
 f284:=(Yq.nq Tryz.func143).trans (congrArg J (by kernel_rfl))
 f285:=(Yq.nq Tryz.func144).trans (congrArg J (by kernel_rfl))
 f286:=(Yq.nq Tryz.func145).trans (congrArg J (by kernel_rfl))
 f317:=(Yq.nq Tryz.func151).trans (congrArg J (by kernel_rfl))
 f318:=(Yq.nq Tryz.func152).trans (congrArg J (by kernel_rfl))
 f319:=(Yq.nq Tryz.func153).trans (congrArg J (by kernel_rfl))
 f320:=(Yq.nq Tryz.func154).trans (congrArg J (by kernel_rfl))
 f337:=(Yq.nq Tryz.func157).trans (congrArg J (by kernel_rfl))
 f338:=(Yq.nq Tryz.func158).trans (congrArg J (by kernel_rfl))
 t0:=(Yq.u Tryz.underlying0)
 a0:=(λw=>Yq.a (Tryz.isAgg0 w))
 z0:=(λw=>Yq.s (Tryz.sizeOf0 w))
 v0:=(λw=>Yq.z (Tryz.zeroValue0 w))
 t2:=(Yq.u Tryz.underlying2)
 a2:=(λw=>Yq.a (Tryz.isAgg2 w))
 z2:=(λw=>Yq.s (Tryz.sizeOf2 w))
 v2:=(λw=>Yq.z (Tryz.zeroValue2 w))
 t3:=(Yq.u Tryz.underlying3)
 a3:=(λw=>Yq.a (Tryz.isAgg3 w))
 z3:=(λw=>Yq.s (Tryz.sizeOf3 w))
 v3:=(λw=>Yq.z (Tryz.zeroValue3 w))
 t4:=(Yq.u Tryz.underlying4)
 a4:=(λw=>Yq.a (Tryz.isAgg4 w))
 z4:=(λw=>Yq.s (Tryz.sizeOf4 w))
 v4:=(λw=>Yq.z (Tryz.zeroValue4 w))
 t5:=(Yq.u Tryz.underlying5)
 a5:=(λw=>Yq.a (Tryz.isAgg5 w))
 z5:=(λw=>Yq.s (Tryz.sizeOf5 w))
 v5:=(λw=>Yq.z (Tryz.zeroValue5 w))
 t9:=(Yq.u Tryz.underlying9)
 a9:=(λw=>Yq.a (Tryz.isAgg9 w))
 z9:=(λw=>Yq.s (Tryz.sizeOf9 w))
 v9:=(λw=>Yq.z (Tryz.zeroValue9 w))
 t20:=(Yq.u Tryz.underlying20)
 a20:=(λw=>Yq.a (Tryz.isAgg20 w))
 z20:=(λw=>Yq.s (Tryz.sizeOf20 w))
 v20:=(λw=>Yq.z (Tryz.zeroValue20 w))
 t37:=(Yq.u Tryz.underlying118)
 a37:=(λw=>Yq.a (Tryz.isAgg118 w))
 z37:=(λw=>Yq.s (Tryz.sizeOf118 w))
 v37:=(λw=>Yq.z (Tryz.zeroValue118 w))
 t46:=(Yq.u Tryz.underlying186)
 a46:=(λw=>Yq.a (Tryz.isAgg186 w))
 z46:=(λw=>Yq.s (Tryz.sizeOf186 w))
 v46:=(λw=>Yq.z (Tryz.zeroValue186 w))
 t51:=(Yq.u Tryz.underlying209)
 a51:=(λw=>Yq.a (Tryz.isAgg209 w))
 z51:=(λw=>Yq.s (Tryz.sizeOf209 w))
 v51:=(λw=>Yq.z (Tryz.zeroValue209 w))
 t53:=(Yq.u Tryz.underlying34)
 a53:=(λw=>Yq.a (Tryz.isAgg34 w))
 z53:=(λw=>Yq.s (Tryz.sizeOf34 w))
 v53:=(λw=>Yq.z (Tryz.zeroValue34 w))
 t171:=(Yq.u Tryz.underlying226)
 a171:=(λw=>Yq.a (Tryz.isAgg226 w))
 z171:=(λw=>Yq.s (Tryz.sizeOf226 w))
 v171:=(λw=>Yq.z (Tryz.zeroValue226 w))
 t173:=(Yq.u Tryz.underlying228)
 a173:=(λw=>Yq.a (Tryz.isAgg228 w))
 z173:=(λw=>Yq.s (Tryz.sizeOf228 w))
 v173:=(λw=>Yq.z (Tryz.zeroValue228 w))
 t212:=(Yq.u Tryz.underlying236)
 a212:=(λw=>Yq.a (Tryz.isAgg236 w))
 z212:=(λw=>Yq.s (Tryz.sizeOf236 w))
 v212:=(λw=>Yq.z (Tryz.zeroValue236 w))
 t213:=(Yq.u Tryz.underlying237)
 a213:=(λw=>Yq.a (Tryz.isAgg237 w))
 z213:=(λw=>Yq.s (Tryz.sizeOf237 w))
 t232:=(Yq.u Tryz.underlying240)
 a232:=(λw=>Yq.a (Tryz.isAgg240 w))
 z232:=(λw=>Yq.s (Tryz.sizeOf240 w))
 v232:=(λw=>Yq.z (Tryz.zeroValue240 w))
 t233:=(Yq.u Tryz.underlying241)
 a233:=(λw=>Yq.a (Tryz.isAgg241 w))
 z233:=(λw=>Yq.s (Tryz.sizeOf241 w))
 v233:=(λw=>Yq.z (Tryz.zeroValue241 w))
 g17:=by kernel_rfl
 g18:=by kernel_rfl
 g19:=by kernel_rfl
 i0:=by kernel_rfl
 i2:=by kernel_rfl
 i3:=by kernel_rfl
 i4:=by kernel_rfl
 i5:=by kernel_rfl
 i9:=by kernel_rfl
 i20:=by kernel_rfl
 i37:=by kernel_rfl
 i46:=by kernel_rfl
 i51:=by kernel_rfl
 i53:=by kernel_rfl
 i171:=by kernel_rfl
 i173:=by kernel_rfl
 i212:=by kernel_rfl
 i232:=by kernel_rfl
 i233:=by kernel_rfl
 m17:=by kernel_rfl
 m18:=by kernel_rfl
 m19:=by kernel_rfl}
theorem Yq.strconv_Itoa(n : Int) (h0 : -9223372036854775808 ≤ n) (h1 : n ≤ 9223372036854775807) (w : Wj) (htab : Lib.TabIs Yq.prog w "internal/strconv.uint64pow10" .u64 Lib.pow10Tab) :
  Calls Yq.prog 96 #[I K n] w λe w'=>e=.returned (U ⟨(Lib.itoa n).toArray⟩)/\∃k os,w'=grow (w.drewN k) os:=Any.strconv_Itoa Yq.laysM171 n h0 h1 w htab
end
end Go.Proofs
namespace Go.Proofs.Qw
open Option renaming none->N,some->J
open Bool renaming true->Y,false->Z
open Value renaming int->I,string->U,slice->M,pointer->O,bool->C
open IntKind renaming i64->K
open Obj renaming cells->E
variable {A A' X:Nat->Prop}{b k0:Nat}{Q:Exit->Act->Wj->Prop}{D:Ww}{xs:List Wx}{W' W0 w1:Wj}{m u:ByteArray}
section
open Go.Conc Go.ConcX Go.ConcX.Gen Go.RowKit
theorem kU(i:Nat):Lib.itoa (i:Int)=Lib.decDigits i:=by simp[Lib.itoa]
theorem xJ:∀ (k u:Nat),u<10 ^ (k+1)->(Lib.decDigits u).length<=k+1
 | 0,u,h=>by
  rw[Lib.decDigits,dif_pos (by simpa using h)];simp
 |k+1,u,h=>by
  rw[Lib.decDigits];split
  .simp
  .have a:u/10<10 ^ (k+1):=by rw[Nat.pow_succ]at h;omega
   have:=xJ k (u/10) a;rw[lP,lS];omega
theorem xK{n:Int}(b:0<=n)(a:n<=9223372036854775807):(Lib.itoa n).length<=19:=by
 obtain⟨u,rfl⟩:=Int.eq_ofNat_of_zero_le b;have e:Lib.itoa ((u:Nat):Int)=Lib.decDigits u:=kU u;rw[e];exact xJ 18 u (by have:(u:Int)<=9223372036854775807:=a;omega)
def rm(w : Wj) : Prop := Lib.TabIs Yq.prog w "internal/strconv.uint64pow10" .u64 Lib.pow10Tab
theorem rm.on{w w':Wj}(h:rm w)(hb:∀b,b<w.heap.size->w'.heap[b]?=w.heap[b]?):rm w':=by
 unfold rm Lib.TabIs World.var? at *
 cases hg : Yq.prog.globalNamed "internal/strconv.uint64pow10" with
 |none=>rw[hg]at h;cases h
 |some g=>
  rw[hg]at h;simp only[Option.bind_some]at h ⊢;have hlt:g<w.heap.size:=by
   cases hh:w.heap[g]? with
   |none=>rw[hh]at h;cases h
   |some o=>exact(eS hh).1
  rw[hb g hlt];exact h
theorem pX(w:Wj)(k:Nat)(a:Array Obj):Below w.heap.size w (Sort.grow (w.drewN k) a):=
 ⟨rfl,rfl,rfl,by simp[Sort.grow,World.drewN],λb c=>by simp[Sort.grow,World.drewN,Array.getElem?_append_left c]⟩
theorem G3(n pg:Int)(o:0<=n/\n<=9223372036854775807)(j:0<=pg/\pg<=9223372036854775807):kQ rm n pg:=by
 intro l w s v;obtain⟨f,root,vs,p,d,af,size,left⟩:=l;simp only at v;subst v;unfold dM;have A:Hid (∀W,Below w.heap.size w W->Calls Yq.prog 96 #[I K f] W λe i=>e=.returned (U ⟨(Lib.itoa f).toArray⟩)/\Below W.heap.size W i):=λW m=>by
  refine(Yq.strconv_Itoa f (by omega) o.2 W (s.on m.block)).mono ?_;rintro e i ⟨rfl,k,t,rfl⟩;exact⟨rfl,pX W k t⟩
 have z:Hid (∀W,Below w.heap.size w W->Calls Yq.prog 96 #[I K pg] W λe i=>e=.returned (U ⟨(Lib.itoa pg).toArray⟩)/\Below W.heap.size W i):=λW m=>by
  refine(Yq.strconv_Itoa pg (by omega) j.2 W (s.on m.block)).mono ?_;rintro e i ⟨rfl,k,t,rfl⟩;exact⟨rfl,pX W k t⟩
 have ha:=xK o.1 o.2;have m:=xK j.1 j.2;generalize Lib.itoa f=a at *;generalize Lib.itoa pg=b at *;have HW:Hid (∀c,Below w.heap.size w (w.alloc c)):=λc=>(bR _ _).alloc (lR _) _
 clear s o j;unfold lV aM;go_enter (Yq.nq Tryz.func73),Tryz.ntmps73;go_wp2_with fail
 refine(A.out _ (HW.out _)).mono ?_;rintro e y ⟨rfl,u⟩;have h:Hid (Below w.heap.size w y):=(HW.out _).trans (u.mono (by simp));clear u;go_wp2_with fail
 all_goals try(exfalso;rename_i r;simp[ByteArray.size_append,ByteArray.size,maxLen]at r;omega)
 refine(z.out _ h.out).mono ?_;rintro e B ⟨rfl,x⟩;have q:Hid (Below w.heap.size w B):=h.out.trans (x.mono h.out.size);clear x;go_wp2_with fail
 all_goals try(exfalso;rename_i r;simp[ByteArray.size_append,ByteArray.size,maxLen]at r;omega)
 go_ret;refine⟨?_,q.out⟩;have e:(⟨a.toArray⟩:ByteArray)++⟨#[46]⟩++⟨b.toArray⟩=⟨(a++46::b).toArray⟩:=by
  apply ByteArray.ext;simp
 rw[<-e];rfl
end
section
open Go.RowKit
open Go.Conc Go.ConcX Go.ConcX.Gen
def Iy(P:Wv)(u:Ww):Bool:=match P.underlying u with|some (.int _)=>Y|_=>Z
theorem EA{P:Wv}{w:Wj}{r:_root_.Go.Reach}{v:Wx}(a:Iy P D=Y)(h:Cell.ok P w r b D v):mX v=true:=by
 unfold Iy at a;unfold Cell.ok at h;cases c:P.underlying D with
 |none=>rw[c]at a;cases a
 |some t=>
  rw[c]at a h;cases t<;>first|(cases a;done)|skip
  cases v<;>first|rfl|(exact h.elim)
theorem G4{P:Wv}{w:Wj}{cs:Array Wx}(c:(P.cellTypes P.depth D).map (λb=>b.all (Iy P))=J Y)(h:Row.ok P w .any 0 D cs):∀ (i:Nat) v,cs[i]?=J v->mX v=true:=by
 obtain⟨b,e,-,j⟩:=h;rw[e]at c;have a:b.all (Iy P)=true:=oJ c;intro i v d;have⟨u,f,k⟩:=j i v d;exact EA (List.all_eq_true.1 a u (List.mem_of_getElem? f)) k
theorem EB{c H:Type}{x:Option (c×H)}{t:H}(h:x.map (·.2)=J t):∃z,x=J (z,t):=by
 cases x with
 |none=>cases h
 |some a=>obtain⟨z,y⟩:=a;cases h;exact⟨z,rfl⟩
theorem tQ{W:Wj}(h:W.ShapedOpen Tryz.prog):∀b,b<Tryz.prog.globals.size->∃c e z,W.heap[b]?=J (E c e z)/\∀ (i:Nat) v,c[i]?=J v->mX v=true:=by
 have p:Tryz.prog.globals.size=4:=by kernel_rfl
 intro b f;have a:∀t,((((begin Tryz.prog (λ_ _=>0) default).world.heap[b]?).bind Obj.row?).map (·.2)=J t)->(Tryz.prog.cellTypes Tryz.prog.depth t).map (λl=>l.all (Iy Tryz.prog))=J Y->Tryz.prog.buildable t=Y->∃c e z,W.heap[b]?=J (E c e z)/\∀ (i:Nat) v,c[i]?=J v->mX v=true:=λt n m o=>by
  have⟨z,q⟩:=EB n;obtain⟨cs,j,-,k⟩:=h.1 b z t f q;exact⟨cs,t,(0,0),j,G4 m (k o)⟩
 rw[p]at f;have d:b=0\/b=1\/b=2\/b=3:=by omega
 rcases d with rfl|rfl|rfl|rfl
 .exact a 3 (by kernel_rfl) (by kernel_rfl) (by kernel_rfl)
 .exact a 236 (by kernel_rfl) (by kernel_rfl) (by kernel_rfl)
 .exact a 240 (by kernel_rfl) (by kernel_rfl) (by kernel_rfl)
 .exact a 241 (by kernel_rfl) (by kernel_rfl) (by kernel_rfl)
theorem EC{W:Wj}(h:W.ShapedOpen Tryz.prog)(f:∀b,X b->∃c e z,W.heap[b]?=J (E c e z)):Start W (λb=>b<Tryz.prog.globals.size\/X b):=
 ⟨λb a=>by
  rcases a with a|a
  .obtain ⟨c,e,z,d,-⟩:=tQ h b a;exact⟨c,e,z,d⟩
  .exact f b a,λg i=>.inl i⟩
theorem Clean.glob{W V:Wj}(k:Clean A W V)(h:W.ShapedOpen Tryz.prog):∀b,b<Tryz.prog.globals.size->V.heap[b]?=W.heap[b]?:=λb p=>by
 by_cases f:A b
 .have ⟨c,e,z,j,n⟩:=tQ h b p;have⟨c',c0,e',z',d,l,m,q⟩:=k.row b f;rw[j]at d;cases d;rw[j,l];refine congrArg (λx=>J (Obj.cells x e z)) (Array.ext_getElem? λi=>?_);by_cases a:i<c.size
  .obtain ⟨u,o,r⟩:=q i _ (eG a);rw[o,r.one (n i _ (eG a)),eG a]
  .rw [Array.getElem?_eq_none (by rw[m];omega),Array.getElem?_eq_none (by omega)]
 .exact k.rest b f
theorem G5{W:Wj}(h:W.ShapedOpen Tryz.prog):dn W:=by
 have q:0<Tryz.prog.globals.size:=jW;have c:(((begin Tryz.prog (λ_ _=>0) default).world.heap[0]?).bind Obj.row?).map (λx=>(x.1.size,x.2))=J (1,3):=by kernel_rfl
 have p:Tryz.prog.underlying 3=J (.int .i64):=Tryz.underlying3;cases f:((begin Tryz.prog (λ_ _=>0) default).world.heap[0]?).bind Obj.row? with
 |none=>rw[f]at c;cases c
 |some x=>
  obtain⟨z,t⟩:=x;rw[f]at c;simp only[Option.map_some,oI,Prod.mk.injEq]at c;obtain⟨hz,rfl⟩:=c;have⟨cs,j,e2,n⟩:=h.1 0 z 3 q f;obtain⟨o,i,-,l⟩:=n (by kernel_rfl);have hs:cs.size=1:=by omega
  have e:o=[3]:=oJ (i.symm.trans (show Tryz.prog.cellTypes Tryz.prog.depth 3=J [3]by kernel_rfl));subst e;have⟨u,b,d⟩:=l 0 cs[0] (eG (by omega));simp at b;subst b;unfold Cell.ok at d;rw[p]at d;have a:W.cell? ⟨0,0,N⟩=J cs[0]:=by simp[World.cell?,j]
  generalize cs[0]=v at *;cases v<;>first|(exact d.elim)|skip
  rename_i k m;obtain⟨rfl,-⟩:=d;exact⟨m,a⟩
theorem dn.glob{W V:Wj}(h:dn W)(d:∀b,b<Tryz.prog.globals.size->V.heap[b]?=W.heap[b]?):dn V:=by
 obtain⟨m,c⟩:=h;exact⟨m,(cB (a:=⟨0,0,N⟩) (d 0 jW)).trans c⟩
theorem sU.frame{W a:Wj}(h:sU W a)(may:MemPlace->Prop):W.keptBut a may:=by
 refine⟨h.os,h.output,λi b=>?_⟩;rw[h.block i b];split<;>simp_all
theorem sU.trod{H:Type}{a:Ww×Wx->H}{P:Wv}(j:laidOutB P=Y)(i:P.readableRec D=Y)(c:D<P.types.size){W:Wj}{v:Wx}{d:DataW H}{ps:List MemPlace}(h:DataW.Trod a P W 0 (λ_=>Y) Y D v d ps)(e:sU W W')(f:∀x∈ps,x.block<W.heap.size):DataW.Trod a P W' 0 (λb=>decide (b<W.heap.size)) Y D v d ps:=by
 have:=Below.trod (W':={W' with tape:=W.tape}) j i c h ⟨e.os,rfl,e.output,e.size,e.block⟩ f;exact DataW.Trod.of_heap (w:={W' with tape:=W.tape}) (w':=W') rfl this
theorem mP{P:Wv}{w:Wj}{x:String×DataW Unit}{l:List (String×DataW Unit)}(h:laidMet P (x::l) w):laidMet P l w:=by
 obtain⟨ps,⟨g,t,cs,fuel,p,q,-,-,-,-,e,rfl⟩,f,c⟩:=h;exact⟨q,e,(List.nodup_append.1 f).2.1,λb a d=>c b a (List.mem_append_right _ d)⟩
end
section
open Go.RowKit
def eE(st:St)(key:ByteArray)(n:Int):Ver×Int:=
 if aK key=Z then(d7,2)
 else match cD (st.f key.data.toList) n with
  |none=>(d7,5)
  |some r=>match(st.f key.data.toList)[r]? with
   |none=>(d7,5)
   |some v=>if v.mark then(d7,6)else(v,0)
structure Iz (w W0:Wj):Prop where
 below:Below w.heap.size w W0
 c0:W0.cell? ⟨w.heap.size,0,N⟩=J (I K 0)
 c1:W0.cell? ⟨w.heap.size,1,N⟩=J (U ⟨#[]⟩)
 c2:W0.cell? ⟨w.heap.size,2,N⟩=J (C Z)
 fz:∀j,W0.frozen? ⟨w.heap.size,j,N⟩=Z
theorem Jr(w:Wj):Iz w (w.alloc (E #[I K 0,U ⟨#[]⟩,C Z] 62)):=
 ⟨(bR _ w).alloc (lR _) _,by rw[cA (w:=w) _ _ w.heap.size 0 rfl];rfl,by rw[cA (w:=w) _ _ w.heap.size 1 rfl];rfl,by rw[cA (w:=w) _ _ w.heap.size 2 rfl];rfl,λj=>World.frozen?_alloc_at (w:=w) _ _ w.heap.size j rfl⟩
theorem Iz.on{w:Wj}(h:Iz w W0)(a:Below W0.heap.size W0 w1):Iz w w1:=
 ⟨h.below.trans (a.mono h.below.size),ah a h.c0,ah a h.c1,ah a h.c2,λj=>(a.frozen (p:=⟨w.heap.size,j,N⟩) (show w.heap.size<W0.heap.size from bC W0 ⟨w.heap.size,0,N⟩ h.c0)).trans (h.fz j)⟩
theorem BP(A:Nat->Prop)(u:Nat)(c:St)(s:Nat)(a:ByteArray)(n:Int)(w:Wj)(H:a.size<=maxLen)(S:aG A w u c)(x:Inv c s)(F:s<=2199023255340):
  Calls Yq.prog 12 #[O (J ⟨u,0,N⟩),U a,I K n] w λe D=>e=.returned (.tuple #[cx (eE c a n).1,I K (eE c a n).2])/\Below w.heap.size w D:=by
 have R0:=Jr w;have HF:=tE A u c s a n _ H (S.on R0.below) x F;have j:Hid (Iz w (w.alloc (E #[I K 0,U ⟨#[]⟩,C Z] 62))):=R0;have hle:=x.len a.data.toList;clear R0 S;go_enter (Yq.nq Tryz.func12),Tryz.ntmps12;go_wp2_with fail
 refine HF.mono ?_;generalize w.alloc (E #[I K 0,U ⟨#[]⟩,C Z] 62)=W0 at *;rintro e B ⟨l,h⟩;have R1:=j.out.on l;have p:=R1.c0;have t:=R1.c1;have o:=R1.c2;have g0:=R1.fz 0;have g1:=R1.fz 1;have g2:=R1.fz 2;have HB:Hid (Below w.heap.size w B):=R1.below;clear R1 j HF l;rcases h with⟨b,rfl⟩|⟨b,d,rfl⟩|⟨b,r,ha,hc,d,q,y,rfl⟩
 .have HR:Hid (eE c a n=(d7,2)):=show eE c a n=(d7,2)by simp[eE,b]
  clear b;go_wp2;refine bodyPost_ret (v:=.tuple #[cx (eE c a n).1,I K (eE c a n).2]) (by rw[HR.out];simp[results,Tryz.results12,go_sem,cx,d7,p,t,o]) rfl ⟨rfl,?_⟩;exact((HB.out.setCell (lR _) _).setCell (lR _) _).setCell (lR _) _
 .have HR:Hid (eE c a n=(d7,5)):=show eE c a n=(d7,5)by simp[eE,b,d]
  clear b d;go_wp2;refine bodyPost_ret (v:=.tuple #[cx (eE c a n).1,I K (eE c a n).2]) (by rw[HR.out];simp[results,Tryz.results12,go_sem,cx,d7,p,t,o]) rfl ⟨rfl,?_⟩;exact((HB.out.setCell (lR _) _).setCell (lR _) _).setCell (lR _) _
 .have i:c.f a.data.toList≠[]:=by intro e;rw[e]at q;simp at q
  obtain⟨g,cap,L,-,-,k,-⟩:=y.cells i;cases L;have⟨z,P,G⟩:=k r q;have HR:Hid (eE c a n=if(c.f a.data.toList)[r].mark then(d7,6)else((c.f a.data.toList)[r],0)):=show eE c a n=_ by simp[eE,b,d,q]
  generalize(c.f a.data.toList)[r]=v at *;obtain⟨nm,bd,Q⟩:=v;simp only at z P G;clear k y b d i;generalize(c.f a.data.toList).length=m at *;have hri:(r:Int)<(m:Int):=by omega
  cases Q with
  |true=>
   go_wp2;refine bodyPost_ret (v:=.tuple #[cx (eE c a n).1,I K (eE c a n).2]) (by rw[HR.out];simp[results,Tryz.results12,go_sem,cx,d7,p,t,o]) rfl ⟨rfl,?_⟩;exact((HB.out.setCell (lR _) _).setCell (lR _) _).setCell (lR _) _
  |false=>
   go_wp2;refine bodyPost_ret (v:=.tuple #[cx (eE c a n).1,I K (eE c a n).2]) (by rw[HR.out];simp[results,Tryz.results12,go_sem,cx,p,t,o]) rfl ⟨rfl,?_⟩;exact((HB.out.setCell (lR _) _).setCell (lR _) _).setCell (lR _) _
structure lh (w W0:Wj):Prop where
 below:Below w.heap.size w W0
 lt:w.heap.size+1<W0.heap.size
 c0:W0.cell? ⟨w.heap.size+1,0,N⟩=J (I K 0)
 c1:W0.cell? ⟨w.heap.size+1,1,N⟩=J (I K 0)
 c2:W0.cell? ⟨w.heap.size+1,2,N⟩=J (U ⟨#[]⟩)
 c3:W0.cell? ⟨w.heap.size+1,3,N⟩=J (M N 0 0)
 c4:W0.cell? ⟨w.heap.size+1,4,N⟩=J (U ⟨#[]⟩)
 fz:∀j,W0.frozen? ⟨w.heap.size+1,j,N⟩=Z
theorem IA(w:Wj)(cs:Array Wx):lh w ((w.alloc (E cs 30)).alloc (E #[I K 0,I K 0,U ⟨#[]⟩,M N 0 0,U ⟨#[]⟩] 46)):=by
 have h:∀j,((w.alloc (E cs 30)).alloc (E #[I K 0,I K 0,U ⟨#[]⟩,M N 0 0,U ⟨#[]⟩] 46)).cell? ⟨w.heap.size+1,j,N⟩=(#[I K 0,I K 0,U ⟨#[]⟩,M N 0 0,U ⟨#[]⟩]:Array Wx)[j]?:=λj=>
  cA (w:=w.alloc (E cs 30)) _ _ (w.heap.size+1) j (by simp)
 refine⟨((bR _ w).alloc (lR _) _).alloc (by simp) _,by simp,h 0,h 1,h 2,h 3,h 4,λj=>World.frozen?_alloc_at (w:=w.alloc (E cs 30)) _ _ (w.heap.size+1) j (by simp)⟩
theorem lh.on{w:Wj}{d:Nat}(h:lh w W0)(hk:d<w.heap.size)(b:W0.grownBy w1 (J d)):
  (w1.cell? ⟨w.heap.size+1,0,N⟩=J (I K 0)/\w1.cell? ⟨w.heap.size+1,1,N⟩=J (I K 0)/\w1.cell? ⟨w.heap.size+1,2,N⟩=J (U ⟨#[]⟩)/\w1.cell? ⟨w.heap.size+1,3,N⟩=J (M N 0 0)/\w1.cell? ⟨w.heap.size+1,4,N⟩=J (U ⟨#[]⟩)) /\
  (w1.frozen? ⟨w.heap.size+1,0,N⟩=Z/\w1.frozen? ⟨w.heap.size+1,1,N⟩=Z/\w1.frozen? ⟨w.heap.size+1,2,N⟩=Z/\w1.frozen? ⟨w.heap.size+1,3,N⟩=Z/\w1.frozen? ⟨w.heap.size+1,4,N⟩=Z):=by
 have a:∀o,J (⟨w.heap.size+1,o,N⟩:Wu).block≠J d:=λo e=>by simp at e;omega
 have c:∀j,w1.frozen? ⟨w.heap.size+1,j,N⟩=false:=λj=>(bG b ⟨w.heap.size+1,j,N⟩ h.lt (a j)).trans (h.fz j)
 exact⟨⟨b.cell h.c0 (a 0),b.cell h.c1 (a 1),b.cell h.c2 (a 2),b.cell h.c3 (a 3),b.cell h.c4 (a 4)⟩,c 0,c 1,c 2,c 3,c 4⟩
theorem lh.drew{w:Wj}(h:lh w W0):lh w W0.drew:=⟨h.below.drew,h.lt,h.c0,h.c1,h.c2,h.c3,h.c4,h.fz⟩
def put5(w1:Wj)(b:Nat)(x0 x1 x2 a x4:Wx):Wj:=((((w1.setCell ⟨b,0,N⟩ x0).setCell ⟨b,1,N⟩ x1).setCell ⟨b,2,N⟩ x2).setCell ⟨b,3,N⟩ a).setCell ⟨b,4,N⟩ x4
theorem oG{w j:Wj}{i:Nat}{e:St}{v:Wx}(n:i<w.heap.size)(y:∀b,A b->b≠i)(x:Below w.heap.size w W0)(hlt:w.heap.size+1<W0.heap.size)(S1:aG (Grow (λb=>A b/\b<w.heap.size) W0) j i e)(t:cX W0 j i)(o B u s r:Wx):
  dD A w i e v (.returned v) (put5 j (w.heap.size+1) o B u s r):=by
 have c:w.heap.size+1≠i:=by omega
 have l:cX w j i:=rb (eB n x) t;refine⟨rfl,?_,?_⟩
 .have ⟨p,a,D⟩:=S1.cells;unfold put5;refine gK (p:=p) (((((a.far _ _ _ c).far _ _ _ c).far _ _ _ c).far _ _ _ c).far _ _ _ c) ?_ (gN y n);refine am.keep (λb m _=>?_) 41 p e.f D;have d:b≠w.heap.size+1:=by
   rcases m with⟨⟨_,h⟩,_⟩|h<;>omega
  have k:Grow A w b:=by
   rcases m with⟨⟨z,q⟩,_⟩|h
   .exact Or.inl ⟨z,q⟩
   .exact Or.inr (by omega)
  refine⟨k,?_⟩;rw[bS _ _ _ _ d,bS _ _ _ _ d,bS _ _ _ _ d,bS _ _ _ _ d,bS _ _ _ _ d]
 .unfold put5;exact tF (tF (tF (tF (tF l (by omega) _ _) (by omega) _ _) (by omega) _ _) (by omega) _ _) (by omega) _ _
theorem aG.cut{w:Wj}{n:Nat}{st:St}(S:aG A w n st)(c:Below w.heap.size w W0):aG (λb=>A b/\b<w.heap.size) W0 n st:=by
 have⟨p,a,j⟩:=S.cells;exact gK (p:=p) (a.on c) (am.keep (λb i d=>⟨⟨i,d⟩,c.block b d⟩) 41 p st.f j) (λb h=>S.avoid b h.1)
theorem zy(A:Nat->Prop)(l:Nat)(j:St)(s:Nat)(o:OpD)(w:Wj)(q:o.key.size<=maxLen)(p:o.body.size<=maxLen)(S:aG A w l j)(y:Inv j s)(z:s<2199023255340)(c:o.kind=1):
  Calls Yq.prog 8 #[O (J ⟨l,0,N⟩),aT o] w (dD A w l (nD j o.key o.body).1 (aD ⟨(nD j o.key o.body).2.2,(nD j o.key o.body).2.1,⟨#[]⟩⟩)):=by
 obtain⟨kind,f,a,d,h,n,m⟩:=o;simp only at c q p;subst c;have R0:=(IA w #[I K 1,U f,U a,U d,U h,I K n,I K m]).drew;have HC:=Ew _ l j s f a _ q p (S.cut R0.below) y z;have HS:Hid (l<w.heap.size/\∀b,A b->b≠l):=⟨S.lt,S.avoid⟩;have i:Hid (lh w ((w.alloc (E #[I K 1,U f,U a,U d,U h,I K n,I K m] 30)).alloc (E #[I K 0,I K 0,U ⟨#[]⟩,M N 0 0,U ⟨#[]⟩] 46)).drew):=R0;clear R0 S;simp only[aT];generalize nD j f a=r at *;go_enter (Yq.nq Tryz.func8),Tryz.ntmps8;go_wp2_with fail
 go_region_with (go_at_call 10;refine HC.mono ?_;rintro e w1 ⟨rfl,S1,k⟩;have⟨⟨u,D,t,x,B⟩,g0,g1,g2,g3,g4⟩:=i.out.on HS.out.1 k.g;have HX:Hid (_/\_):=And.intro S1 k;clear S1 k HC)
 all_goals
  go_wp2;refine bodyPost_ret (v:=aD ⟨r.2.2,r.2.1,⟨#[]⟩⟩) (by simp[results,Tryz.results8,go_sem,aD,u,D,t,x,B]) rfl ?_;exact oG HS.out.1 HS.out.2 i.out.below i.out.lt HX.out.1 HX.out.2 _ _ _ _ _
theorem vV(A:Nat->Prop)(l:Nat)(j:St)(s:Nat)(o:OpD)(w:Wj)(p:o.key.size<=maxLen)(S:aG A w l j)(x:Inv j s)(y:s<2199023255340)(a:o.kind=4):
  Calls Yq.prog 8 #[O (J ⟨l,0,N⟩),aT o] w (dD A w l (fI j o.key).1 (aD ⟨(fI j o.key).2.2,(fI j o.key).2.1,⟨#[]⟩⟩)):=by
 obtain⟨kind,d,f,c,h,n,m⟩:=o;simp only at a p;subst a;have R0:=(IA w #[I K 4,U d,U f,U c,U h,I K n,I K m]).drew;have HC:=BK _ l j s d _ p (S.cut R0.below) x y;have HS:Hid (l<w.heap.size/\∀b,A b->b≠l):=⟨S.lt,S.avoid⟩;have i:Hid (lh w ((w.alloc (E #[I K 4,U d,U f,U c,U h,I K n,I K m] 30)).alloc (E #[I K 0,I K 0,U ⟨#[]⟩,M N 0 0,U ⟨#[]⟩] 46)).drew):=R0;clear R0 S;simp only[aT];generalize fI j d=q at *;go_enter (Yq.nq Tryz.func8),Tryz.ntmps8;go_wp2_with fail
 go_region_with (go_at_call 13;refine HC.mono ?_;rintro e w1 ⟨rfl,S1,k⟩;have⟨⟨t,B,r,u,z⟩,g0,g1,g2,g3,g4⟩:=i.out.on HS.out.1 k.g;have HX:Hid (_/\_):=And.intro S1 k;clear S1 k HC)
 all_goals
  go_wp2;refine bodyPost_ret (v:=aD ⟨q.2.2,q.2.1,⟨#[]⟩⟩) (by simp[results,Tryz.results8,go_sem,aD,t,B,r,u,z]) rfl ?_;exact oG HS.out.1 HS.out.2 i.out.below i.out.lt HX.out.1 HX.out.2 _ _ _ _ _
theorem tR(A:Nat->Prop)(l:Nat)(k:St)(s:Nat)(o:OpD)(w:Wj)(p:o.key.size<=maxLen)(S:aG A w l k)(u:Inv k s)(x:s<2199023255340)(a:o.kind=5):
  Calls Yq.prog 8 #[O (J ⟨l,0,N⟩),aT o] w (dD A w l (ez k o.key o.n).1 (aD ⟨(ez k o.key o.n).2,0,⟨#[]⟩⟩)):=by
 obtain⟨kind,d,f,c,h,n,m⟩:=o;simp only at a p;subst a;have R0:=(IA w #[I K 5,U d,U f,U c,U h,I K n,I K m]).drew;have HC:=zv _ l k s d n _ p (S.cut R0.below) u x;have HS:Hid (l<w.heap.size/\∀b,A b->b≠l):=⟨S.lt,S.avoid⟩;have i:Hid (lh w ((w.alloc (E #[I K 5,U d,U f,U c,U h,I K n,I K m] 30)).alloc (E #[I K 0,I K 0,U ⟨#[]⟩,M N 0 0,U ⟨#[]⟩] 46)).drew):=R0;clear R0 S;simp only[aT];generalize ez k d n=B at *;go_enter (Yq.nq Tryz.func8),Tryz.ntmps8;go_wp2_with fail
 go_region_with (go_at_call 14;refine HC.mono ?_;rintro e w1 ⟨rfl,S1,j⟩;have⟨⟨r,z,q,t,y⟩,g0,g1,g2,g3,g4⟩:=i.out.on HS.out.1 j.g;have HX:Hid (_/\_):=And.intro S1 j;clear S1 j HC)
 all_goals
  go_wp2;refine bodyPost_ret (v:=aD ⟨B.2,0,⟨#[]⟩⟩) (by simp[results,Tryz.results8,go_sem,aD,r,z,q,t,y]) rfl ?_;exact oG HS.out.1 HS.out.2 i.out.below i.out.lt HX.out.1 HX.out.2 _ _ _ _ _
theorem tT(A:Nat->Prop)(b:Nat)(c:St)(o:OpD)(w:Wj)(S:aG A w b c)(h:o.kind<1\/12<o.kind):
  Calls Yq.prog 8 #[O (J ⟨b,0,N⟩),aT o] w (dD A w b c (aD ⟨1,0,⟨#[]⟩⟩)):=by
 obtain⟨a,key,body,delim,past,n,src⟩:=o;simp only at h;have b1:(a==1)=false:=by simp;omega
 have b2:(a==2)=false:=by simp;omega
 have b3:(a==3)=false:=by simp;omega
 have b4:(a==4)=false:=by simp;omega
 have b5:(a==5)=false:=by simp;omega
 have b6:(a==6)=false:=by simp;omega
 have b7:(a==7)=false:=by simp;omega
 have b8:(a==8)=false:=by simp;omega
 have b9:(a==9)=false:=by simp;omega
 have b10:(a==10)=false:=by simp;omega
 have b11:(a==11)=false:=by simp;omega
 have b12:(a==12)=false:=by simp;omega
 have HS:Hid (aG A w b c):=S;clear h S;simp only[aT];go_enter (Yq.nq Tryz.func8),Tryz.ntmps8;go_wp2;refine bodyPost_ret (v:=aD ⟨1,0,⟨#[]⟩⟩) (by simp[results,Tryz.results8,go_sem,aD]) rfl ?_;exact bB HS.out (((bR _ w).alloc (lR _) _).alloc (by simp) _)
end
