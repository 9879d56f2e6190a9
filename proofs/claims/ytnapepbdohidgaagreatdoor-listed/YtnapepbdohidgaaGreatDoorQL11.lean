/- A part. -/
import Derived.Test.YtnapepbdohidgaaGreatDoorQL10
import Derived.Lib.Strings
import Derived.Lib.BufferWrite
import Derived.Lib.UnsafeStr
import Derived.Laws.MakeOwn
import Derived.RangeFuncBox
set_option maxHeartbeats 4000000
set_option maxRecDepth 100000
open Go renaming World->Wj,Value->Wx,Program->Wv,TypeId->Ww,Frame->Wy,Addr->Wu,undef->Wo
namespace Go.Proofs.Qw
open Tryz
section
open Go.RowKit
theorem rR {A:Nat->Prop}{w w2 w3:Wj}{n:Nat}{p:Option Wu}{F:List UInt8->List Ver}(_hw2:w.heap.size<=w2.heap.size)(h:ak (Grow (fun b=>A b/\b<w.heap.size) w2) n w3 p F)(b1 o:Nat)(v:Wx)(h1:w.heap.size<=b1)(h2:b1<w2.heap.size):
  ak (Grow A w) n (w3.setCell ⟨b1,o,none⟩ v) p F:=by
 refine ak.keep (fun b hb _=>?_) n p F h;rcases hb with ⟨⟨hA,hlt⟩,_⟩|hge
 .exact ⟨Or.inl ⟨hA,hlt⟩,bS _ _ _ _ (by show b≠b1;omega)⟩
 .exact ⟨Or.inr (by omega),bS _ _ _ _ (by show b≠b1;omega)⟩
theorem rT (A:Nat->Prop)(n:Nat)(p:Option Wu)(f:List UInt8->List Ver)(key:ByteArray)(hv:Wx)(h:List Ver)(w:Wj)(i:ak A n w p f)(hk:key.size<n)(hk2:key.size<=1000)(j:bf A w hv h)(hne:h≠[]):
  Calls Yq.prog 67 #[.agg #[.pointer p],.string key,hv] w fun e w'=>∃q,e=.returned (.agg #[.pointer q])/\Below w.heap.size w w'/\ak (Grow A w) n w' q (upd f key.data.toList h):=by
 have c:∀w2:Wj,Below w.heap.size w w2->Calls Yq.prog 94 #[.pointer p,.string key,hv] w2 fun e w'=>∃g,e=.returned (.pointer (some ⟨g,0,none⟩))/\Below w2.heap.size w2 w'/\ak (Grow (fun b=>A b/\b<w.heap.size) w2) n w' (some ⟨g,0,none⟩) (upd f key.data.toList h):=fun w2 hb=>
  At n _ p f key hv h w2 (ak.keep (fun b h1 h2=>⟨⟨h1,h2⟩,hb.block b h2⟩) n p f i) hk hk2 (bO.keep j (fun b h1 h2=>⟨⟨h1,h2⟩,hb.block b h2⟩)) hne
 have HC:Hid (∀w2:Wj,Below w.heap.size w w2->Calls Yq.prog 94 #[.pointer p,.string key,hv] w2 fun e w'=>∃g,e=.returned (.pointer (some ⟨g,0,none⟩))/\Below w2.heap.size w2 w'/\ak (Grow (fun b=>A b/\b<w.heap.size) w2) n w' (some ⟨g,0,none⟩) (upd f key.data.toList h)):=c;obtain ⟨ha,hc,rfl,-⟩:=j;clear c i;go_enter (Yq.nq func67),ntmps67;go_wp2_with fail
 have a:Below w.heap.size w ((w.alloc (.cells #[.pointer p] 56)).alloc (.cells #[.pointer none] 56)):=((bR _ w).alloc (lR _) _).alloc (by simp) _;have q0:((w.alloc (.cells #[.pointer p] 56)).alloc (.cells #[.pointer none] 56)).cell? ⟨w.heap.size+1,0,none⟩=some (.pointer none):=by rw [cA (w:=w.alloc (.cells #[.pointer p] 56)) _ _ (w.heap.size+1) 0 (by simp)];rfl
 have q1:((w.alloc (.cells #[.pointer p] 56)).alloc (.cells #[.pointer none] 56)).frozen? ⟨w.heap.size+1,0,none⟩=false:=World.frozen?_alloc_at (w:=w.alloc (.cells #[.pointer p] 56)) _ _ (w.heap.size+1) 0 (by simp);have q2:w.heap.size+1<((w.alloc (.cells #[.pointer p] 56)).alloc (.cells #[.pointer none] 56)).heap.size:=by simp
 have k:Hid (Below w.heap.size w ((w.alloc (.cells #[.pointer p] 56)).alloc (.cells #[.pointer none] 56))):=a;refine (HC.out _ a).mono ?_;generalize (w.alloc (.cells #[.pointer p] 56)).alloc (.cells #[.pointer none] 56)=W2 at *;rintro e w3 ⟨g,rfl,hb3,d⟩;have q3:=ai hb3 q0;have q4:=(hb3.frozen (p:=⟨w.heap.size+1,0,none⟩) q2).trans q1;have HF:Hid (Below w.heap.size w (w3.setCell ⟨w.heap.size+1,0,none⟩ (.pointer (some ⟨g,0,none⟩)))/\ak (Grow A w) n (w3.setCell ⟨w.heap.size+1,0,none⟩ (.pointer (some ⟨g,0,none⟩))) (some ⟨g,0,none⟩) (upd f key.data.toList h)):=
  ⟨(a.trans (hb3.mono a.size)).setCell (by show w.heap.size<=w.heap.size+1;omega) _,rR a.size d (w.heap.size+1) 0 _ (by omega) q2⟩
 clear a q0 q1 hb3 d HC;go_wp2;exact bodyPost_ret (v:=.agg #[.pointer (some ⟨g,0,none⟩)]) (by simp [results,results67,go_sem,q3]) rfl ⟨_,rfl,HF.out⟩
theorem rV (A:Nat->Prop)(n:Nat)(p:Option Wu)(f:List UInt8->List Ver)(key:ByteArray)(w:Wj)(k:ak A n w p f)(hk:key.size<n)(hk2:key.size<=1000)(hf:f key.data.toList≠[]):
  Calls Yq.prog 66 #[.agg #[.pointer p],.string key] w fun e w'=>∃q,e=.returned (.agg #[.pointer q])/\Below w.heap.size w w'/\ak (Grow A w) n w' q (upd f key.data.toList []):=by
 have c:∀w2:Wj,Below w.heap.size w w2->Calls Yq.prog 93 #[.pointer p,.string key] w2 fun e w'=>∃q,e=.returned (.pointer q)/\Below w2.heap.size w2 w'/\ak (Grow (fun b=>A b/\b<w.heap.size) w2) n w' q (upd f key.data.toList []):=fun w2 hb=>
  rQ n _ p f key w2 (ak.keep (fun b h1 h2=>⟨⟨h1,h2⟩,hb.block b h2⟩) n p f k) hk hk2 hf
 have i:∀w2:Wj,Below w.heap.size w w2->Calls Yq.prog 63 #[.agg #[.pointer p],.string key] w2 fun e w'=>∃hv,e=.returned (.tuple #[hv,.bool true])/\Below w2.heap.size w2 w':=fun w2 hb=>by
  refine (mM A n p f key w2 hk (by simp only [maxLen];omega) (ak.keep (fun b h1 h2=>⟨h1,hb.block b h2⟩) n p f k)).mono ?_;rintro e w' ⟨hv,rfl,_,m⟩;refine ⟨hv,?_,m⟩;cases hc:f key.data.toList with
  |nil=>exact absurd hc hf
  |cons a l=>rfl
 have HC:Hid (∀w2:Wj,Below w.heap.size w w2->Calls Yq.prog 93 #[.pointer p,.string key] w2 fun e w'=>∃q,e=.returned (.pointer q)/\Below w2.heap.size w2 w'/\ak (Grow (fun b=>A b/\b<w.heap.size) w2) n w' q (upd f key.data.toList [])):=c;have HG:Hid (∀w2:Wj,Below w.heap.size w w2->Calls Yq.prog 63 #[.agg #[.pointer p],.string key] w2 fun e w'=>∃hv,e=.returned (.tuple #[hv,.bool true])/\Below w2.heap.size w2 w'):=i;clear c k i hf;go_enter (Yq.nq func66),ntmps66;go_wp2_with fail
 have h:Below w.heap.size w ((w.alloc (.cells #[.pointer p] 56)).alloc (.cells #[.pointer none] 56)):=((bR _ w).alloc (lR _) _).alloc (by simp) _;have q0:((w.alloc (.cells #[.pointer p] 56)).alloc (.cells #[.pointer none] 56)).cell? ⟨w.heap.size+1,0,none⟩=some (.pointer none):=by rw [cA (w:=w.alloc (.cells #[.pointer p] 56)) _ _ (w.heap.size+1) 0 (by simp)];rfl
 have q1:((w.alloc (.cells #[.pointer p] 56)).alloc (.cells #[.pointer none] 56)).frozen? ⟨w.heap.size+1,0,none⟩=false:=World.frozen?_alloc_at (w:=w.alloc (.cells #[.pointer p] 56)) _ _ (w.heap.size+1) 0 (by simp);have q2:w.heap.size+1<((w.alloc (.cells #[.pointer p] 56)).alloc (.cells #[.pointer none] 56)).heap.size:=by simp
 have q5:((w.alloc (.cells #[.pointer p] 56)).alloc (.cells #[.pointer none] 56)).cell? ⟨w.heap.size,0,none⟩=some (.pointer p):=by
  rw [World.cell?_alloc_past (w:=w.alloc (.cells #[.pointer p] 56)) _ w.heap.size 0 (by simp),cA (w:=w) _ _ w.heap.size 0 rfl];rfl
 refine (HG.out _ h).mono ?_;generalize (w.alloc (.cells #[.pointer p] 56)).alloc (.cells #[.pointer none] 56)=W1 at *;rintro e W2 ⟨hv,rfl,hbg⟩;have hb2:Below w.heap.size w W2:=h.trans (hbg.mono h.size);have r0:=ai hbg q0;have r1:=(hbg.frozen (p:=⟨w.heap.size+1,0,none⟩) q2).trans q1;have r2:w.heap.size+1<W2.heap.size:=lL q2 hbg.size;have r5:=ai hbg q5;have d:Hid (Below w.heap.size w W2):=hb2;clear h q0 q1 q2 q5 hbg HG hb2;go_wp2_with fail
 refine (HC.out W2 d.out).mono ?_;rintro e w3 ⟨q,rfl,hb3,j⟩;have q3:=ai hb3 r0;have q4:=(hb3.frozen (p:=⟨w.heap.size+1,0,none⟩) r2).trans r1;have HF:Hid (Below w.heap.size w (w3.setCell ⟨w.heap.size+1,0,none⟩ (.pointer q))/\ak (Grow A w) n (w3.setCell ⟨w.heap.size+1,0,none⟩ (.pointer q)) q (upd f key.data.toList [])):=
  ⟨(d.out.trans (hb3.mono d.out.size)).setCell (by show w.heap.size<=w.heap.size+1;omega) _,rR d.out.size j (w.heap.size+1) 0 _ (by omega) r2⟩
 clear r0 r1 hb3 j HC;go_wp2;exact bodyPost_ret (v:=.agg #[.pointer q]) (by simp [results,results66,go_sem,q3]) rfl ⟨_,rfl,HF.out⟩
def nums (h:List Ver)(i:Nat):Int:=((h[i]?).map (·.num)).getD 0
def bods (h:List Ver)(i:Nat):ByteArray:=((h[i]?).map (·.body)).getD ⟨#[]⟩
def mrks (h:List Ver)(i:Nat):Bool:=((h[i]?).map (·.mark)).getD false
theorem p8 {h:List Ver}{i:Nat}(a:i<h.length):nums h i=h[i].num:=by simp [nums,a]
theorem Fh {h:List Ver}{i:Nat}(a:i<h.length):bods h i=h[i].body:=by simp [bods,a]
theorem Fi {h:List Ver}{i:Nat}(a:i<h.length):mrks h i=h[i].mark:=by simp [mrks,a]
structure Au (h:List Ver)(n:Int)(r:Nat):Prop where
 le:r<=h.length
 lo:∀j,j<h.length->j<r->nums h j<n
 hi:∀j,j<h.length->r<=j->n<=nums h j
def xV (h:List Ver)(n:Int)(r:Nat):Bool:=decide (r<h.length/\nums h r=n)
theorem Av (A:Nat->Prop)(hv:Wx)(h:List Ver)(n:Int)(w:Wj)(d:bf A w hv h)(hs:∀i j,i<j->j<h.length->nums h i<nums h j)(hl:h.length<=2199023255552):
  Calls Yq.prog 92 #[hv,.int .i64 n] w fun e w'=>∃r:Nat,Au h n r/\e=.returned (.tuple #[.int .i64 r,.bool (xV h n r)])/\Below w.heap.size w w':=by
 by_cases hne:h=[]
 .subst hne;obtain ⟨a,cap,rfl,-,-⟩:=d;go_enter (Yq.nq func92),ntmps92;go_wp2_with (go_at_call 112;refine (CI _ _ _ _).mono ?_;rintro e w' ⟨rfl,rfl⟩)
  go_ret2
  exact ⟨0,⟨lR _,fun j h=>absurd h (Nat.not_lt_zero _),fun j h=>absurd h (Nat.not_lt_zero _)⟩,by simp [xV],bR _ _⟩
 .obtain ⟨f,cap,rfl,-,-,hc,-⟩:=d.cells hne;have hbs:Calls Yq.prog 112 #[.slice (some ⟨f,0,none⟩) h.length cap,.int .i64 n,.func (.func 113) #[] #[]] w fun e w'=>∃r:Nat,Au h n r /\
    e=.returned (.tuple #[.int .i64 r,.bool (xV h n r)])/\Below w.heap.size w w':=by
   refine (Fb f h.length cap (nums h) (bods h) (mrks h) n w hl (fun i b=>by rw [p8 b,Fh b,Fi b];exact hc i b) hs).mono ?_;rintro e w' ⟨r,h1,h2,h3,rfl,h5⟩;exact ⟨r,⟨h1,fun j _ c=>h2 j c,fun j h c=>h3 j c h⟩,rfl,h5⟩
  clear hc hs;go_enter (Yq.nq func92),ntmps92;go_wp2_with (go_at_call 112;refine hbs.mono ?_;rintro e w' ⟨r,h1,rfl,h5⟩)
  go_ret2
  exact ⟨r,h1,rfl,h5⟩
def bZ (v:Ver):Wx:=.agg #[.int .i64 v.num,.string v.body,.bool v.mark]
theorem xW (g k cap:Nat)(a:Int)(b:ByteArray)(c:Bool)(w:Wj)(hk:k<=2199023255552)(c0:w.cell? ⟨g,k * 3,none⟩=some (.int .i64 a))(c1:w.cell? ⟨g,k * 3+1,none⟩=some (.string b))(c2:w.cell? ⟨g,k * 3+2,none⟩=some (.bool c)):
  Calls Yq.prog 64 #[.slice (some ⟨g,0,none⟩) (k+1) cap] w fun e w'=>e=.returned (.agg #[.int .i64 a,.string b,.bool c])/\Below w.heap.size w w':=by
 have hg:=bC w _ c0;go_enter (Yq.nq func64),ntmps64;go_wp2;exact bodyPost_ret (v:=.agg #[.int .i64 a,.string b,.bool c]) (by simp [results,results64,go_sem]) rfl ⟨rfl,(bR _ _).alloc (lR _) _⟩
theorem kM (A:Nat->Prop)(hv:Wx)(h:List Ver)(w:Wj)(a:bf A w hv h)(hne:h≠[])(hl:h.length<=2199023255552):
  Calls Yq.prog 64 #[hv] w fun e w'=>e=.returned (bZ (h.getLast hne))/\Below w.heap.size w w':=by
 obtain ⟨g,cap,rfl,-,-,hc,-⟩:=a.cells hne;have hlen:0<h.length:=List.length_pos_iff.2 hne;obtain ⟨k,hk⟩:∃k,h.length=k+1:=⟨h.length-1,by omega⟩;obtain ⟨c0,c1,c2⟩:=hc k (by omega);have e:h.getLast hne=h[k]:=by rw [List.getLast_eq_getElem];congr 1;omega
 rw [e];generalize h[k]=v at *;rw [hk];exact xW g k cap _ _ _ w (by omega) c0 c1 c2
theorem rW (A:Nat->Prop)(hv:Wx)(h:List Ver)(r:Nat)(w:Wj)(l:bf A w hv h)(hr:r<h.length)(hl:h.length<=2199023255552):
  Calls Yq.prog 68 #[hv,.int .i64 r] w fun e w'=>∃f d i,e=.returned (.slice f d i)/\bf (fun b=>w.heap.size<=b) w' (.slice f d i) (h.take r++h.drop (r+1))/\Below w.heap.size w w':=by
 have hcl:=oH A hv h w l hl;obtain ⟨k,hk⟩:∃k,h.length=k+1:=⟨h.length-1,by omega⟩;obtain ⟨ha,hc,rfl,-⟩:=l;have HK:Hid (h.length=k+1):=hk;rw [hk] at hcl ⊢;clear hk;go_enter (Yq.nq func68),ntmps68;go_wp2_with fail
 refine hcl.mono ?_;rintro e w1 ⟨v',rfl,hown,hb⟩;obtain ⟨g,cap,rfl,-,-,-⟩:=cP hown (Nat.succ_pos _);have hdl:=CN w.heap.size g k cap r (am h) w1 hown (by have:=HK.out;omega) (by have:=HK.out;omega) (eq h);have hr':(r:Int)<=2199023255552:=by omega
 go_wp2_with (go_at_call 95;refine hdl.mono ?_;rintro e w2 ⟨rfl,a,c⟩)
 go_ret;refine ⟨_,_,_,rfl,?_,hb.grown c hb.size (fun j e=>by cases e;exact (hown.lt g rfl).1)⟩;rw [rN] at a;exact lG (by have:=HK.out;rw [lP,tL,lD];omega) a (fun j e=>(a.lt j e).1)
theorem ip {P:Wv}{ops:Array Oper}{o:Oper}{a:Act}{w:Wj}{K:Act->Wj->Prop}{Q:Exit->Act->Wj->Prop}{E:Prop}
  (hg:o.guard=none) (s x:Operand) (t:Ww) (A:o.op=Op.call {callee:=Callee.builtin Builtin.append,args:=#[s,x],argTypes:=#[t,t]})
  (k:Nat) (e:Ww) (i:TypeInfo) (z:Wx) (b f:Nat) (ht:P.underlying t=some (.slice e)) (F:P.info? e=some i) (hz:i.zero=some z)
  (r:i.size=b) (y:i.bytes=f) (C:z.cells.size=b) (hsz:0<b)
  (v:Wx) (n:Nat) (xs:List Wx) (hs:a.eval s=v) (hown:w.ownsRow k e b v n xs)
  (D:Wu) (m c:Nat) (d:List Wx) (hx:a.eval x=.slice (some D) m c) (hl:d.length=m * b) (p:∀j u,d[j]?=some u->w.cell? (D.add j)=some u) (h1:∀u∈d,u.oneCell'=true)
  (B:n+m<=maxLen) (l:(n+m) * f<=140737488355328) (q:k<=w.heap.size)
  (h:∀v' w',w'.ownsRow k e b v' (n+m) (xs++d)->w.grownBy w' v.ownBlock->K (a.put o.dst v') w'):
  if Region.wanted o (yielded ops a.tmps)=true then Oper.wp P o a w K Q else E:=by
 obtain ⟨v',w',hr,h2,h3,_⟩:=run_append_own (P:=P) w k t o.type e i z b f ht F hz r y C hsz v n xs hown D m c d hl p h1 B l q;exact dS hg s x t t A v _ hs hx hr (h v' w' h2 h3)
theorem jP (h:List Ver)(v:Ver):am (h++[v])=am h++[.int .i64 v.num,.string v.body,.bool v.mark]:=by simp [am]
theorem CS {W w1:Wj}(hb:Below W.heap.size W w1){a b c:Wu}{x y z:Wx}(h:W.cell? a=some x/\W.cell? b=some y/\W.cell? c=some z):w1.cell? a=some x/\w1.cell? b=some y/\w1.cell? c=some z:=
 ⟨ai hb h.1,ai hb h.2.1,ai hb h.2.2⟩
theorem nH {w w':Wj}{row:Option Nat}(hg:w.grownBy w' row){b o1 a o3:Nat}{x y z:Wx}(hne:row≠some b)(h:w.cell? ⟨b,o1,none⟩=some x/\w.cell? ⟨b,a,none⟩=some y/\w.cell? ⟨b,o3,none⟩=some z):w'.cell? ⟨b,o1,none⟩=some x/\w'.cell? ⟨b,a,none⟩=some y/\w'.cell? ⟨b,o3,none⟩=some z:=
 ⟨hg.cell h.1 (fun e=>hne e.symm),hg.cell h.2.1 (fun e=>hne e.symm),hg.cell h.2.2 (fun e=>hne e.symm)⟩
theorem iq {w:Wj}{a base':Nat}{e:Ww}{b:Nat}{v:Wx}{n:Nat}{xs:List Wx}(h:w.ownsRow a e b v n xs)(hb:base'<=a):w.ownsRow base' e b v n xs:=by
 refine ⟨h.1,?_⟩;rcases h.2 with h2|⟨g,cap,c,hv,hg,r⟩
 .exact Or.inl h2
 .exact Or.inr ⟨g,cap,c,hv,lT hb hg,r⟩
theorem news3 (W:Wj)(x y z:Wx)(T:Ww):∀j u,[x,y,z][j]?=some u->(W.alloc (.cells #[x,y,z] T)).cell? ((⟨W.heap.size,0,none⟩:Wu).add j)=some u:=by
 intro j u a;rw [Addr.add_lit,cA (w:=W) _ _ W.heap.size _ rfl];simpa using a
theorem one3 (b:Int)(c:ByteArray)(d:Bool):∀u∈[Value.int .i64 b,.string c,.bool d],u.oneCell'=true:=by
 intro u a;simp at a;rcases a with rfl|rfl|rfl<;>rfl
theorem Aw (A:Nat->Prop)(hv:Wx)(h:List Ver)(d:Int)(c:ByteArray)(f:Bool)(w:Wj)(z:bf A w hv h)(hl:h.length<=2199023255552):
  Calls Yq.prog 89 #[hv,.agg #[.int .i64 d,.string c,.bool f]] w fun e w'=>∃m y n,e=.returned (.slice m y n)/\bf (fun b=>w.heap.size<=b) w' (.slice m y n) (h++[⟨d,c,f⟩])/\Below w.heap.size w w':=by
 obtain ⟨i0,s,o,r,p⟩:=info_parts Yq.infoVer;have v:Hid (∀wq:Wj,Below w.heap.size w wq->Calls Yq.prog 96 #[hv] wq fun e w'=>∃v',e=.returned v'/\w'.ownsRow wq.heap.size 81 3 v' h.length (am h)/\Below wq.heap.size wq w'):=fun wq hq=>
  oH A _ h wq (bO.keep z (fun b hb hlt=>⟨hb,hq.block b hlt⟩)) hl
 obtain ⟨ha,hc,rfl,-⟩:=z;have b1:Below w.heap.size w (w.alloc (.cells #[.int .i64 d,.string c,.bool f] 81)):=(bR _ w).alloc (lR _) _;have i:Hid (Below w.heap.size w (w.alloc (.cells #[.int .i64 d,.string c,.bool f] 81))):=b1;have B0:(w.alloc (.cells #[.int .i64 d,.string c,.bool f] 81)).cell? ⟨w.heap.size,0,none⟩=some (.int .i64 d):=by rw [cA (w:=w) _ _ w.heap.size 0 rfl];rfl
 have B1:(w.alloc (.cells #[.int .i64 d,.string c,.bool f] 81)).cell? ⟨w.heap.size,1,none⟩=some (.string c):=by rw [cA (w:=w) _ _ w.heap.size 1 rfl];rfl
 have B2:(w.alloc (.cells #[.int .i64 d,.string c,.bool f] 81)).cell? ⟨w.heap.size,2,none⟩=some (.bool f):=by rw [cA (w:=w) _ _ w.heap.size 2 rfl];rfl
 clear b1;go_enter (Yq.nq func89),ntmps89;go_wp2_with fail
 go_region_held3 (fun w'=>w'.cell? ⟨w.heap.size,0,none⟩=some (.int .i64 d)/\w'.cell? ⟨w.heap.size,1,none⟩=some (.string c)/\w'.cell? ⟨w.heap.size,2,none⟩=some (.bool f)) (first|assumption|go_keep)
  (first
   |(refine ip rfl _ _ 114 rfl w.heap.size 81 i0 _ 3 32 (Yq.u underlying114) s o r p rfl (by decide) (.slice m h.length n) h.length (am h) (by simp [Act.eval]) (hown.alloc _) ⟨w2.heap.size,0,none⟩ 1 1 [.int .i64 d,.string c,.bool f] (by simp [Act.eval]) rfl (news3 _ _ _ _ _) (one3 _ _ _) (by simp only [maxLen];omega) (by omega) (lT hbs (by simp)) ?_;intro v2 w3 ho3 l;have hb3:Below w.heap.size w w3:=(hbw.alloc hbw.size _).grown l (lT hbs (by simp)) (fun k e=>(hown.lt k e).1);have kS3:=nH l q (by assumption))
   |(refine ip rfl _ _ 114 rfl w.heap.size 81 i0 _ 3 32 (Yq.u underlying114) s o r p rfl (by decide) (.slice m h.length n) h.length (am h) (by simp [Act.eval]) hown ⟨w.heap.size+1,0,none⟩ 1 1 [.int .i64 d,.string c,.bool f] (by simp [Act.eval]) rfl (fun j u B=>ai hb (by have:=news3 (w.alloc (.cells #[.int .i64 d,.string c,.bool f] 81)) _ _ _ 81 j u B;simpa using this)) (one3 _ _ _) (by simp only [maxLen];omega) (by omega) hbs ?_;intro v2 w3 ho3 l;have hb3:Below w.heap.size w w3:=hbw.grown l hbw.size (fun k e=>(hown.lt k e).1);have kS3:=nH l q (by assumption))
   |(go_at_call 96;go_loud (refine (v.out _ ?_).mono ?_);go_loud (first|exact i.out|exact i.out.drew|exact (i.out.alloc (by simp) _).drew);rintro e w2 ⟨v',rfl,a,hb⟩;obtain ⟨m,n,rfl,-⟩:=aE a;have hown:=iq (base':=w.heap.size) a (by simp<;>omega);have q:(Value.slice m h.length n).ownBlock≠some w.heap.size:=fun e=>absurd (a.lt _ e).1 (by simp<;>omega);have hbs:w.heap.size<=w2.heap.size:=lT (by simp<;>omega) hb.size;have hbw:Below w.heap.size w w2:=(by first|exact i.out.drew.trans (hb.mono i.out.size)|exact ((i.out.alloc (by simp) _).drew).trans (hb.mono (by simp<;>omega)));have kS:=CS hb (by assumption)))
 all_goals
  obtain ⟨t,x,rfl,-⟩:=aE ho3;go_wp2;go_ret;have ho4:=ho3;rw [show am h++[.int .i64 d,.string c,.bool f]=am (h++[⟨d,c,f⟩]) from (jP h ⟨d,c,f⟩).symm] at ho4;exact ⟨t,h.length+1,x,rfl,lG (by simp) ho4 (fun j e=>(ho4.lt j e).1),hb3⟩
theorem Yq.infoU8:(Yq.prog.info? 5).map (fun i=>(i.zero,i.size,i.bytes))=some (some (.int .u8 0),1,1):=by kernel_rfl
theorem uv (s:ByteArray)(w:Wj)(hlim:s.size<=281474976710656):
  Calls Yq.prog 90 #[.string s] w fun e w'=>e=.returned (.string s)/\Below w.heap.size w w':=by
 by_cases h0:s.size=0
 .have hs:s=⟨#[]⟩:=by
   apply ByteArray.ext;exact Array.eq_empty_of_size_eq_zero h0
  subst hs;go_enter (Yq.nq func90),ntmps90;go_wp2;go_ret;exact ⟨rfl,bR _ _⟩
 .obtain ⟨i0,f,m,a,q⟩:=info_parts Yq.infoU8;have b:(Yq.prog.info? 5).map (·.size)=some 1:=by rw [f];simp [a]
  have n:Yq.prog.cellsOf 5=1:=by simp [Program.cellsOf,f,a]
  obtain ⟨M,i⟩:∃M,M=madeCells (Value.int .u8 0).cells (((s.size:Nat):Int).toNat * i0.size):=⟨_,rfl⟩;have hMs:M.size=s.size:=by rw [i,size_madeCells,a];simp
  have hmk:∀W:Wj,(Instr.makeSlice 48 (.int .i64 (s.size:Int)) (.int .i64 (s.size:Int))).run Yq.prog W=.ok (.slice (some ⟨W.heap.size,0,none⟩) s.size s.size) (W.alloc (.cells M 5)):=fun W=>by
   have h:=run_make (P:=Yq.prog) W 48 5 i0 (.int .u8 0) (Yq.u underlying48) f m .i64 .i64 (s.size:Int) (s.size:Int) (by omega) (by omega) (by rw [q];omega) (by omega);rw [<-i] at h;simpa using h
  clear i;have hcp:=Lib.run_copy_row_string (P:=Yq.prog) (w.alloc (.cells M 5)) 48 9 3 5 w.heap.size 0 s.size s.size s M 5 (Yq.u underlying48) b (heap_alloc_new w _) (lR _) (by omega);obtain ⟨Y,l⟩:∃Y,Y=(M.toList.take 0++Lib.byteCells s.data.toList++M.toList.drop (0+s.size)).toArray:=⟨_,rfl⟩;rw [<-l] at hcp;have c:Y.toList=Lib.byteCells s.data.toList:=by
   rw [l,List.toList_toArray,List.take_zero,List.nil_append,List.drop_of_length_le (by rw [lY];omega),List.append_nil]
  have hYs:Y.size=s.size:=by rw [<-lY,c,Lib.byteCells_length,<-Lib.size_eq]
  have d:((w.alloc (.cells M 5)).setRow w.heap.size Y).heap[w.heap.size]?=some (.cells Y 5 (0,0)):=setRow_heap _ _ M _ 5 (0,0) (heap_alloc_new w _);have hne:s.data.toList≠[]:=fun e=>h0 (by rw [Lib.size_eq,e];rfl)
  have hUS:=Lib.run_unsafeString_row (P:=Yq.prog) ((w.alloc (.cells M 5)).setRow w.heap.size Y) 183 3 9 5 (Yq.u underlying183) n w.heap.size Y.size (by unfold World.shape?;rw [d]) s.data.toList hne (by rw [<-Lib.size_eq];omega) (by rw [<-Lib.size_eq];omega)
   (fun j x hx=>Lib.cells_of_row d Y.size j _ (by rw [tO (by rw [lY];exact lR _),c];simp [Lib.byteCells,hx]))
  rw [<-Lib.size_eq] at hUS;clear l;go_enter (Yq.nq func90),ntmps90;go_wp2;go_ret;have o:Below w.heap.size w (w.alloc (.cells M 5)):=(bR _ w).alloc (lR _) _;have hb2:Below w.heap.size (w.alloc (.cells M 5)) ((w.alloc (.cells M 5)).setRow w.heap.size Y):=⟨rfl,rfl,rfl,by simp,fun k hk=>setRow_other _ _ _ _ (by omega)⟩;exact ⟨rfl,Lib.below_freeze (o.trans hb2) (p:=⟨w.heap.size,0,none⟩) (lR _) _⟩
theorem xX (s:ByteArray)(w:Wj)(hlim:s.size<=281474976710656):
  Calls Yq.prog 62 #[.string s] w fun e w'=>e=.returned (.string s)/\Below w.heap.size w w':=by
 go_enter (Yq.nq func62),ntmps62;go_wp2_with (go_at_call 90;refine (uv _ _ hlim).mono ?_;rintro e w' ⟨rfl,hb⟩)
 go_ret;exact ⟨rfl,hb⟩
structure St where
 f:List UInt8->List Ver
 count:Int
 last:Int
structure OpD where
 kind:Int
 key:ByteArray
 body:ByteArray
 delim:ByteArray
 past:ByteArray
 n:Int
 src:Int
structure yU where
 code:Int
 ver:Int
 body:ByteArray
def bh (o:OpD):Wx:=.agg #[.int .i64 o.kind,.string o.key,.string o.body,.string o.delim,.string o.past,.int .i64 o.n,.int .i64 o.src]
def aA (a:yU):Wx:=.agg #[.int .i64 a.code,.int .i64 a.ver,.string a.body,.slice none 0 0,.string ⟨#[]⟩]
def aI (k:ByteArray):Bool:=decide (1<=k.size/\k.size<=40)
def cw (st:St)(key:ByteArray)(body:ByteArray)(mark:Bool):St:=
 ⟨upd st.f key.data.toList (st.f key.data.toList++[⟨st.last+1,body,mark⟩]),st.count+1,st.last+1⟩
def ci (h:List Ver)(n:Int):Option Nat:=h.findIdx? (fun v=>v.num==n)
def bG (st:St)(key:ByteArray)(r:Nat):St:=
 ⟨upd st.f key.data.toList ((st.f key.data.toList).take r++(st.f key.data.toList).drop (r+1)),st.count-1,st.last⟩
def ay (st:St)(o:OpD):St×yU:=
 let none:yU:=⟨0,0,⟨#[]⟩⟩
 if o.kind=1 then
  if aI o.key=false then (st,{none with code:=2})
  else if 100<o.body.size then (st,{none with code:=3})
  else if 200<=st.count\/st.last=9223372036854775807 then (st,{none with code:=4})
  else (cw st o.key o.body false,{none with ver:=st.last+1})
 else if o.kind=2 then
  if aI o.key=false then (st,{none with code:=2})
  else match (st.f o.key.data.toList).getLast? with
   | .none=>(st,{none with code:=5})
   |some v=>if v.mark then (st,{none with code:=5}) else (st,⟨0,v.num,v.body⟩)
 else if o.kind=3 then
  if aI o.key=false then (st,{none with code:=2})
  else match ci (st.f o.key.data.toList) o.n with
   | .none=>(st,{none with code:=5})
   |some r=>match (st.f o.key.data.toList)[r]? with
    | .none=>(st,{none with code:=5})
    |some v=>if v.mark then (st,{none with code:=6}) else (st,⟨0,0,v.body⟩)
 else if o.kind=4 then
  if aI o.key=false then (st,{none with code:=2})
  else if 200<=st.count\/st.last=9223372036854775807 then (st,{none with code:=4})
  else (cw st o.key ⟨#[]⟩ true,{none with ver:=st.last+1})
 else if o.kind=5 then
  if aI o.key=false then (st,{none with code:=2})
  else match ci (st.f o.key.data.toList) o.n with
   | .none=>(st,{none with code:=5})
   |some r=>(bG st o.key r,none)
 else (st,{none with code:=1})
structure Inv (st:St)(s:Nat):Prop where
 last0:0<=st.last
 lastS:st.last<=9223372036854775807
 countL:-(s:Int)<=st.count
 countU:st.count<=s+200
 len:∀k,(st.f k).length<=s+200
 sorted:∀k i j,i<j->j<(st.f k).length->nums (st.f k) i<nums (st.f k) j
 bounds:∀k i,i<(st.f k).length->1<=nums (st.f k) i/\nums (st.f k) i<=st.last
theorem dC {h:List Ver}{v:Ver}{i:Nat}(a:i<h.length):nums (h++[v]) i=nums h i:=by
 simp [nums,List.getElem?_append_left a]
theorem gN {h:List Ver}{v:Ver}:nums (h++[v]) h.length=v.num:=by simp [nums]
theorem Inv.mono {st:St}{s s':Nat}(h:Inv st s)(hs:s<=s'):Inv st s':=
 ⟨h.last0,h.lastS,by have:=h.countL;omega,by have:=h.countU;omega,fun k=>by have:=h.len k;omega,h.sorted,h.bounds⟩
theorem Inv.add {st:St}{s:Nat}(h:Inv st s)(key body:ByteArray)(mark:Bool)(hl:¬st.last=9223372036854775807):Inv (cw st key body mark) (s+1):=by
 refine ⟨by have:=h.last0;simp [cw];omega,by have:=h.lastS;simp [cw];omega,by have:=h.countL;simp [cw];omega,by have:=h.countU;simp [cw];omega,fun k=>?_,?_,?_⟩
 .have h1:=h.len k;have h2:=h.len key.data.toList;unfold cw upd;dsimp only;split
  .rw [lP,lS];omega
  .omega
 .intro k i j a e;by_cases hk:k=key.data.toList
  .subst hk;simp only [cw,upd,if_true] at e ⊢;rw [lP,lS] at e;by_cases b:j<(st.f key.data.toList).length
   .rw [dC b,dC (by omega)];exact h.sorted _ i j a b
   .have m:j=(st.f key.data.toList).length:=by omega
    subst m;rw [gN,dC a];have:=(h.bounds key.data.toList i a).2;simp only;omega
  .simp only [cw,upd,if_neg hk] at e ⊢;exact h.sorted k i j a e
 .intro k i d;by_cases hk:k=key.data.toList
  .subst hk;simp only [cw,upd,if_true] at d ⊢;rw [lP,lS] at d;by_cases c:i<(st.f key.data.toList).length
   .rw [dC c];have:=h.bounds _ i c;omega
   .have l:i=(st.f key.data.toList).length:=by omega
    subst l;rw [gN];have:=h.last0;simp only;omega
  .simp only [cw,upd,if_neg hk] at d ⊢;have:=h.bounds k i d;omega
theorem p9 {h:List Ver}{r i:Nat}(hr:r<h.length):nums (h.take r++h.drop (r+1)) i=nums h (if i<r then i else i+1):=by
 unfold nums;have hl:(h.take r).length=r:=by rw [tL];omega
 by_cases a:i<r
 .rw [if_pos a,aL (by omega),List.getElem?_take,if_pos a]
 .rw [if_neg a,aR (by omega),hl,List.getElem?_drop];congr 3;omega
theorem Inv.drop {st:St}{s:Nat}(h:Inv st s)(key:ByteArray)(r:Nat)(hr:r<(st.f key.data.toList).length):Inv (bG st key r) (s+1):=by
 refine ⟨h.last0,by have:=h.lastS;simp [bG];omega,by have:=h.countL;simp [bG];omega,by have:=h.countU;simp [bG];omega,fun k=>?_,?_,?_⟩
 .have h1:=h.len k;have h2:=h.len key.data.toList;unfold bG upd;dsimp only;split
  .rw [lP,tL,lD];omega
  .omega
 .intro k i j c a;by_cases hk:k=key.data.toList
  .subst hk;simp only [bG,upd,if_true] at a ⊢;rw [lP,tL,lD] at a;rw [p9 hr,p9 hr];exact h.sorted _ _ _ (by split<;>split<;>omega) (by split<;>omega)
  .simp only [bG,upd,if_neg hk] at a ⊢;exact h.sorted k i j c a
 .intro k i b;by_cases hk:k=key.data.toList
  .subst hk;simp only [bG,upd,if_true] at b ⊢;rw [lP,tL,lD] at b;rw [p9 hr];exact h.bounds _ _ (by split<;>omega)
  .simp only [bG,upd,if_neg hk] at b ⊢;exact h.bounds k i b
theorem CT {h:List Ver}{n:Int}{r:Nat}(hp:Au h n r)(hs:∀i j,i<j->j<h.length->nums h i<nums h j):ci h n=if xV h n r then some r else none:=by
 unfold ci;cases hat:xV h n r with
 |true=>
  have:=of_decide_eq_true hat;obtain ⟨hr,hn⟩:=this;simp only [if_true];rw [List.findIdx?_eq_some_iff_getElem];refine ⟨hr,?_,fun j a=>?_⟩
  .rw [p8 hr] at hn;simp [hn]
  .have:=hp.lo j (by omega) a;rw [p8 (by omega)] at this;simp;omega
 |false=>
  simp only [Bool.false_eq_true,if_false];rw [List.findIdx?_eq_none_iff];intro v hv;obtain ⟨j,a,e⟩:=gM hv;have hne:=of_decide_eq_false hat;have hj':nums h j=v.num:=by rw [p8 a,e]
  by_cases c:j<r
  .have:=hp.lo j a c;simp;omega
  .have h1:=hp.hi r (by omega) (lR _);by_cases b:j=r
   .subst b;have:¬nums h j=n:=fun e=>hne ⟨a,e⟩
    simp;omega
   .have h2:=hs r j (by omega) a;simp;omega
structure aF (A:Nat->Prop)(w:Wj)(k0:Nat)(st:St):Prop where
 avoid:∀b,A b->b≠k0
 tree:∃p,w.cell? ⟨k0,0,none⟩=some (.pointer p)/\ak A 41 w p st.f
 count:w.cell? ⟨k0,1,none⟩=some (.int .i64 st.count)
 last:w.cell? ⟨k0,2,none⟩=some (.int .i64 st.last)
 frozen:∀j,w.frozen? ⟨k0,j,none⟩=false
theorem dp {w w1:Wj}{k0:Nat}(h:w.grownBy w1 (some k0))(o:Nat)(v:Wx):w.grownBy (w1.setCell ⟨k0,o,none⟩ v) (some k0):=
 ⟨h.os,h.tape,h.output,by have:=h.size;simp [World.setCell];omega,fun k hk hr=>(bS _ _ _ _ (fun e=>hr (by rw [e]))).trans (h.block k hk hr)⟩
theorem qg {w w1:Wj}{r:Option Nat}(h:w.grownBy w1 r){b:Nat}(hb:w.heap.size<=b)(o:Nat)(v:Wx):w.grownBy (w1.setCell ⟨b,o,none⟩ v) r:=
 ⟨h.os,h.tape,h.output,by have:=h.size;simp [World.setCell];omega,fun k hk hr=>(bS _ _ _ _ (by show k≠b;omega)).trans (h.block k hk hr)⟩
theorem aF.lt {A:Nat->Prop}{w:Wj}{k0:Nat}{st:St}(S:aF A w k0 st):k0<w.heap.size:=bC w _ S.count
theorem Fj {A:Nat->Prop}{w w':Wj}{k0:Nat}(hg:w.grownBy w' (some k0))(ha:∀b,A b->b≠k0):∀b,A b->b<w.heap.size->A b/\w'.heap[b]?=w.heap[b]?:=
 fun b h1 h2=>⟨h1,hg.block b h2 (by intro e;cases e;exact ha k0 h1 rfl)⟩
theorem aF.on {A:Nat->Prop}{w w':Wj}{k0:Nat}{st:St}(S:aF A w k0 st)(hb:Below w.heap.size w w'):aF A w' k0 st:=by
 obtain ⟨p,c0,a⟩:=S.tree;exact ⟨S.avoid,⟨p,ai hb c0,a.on hb⟩,ai hb S.count,ai hb S.last,fun j=>(hb.frozen (p:=⟨k0,j,none⟩) S.lt).trans (S.frozen j)⟩
theorem aF.grow {A:Nat->Prop}{w:Wj}{k0:Nat}{st:St}(S:aF A w k0 st):aF (Grow A w) w k0 st:=by
 obtain ⟨p,c0,a⟩:=S.tree;refine ⟨?_,⟨p,c0,ak.keep (fun b h1 h2=>⟨Or.inl ⟨h1,h2⟩,rfl⟩) _ _ _ a⟩,S.count,S.last,S.frozen⟩;rintro b (⟨h,_⟩|h)
 .exact S.avoid b h
 .have:=S.lt;omega
def dL:Ver:=⟨0,⟨#[]⟩,false⟩
theorem jQ (key:ByteArray)(w:Wj)(h:key.size<=maxLen):Calls Yq.prog 59 #[.string key] w fun e w'=>e=.returned (.bool (aI key))/\w=w':=by
 unfold maxLen at h;by_cases h1:1<=key.size
 .by_cases h2:key.size<=40
  .have e:aI key=true:=by simp [aI,h1,h2]
   go_enter (Yq.nq func59),ntmps59;go_wp2;go_ret;exact ⟨by simp [e]<;>omega,rfl⟩
  .have e:aI key=false:=by simp [aI,h2]
   go_enter (Yq.nq func59),ntmps59;go_wp2;go_ret;exact ⟨by simp [e]<;>omega,rfl⟩
 .go_enter (Yq.nq func59),ntmps59;go_wp2;go_ret;exact ⟨by simp [aI]<;>omega,rfl⟩
def jj (st:St):Bool:=decide (200<=st.count\/st.last=9223372036854775807)
theorem oM (k0:Nat)(st:St)(w:Wj)(hc:w.cell? ⟨k0,1,none⟩=some (.int .i64 st.count))(hl:w.cell? ⟨k0,2,none⟩=some (.int .i64 st.last)):Calls Yq.prog 60 #[.pointer (some ⟨k0,0,none⟩)] w fun e w'=>e=.returned (.bool (jj st))/\w=w':=by
 by_cases hf:200<=st.count
 .have e:jj st=true:=by simp [jj,hf]
  have hd:decide (200<=st.count)=true:=by simp [hf]
  rw [e];go_enter (Yq.nq func60),ntmps60;go_wp2;go_ret;exact ⟨rfl,rfl⟩
 .have hd:decide (200<=st.count)=false:=by simp [hf]
  have e:jj st=(st.last==9223372036854775807):=by rw [jj,Bool.eq_iff_iff];simp [hf]
  rw [e];go_enter (Yq.nq func60),ntmps60;go_wp2;go_ret;exact ⟨rfl,rfl⟩
theorem fW {key:ByteArray}(h:aI key=true):key.size<41/\key.size<=1000:=by
 have:=of_decide_eq_true h;omega
def CU (A:Nat->Prop)(st:St)(key:ByteArray)(n:Int)(w:Wj)(e:Ending)(w':Wj):Prop:=
  Below w.heap.size w w' /\
  ((aI key=false/\e=.returned (.tuple #[.slice none 0 0,.int .i64 0,.int .i64 2])) \/
   (aI key=true/\ci (st.f key.data.toList) n=none/\e=.returned (.tuple #[.slice none 0 0,.int .i64 0,.int .i64 5])) \/
   (aI key=true/\∃ (r:Nat) (ha:Option Wu) (hc:Nat),ci (st.f key.data.toList) n=some r/\r<(st.f key.data.toList).length/\bf A w' (.slice ha (st.f key.data.toList).length hc) (st.f key.data.toList) /\
      e=.returned (.tuple #[.slice ha (st.f key.data.toList).length hc,.int .i64 r,.int .i64 0])))
theorem rX (A:Nat->Prop)(k0:Nat)(st:St)(s:Nat)(key:ByteArray)(n:Int)(w:Wj)(hk:key.size<=maxLen)(S:aF A w k0 st)(h:Inv st s)(hs:s<=2199023255340):
  Calls Yq.prog 65 #[.pointer (some ⟨k0,0,none⟩),.string key,.int .i64 n] w (CU A st key n w):=by
 obtain ⟨p,c0,d⟩:=S.tree;have HIK:=jQ key w hk;cases a:aI key with
 |false=>
  rw [a] at HIK;have HK:Hid (aI key=false):=a;clear a;go_enter (Yq.nq func65),ntmps65;go_wp2_with (go_at_call 59;refine HIK.mono ?_;rintro e w' ⟨rfl,rfl⟩)
  go_ret3
  exact ⟨bR _ _,Or.inl ⟨HK.out,rfl⟩⟩
 |true=>
  rw [a] at HIK;have HK:Hid (aI key=true):=a;have hsz:=fW a;clear a;have HG:=mM A 41 p st.f key w hsz.1 hk d;have hle:=h.len key.data.toList;have hso:=h.sorted key.data.toList;clear d;go_enter (Yq.nq func65),ntmps65;go_wp2_with (go_at_call 59;refine HIK.mono ?_;rintro e w' ⟨rfl,rfl⟩)
  refine HG.mono ?_;rintro e w1 ⟨hv,rfl,c,b⟩;have HF:=Av A hv (st.f key.data.toList) n w1 c hso (by omega);obtain ⟨ha,hc,rfl,-⟩:=id c;have HH:Hid (bf A w1 (.slice ha (st.f key.data.toList).length hc) (st.f key.data.toList)/\∀i j,i<j->j<(st.f key.data.toList).length->nums (st.f key.data.toList) i<nums (st.f key.data.toList) j):=⟨c,hso⟩;clear c hso HG;go_wp2_with fail
  refine HF.mono ?_;rintro e w2 ⟨r,hp,rfl,hb2⟩;have hpl:=CT hp HH.out.2;have HB:Hid (Below w.heap.size w w2):=b.trans (hb2.mono b.size);cases hat:xV (st.f key.data.toList) n r with
  |true=>
   rw [hat] at hpl;have HP:Hid (ci (st.f key.data.toList) n=some r/\r<(st.f key.data.toList).length):=⟨by simpa using hpl,(of_decide_eq_true hat).1⟩;clear hpl hp HF hat;go_wp2
   go_ret3
   exact ⟨HB.out,Or.inr (Or.inr ⟨HK.out,r,ha,hc,HP.out.1,HP.out.2,HH.out.1.on hb2,rfl⟩)⟩
  |false=>
   rw [hat] at hpl;have HP:Hid (ci (st.f key.data.toList) n=none):=show ci (st.f key.data.toList) n=none by simpa using hpl
   clear hpl hp HF hat;go_wp2
   go_ret3
   exact ⟨HB.out,Or.inr (Or.inl ⟨HK.out,HP.out,rfl⟩)⟩
theorem oN (c:Int)(b:ByteArray)(a:Bool)(w:Wj):(Instr.field 81 (.agg #[.int .i64 c,.string b,.bool a]) 2).run Yq.prog w=.ok (.bool a) w:=by kernel_rfl
def jR (st:St)(key:ByteArray):Ver×Int:=
 if aI key=false then (dL,2)
 else match (st.f key.data.toList).getLast? with
  |none=>(dL,5)
  |some v=>if v.mark then (dL,5) else (v,0)
theorem CW (A:Nat->Prop)(k0:Nat)(st:St)(s:Nat)(key:ByteArray)(w:Wj)(hk:key.size<=maxLen)(S:aF A w k0 st)(u:Inv st s)(hs:s<=2199023255340):
  Calls Yq.prog 36 #[.pointer (some ⟨k0,0,none⟩),.string key] w fun e w'=>e=.returned (.tuple #[bZ (jR st key).1,.int .i64 (jR st key).2])/\Below w.heap.size w w':=by
 have B0:Below w.heap.size w (w.alloc (.cells #[.int .i64 0,.string ⟨#[]⟩,.bool false] 81)):=(bR _ w).alloc (lR _) _;have S1:=S.on B0;obtain ⟨p,c0,o⟩:=S1.tree;have HIK:=jQ key (w.alloc (.cells #[.int .i64 0,.string ⟨#[]⟩,.bool false] 81)) hk;have a0:(w.alloc (.cells #[.int .i64 0,.string ⟨#[]⟩,.bool false] 81)).cell? ⟨w.heap.size,0,none⟩=some (.int .i64 0):=by rw [cA (w:=w) _ _ w.heap.size 0 rfl];rfl
 have a1:(w.alloc (.cells #[.int .i64 0,.string ⟨#[]⟩,.bool false] 81)).cell? ⟨w.heap.size,1,none⟩=some (.string ⟨#[]⟩):=by rw [cA (w:=w) _ _ w.heap.size 1 rfl];rfl
 have a2:(w.alloc (.cells #[.int .i64 0,.string ⟨#[]⟩,.bool false] 81)).cell? ⟨w.heap.size,2,none⟩=some (.bool false):=by rw [cA (w:=w) _ _ w.heap.size 2 rfl];rfl
 have l:∀j,(w.alloc (.cells #[.int .i64 0,.string ⟨#[]⟩,.bool false] 81)).frozen? ⟨w.heap.size,j,none⟩=false:=fun j=>World.frozen?_alloc_at (w:=w) _ _ w.heap.size j rfl
 have h:Hid (Below w.heap.size w (w.alloc (.cells #[.int .i64 0,.string ⟨#[]⟩,.bool false] 81))):=B0;have d:w.heap.size<(w.alloc (.cells #[.int .i64 0,.string ⟨#[]⟩,.bool false] 81)).heap.size:=by simp
 clear B0 S S1;cases a:aI key with
 |false=>
  rw [a] at HIK;have HR:Hid (jR st key=(dL,2)):=show jR st key=(dL,2) by simp [jR,a]
  clear a;go_enter (Yq.nq func36),ntmps36;go_wp2_with (go_at_call 59;refine HIK.mono ?_;rintro e w' ⟨rfl,rfl⟩)
  refine bodyPost_ret (v:=.tuple #[bZ (jR st key).1,.int .i64 (jR st key).2]) (by rw [HR.out];simp [results,results36,go_sem,bZ,dL]) rfl ⟨rfl,?_⟩;exact h.out
 |true=>
  rw [a] at HIK;have hsz:=fW a;have HK:Hid (aI key=true):=a;clear a;have HG:=mM A 41 p st.f key _ hsz.1 hk o;have hle:=u.len key.data.toList;clear o;go_enter (Yq.nq func36),ntmps36;go_wp2_with (go_at_call 59;refine HIK.mono ?_;rintro e w' ⟨rfl,rfl⟩)
  refine HG.mono ?_;generalize w.alloc (.cells #[.int .i64 0,.string ⟨#[]⟩,.bool false] 81)=W0 at *;rintro e w1 ⟨hv,rfl,n,c⟩;have d0:=ai c a0;have d1:=ai c a1;have d2:=ai c a2;have g0:=(c.frozen (p:=⟨w.heap.size,0,none⟩) d).trans (l 0);have g1:=(c.frozen (p:=⟨w.heap.size,1,none⟩) d).trans (l 1);have g2:=(c.frozen (p:=⟨w.heap.size,2,none⟩) d).trans (l 2);have hb:Below w.heap.size w w1:=h.out.trans (c.mono h.out.size);have b:w.heap.size<w1.heap.size:=lL d c.size;have HB:Hid (Below w.heap.size w w1):=hb;clear hb c a0 a1 a2 l d h HIK HG c0;by_cases hnil:st.f key.data.toList=[]
  .have HR:Hid (jR st key=(dL,5)):=show jR st key=(dL,5) by simp [jR,HK.out,hnil]
   have he:(st.f key.data.toList).isEmpty=true:=by rw [hnil];rfl
   clear n hnil;go_wp2;refine bodyPost_ret (v:=.tuple #[bZ (jR st key).1,.int .i64 (jR st key).2]) (by rw [HR.out];simp [results,results36,go_sem,bZ,dL,d0,d1,d2]) rfl ⟨rfl,?_⟩;exact ((HB.out.setCell (lR _) _).setCell (lR _) _).setCell (lR _) _
  .have HN:Hid (∀wq:Wj,Below w1.heap.size w1 wq->Calls Yq.prog 64 #[hv] wq fun e w'=>e=.returned (bZ ((st.f key.data.toList).getLast hnil))/\Below wq.heap.size wq w'):=fun wq hq=>
    kM A hv _ wq (n.on hq) hnil (by omega)
   have he:(st.f key.data.toList).isEmpty=false:=by simp [hnil]
   obtain ⟨v,i⟩:∃v,v=(st.f key.data.toList).getLast hnil:=⟨_,rfl⟩;have k:(st.f key.data.toList).getLast?=some v:=by rw [i,List.getLast?_eq_some_getLast hnil]
   have HR:Hid (jR st key=if v.mark then (dL,5) else (v,0)):=show jR st key=_ by simp [jR,HK.out,k]
   rw [<-i] at HN;obtain ⟨t,q,r⟩:=v;obtain ⟨ha,hc,rfl,-⟩:=n;clear hnil i k;have hfm:=oN t q;cases r with
   |true=>
    go_wp2_with fail
    refine (HN.out w1 (bR _ _)).mono ?_;rintro e w2 ⟨rfl,hb2⟩;have e0:=ai hb2 d0;have e1:=ai hb2 d1;have e2:=ai hb2 d2;have f0:=(hb2.frozen (p:=⟨w.heap.size,0,none⟩) b).trans g0;have f1:=(hb2.frozen (p:=⟨w.heap.size,1,none⟩) b).trans g1;have f2:=(hb2.frozen (p:=⟨w.heap.size,2,none⟩) b).trans g2;simp only [bZ];go_wp2;refine bodyPost_ret (v:=.tuple #[bZ (jR st key).1,.int .i64 (jR st key).2]) (by rw [HR.out];simp [results,results36,go_sem,bZ,dL,e0,e1,e2]) rfl ⟨rfl,?_⟩;exact (((HB.out.trans (hb2.mono HB.out.size)).setCell (lR _) _).setCell (lR _) _).setCell (lR _) _
   |false=>
    go_wp2_with fail
    refine (HN.out w1 (bR _ _)).mono ?_;rintro e w2 ⟨rfl,hb2⟩;simp only [bZ];go_wp2_with fail
    refine (HN.out w2 hb2).mono ?_;rintro e w3 ⟨rfl,hb3⟩;have hb4:Below w1.heap.size w1 w3:=hb2.trans (hb3.mono hb2.size);have e0:=ai hb4 d0;have e1:=ai hb4 d1;have e2:=ai hb4 d2;have f0:=(hb4.frozen (p:=⟨w.heap.size,0,none⟩) b).trans g0;have f1:=(hb4.frozen (p:=⟨w.heap.size,1,none⟩) b).trans g1;have f2:=(hb4.frozen (p:=⟨w.heap.size,2,none⟩) b).trans g2;have m:Hid (Below w1.heap.size w1 w3):=hb4;clear hb2 hb3 hb4 d0 d1 d2 g0 g1 g2;simp only [bZ];go_wp2;refine bodyPost_ret (v:=.tuple #[bZ (jR st key).1,.int .i64 (jR st key).2]) (by rw [HR.out];simp [results,results36,go_sem,bZ,e0,e1,e2]) rfl ⟨rfl,?_⟩;exact (((HB.out.trans (m.out.mono HB.out.size)).setCell (lR _) _).setCell (lR _) _).setCell (lR _) _
theorem cs {w:Wj}{a:Wu}{v u:Wx}(h:w.cell? a=some u):(w.setCell a v).cell? a=some v:=by first|exact World.cell?_setCell_same w a v h|exact World.cell?_setCell_same _ _ _ h
theorem co {w:Wj}{a b:Wu}{v u:Wx}(hne:a≠b)(h:w.cell? b=some u):(w.setCell a v).cell? b=some u:=(cO w a b v hne).trans h
theorem fs {w:Wj}{a b:Wu}{v:Wx}(h:w.frozen? b=false):(w.setCell a v).frozen? b=false:=by simpa using h
structure aQ (w:Wj)(b:Nat)(x y z:Wx):Prop where
 c0:w.cell? ⟨b,0,none⟩=some x
 c1:w.cell? ⟨b,1,none⟩=some y
 c2:w.cell? ⟨b,2,none⟩=some z
 fz:∀j,w.frozen? ⟨b,j,none⟩=false
theorem aQ.on {w w':Wj}{b:Nat}{x y z:Wx}(h:aQ w b x y z)(hb:Below w.heap.size w w'):aQ w' b x y z:=
 ⟨ai hb h.c0,ai hb h.c1,ai hb h.c2,fun j=>(hb.frozen (p:=⟨b,j,none⟩) (show b<w.heap.size from bC w ⟨b,0,none⟩ h.c0)).trans (h.fz j)⟩
theorem aQ.lt {w:Wj}{b:Nat}{x y z:Wx}(h:aQ w b x y z):b<w.heap.size:=bC w ⟨b,0,none⟩ h.c0
theorem aQ.set0 {w:Wj}{b:Nat}{x y z:Wx}(h:aQ w b x y z)(v:Wx):aQ (w.setCell ⟨b,0,none⟩ v) b v y z:=
 ⟨cs h.c0,co (by simp) h.c1,co (by simp) h.c2,fun j=>fs (h.fz j)⟩
theorem aQ.set1 {w:Wj}{b:Nat}{x y z:Wx}(h:aQ w b x y z)(v:Wx):aQ (w.setCell ⟨b,1,none⟩ v) b x v z:=
 ⟨co (by simp) h.c0,cs h.c1,co (by simp) h.c2,fun j=>fs (h.fz j)⟩
theorem aQ.set2 {w:Wj}{b:Nat}{x y z:Wx}(h:aQ w b x y z)(v:Wx):aQ (w.setCell ⟨b,2,none⟩ v) b x y v:=
 ⟨co (by simp) h.c0,co (by simp) h.c1,cs h.c2,fun j=>fs (h.fz j)⟩
theorem aQ.far {w:Wj}{b:Nat}{x y z:Wx}(h:aQ w b x y z)(b' o:Nat)(v:Wx)(hne:b'≠b):aQ (w.setCell ⟨b',o,none⟩ v) b x y z:=
 ⟨co (fun e=>hne (congrArg Addr.block e)) h.c0,co (fun e=>hne (congrArg Addr.block e)) h.c1,co (fun e=>hne (congrArg Addr.block e)) h.c2,fun j=>fs (h.fz j)⟩
theorem fX (w:Wj)(x y z:Wx)(T:Ww):aQ (w.alloc (.cells #[x,y,z] T)) w.heap.size x y z:=
 ⟨by rw [cA (w:=w) _ _ w.heap.size 0 rfl];rfl,by rw [cA (w:=w) _ _ w.heap.size 1 rfl];rfl,by rw [cA (w:=w) _ _ w.heap.size 2 rfl];rfl,fun j=>World.frozen?_alloc_at (w:=w) _ _ w.heap.size j rfl⟩
theorem aF.cells {A:Nat->Prop}{w:Wj}{k0:Nat}{st:St}(S:aF A w k0 st):∃p,aQ w k0 (.pointer p) (.int .i64 st.count) (.int .i64 st.last)/\ak A 41 w p st.f:=by
 obtain ⟨p,c0,a⟩:=S.tree;exact ⟨p,⟨c0,S.count,S.last,S.frozen⟩,a⟩
theorem fY {A:Nat->Prop}{w:Wj}{k0:Nat}{st:St}{p:Option Wu}(h:aQ w k0 (.pointer p) (.int .i64 st.count) (.int .i64 st.last))(a:ak A 41 w p st.f)(ha:∀b,A b->b≠k0):aF A w k0 st:=
 ⟨ha,⟨p,h.c0,a⟩,h.c1,h.c2,h.fz⟩
structure cH (w w':Wj)(k0:Nat):Prop where
 g:w.grownBy w' (some k0)
 lt:k0<w.heap.size
 t:∀j,3<=j->w'.cell? ⟨k0,j,none⟩=w.cell? ⟨k0,j,none⟩
theorem d9 {w w':Wj}{k0:Nat}(hk:k0<w.heap.size)(hb:Below w.heap.size w w'):cH w w' k0:=
 ⟨aS hb _,hk,fun j _=>cB (w:=w) (w':=w') (a:=⟨k0,j,none⟩) (hb.block k0 hk)⟩
theorem Fk {w:Wj}{k0:Nat}(hk:k0<w.heap.size):cH w w k0:=d9 hk (bR _ _)
theorem qh {a b c:Wj}{k0:Nat}(h:cH a b k0)(h':cH b c k0):cH a c k0:=⟨bX h.g h'.g,h.lt,fun j d=>(h'.t j d).trans (h.t j d)⟩
theorem fw {w w1 w2:Wj}{k0:Nat}(h:cH w w1 k0)(hb:Below w1.heap.size w1 w2):cH w w2 k0:=qh h (d9 (by have:=h.g.size;have:=h.lt;omega) hb)
theorem CX {w w1:Wj}{k0:Nat}(h:cH w w1 k0)(o:Obj):cH w (w1.alloc o) k0:=fw h ((bR _ _).alloc (lR _) _)
theorem oO {w w1:Wj}{k0:Nat}(h:cH w w1 k0)(o:Nat)(v:Wx)(ho:o<3:=by decide):cH w (w1.setCell ⟨k0,o,none⟩ v) k0:=
 ⟨dp h.g _ _,h.lt,fun j a=>(cO w1 ⟨k0,o,none⟩ ⟨k0,j,none⟩ v (fun e=>by have:=congrArg Addr.off e;simp at this;omega)).trans (h.t j a)⟩
theorem rY {w w1:Wj}{k0:Nat}(h:cH w w1 k0){b:Nat}(hb:w.heap.size<=b)(o:Nat)(v:Wx):cH w (w1.setCell ⟨b,o,none⟩ v) k0:=
 ⟨qg h.g hb _ _,h.lt,fun j a=>(cO w1 ⟨b,o,none⟩ ⟨k0,j,none⟩ v (fun e=>by have h1:=congrArg Addr.block e;have h2:=h.lt;simp at h1;omega)).trans (h.t j a)⟩
theorem nI {A:Nat->Prop}{w w3 a:Wj}{k0:Nat}{p:Option Wu}{F:List UInt8->List Ver}(hw3:w.heap.size<=w3.heap.size)(ha:∀b,A b->b≠k0)(hk:k0<w.heap.size)(h:ak (Grow (fun b=>(A b/\b<w.heap.size)\/w.heap.size<=b) w3) 41 a p F)(o:Nat)(v:Wx):
  ak (Grow A w) 41 (a.setCell ⟨k0,o,none⟩ v) p F:=by
 refine ak.keep (fun b hb _=>?_) 41 p F h;rcases hb with ⟨⟨hA,hlt⟩|hge,_⟩|hge
 .exact ⟨Or.inl ⟨hA,hlt⟩,bS _ _ _ _ (ha b hA)⟩
 .exact ⟨Or.inr hge,bS _ _ _ _ (by show b≠k0;omega)⟩
 .exact ⟨Or.inr (by omega),bS _ _ _ _ (by show b≠k0;omega)⟩
theorem fZ {A:Nat->Prop}{w:Wj}{k0:Nat}(ha:∀b,A b->b≠k0)(hk:k0<w.heap.size):∀b,Grow A w b->b≠k0:=by
 rintro b (⟨h,_⟩|h)
 .exact ha b h
 .omega
theorem vS (A:Nat->Prop)(k0:Nat)(st:St)(s:Nat)(key:ByteArray)(v:Int)(a:ByteArray)(c:Bool)(w:Wj)(hk:key.size<41)(S:aF A w k0 st)(r:Inv st s)(hs:s<2199023255340)(hlx:¬st.last=9223372036854775807):
  Calls Yq.prog 61 #[.pointer (some ⟨k0,0,none⟩),.string key,.agg #[.int .i64 v,.string a,.bool c]] w fun e w'=>e=.returned (.int .i64 (st.last+1))/\aF (Grow A w) w' k0 (cw st key a c)/\cH w w' k0:=by
 obtain ⟨p,C,m⟩:=S.cells;have c0:=C.c0;have c1:=C.c1;have c2:=C.c2;have f0:=C.fz 0;have f1:=C.fz 1;have f2:=C.fz 2;have hk0:=S.lt;have l0:=r.last0;have l1:=r.lastS;have l2:=r.countL;have l3:=r.countU;have hle:=r.len key.data.toList;have hne:¬w.heap.size=k0:=by omega
 have hne':¬k0=w.heap.size:=by omega
 obtain ⟨W1,d⟩:∃W1,W1=((w.setCell ⟨k0,2,none⟩ (.int .i64 (st.last+1))).setCell ⟨k0,1,none⟩ (.int .i64 (st.count+1))).alloc (.cells #[.int .i64 (st.last+1),.string a,.bool c] 81):=⟨_,rfl⟩;have t:cH w ((w.setCell ⟨k0,2,none⟩ (.int .i64 (st.last+1))).setCell ⟨k0,1,none⟩ (.int .i64 (st.count+1))) k0:=oO (oO (Fk hk0) _ _) _ _;have n:((w.setCell ⟨k0,2,none⟩ (.int .i64 (st.last+1))).setCell ⟨k0,1,none⟩ (.int .i64 (st.count+1))).heap.size=w.heap.size:=by simp [World.setCell]
 have hg1:cH w W1 k0:=by rw [d];exact CX t _
 have C1:aQ W1 k0 (.pointer p) (.int .i64 (st.count+1)) (.int .i64 (st.last+1)):=by
  rw [d];exact ((C.set2 _).set1 _).on ((bR _ _).alloc (lR _) _)
 have X1:aQ W1 w.heap.size (.int .i64 (st.last+1)) (.string a) (.bool c):=by
  rw [d,<-n];exact fX _ _ _ _ _
 have o:ak A 41 W1 p st.f:=ak.keep (Fj hg1.g S.avoid) 41 p st.f m;have HG:=mM A 41 p st.f key W1 hk (by simp only [maxLen];omega) o;have HS:Hid (aF A w k0 st/\ak A 41 w p st.f/\cH w W1 k0/\aQ W1 k0 (.pointer p) (.int .i64 (st.count+1)) (.int .i64 (st.last+1))/\aQ W1 w.heap.size (.int .i64 (st.last+1)) (.string a) (.bool c)):=⟨S,m,hg1,C1,X1⟩;have u:Hid (W1=((w.setCell ⟨k0,2,none⟩ (.int .i64 (st.last+1))).setCell ⟨k0,1,none⟩ (.int .i64 (st.count+1))).alloc (.cells #[.int .i64 (st.last+1),.string a,.bool c] 81)):=d;clear m S C t n hg1 C1 X1 o d;go_enter (Yq.nq func61),ntmps61;go_wp2_with fail
 rw [<-u.out];refine HG.mono ?_;rintro e w2 ⟨hv,rfl,x,hb2⟩;obtain ⟨ha,hc,rfl,-⟩:=id x;obtain ⟨S,m,hg1,C1,X1⟩:=HS.out;have C2:=C1.on hb2;have X2:=X1.on hb2;have k:cH w w2 k0:=fw hg1 hb2;have a0:=C2.c0;have q0:=X2.c0;have q1:=X2.c1;have q2:=X2.c2;have HW:Hid (Calls Yq.prog 89 #[.slice ha (st.f key.data.toList).length hc,.agg #[.int .i64 (st.last+1),.string a,.bool c]] w2.drew fun e w'=>∃i h j,e=.returned (.slice i h j)/\bf (fun b=>w2.heap.size<=b) w' (.slice i h j) (st.f key.data.toList++[⟨st.last+1,a,c⟩])/\Below w2.heap.size w2 w'):=by
  refine (Aw A _ _ (st.last+1) a c w2.drew (bO.keep x (fun b h1 h2=>⟨h1,rfl⟩)) (by omega)).mono ?_;rintro e w' ⟨i,h,j,h1,h2,h3⟩;exact ⟨i,h,j,h1,h2,(bR _ w2).drew.trans h3⟩
 have HT:Hid (∀ (w3:Wj) (i:Option Wu) (h j:Nat),Below w2.heap.size w2 w3->bf (fun b=>w2.heap.size<=b) w3 (.slice i h j) (st.f key.data.toList++[⟨st.last+1,a,c⟩]) ->
   Calls Yq.prog 67 #[.agg #[.pointer p],.string key,.slice i h j] w3 fun e w'=>∃q,e=.returned (.agg #[.pointer q])/\Below w3.heap.size w3 w'/\ak (Grow (fun b=>(A b/\b<w.heap.size)\/w.heap.size<=b) w3) 41 w' q (upd st.f key.data.toList (st.f key.data.toList++[⟨st.last+1,a,c⟩]))):=fun w3 i h j hb3 l=>by
  refine rT _ 41 p st.f key _ _ w3 (ak.keep (fun b h1 h2=>⟨Or.inl ⟨h1,h2⟩,(fw k hb3).g.block b h2 (by intro e;cases e;exact S.avoid k0 h1 rfl)⟩) 41 p st.f m) hk (by omega) (bO.keep l (fun b h1 h2=>⟨Or.inr ?_,rfl⟩)) (by simp);have:=k.g.size;omega
 have HC:Hid (aQ w2 k0 (.pointer p) (.int .i64 (st.count+1)) (.int .i64 (st.last+1))/\aQ w2 w.heap.size (.int .i64 (st.last+1)) (.string a) (.bool c)/\cH w w2 k0):=⟨C2,X2,k⟩;clear S m hg1 C1 X1 C2 X2 k x hb2 HG;go_wp2_with fail
 go_region_with (first
  |(go_at_call 89;refine HW.out.mono ?_;rintro e w3 ⟨i,h,j,rfl,l,hb3⟩;have b0:=ai hb3 a0)
  |(go_at_call 67;refine (HT.out _ i h j hb3 l).mono ?_;rintro e w4 ⟨q,rfl,hb4,y⟩;have d0:=ai hb4 b0;have D4:=(HC.out.2.1.on hb3).on hb4;have E4:=(HC.out.1.on hb3).on hb4;have r0:=D4.c0;have r1:=E4.c0;have r2:=E4.fz 0))
 all_goals
  go_wp2;go_ret;refine ⟨rfl,?_,?_⟩
  .refine fY (p:=q) ?_ ?_ (fZ HS.out.1.avoid hk0)
   .exact E4.set0 _
   .exact nI (by have:=HC.out.2.2.g.size;have:=hb3.size;omega) HS.out.1.avoid hk0 y _ _
  .exact oO (fw (fw HC.out.2.2 hb3) hb4) _ _
end
section
open Go.Conc Go.ConcX Go.ConcX.Gen Go.RowKit
structure ItD where
 kind:Int
 text:ByteArray
 ver:Int
def itVal (i:ItD):Wx:=.agg #[.int .i64 i.kind,.string i.text,.int .i64 i.ver]
def an (l:List ItD):List Wx:=l.flatMap fun i=>[.int .i64 i.kind,.string i.text,.int .i64 i.ver]
theorem eb (l:List ItD):(an l).length=l.length * 3:=by
 induction l with
 |nil=>rfl
 |cons i l ih=>simp [an] at ih ⊢;omega
theorem r4 (l:List ItD)(i:ItD):an (l++[i])=an l++[.int .i64 i.kind,.string i.text,.int .i64 i.ver]:=by simp [an]
theorem Yq.infoItem:(Yq.prog.info? 41).map (fun i=>(i.zero,i.size,i.bytes))=some (some (.agg #[.int .i64 0,.string ⟨#[]⟩,.int .i64 0]),3,32):=by kernel_rfl
def cU (n:Nat)(l:Lst)(a:Int)(c:Nat)(b:Int)(u:Nat->Wx):Array Wx:=
 #[lV l,.int .i64 a,ptr n,Wo,ptr (n+1),ptr (n+2),.int .i64 (IntKind.i64.wrap (a * l.size)),.int .i64 b,u 8,.int .i64 a,.pointer (some ⟨n,6,none⟩),.int .i64 l.size,.int .i64 (IntKind.i64.wrap (a * l.size)),.pointer (some ⟨n,2,none⟩),qV l.vs l.p l.d l.af,.pointer (some ⟨n,1,none⟩),sV l.root,.chan (some c),u 18,u 19,u 20,u 21,u 22,u 23,u 24,u 25,u 26,u 27,u 28,u 29,u 30,u 31,u 32,u 33,u 34,u 35,u 36,u 37,u 38,u 39,Wo,Wo,Wo,Wo,Wo,Wo,Wo,Wo,Wo]
theorem iW {P:Wv}{b:Wy}{a:Act}{k:List Item}{cs:List Wy}{w w':Wj}{e:Bool}{ops:Array Oper}{i:Nat}{rest:List Nat}{o:Oper}{cases:Array CommCase}{c:Bool}{d:CommShape}(ho:ops[i]?=some o)(hw:Region.wanted o (yielded ops a.tmps)=true)
  (hr:(execOp a.eval o).run P w=.ok (.comm cases c d) w'):
  ∃es,stepG P e (G (b.at a (.inRegion ops (i::rest)::k)) cs) w=.comm (G (b.at a (.inRegion ops (i::rest)::k)) cs) cases c d w' es:=by
 rw [stepG_oper ho hw];simp only [stepG.apply,G,Frame.at,GStep.after,if_true];have h1:((execOp a.eval o).runT P w #[]).1=.ok (.comm cases c d) w':=by rw [Sem.runT_eq];exact hr
 generalize (execOp a.eval o).runT P w #[]=x at h1;obtain ⟨x1,x2⟩:=x;subst h1;exact ⟨_,rfl⟩
theorem Fm {a:Act}{w:Wj}{c k s q:Nat}{v:Wx}{rest:List Wx}{Q:Exit->Act->Wj->Prop}(h17:a.eval (.tmp 17)=.chan (some c))(hsz:a.tmps.size=49)(hrow:w.heap[c]?=some (.chan k (v::rest).toArray true s q false))
  (h:Q .normal ((a.put (some 18) (.tuple #[v,.bool true])).put (some 19) (.bool true)) (w.setChan c k rest.toArray true s (q+1) false)):(Code.region 5 eB false).wp Yq.prog Q a w:=by
 intro b kk cs;refine ⟨.normal,_,_,h,?_⟩;refine Steps.head step_region ?_;have hr:List.range eB.size=[0,1]:=rfl;rw [hr];obtain ⟨es,hcomm⟩:∃es,stepG Yq.prog true (G (b.at a (.inRegion eB [0,1]::kk)) cs) w=.comm (G (b.at a (.inRegion eB [0,1]::kk)) cs) #[rcase c (.agg #[.int .i64 0,.string ⟨#[]⟩,.int .i64 0])] true (.recv true) w es:=by
  refine iW (o := { dst := some 18, op := .recv 165 (.tmp 17) true, type := 0, pos := "listing.go:108", after := #[], guard := none }) rfl rfl ?_
  have e : execOp a.eval { dst := some 18, op := .recv 165 (.tmp 17) true, type := 0, pos := "listing.go:108", after := #[], guard := none } = (do
   let .chan _ elem ← underlying 165 | stuck "receive: channel type expected"
   pure (.comm #[{chan:=a.eval (.tmp 17),send:=none,zero:=<-zeroValue elem}] true (.recv true))):=rfl
  rw [e,h17];simp [go_sem,rcase]
 have st1:=step_lone_recv_buf true hcomm hrow (by simp);have e1:(v::rest).toArray.extract 1 (v::rest).toArray.size=rest.toArray:=by simp
 have e2:(v::rest).toArray.getD 0 Wo=v:=rfl;rw [e1,e2,Frame.finish_at] at st1;refine Steps.head st1 ?_;have hput:(a.put ((eB[0]?).bind (·.dst)) (got true v true))=a.put (some 18) (.tuple #[v,.bool true]):=rfl;rw [hput];have h18:(a.put (some 18) (.tuple #[v,.bool true])).eval (.tmp 18)=.tuple #[v,.bool true]:=by
  simp [Act.put,Act.eval,hsz]
 have st2 := uj (P := Yq.prog) (ops := eB) (a := a.put (some 18) (.tuple #[v, .bool true])) (i := 1) (rest := []) (b := b) (k := kk) (cs := cs) (w := w.setChan c k rest.toArray true s (q + 1) false) (w' := w.setChan c k rest.toArray true s (q + 1) false) (v := .bool true) (o := { dst := some 19, op := .extract (.tmp 18) 1, type := 4, pos := "listing.go:108", after := #[{ on := 0, ground := .data }], guard := none }) rfl rfl (by
  have e : execOp (a.put (some 18) (.tuple #[v, .bool true])).eval { dst := some 19, op := .extract (.tmp 18) 1, type := 4, pos := "listing.go:108", after := #[{ on := 0, ground := .data }], guard := none } = (do let v ← Instr.extract ((a.put (some 18) (.tuple #[v, .bool true])).eval (.tmp 18)) 1; pure (.value v)) := rfl
  rw [e,h18];rfl)
 exact Steps.head st2 (.one step_region_end)
structure PgI (w0 w:Wj)(n c:Nat)(items:List ItD)(rest:List Wx):Prop where
 os:w.os=w0.os
 size:w0.heap.size<=w.heap.size
 block:∀b,b<w0.heap.size->b≠c->b≠n+2->w.heap[b]?=w0.heap[b]?
 ch:∃k s q,w.heap[c]?=some (.chan k rest.toArray true s q false)
 row:∃sv,w.cell? ⟨n+2,0,none⟩=some sv/\w.ownsRow w0.heap.size 41 3 sv items.length (an items)
 tok:w.cell? ⟨n+2,1,none⟩=some (.string ⟨#[]⟩)
 fz:∀j,w.frozen? ⟨n+2,j,none⟩=false
def gO (l:Lst)(a:Int)(k:Int):Bool:=decide (IntKind.i64.wrap (IntKind.i64.wrap (a * l.size)-l.size)<k)&&decide (k<=IntKind.i64.wrap (a * l.size))
theorem PgI.setChan {w0 w:Wj}{n c k s q:Nat}{e:List ItD}{v:Wx}{rest:List Wx}(I:PgI w0 w n c e (v::rest))(hc:c<w0.heap.size)(hn:n+2<c):PgI w0 (w.setChan c k rest.toArray true s q false) n c e rest:=by
 have l:c<w.heap.size:=lL hc I.size;have d:∀b,b≠c->(w.setChan c k rest.toArray true s q false).heap[b]?=w.heap[b]?:=fun b hb=>aK _ _ _ _ _ _ _ _ hb
 have f:∀b j,b≠c->(w.setChan c k rest.toArray true s q false).cell? ⟨b,j,none⟩=w.cell? ⟨b,j,none⟩:=fun b j hb=>cB (a:=⟨b,j,none⟩) (d b hb)
 refine ⟨I.os,by rw [size_setChan];exact I.size,fun b h1 h2 h3=>(d b h2).trans (I.block b h1 h2 h3),⟨_,_,_,heap_setChan _ _ _ _ _ _ _ _ l⟩,?_,(f _ _ (by omega)).trans I.tok,fun j=>(fB (a:=⟨n+2,j,none⟩) (d _ (by simp;omega))).trans (I.fz j)⟩;obtain ⟨sv,h1,h2⟩:=I.row;refine ⟨sv,(f _ _ (by omega)).trans h1,h2.1,?_⟩;rcases h2.2 with h|⟨g,cap,i,rfl,hb,hg,rest⟩
 .exact .inl h
 .exact .inr ⟨g,cap,i,rfl,hb,(d g (by omega)).trans hg,rest⟩
theorem PgI.alloc {w0 w:Wj}{n c:Nat}{e:List ItD}{rest:List Wx}(I:PgI w0 w n c e rest)(hc:c<w0.heap.size)(hn:n+2<c)(o:Obj):PgI w0 (w.alloc o) n c e rest:=by
 have d:∀b,b<w0.heap.size->(w.alloc o).heap[b]?=w.heap[b]?:=fun b hb=>bA w o b (lL hb I.size)
 obtain ⟨k,s,q,h⟩:=I.ch;obtain ⟨sv,h1,h2⟩:=I.row;refine ⟨I.os,lT I.size (by simp),fun b h1 h2 h3=>(d b h1).trans (I.block b h1 h2 h3),⟨k,s,q,(d c hc).trans h⟩,⟨sv,(cB (a:=⟨n+2,0,none⟩) (d _ (by simp;omega))).trans h1,h2.alloc o⟩,(cB (a:=⟨n+2,1,none⟩) (d _ (by simp;omega))).trans I.tok,fun j=>(fB (a:=⟨n+2,j,none⟩) (d _ (by simp;omega))).trans (I.fz j)⟩
theorem PgI.app {w0 w w3:Wj}{n c:Nat}{d:List ItD}{rest:List Wx}{i:ItD}{sv v':Wx}(I:PgI w0 w n c d rest)(hc:c<w0.heap.size)(hn:n+2<c)(hg:w.grownBy w3 sv.ownBlock)(hb:∀k,sv.ownBlock=some k->w0.heap.size<=k)(ho:w3.ownsRow w0.heap.size 41 3 v' (d.length+1) (an d++[.int .i64 i.kind,.string i.text,.int .i64 i.ver])):PgI w0 (w3.setCell ⟨n+2,0,none⟩ v') n c (d++[i]) rest:=by
 have f:∀b,b<w0.heap.size->w3.heap[b]?=w.heap[b]?:=fun b h=>hg.block b (lL h I.size) (fun e=>by have:=hb b e.symm;omega)
 have hset:∀b,b≠n+2->(w3.setCell ⟨n+2,0,none⟩ v').heap[b]?=w3.heap[b]?:=fun b h=>bS _ _ _ _ h
 obtain ⟨k,s,q,h⟩:=I.ch;obtain ⟨sv0,h1,h2⟩:=I.row;have hc0:w3.cell? ⟨n+2,0,none⟩=some sv0:=(cB (a:=⟨n+2,0,none⟩) (f _ (by simp;omega))).trans h1;have hsz:(w3.setCell ⟨n+2,0,none⟩ v').heap.size=w3.heap.size:=by simp
 refine ⟨((bR 0 w3).setCell (p:=⟨n+2,0,none⟩) (Nat.zero_le _) v').os.trans (hg.os.trans I.os),by rw [hsz];exact lT I.size hg.size,fun b h1 h2 h3=>(hset b h3).trans ((f b h1).trans (I.block b h1 h2 h3)),⟨k,s,q,(hset c (by omega)).trans ((f c hc).trans h)⟩,⟨v',cs hc0,?_⟩,co (by simp) ((cB (a:=⟨n+2,1,none⟩) (f _ (by simp;omega))).trans I.tok),fun j=>fs ((fB (a:=⟨n+2,j,none⟩) (f _ (by simp;omega))).trans (I.fz j))⟩;rw [r4,lP,lS];refine ⟨ho.1,?_⟩;rcases ho.2 with h|⟨g,cap,l,rfl,hb,hg,rest⟩
 .exact .inl h
 .exact .inr ⟨g,cap,l,rfl,hb,(hset g (by omega)).trans hg,rest⟩
theorem oP (w:Wj)(x0 x1 x2:Wx)(T:Ww):∀j u,[x0,x1,x2][j]?=some u->(w.alloc (.cells #[x0,x1,x2] T)).cell? ((⟨w.heap.size,0,none⟩:Wu).add j)=some u:=by
 intro j u a;rw [Addr.add_lit,cA (w:=w) _ _ w.heap.size _ rfl];simpa using a
theorem mo (n:Int):IntKind.i64.wrap n=wrap64 n:=by unfold wrap64;exact IntKind.wrap_i64 n
def Fo (l:Lst)(f:Int)(n c d:Nat)(i:ItD)(rest:List Wx)(b:List ItD)(w0:Wj)(e:Exit)(a:Act)(w':Wj):Prop:=
 e=.normal/\a=⟨cU n l f c ((d:Int)+1) (fun i=>a.tmps.getD i Wo),[]⟩/\PgI w0 w' n c (if gO l f ((d:Int)+1) then b++[i] else b) rest
theorem r6 (l:Lst)(K:Int)(n c:Nat)(r:Nat)(i:ItD)(rest:List Wx)(b:List ItD)(u:Nat->Wx)(w0 w:Wj)(hn:n+2<c)(hc:c<w0.heap.size)(v:w0.cell? ⟨n,6,none⟩=some (.int .i64 l.size))(I:PgI w0 w n c b (itVal i::rest))(hlen:b.length<=1000)(hcnt:r<=1000):
  cG.wp Yq.prog (Fo l K n c r i rest b w0) ⟨cU n l K c r u,[]⟩ w:=by
 obtain ⟨kc,sc,qc,hrow⟩:=I.ch;show (Code.seq (.region 5 eB false) (dr cG)).wp Yq.prog _ _ _;refine wp_seq (Fm (c:=c) rfl rfl hrow ?_);have I1:=I.setChan (k:=kc) (s:=sc) (q:=qc+1) hc hn;generalize w.setChan c kc rest.toArray true sc (qc+1) false=w1 at I1 ⊢;clear hrow I;have hI1:Hid (PgI w0 w1 n c b rest):=I1;obtain ⟨sv,D,hown⟩:=I1.row;have hfz:=I1.fz 0;have o:w1.cell? ⟨n,6,none⟩=some (.int .i64 l.size):=(cB (a:=⟨n,6,none⟩) (I1.block n (by omega) (by omega) (by omega))).trans v;clear I1;obtain ⟨num,root,vs,p,d,af,B,left⟩:=l;obtain ⟨f,j,ver⟩:=i;simp only at o;obtain ⟨i0,M,E,G,F⟩:=info_parts Yq.infoItem;obtain ⟨y,x,sc,rfl⟩:∃y x sc,sv=.slice y x sc:=by
  rcases hown.2 with ⟨rfl,-⟩|⟨g,cap,cur,rfl,-⟩
  .exact ⟨_,_,_,rfl⟩
  .exact ⟨_,_,_,rfl⟩
 have t:Hid (∀k,(Value.slice y x sc).ownBlock=some k->w0.heap.size<=k):=fun k h=>(hown.lt k h).1
 have hnl:n<w1.heap.size:=lL (by omega) hI1.out.size;have hnl2:n+2<w1.heap.size:=lL (by omega) hI1.out.size;obtain ⟨O1,C⟩:∃O1,O1=Obj.cells #[.int .i64 f,.string j,.int .i64 ver] 41:=⟨_,rfl⟩;have m:Hid (O1=Obj.cells #[.int .i64 f,.string j,.int .i64 ver] 41):=C;have hI3:Hid (PgI w0 (w1.alloc O1) n c b rest):=hI1.out.alloc hc hn _;have z:Hid (PgI w0 ((w1.alloc O1).alloc O1) n c b rest):=hI3.out.alloc hc hn _;have L:(w1.alloc O1).cell? ⟨n,6,none⟩=some (.int .i64 B):=ai ((bR _ _).alloc (lR _) _) o;have J:(w1.alloc O1).cell? ⟨n+2,0,none⟩=some (.slice y x sc):=ai ((bR _ _).alloc (lR _) _) D;have H:Hid (((w1.alloc O1).alloc O1).ownsRow w0.heap.size 41 3 (.slice y x sc) b.length (an b)):=(hown.alloc _).alloc _;clear hown;rw [C] at L J;show Code.wp Yq.prog (dr cG) _ _ _;unfold cU qV sV ptr lV bN itVal;simp only [Act.put];dsimp only [cG,cIn,cF,bP,Tryz.f69,jc,dr,qG,Option.getD];go_wp2_with (at_builtin;rw [<-m.out];refine wpList_append_own _ rfl _ _ 34 rfl w0.heap.size 41 i0 _ 3 32 (Yq.u underlying34) M E G F rfl (by decide) _ _ _ rfl H.out ⟨(w1.alloc O1).heap.size,0,none⟩ 1 1 [.int .i64 f,.string j,.int .i64 ver] ?qa rfl ?qb ?qc ?qd ?qe ?qf ?_)
 case qc=>simp [Value.oneCell']
 case qd=>simp only [maxLen];omega
 case qe=>omega
 case qf=>have:=hI1.out.size;omega
 .intro v' w3 ho hg _;rw [<-m.out] at hg;obtain ⟨g',A,rfl⟩:=ownsRow_succ ho;have hcel:w3.cell? ⟨n+2,0,none⟩=some (.slice y x sc):=by
   refine hg.cell (ai ((bR _ _).alloc (lR _) _) (by rw [m.out];exact J)) (fun e=>?_);have:=t.out _ e.symm;simp at this;omega
  have hfr:w3.frozen? ⟨n+2,0,none⟩=false:=by
   rw [bB hg ⟨n+2,0,none⟩ (by simp;omega) (fun e=>by have:=t.out _ e.symm;simp at this;omega)];exact z.out.fz 0
  have HPG:Hid (PgI w0 (w3.setCell ⟨n+2,0,none⟩ (.slice (some ⟨g',0,none⟩) (b.length+1) A)) n c (b++[⟨f,j,ver⟩]) rest):=z.out.app hc hn hg t.out ho;clear ho hg hfz;go_wp2_with fail
  refine ⟨rfl,by simp only [cU,mo];rfl,?_⟩;rw [if_pos (by simp only [gO,mo,bT,decide_eq_true_eq];exact ⟨by assumption,by assumption⟩)];exact HPG.out
 .refine ⟨rfl,by simp only [cU,mo];rfl,?_⟩;rw [if_neg (by simp only [gO,mo,bT,decide_eq_true_eq];rintro ⟨h1,h2⟩;omega)];rw [<-m.out];exact hI3.out
 .refine ⟨rfl,by simp only [cU,mo];rfl,?_⟩;rw [if_neg (by simp only [gO,mo,bT,decide_eq_true_eq];rintro ⟨h1,h2⟩;omega)];rw [<-m.out];exact hI3.out
def dW (l:Lst)(a:Int):Nat->List ItD->List ItD
 |_,[]=>[]
 |k,i::r=>(if gO l a ((k:Int)+1) then [i] else [])++dW l a (k+1) r
noncomputable def nJ (a:Act):Wy:=(base 69).at a [.code cG,.inLoop cG,.inBlock 0,.code (dr bP)]
theorem Gq (n c:Nat)(l:Lst)(a:Int)(cs:List Wy)(w:Wj):Steps Yq.prog (lone (pF2 n l a c) cs w) (lone (nJ ⟨cU n l a c 0 (fun _=>Wo),[]⟩) cs w):=
 .head step_region_end (.head (step_block (id:=0) (c:=.loop cG)) (.one step_loop))
theorem Gr (a:Act)(cs:List Wy)(w:Wj):Steps Yq.prog (lone (nJ a) cs w) (lone (jJ a [0,1]) cs w):=
 .head (step_seq (x:=.region 5 eB false) (y:=dr cG)) (.one step_region)
theorem CY (l:Lst)(j:Int)(n c:Nat)(w0:Wj)(cs:List Wy)(hn:n+2<c)(hc:c<w0.heap.size)(f:w0.cell? ⟨n,6,none⟩=some (.int .i64 l.size)):
  ∀ (rest:List ItD) (b:Nat) (d:List ItD) (u:Nat->Wx) (w:Wj),PgI w0 w n c d (rest.map itVal)->d.length<=b->b+rest.length<=1000 ->
   ∃u' w',Steps Yq.prog (lone (nJ ⟨cU n l j c b u,[]⟩) cs w) (lone (nJ ⟨cU n l j c ((b+rest.length:Nat):Int) u',[]⟩) cs w')/\PgI w0 w' n c (d++dW l j b rest) []:=by
 intro rest;induction rest with
 |nil=>exact fun b d u w I _ _=>⟨u,w,by simpa using Steps.refl _ _,by simpa [dW] using I⟩
 |cons i r ih=>
  intro b d u w I hi hl;have hl:b+(r.length+1)<=1000:=hl;obtain ⟨e,a,w1,⟨rfl,ha,I1⟩,hs⟩:=r6 l j n c b i (r.map itVal) d u w0 w hn hc f I (by omega) (by omega) (base 69) [.inLoop cG,.inBlock 0,.code (dr bP)] cs;have hs:Steps Yq.prog (lone (nJ ⟨cU n l j c b u,[]⟩) cs w) (lone ((base 69).at a [.inLoop cG,.inBlock 0,.code (dr bP)]) cs w1):=hs;rw [ha] at hs;obtain ⟨u',w',k,I'⟩:=ih (b+1) _ _ w1 I1 (by split<;>(try simp only [lP,lS])<;>omega) (by omega);refine ⟨u',w',Steps.trans hs (.head step_inLoop ?_),?_⟩
  .have e:(((b+1:Nat):Int))=(b:Int)+1:=rfl;rw [e] at k;have e2:b+(i::r).length=b+1+r.length:=by simp;omega
   rw [e2];exact k
  .rw [dW];by_cases h:gO l j ((b:Int)+1)=true
   .rw [if_pos h] at I' ⊢;simpa using I'
   .rw [if_neg h] at I' ⊢;simpa using I'
theorem CZ (L:List Wx)(h:∀v∈L,∃ (a b:Int)(s:ByteArray),v=.agg #[.int .i64 a,.string s,.int .i64 b]):∃its:List ItD,L=its.map itVal:=by
 induction L with
 |nil=>exact ⟨[],rfl⟩
 |cons v L ih=>
  obtain ⟨a,b,s,rfl⟩:=h v (by simp);obtain ⟨its,rfl⟩:=ih (fun v hv=>h v (by simp [hv]));exact ⟨⟨a,s,b⟩::its,rfl⟩
theorem r7 {w:Wj}{n c:Nat}{its:List ItD}(hrow:w.heap[n+2]?=some (.cells #[.slice none 0 0,.string ⟨#[]⟩] 88))(hch:∃k s q,w.heap[c]?=some (.chan k (its.map itVal).toArray true s q false)):PgI w w n c [] (its.map itVal):=
 ⟨rfl,lR _,fun _ _ _ _=>rfl,hch,⟨_,by simp [World.cell?,hrow],World.ownsRow_nil _ _ _ _⟩,by simp [World.cell?,hrow],fun j=>by simp [World.frozen?,hrow]⟩
theorem Fq:vI:=by
 intro l a L n c w cs b hlen hn h0 _ h2 hch;obtain ⟨its,rfl⟩:=CZ L b;have hc:c<w.heap.size:=by
  obtain ⟨k,s,q,h⟩:=hch;exact (eS h).1
 have hlen:its.length<=1000:=by simpa using hlen
 obtain ⟨u',w',hs,I⟩:=CY l a n c w cs hn hc (by simp [World.cell?,h0,bN]) its 0 [] (fun _=>Wo) w (r7 h2 hch) (by simp) (by omega);exact ⟨_,w',Steps.trans (Gq n c l a cs w) (Steps.trans hs (Gr _ cs w')),rfl,I.ch⟩
structure Qy where
 vs:Bool
 p:ByteArray
 d:ByteArray
 af:ByteArray
def mq (h:List Ver):Ver:=h.getLast?.getD ⟨0,⟨#[]⟩,false⟩
def ir (a key:ByteArray):Bool:=!Op.bytesLess key.toList a.toList && !decide (key.toList=a.toList)
def fE (q:Qy)(k:List UInt8)(h:List Ver):Bool:=ir q.af ⟨k.toArray⟩&&(q.vs || !(mq h).mark)
def dj (d:List UInt8):List UInt8->Option Nat
 | []=>if d=[] then some 0 else none
 |b::r=>if d.isPrefixOf (b::r) then some 0 else (dj d r).map (·+1)
def aP (q:Qy)(k:List UInt8):Option (List UInt8):=if q.d.size=0 then none else (dj q.d.data.toList (k.drop q.p.size)).map fun i=>k.take (q.p.size+i+q.d.size)
def ec (k:List UInt8)(v:Ver):ItD:=⟨if v.mark then 4 else 3,⟨k.toArray⟩,v.num⟩
def bc (a:Bool)(k:List UInt8)(h:List Ver):List ItD:=if a then h.reverse.map (ec k) else [⟨1,⟨k.toArray⟩,(mq h).num⟩]
def bH (q:Qy)(s:List ItD×List UInt8)(kh:List UInt8×List Ver):List ItD×List UInt8:=
 if fE q kh.1 kh.2 then
  match aP q kh.1 with
  |none=>(s.1++bc q.vs kh.1 kh.2,s.2)
  |some c=>if c=s.2 then s else (s.1++[⟨2,⟨c.toArray⟩,0⟩],c)
 else s
def aD (q:Qy)(l:List (List UInt8×List Ver)):List ItD×List UInt8:=l.foldl (bH q) ([],[])
def bD (q:Qy)(l:List (List UInt8×List Ver)):List ItD:=(aD q l).1
theorem lI (q:Qy)(l:List (List UInt8×List Ver))(x:List UInt8×List Ver):aD q (l++[x])=bH q (aD q l) x:=by simp [aD]
theorem qi (q:Qy)(s:List ItD×List UInt8)(x:List UInt8×List Ver)(hx:x.2≠[]):s.1.length<=(bH q s x).1.length/\(bH q s x).1.length<=s.1.length+x.2.length:=by
 have h1:0<x.2.length:=List.length_pos_iff.2 hx;unfold bH;split
 .split
  .simp only [lP,bc];split<;>simp<;>omega
  .split<;>simp<;>omega
 .omega
def fI (l:List (List UInt8×List Ver)):Nat:=(l.map fun x=>x.2.length).sum
theorem oQ (q:Qy)(l:List (List UInt8×List Ver))(hl:∀x∈l,x.2≠[]):∀s,s.1.length<=(l.foldl (bH q) s).1.length/\(l.foldl (bH q) s).1.length<=s.1.length+fI l:=by
 induction l with
 |nil=>intro s;simp [fI]
 |cons x r ih=>
  intro s;have h1:=qi q s x (hl x (by simp));have h2:=ih (fun y hy=>hl y (by simp [hy])) (bH q s x);simp only [List.foldl_cons,fI,List.map_cons,List.sum_cons] at h2 ⊢;omega
theorem qj (q:Qy)(l:List (List UInt8×List Ver))(hl:∀x∈l,x.2≠[]):(bD q l).length<=fI l:=by
 have:=(oQ q l hl ([],[])).2;simpa [bD,aD] using this
theorem xY (q:Qy)(l pre:List (List UInt8×List Ver))(hl:∀x∈l,x.2≠[])(h:pre <+:l):(aD q pre).1.length<=(bD q l).length:=by
 obtain ⟨r,rfl⟩:=h;unfold bD aD;rw [List.foldl_append];exact (oQ q r (fun x hx=>hl x (by simp [hx])) _).1
theorem iM (n:Nat):∀ (f:List UInt8->List Ver)(bs:List UInt8),∀x∈cI n f bs,x.2≠[]:=by
 induction n with
 |zero=>intro f bs x hx;simp [cI] at hx
 |succ n ih=>
  intro f bs x hx;simp only [cI,List.mem_append,List.mem_flatMap] at hx;rcases hx with hx|⟨b,-,hx⟩
  .split at hx
   .simp at hx
   .simp at hx;subst hx;simp_all
  .exact ih _ _ x hx
theorem jk (a b:List (List UInt8×List Ver)):fI (a++b)=fI a+fI b:=by simp [fI]
theorem r8 {α:Type}(l:List α)(g:α->List (List UInt8×List Ver)):fI (l.flatMap g)=(l.map fun a=>fI (g a)).sum:=by
 induction l with
 |nil=>rfl
 |cons a r ih=>simp [jk,ih]
def tot (n:Nat)(f:List UInt8->List Ver):Nat:=fI (cI n f [])
theorem nK (n:Nat):∀ (f:List UInt8->List Ver)(bs cs:List UInt8),fI (cI n f bs)=fI (cI n f cs):=by
 induction n with
 |zero=>intro f bs cs;rfl
 |succ n ih=>
  intro f bs cs;simp only [cI,jk,r8];refine congr (congrArg HAdd.hAdd ?_) (congrArg List.sum (List.map_congr_left fun b _=>ih _ _ _));split<;>simp [fI]
theorem qk (n:Nat)(f:List UInt8->List Ver):tot (n+1) f=(f []).length+(yT.map fun b=>tot n (fun k=>f (b::k))).sum:=by
 unfold tot;simp only [cI,jk,r8];refine congr (congrArg HAdd.hAdd ?_) (congrArg List.sum (List.map_congr_left fun b _=>nK _ _ _ _));split<;>simp_all [fI]
theorem Gt (l:List UInt8)(g:UInt8->Nat)(b:UInt8)(h:b∈l):g b<=(l.map g).sum:=by
 induction l with
 |nil=>simp at h
 |cons a r ih=>
  rcases List.mem_cons.1 h with rfl|h
  .simp
  .have:=ih h;simp;omega
theorem Ft (l:List UInt8)(g g':UInt8->Nat)(b:UInt8)(hn:l.Nodup)(h:b∈l)(ho:∀c,c≠b->g' c=g c):(l.map g').sum+g b=(l.map g).sum+g' b:=by
 induction l with
 |nil=>simp at h
 |cons a r ih=>
  obtain ⟨h1,h2⟩:=List.nodup_cons.1 hn;rcases List.mem_cons.1 h with rfl|h
  .have e:r.map g'=r.map g:=List.map_congr_left fun c hc=>ho c (fun e=>h1 (e▸hc))
   simp [e];omega
  .have:=ih h2 h;have e:=ho a (fun e=>h1 (e▸h));simp [e];omega
theorem xZ:yT.Nodup:=ji.imp (fun h e=>by subst e;exact absurd h (by simp))
theorem Ax (n:Nat):∀ (f:List UInt8->List Ver)(key:List UInt8)(h:List Ver),key.length<n->tot n (upd f key h)+(f key).length=tot n f+h.length:=by
 induction n with
 |zero=>intro f key h hk;omega
 |succ n ih=>
  intro f key h hk;rw [qk,qk];cases key with
  |nil=>
   have e:(yT.map fun b=>tot n fun k=>upd f [] h (b::k))=yT.map fun b=>tot n fun k=>f (b::k):=by simp [upd]
   rw [e];simp [upd];omega
  |cons c r=>
   have e0:upd f (c::r) h []=f []:=by simp [upd]
   have e1:(fun k=>upd f (c::r) h (c::k))=upd (fun k=>f (c::k)) r h:=by funext k;simp [upd]
   have e2:=ih (fun k=>f (c::k)) r h (by simp at hk;omega);have e3:=Ft yT (fun b=>tot n fun k=>f (b::k)) (fun b=>tot n fun k=>upd f (c::r) h (b::k)) c xZ (mJ c) (fun b hb=>by simp [upd,hb]);simp only [e1] at e3;rw [e0];omega
theorem uw (p:List UInt8):∀ (n:Nat)(f:List UInt8->List Ver),tot (n-p.length) (fun k=>f (p++k))<=tot n f:=by
 induction p with
 |nil=>intro n f;exact lR _
 |cons b p ih=>
  intro n f;cases n with
  |zero=>simp [tot,cI,fI]
  |succ n=>
   have h1:=ih n (fun k=>f (b::k));have h2:=Gt yT (fun b=>tot n fun k=>f (b::k)) b (mJ b);have e:n+1-(b::p).length=n-p.length:=by simp
   rw [e,qk];simp only [List.cons_append] at h2 ⊢;omega
theorem Fu (n:Nat):tot n (fun _=>[])=0:=by rw [tot,nD _ _ _ (fun _=>rfl)];rfl
theorem vU {h:List Ver}(hne:h≠[]):mq h=h.getLast hne:=by simp [mq,List.getLast?_eq_some_getLast hne]
theorem Ay (a:Int)(b:ByteArray)(c:Bool)(w:Wj):(Instr.field 81 (.agg #[.int .i64 a,.string b,.bool c]) 0).run Yq.prog w=.ok (.int .i64 a) w:=by kernel_rfl
theorem C0 (A:Nat->Prop)(q:Qy)(k:List UInt8)(hv:Wx)(h:List Ver)(w:Wj)(j:bf A w hv h)(hne:h≠[])(hl:h.length<=2199023255552):
  Calls Yq.prog 138 #[qV q.vs q.p q.d q.af,.string ⟨k.toArray⟩,hv] w fun e w'=>e=.returned (.bool (fE q k h))/\Below w.heap.size w w':=by
 obtain ⟨c,p,d,i⟩:=q;have HB:Hid (Below w.heap.size w (w.alloc (.cells #[.bool c,.string p,.string d,.string i] 93))):=(bR _ _).alloc (lR _) _;have HN:=kM A hv h _ (j.on HB.out) hne hl;have HW:Hid (∀b,b=fE ⟨c,p,d,i⟩ k h↔b=(ir i ⟨k.toArray⟩&&(c || !(h.getLast hne).mark))):=fun b=>by rw [fE,vU hne]
 generalize fE ⟨c,p,d,i⟩ k h=B at *;obtain ⟨v,f⟩:∃v,h.getLast hne=v:=⟨_,rfl⟩;rw [f] at HN HW;obtain ⟨n,l,m⟩:=v;simp only [bZ] at HN;unfold qV;clear f j;have hfm:=oN n l m;cases c
 .go_enter (Yq.nq func138),ntmps138;go_wp2_with (go_at_call 64;refine HN.mono ?_;clear HN;rintro e w1 ⟨rfl,hb⟩)
  .go_ret;exact ⟨by rw [(HW.out _).1 rfl];simp_all [ir],HB.out.trans (hb.mono HB.out.size)⟩
  .go_ret;exact ⟨by rw [(HW.out _).1 rfl];rename_i hx;simp [ir];exact fun a b=>absurd ⟨a,b⟩ hx,HB.out⟩
 .go_enter (Yq.nq func138),ntmps138;go_wp2_with (go_at_call 64;refine HN.mono ?_;clear HN;rintro e w1 ⟨rfl,hb⟩)
  .go_ret;exact ⟨by rw [(HW.out _).1 rfl];simp_all [ir],HB.out⟩
  .go_ret;exact ⟨by rw [(HW.out _).1 rfl];rename_i hx;simp [ir];exact fun a=>Classical.byContradiction fun b=>hx ⟨a,b⟩,HB.out⟩
theorem ux (b:Bool)(p a key:ByteArray)(w:Wj):
  Calls Yq.prog 139 #[qV b p ⟨#[]⟩ a,.string key] w fun e w'=>e=.returned (.tuple #[.string ⟨#[]⟩,.bool false])/\Below w.heap.size w w':=by
 unfold qV;go_enter (Yq.nq func139),ntmps139;go_wp2_with fail
 go_ret2
 exact ⟨rfl,(bR _ _).alloc (lR _) _⟩
theorem Fv (root:Option Wu)(p:ByteArray)(w:Wj):
  Calls Yq.prog 101 #[sV root,.string p] w fun e w'=>e=.returned (.func (.func 122) #[] #[ptr w.heap.size,ptr (w.heap.size+1)])/\w'=(w.alloc (.cells #[.pointer root] 56)).alloc (.cells #[.string p] 9):=by
 unfold sV ptr;go_enter (Yq.nq func101),ntmps101;go_wp2_with fail
 go_ret;exact ⟨rfl,rfl⟩
def nL (ops:Array Oper)(listed:Array Bool):Prop:=∀ (j:Nat)(o:Oper),ops[j]?=some o->listed.getD j false=true->∀e∈o.after,Region.binds .any e=true->listed.getD e.on false=true
theorem vV {listed:Array Bool}{i k:Nat}(h:listed.getD k false=true):(listed.setIfInBounds i true).getD k false=true:=by
 rw [gD,Array.getElem?_setIfInBounds];rw [gD] at h;split
 .split
  .rfl
  .simp_all
 .exact h
theorem nL.set {ops:Array Oper}{listed:Array Bool}{i:Nat}(h:nL ops listed)(b:i∈Region.ready .any ops listed):nL ops (listed.setIfInBounds i true):=by
 intro j o ho a e he hb;by_cases hji:j=i
 .subst hji;exact vV (kF b ho e he hb)
 .have:listed.getD j false=true:=by
   rw [gD,Array.getElem?_setIfInBounds,if_neg (fun e=>hji e.symm)] at a;rw [gD];exact a
  exact vV (h j o ho this e he hb)
def Hh (ops:Array Oper)(j k:Nat):Bool:=((ops[j]?).map fun o=>o.after.toList.any fun e=>e.on==k&&Region.binds .any e).getD false
theorem nL.dep {ops:Array Oper}{listed:Array Bool}(h:nL ops listed){j k:Nat}(hd:Hh ops j k=true)(a:listed.getD j false=true):listed.getD k false=true:=by
 unfold Hh at hd;cases ho:ops[j]? with
 |none=>simp [ho] at hd
 |some o=>
  simp only [ho,Option.map_some,Option.getD_some,List.any_eq_true,bT,beq_iff_eq] at hd;obtain ⟨e,he,rfl,hb⟩:=hd;exact h j o ho a e (Array.mem_toList_iff.1 he) hb
section
variable {P:Wv} {ops:Array Oper} {ro:Option Nat}
theorem lJ {id n:Nat}{Q:Exit->Act->Wj->Prop}{a0:Act}{w0:Wj}(hm:P.follows .mixedOrders=true)(b f:Nat)(c:Nat->Wx)(Wd:(Nat->Bool)->Wj->Prop)(hsz:b+f<=a0.tmps.size)
  (k:E8 ops b f=true) (p:Aj ops=true)
  (m:∀ (listed:Array Bool) (a:Act) (w:Wj) (i:Nat) (o:Oper),i∈Region.ready .any ops listed->ops[i]?=some o->Vals a0 b f c Wd ops.size listed a w->(∀e∈o.after,Region.binds .any e=true->listed.getD e.on false=true)->nL ops listed ->
   xH P ops ro i a w (fun a' w'=>∃v,a'=a.put o.dst v/\(i<f->v=c i)/\Wd (dQ (fun j=>listed.getD j false) i) w'))
  (hend:∀a w,a.tmps.size=a0.tmps.size->a.defers=a0.defers->(∀t,t<b->a.eval (.tmp t)=a0.eval (.tmp t))->(∀i,i<f->i<ops.size->a.eval (.tmp (b+i))=c i)->(∃d,(∀i,i<ops.size->d i=true)/\Wd d w)->Q .normal a w)
  (h0:Wd (fun _=>false) {w0 with drawn:=w0.drawn+1}):(Code.region id ops true).wpIn (wf ro) n P Q a0 w0:=by
 have hf:∀i,(Array.replicate ops.size false).getD i false=false:=fun i=>by
  rw [gD,Array.getElem?_replicate];split<;>rfl
 refine oD hm (fun listed a w=>Vals a0 b f c Wd ops.size listed a w/\nL ops listed) (fun listed a w i V l=>?_) (fun listed a w V hr=>?_) ⟨⟨rfl,rfl,fun _ _=>rfl,fun i _ h=>?_,by rw [show (fun i=>(Array.replicate ops.size false).getD i false)=fun _=>false from funext hf];exact h0,by simp⟩,fun j o _ h=>?_⟩
 .have hlt:=(cX l).1;have ho:=eG hlt;refine (m listed a w i _ l ho V.1 (kF l ho) V.2).mono ?_;rintro a' w' ⟨v,rfl,hv,hw⟩;exact ⟨V.1.step l ho (vM k i _ ho).1 (vM k i _ ho).2 hsz hv hw,V.2.set l⟩
 .have h1:=vK p V.1.len hr;exact hend a w V.1.size V.1.defers V.1.old (fun i l hi2=>V.1.new i l (h1 i hi2)) ⟨_,h1,V.1.world⟩
 .rw [hf i] at h;cases h
 .rw [hf j] at h;cases h
end
def Gu:Code->Code
 | .cond _ a _=>a
 |c=>c
noncomputable def Gv:Array Oper:=qG (jc (Gu (dr (jc (dr (cF Tryz.f140))))))
structure WdS (W1:Wj)(c:Nat)(buf:List Wx)(it:Wx)(d:Nat->Bool)(w:Wj):Prop where
 below:d 6=false->Below W1.heap.size W1 w
 done:d 6=true->∃w1,Below W1.heap.size W1 w1/\w=w1.setChan c 1000 (buf++[it]).toArray false (buf.length+1) 0 false
section
variable {W1:Wj} {c:Nat} {buf:List Wx} {it:Wx} {d:Nat->Bool} {w:Wj}
theorem WdS.other (h:WdS W1 c buf it d w){i:Nat}(a:6≠i):WdS W1 c buf it (dQ d i) w:=⟨fun e=>h.below (by rwa [dG a] at e),fun e=>h.done (by rwa [dG a] at e)⟩
theorem WdS.more (h:WdS W1 c buf it d w)(h6:d 6=false){X:Wj}(a:Below w.heap.size w X):WdS W1 c buf it (dQ d 3) X:=⟨fun _=>(h.below h6).trans (a.mono (h.below h6).size),fun e=>by rw [dG (by omega),h6] at e;cases e⟩
theorem WdS.sent (h:WdS W1 c buf it d w)(hw:d 6=false):WdS W1 c buf it (dQ d 6) (w.setChan c 1000 (buf.toArray.push it) false (buf.length+1) 0 false):=⟨fun e=>by simp [dQ] at e,fun _=>⟨w,h.below hw,by simp⟩⟩
end
theorem Az (A:Nat->Prop){id n:Nat}{Q:Exit->Act->Wj->Prop}{a0:Act}{W:Wj}{b5 b7 c:Nat}{key:ByteArray}{hv:Wx}{h:List Ver}{buf:List Wx}(hs:a0.tmps.size=27)(e2:a0.eval (.tmp 2)=hv)(e5:a0.eval (.tmp 5)=ptr b5)(z:a0.eval (.tmp 7)=ptr b7)
  (c5:W.cell? ⟨b5,0,none⟩=some (.string key)) (y:W.cell? ⟨b7,0,none⟩=some (.chan (some c))) (t:bf A W hv h) (hne:h≠[]) (hl:h.length<=2199023255552) (hc:W.heap[c]?=some (.chan 1000 buf.toArray false buf.length 0 false)) (hroom:buf.length<1000)
  (hend:∀a w1,a.tmps.size=27->a.defers=a0.defers->Below W.heap.size W w1->Q .normal a (w1.setChan c 1000 (buf++[itVal ⟨1,key,(h.getLast hne).num⟩]).toArray false (buf.length+1) 0 false)):
  (Code.region id Gv true).wpIn (wf none) n Yq.prog Q a0 W:=by
 obtain ⟨W1,l⟩:∃W1:Wj,W1={W with drawn:=W.drawn+1}:=⟨_,rfl⟩;have m:Below W.heap.size W W1:=by rw [l];exact ⟨rfl,rfl,rfl,lR _,fun _ _=>rfl⟩
 have hsz:W1.heap.size=W.heap.size:=by rw [l]
 have k5:W1.cell? ⟨b5,0,none⟩=some (.string key):=ai m c5;have x:W1.cell? ⟨b7,0,none⟩=some (.chan (some c)):=ai m y;have s:c<W1.heap.size:=by rw [hsz];exact (eS hc).1
 have hc:W1.heap[c]?=some (.chan 1000 buf.toArray false buf.length 0 false):=by rw [l];exact hc
 have t:bf A W1 hv h:=t.on m;have hroom:buf.toArray.size<1000:=by simpa using hroom
 refine lJ (ro:=none) (a0:=a0) (w0:=W) mixed 13 6
   (fun i=>match i with| 0=>.chan (some c)| 1=>.string key| 2=>hv| 3=>bZ (h.getLast hne)| 4=>.int .i64 (h.getLast hne).num|_=>itVal ⟨1,key,(h.getLast hne).num⟩)
   (WdS W1 c buf (itVal ⟨1,key,(h.getLast hne).num⟩)) (by omega) (by rfl) (by rfl) (fun listed a w i o u ho V b hcl=>?_) (fun a w h1 h2 h3 h4 h5=>?_) ⟨fun _=>by rw [<-l];exact bR _ _,fun e=>by cases e⟩
 .have hlt:i<7:=(cX u).1;have p:listed.getD 6 false=false:=by
   cases h:listed.getD 6 false with
   |false=>rfl
   |true=>
    exfalso;have l5:=hcl.dep (j:=6) (k:=5) (by rfl) h;have l0:=hcl.dep (j:=6) (k:=0) (by rfl) h;have l4:=hcl.dep (j:=5) (k:=4) (by rfl) l5;have l1:=hcl.dep (j:=5) (k:=1) (by rfl) l5;have l3:=hcl.dep (j:=4) (k:=3) (by rfl) l4;have l2:=hcl.dep (j:=3) (k:=2) (by rfl) l3;have hi2:=(cX u).2;have q:∀j,j<7->listed.getD j false=true:=fun j hj=>by
     rcases j with - | - | - | - | - | - | - |j;all_goals first|assumption|omega
    have h7:=q i hlt;have r:i<listed.size:=by rw [V.len];exact hlt
    simp only [gD,eG r,Option.getD_some] at hi2 h7;rw [hi2] at h7;cases h7
  have hw:Below W1.heap.size W1 w:=V.world.below p;rcases i with - | - | - | - | - | - | - |i;all_goals first|omega|(have ho1:=ho;dsimp only [Gv,Gu,cF,Tryz.f140,jc,dr,qG,Option.getD] at ho1;simp only [gA,gS,gZ,oI,Nat.reduceAdd,zA] at ho1;subst ho1)
  .have q0:a.eval (.tmp 7)=ptr b7:=(V.old 7 (by omega)).trans z;refine aq ho rfl (fun c h=>by cases h) (v:=.chan (some c)) (w':=w) (by generalize a.eval=ρ at q0 ⊢;simp [go_sem,q0,ptr,ai hw x]) ⟨_,rfl,fun _=>rfl,V.world.other (by omega)⟩
  .have q0:a.eval (.tmp 5)=ptr b5:=(V.old 5 (by omega)).trans e5;refine aq ho rfl (fun c h=>by cases h) (v:=.string key) (w':=w) (by generalize a.eval=ρ at q0 ⊢;simp [go_sem,q0,ptr,ai hw k5]) ⟨_,rfl,fun _=>rfl,V.world.other (by omega)⟩
  .have q0:a.eval (.tmp 2)=hv:=(V.old 2 (by omega)).trans e2;refine aq ho rfl (fun c h=>by cases h) (v:=hv) (w':=w) (by generalize a.eval=ρ at q0 ⊢;simp [go_sem,q0]) ⟨_,rfl,fun _=>rfl,V.world.other (by omega)⟩
  .have q0:a.eval (.tmp 15)=hv:=V.new 2 (by omega) (b ⟨2,.data⟩ (by simp) rfl);refine nB (f:=64) (args:=#[hv]) (w':=w) ho rfl (fun c h=>by cases h) (by have qf:=hfun a rfl 64;generalize a.eval=ρ at q0 qf ⊢;simp [go_sem,q0,qf]) ((kM A hv h w (t.on hw) hne hl).mono ?_);rintro e X ⟨rfl,B⟩;exact ⟨_,rfl,_,rfl,fun _=>rfl,V.world.more p B⟩
  .have q0:a.eval (.tmp 16)=bZ (h.getLast hne):=V.new 3 (by omega) (b ⟨3,.data⟩ (by simp) rfl);refine aq ho rfl (fun c h=>by cases h) (v:=.int .i64 (h.getLast hne).num) (w':=w) (by generalize a.eval=ρ at q0 ⊢;simp [go_sem,q0,bZ,Ay]) ⟨_,rfl,fun _=>rfl,V.world.other (by omega)⟩
  .have q0:a.eval (.tmp 14)=.string key:=V.new 1 (by omega) (b ⟨1,.data⟩ (by simp) rfl);have q1:a.eval (.tmp 17)=.int .i64 (h.getLast hne).num:=V.new 4 (by omega) (b ⟨4,.data⟩ (by simp) rfl);have q2:a.eval (.const (.int .i64 1))=.int .i64 1:=rfl;refine aq ho rfl (fun c h=>by cases h) (v:=itVal ⟨1,key,(h.getLast hne).num⟩) (w':=w) (by generalize a.eval=ρ at q0 q1 q2 ⊢;simp [go_sem,q0,q1,q2,itVal]) ⟨_,rfl,fun _=>rfl,V.world.other (by omega)⟩
  .have q0:a.eval (.tmp 13)=.chan (some c):=V.new 0 (by omega) (b ⟨0,.data⟩ (by simp) rfl);have q1:a.eval (.tmp 18)=itVal ⟨1,key,(h.getLast hne).num⟩:=V.new 5 (by omega) (b ⟨5,.data⟩ (by simp) rfl);refine nC ho rfl rfl q0 ((hw.block c s).trans hc) hroom ?_;exact ⟨_,rfl,fun h=>absurd h (by omega),by rw [q1];exact V.world.sent p⟩
 .obtain ⟨d,hd,hw⟩:=h5;obtain ⟨w1,hb,rfl⟩:=hw.done (hd 6 (by decide));exact hend a w1 (h1.trans hs) h2 (m.trans (by rw [hsz] at hb;exact hb))
end
section
open Go.RowKit
def dY (w:Wj)(b:Nat):Prop:=∃o:Obj,w.heap[b]?=some o/\o.isCells=true
theorem dY.of_cell {w:Wj}{b j:Nat}{v:Wx}(h:w.cell? ⟨b,j,none⟩=some v):dY w b:=by
 unfold World.cell? at h;cases ho:w.heap[b]? with
 |none=>simp [ho] at h
 |some o=>
  cases o with
  |cells c e z=>exact ⟨_,ho,rfl⟩
  |_=>simp [ho] at h
theorem dY.lt {w:Wj}{b:Nat}(h:dY w b):b<w.heap.size:=by
 obtain ⟨o,h,-⟩:=h;exact (eS h).1
theorem bO.inCells {A:Nat->Prop}{w:Wj}{v:Wx}{n:Nat}{xs:List Wx}(h:bO A w v n xs):bO (fun b=>A b/\dY w b) w v n xs:=by
 obtain ⟨a,cap,hv,c,hx⟩:=h;refine ⟨a,cap,hv,c,fun hne=>?_⟩;obtain ⟨g,ha,hA,hg,hc⟩:=hx hne;have h0:0<xs.length:=List.length_pos_iff.2 hne;exact ⟨g,ha,⟨hA,.of_cell ((hc 0 h0).trans (eL h0))⟩,hg,hc⟩
theorem ak.inCells {A:Nat->Prop}{w:Wj}:∀ (n:Nat)(p:Option Wu)(f:List UInt8->List Ver),ak A n w p f->ak (fun b=>A b/\dY w b) n w p f:=by
 intro n;induction n with
 |zero=>intro p f h;exact h
 |succ n ih=>
  intro p f h;rcases h with h|⟨g,hv,kv,ks,hp,hA,c0,c1,c2,d,a,hs,hch,hno⟩
  .exact Or.inl h
  .exact Or.inr ⟨g,hv,kv,ks,hp,⟨hA,.of_cell c0⟩,c0,c1,c2,bO.inCells d,bO.inCells a,hs,fun c q hq=>ih q _ (hch c q hq),hno⟩
theorem ak.weak {A A':Nat->Prop}{w:Wj}(h:∀b,A b->A' b){n:Nat}{p:Option Wu}{f:List UInt8->List Ver}(a:ak A n w p f):ak A' n w p f:=ak.keep (fun b hb _=>⟨h b hb,rfl⟩) n p f a
def vW (w:Wj)(p:Option Wu)(f:List UInt8->List Ver):Prop:=ak (dY w) 41 w p f
theorem vW.of {A:Nat->Prop}{w:Wj}{p:Option Wu}{f:List UInt8->List Ver}(h:ak A 41 w p f):vW w p f:=(ak.inCells 41 p f h).weak fun _ h=>h.2
end
