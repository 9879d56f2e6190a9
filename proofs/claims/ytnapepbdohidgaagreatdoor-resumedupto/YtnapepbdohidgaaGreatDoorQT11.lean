/- A part. -/
import Derived.Test.YtnapepbdohidgaaGreatDoorQT10
import Derived.Lib.Strings
import Derived.Lib.BufferWrite
import Derived.Lib.UnsafeStr
import Derived.Laws.MakeOwn
import Derived.RangeFuncBox
set_option maxHeartbeats 4000000
set_option maxRecDepth 100000
open Go renaming World->Wz,Value->Wq,Program->Wx,TypeId->Wk,Frame->Wv,Addr->Ww,undef->Wy
namespace Go.Proofs.Qw
open Tryz
section
open Go.RowKit
theorem tp {A:Nat->Prop}{w w2 w3:Wz}{n:Nat}{p:Option Ww}{F:List UInt8->List Ver}(_hw2:w.heap.size<=w2.heap.size)(h:ai (Grow (fun b=>A b/\b<w.heap.size) w2) n w3 p F)(a o:Nat)(v:Wq)(h1:w.heap.size<=a)(h2:a<w2.heap.size):
  ai (Grow A w) n (w3.setCell ⟨a,o,none⟩ v) p F:=by
 refine ai.keep (fun b hb _=>?_) n p F h;rcases hb with ⟨⟨hA,hlt⟩,_⟩|hge
 .exact ⟨Or.inl ⟨hA,hlt⟩,bS _ _ _ _ (by show b≠a;omega)⟩
 .exact ⟨Or.inr (by omega),bS _ _ _ _ (by show b≠a;omega)⟩
theorem tq (A:Nat->Prop)(n:Nat)(p:Option Ww)(f:List UInt8->List Ver)(key:ByteArray)(hv:Wq)(h:List Ver)(w:Wz)(j:ai A n w p f)(hk:key.size<n)(hk2:key.size<=1000)(i:aU A w hv h)(hne:h≠[]):
  Calls Yq.prog 67 #[.agg #[.pointer p],.string key,hv] w fun e w'=>∃q,e=.returned (.agg #[.pointer q])/\Below w.heap.size w w'/\ai (Grow A w) n w' q (upd f key.data.toList h):=by
 have c:∀w2:Wz,Below w.heap.size w w2->Calls Yq.prog 94 #[.pointer p,.string key,hv] w2 fun e w'=>∃g,e=.returned (.pointer (some ⟨g,0,none⟩))/\Below w2.heap.size w2 w'/\ai (Grow (fun b=>A b/\b<w.heap.size) w2) n w' (some ⟨g,0,none⟩) (upd f key.data.toList h):=fun w2 hb=>
  Be n _ p f key hv h w2 (ai.keep (fun b h1 h2=>⟨⟨h1,h2⟩,hb.block b h2⟩) n p f j) hk hk2 (bG.keep i (fun b h1 h2=>⟨⟨h1,h2⟩,hb.block b h2⟩)) hne
 have HC:Hid (∀w2:Wz,Below w.heap.size w w2->Calls Yq.prog 94 #[.pointer p,.string key,hv] w2 fun e w'=>∃g,e=.returned (.pointer (some ⟨g,0,none⟩))/\Below w2.heap.size w2 w'/\ai (Grow (fun b=>A b/\b<w.heap.size) w2) n w' (some ⟨g,0,none⟩) (upd f key.data.toList h)):=c;obtain ⟨ha,hc,rfl,-⟩:=i;clear c j;go_enter (Yq.nq func67),ntmps67;go_wp2_with fail
 have a:Below w.heap.size w ((w.alloc (.cells #[.pointer p] 56)).alloc (.cells #[.pointer none] 56)):=((bR _ w).alloc (lR _) _).alloc (by simp) _;have q0:((w.alloc (.cells #[.pointer p] 56)).alloc (.cells #[.pointer none] 56)).cell? ⟨w.heap.size+1,0,none⟩=some (.pointer none):=by rw [cA (w:=w.alloc (.cells #[.pointer p] 56)) _ _ (w.heap.size+1) 0 (by simp)];rfl
 have q1:((w.alloc (.cells #[.pointer p] 56)).alloc (.cells #[.pointer none] 56)).frozen? ⟨w.heap.size+1,0,none⟩=false:=World.frozen?_alloc_at (w:=w.alloc (.cells #[.pointer p] 56)) _ _ (w.heap.size+1) 0 (by simp);have q2:w.heap.size+1<((w.alloc (.cells #[.pointer p] 56)).alloc (.cells #[.pointer none] 56)).heap.size:=by simp
 have k:Hid (Below w.heap.size w ((w.alloc (.cells #[.pointer p] 56)).alloc (.cells #[.pointer none] 56))):=a;refine (HC.out _ a).mono ?_;generalize (w.alloc (.cells #[.pointer p] 56)).alloc (.cells #[.pointer none] 56)=W2 at *;rintro e w3 ⟨g,rfl,hb3,d⟩;have q3:=aj hb3 q0;have q4:=(hb3.frozen (p:=⟨w.heap.size+1,0,none⟩) q2).trans q1;have HF:Hid (Below w.heap.size w (w3.setCell ⟨w.heap.size+1,0,none⟩ (.pointer (some ⟨g,0,none⟩)))/\ai (Grow A w) n (w3.setCell ⟨w.heap.size+1,0,none⟩ (.pointer (some ⟨g,0,none⟩))) (some ⟨g,0,none⟩) (upd f key.data.toList h)):=
  ⟨(a.trans (hb3.mono a.size)).setCell (by show w.heap.size<=w.heap.size+1;omega) _,tp a.size d (w.heap.size+1) 0 _ (by omega) q2⟩
 clear a q0 q1 hb3 d HC;go_wp2;exact bodyPost_ret (v:=.agg #[.pointer (some ⟨g,0,none⟩)]) (by simp [results,results67,go_sem,q3]) rfl ⟨_,rfl,HF.out⟩
theorem tt (A:Nat->Prop)(n:Nat)(p:Option Ww)(f:List UInt8->List Ver)(key:ByteArray)(w:Wz)(k:ai A n w p f)(hk:key.size<n)(hk2:key.size<=1000)(hf:f key.data.toList≠[]):
  Calls Yq.prog 66 #[.agg #[.pointer p],.string key] w fun e w'=>∃q,e=.returned (.agg #[.pointer q])/\Below w.heap.size w w'/\ai (Grow A w) n w' q (upd f key.data.toList []):=by
 have c:∀w2:Wz,Below w.heap.size w w2->Calls Yq.prog 93 #[.pointer p,.string key] w2 fun e w'=>∃q,e=.returned (.pointer q)/\Below w2.heap.size w2 w'/\ai (Grow (fun b=>A b/\b<w.heap.size) w2) n w' q (upd f key.data.toList []):=fun w2 hb=>
  tl n _ p f key w2 (ai.keep (fun b h1 h2=>⟨⟨h1,h2⟩,hb.block b h2⟩) n p f k) hk hk2 hf
 have i:∀w2:Wz,Below w.heap.size w w2->Calls Yq.prog 63 #[.agg #[.pointer p],.string key] w2 fun e w'=>∃hv,e=.returned (.tuple #[hv,.bool true])/\Below w2.heap.size w2 w':=fun w2 hb=>by
  refine (nf A n p f key w2 hk (by simp only [maxLen];omega) (ai.keep (fun b h1 h2=>⟨h1,hb.block b h2⟩) n p f k)).mono ?_;rintro e w' ⟨hv,rfl,_,m⟩;refine ⟨hv,?_,m⟩;cases hc:f key.data.toList with
  |nil=>exact absurd hc hf
  |cons a l=>rfl
 have HC:Hid (∀w2:Wz,Below w.heap.size w w2->Calls Yq.prog 93 #[.pointer p,.string key] w2 fun e w'=>∃q,e=.returned (.pointer q)/\Below w2.heap.size w2 w'/\ai (Grow (fun b=>A b/\b<w.heap.size) w2) n w' q (upd f key.data.toList [])):=c;have HG:Hid (∀w2:Wz,Below w.heap.size w w2->Calls Yq.prog 63 #[.agg #[.pointer p],.string key] w2 fun e w'=>∃hv,e=.returned (.tuple #[hv,.bool true])/\Below w2.heap.size w2 w'):=i;clear c k i hf;go_enter (Yq.nq func66),ntmps66;go_wp2_with fail
 have d:Below w.heap.size w ((w.alloc (.cells #[.pointer p] 56)).alloc (.cells #[.pointer none] 56)):=((bR _ w).alloc (lR _) _).alloc (by simp) _;have q0:((w.alloc (.cells #[.pointer p] 56)).alloc (.cells #[.pointer none] 56)).cell? ⟨w.heap.size+1,0,none⟩=some (.pointer none):=by rw [cA (w:=w.alloc (.cells #[.pointer p] 56)) _ _ (w.heap.size+1) 0 (by simp)];rfl
 have q1:((w.alloc (.cells #[.pointer p] 56)).alloc (.cells #[.pointer none] 56)).frozen? ⟨w.heap.size+1,0,none⟩=false:=World.frozen?_alloc_at (w:=w.alloc (.cells #[.pointer p] 56)) _ _ (w.heap.size+1) 0 (by simp);have q2:w.heap.size+1<((w.alloc (.cells #[.pointer p] 56)).alloc (.cells #[.pointer none] 56)).heap.size:=by simp
 have q5:((w.alloc (.cells #[.pointer p] 56)).alloc (.cells #[.pointer none] 56)).cell? ⟨w.heap.size,0,none⟩=some (.pointer p):=by
  rw [World.cell?_alloc_past (w:=w.alloc (.cells #[.pointer p] 56)) _ w.heap.size 0 (by simp),cA (w:=w) _ _ w.heap.size 0 rfl];rfl
 refine (HG.out _ d).mono ?_;generalize (w.alloc (.cells #[.pointer p] 56)).alloc (.cells #[.pointer none] 56)=W1 at *;rintro e W2 ⟨hv,rfl,hbg⟩;have hb2:Below w.heap.size w W2:=d.trans (hbg.mono d.size);have r0:=aj hbg q0;have r1:=(hbg.frozen (p:=⟨w.heap.size+1,0,none⟩) q2).trans q1;have r2:w.heap.size+1<W2.heap.size:=lL q2 hbg.size;have r5:=aj hbg q5;have h:Hid (Below w.heap.size w W2):=hb2;clear d q0 q1 q2 q5 hbg HG hb2;go_wp2_with fail
 refine (HC.out W2 h.out).mono ?_;rintro e w3 ⟨q,rfl,hb3,j⟩;have q3:=aj hb3 r0;have q4:=(hb3.frozen (p:=⟨w.heap.size+1,0,none⟩) r2).trans r1;have HF:Hid (Below w.heap.size w (w3.setCell ⟨w.heap.size+1,0,none⟩ (.pointer q))/\ai (Grow A w) n (w3.setCell ⟨w.heap.size+1,0,none⟩ (.pointer q)) q (upd f key.data.toList [])):=
  ⟨(h.out.trans (hb3.mono h.out.size)).setCell (by show w.heap.size<=w.heap.size+1;omega) _,tp h.out.size j (w.heap.size+1) 0 _ (by omega) r2⟩
 clear r0 r1 hb3 j HC;go_wp2;exact bodyPost_ret (v:=.agg #[.pointer q]) (by simp [results,results66,go_sem,q3]) rfl ⟨_,rfl,HF.out⟩
def nums (h:List Ver)(i:Nat):Int:=((h[i]?).map (·.num)).getD 0
def bods (h:List Ver)(i:Nat):ByteArray:=((h[i]?).map (·.body)).getD ⟨#[]⟩
def mrks (h:List Ver)(i:Nat):Bool:=((h[i]?).map (·.mark)).getD false
theorem gg {h:List Ver}{i:Nat}(hi:i<h.length):nums h i=h[i].num:=by simp [nums,hi]
theorem FI {h:List Ver}{i:Nat}(hi:i<h.length):bods h i=h[i].body:=by simp [bods,hi]
theorem FJ {h:List Ver}{i:Nat}(hi:i<h.length):mrks h i=h[i].mark:=by simp [mrks,hi]
structure Bf (h:List Ver)(n:Int)(r:Nat):Prop where
 le:r<=h.length
 lo:∀j,j<h.length->j<r->nums h j<n
 hi:∀j,j<h.length->r<=j->n<=nums h j
def za (h:List Ver)(n:Int)(r:Nat):Bool:=decide (r<h.length/\nums h r=n)
theorem Bg (A:Nat->Prop)(hv:Wq)(h:List Ver)(n:Int)(w:Wz)(c:aU A w hv h)(hs:∀i j,i<j->j<h.length->nums h i<nums h j)(hl:h.length<=2199023255552):
  Calls Yq.prog 92 #[hv,.int .i64 n] w fun e w'=>∃r:Nat,Bf h n r/\e=.returned (.tuple #[.int .i64 r,.bool (za h n r)])/\Below w.heap.size w w':=by
 by_cases hne:h=[]
 .subst hne;obtain ⟨a,cap,rfl,-,-⟩:=c;go_enter (Yq.nq func92),ntmps92;go_wp2_with (go_at_call 112;refine (Dd _ _ _ _).mono ?_;rintro e w' ⟨rfl,rfl⟩)
  go_ret2
  exact ⟨0,⟨lR _,fun j h=>absurd h (Nat.not_lt_zero _),fun j h=>absurd h (Nat.not_lt_zero _)⟩,by simp [za],bR _ _⟩
 .obtain ⟨d,cap,rfl,-,-,hc,-⟩:=c.cells hne;have hbs:Calls Yq.prog 112 #[.slice (some ⟨d,0,none⟩) h.length cap,.int .i64 n,.func (.func 113) #[] #[]] w fun e w'=>∃r:Nat,Bf h n r /\
    e=.returned (.tuple #[.int .i64 r,.bool (za h n r)])/\Below w.heap.size w w':=by
   refine (FC d h.length cap (nums h) (bods h) (mrks h) n w hl (fun i hi=>by rw [gg hi,FI hi,FJ hi];exact hc i hi) hs).mono ?_;rintro e w' ⟨r,h1,h2,h3,rfl,h5⟩;exact ⟨r,⟨h1,fun j _ b=>h2 j b,fun j h b=>h3 j b h⟩,rfl,h5⟩
  clear hc hs;go_enter (Yq.nq func92),ntmps92;go_wp2_with (go_at_call 112;refine hbs.mono ?_;rintro e w' ⟨r,h1,rfl,h5⟩)
  go_ret2
  exact ⟨r,h1,rfl,h5⟩
def bO (v:Ver):Wq:=.agg #[.int .i64 v.num,.string v.body,.bool v.mark]
theorem zb (g k cap:Nat)(a:Int)(b:ByteArray)(c:Bool)(w:Wz)(hk:k<=2199023255552)(c0:w.cell? ⟨g,k * 3,none⟩=some (.int .i64 a))(c1:w.cell? ⟨g,k * 3+1,none⟩=some (.string b))(c2:w.cell? ⟨g,k * 3+2,none⟩=some (.bool c)):
  Calls Yq.prog 64 #[.slice (some ⟨g,0,none⟩) (k+1) cap] w fun e w'=>e=.returned (.agg #[.int .i64 a,.string b,.bool c])/\Below w.heap.size w w':=by
 have hg:=bC w _ c0;go_enter (Yq.nq func64),ntmps64;go_wp2;exact bodyPost_ret (v:=.agg #[.int .i64 a,.string b,.bool c]) (by simp [results,results64,go_sem]) rfl ⟨rfl,(bR _ _).alloc (lR _) _⟩
theorem lG (A:Nat->Prop)(hv:Wq)(h:List Ver)(w:Wz)(a:aU A w hv h)(hne:h≠[])(hl:h.length<=2199023255552):
  Calls Yq.prog 64 #[hv] w fun e w'=>e=.returned (bO (h.getLast hne))/\Below w.heap.size w w':=by
 obtain ⟨g,cap,rfl,-,-,hc,-⟩:=a.cells hne;have hlen:0<h.length:=List.length_pos_iff.2 hne;obtain ⟨k,hk⟩:∃k,h.length=k+1:=⟨h.length-1,by omega⟩;obtain ⟨c0,c1,c2⟩:=hc k (by omega);have e:h.getLast hne=h[k]:=by rw [List.getLast_eq_getElem];congr 1;omega
 rw [e];generalize h[k]=v at *;rw [hk];exact zb g k cap _ _ _ w (by omega) c0 c1 c2
theorem tu (A:Nat->Prop)(hv:Wq)(h:List Ver)(r:Nat)(w:Wz)(f:aU A w hv h)(hr:r<h.length)(hl:h.length<=2199023255552):
  Calls Yq.prog 68 #[hv,.int .i64 r] w fun e w'=>∃i d l,e=.returned (.slice i d l)/\aU (fun b=>w.heap.size<=b) w' (.slice i d l) (h.take r++h.drop (r+1))/\Below w.heap.size w w':=by
 have hcl:=pE A hv h w f hl;obtain ⟨k,hk⟩:∃k,h.length=k+1:=⟨h.length-1,by omega⟩;obtain ⟨ha,hc,rfl,-⟩:=f;have HK:Hid (h.length=k+1):=hk;rw [hk] at hcl ⊢;clear hk;go_enter (Yq.nq func68),ntmps68;go_wp2_with fail
 refine hcl.mono ?_;rintro e w1 ⟨v',rfl,hown,hb⟩;obtain ⟨g,cap,rfl,-,-,-⟩:=tj hown (Nat.succ_pos _);have hdl:=Dh w.heap.size g k cap r (aC h) w1 hown (by have:=HK.out;omega) (by have:=HK.out;omega) (my h);have hr':(r:Int)<=2199023255552:=by omega
 go_wp2_with (go_at_call 95;refine hdl.mono ?_;rintro e w2 ⟨rfl,a,c⟩)
 go_ret;refine ⟨_,_,_,rfl,?_,hb.grown c hb.size (fun j e=>by cases e;exact (hown.lt g rfl).1)⟩;rw [te] at a;exact mz (by have:=HK.out;rw [lP,tL,lD];omega) a (fun j e=>(a.lt j e).1)
theorem iT {P:Wx}{ops:Array Oper}{o:Oper}{a:Act}{w:Wz}{K:Act->Wz->Prop}{Q:Exit->Act->Wz->Prop}{E:Prop}
  (hg:o.guard=none) (s x:Operand) (t:Wk) (q:o.op=Op.call {callee:=Callee.builtin Builtin.append,args:=#[s,x],argTypes:=#[t,t]})
  (base:Nat) (e:Wk) (i:TypeInfo) (z:Wq) (b d:Nat) (ht:P.underlying t=some (.slice e)) (hi:P.info? e=some i) (hz:i.zero=some z)
  (l:i.size=b) (r:i.bytes=d) (B:z.cells.size=b) (hsz:0<b)
  (v:Wq) (n:Nat) (xs:List Wq) (hs:a.eval s=v) (hown:w.ownsRow base e b v n xs)
  (A:Ww) (m c:Nat) (news:List Wq) (hx:a.eval x=.slice (some A) m c) (hl:news.length=m * b) (p:∀j u,news[j]?=some u->w.cell? (A.add j)=some u) (h1:∀u∈news,u.oneCell'=true)
  (y:n+m<=maxLen) (f:(n+m) * d<=140737488355328) (k:base<=w.heap.size)
  (h:∀v' w',w'.ownsRow base e b v' (n+m) (xs++news)->w.grownBy w' v.ownBlock->K (a.put o.dst v') w'):
  if Region.wanted o (yielded ops a.tmps)=true then Oper.wp P o a w K Q else E:=by
 obtain ⟨v',w',hr,h2,h3,_⟩:=run_append_own (P:=P) w base t o.type e i z b d ht hi hz l r B hsz v n xs hown A m c news hl p h1 y f k;exact dS hg s x t t q v _ hs hx hr (h v' w' h2 h3)
theorem qU (h:List Ver)(v:Ver):aC (h++[v])=aC h++[.int .i64 v.num,.string v.body,.bool v.mark]:=by simp [aC]
theorem Dn {W w1:Wz}(hb:Below W.heap.size W w1){a b c:Ww}{x y z:Wq}(h:W.cell? a=some x/\W.cell? b=some y/\W.cell? c=some z):w1.cell? a=some x/\w1.cell? b=some y/\w1.cell? c=some z:=
 ⟨aj hb h.1,aj hb h.2.1,aj hb h.2.2⟩
theorem oi {w w':Wz}{row:Option Nat}(hg:w.grownBy w' row){b o1 o2 a:Nat}{x y z:Wq}(hne:row≠some b)(h:w.cell? ⟨b,o1,none⟩=some x/\w.cell? ⟨b,o2,none⟩=some y/\w.cell? ⟨b,a,none⟩=some z):w'.cell? ⟨b,o1,none⟩=some x/\w'.cell? ⟨b,o2,none⟩=some y/\w'.cell? ⟨b,a,none⟩=some z:=
 ⟨hg.cell h.1 (fun e=>hne e.symm),hg.cell h.2.1 (fun e=>hne e.symm),hg.cell h.2.2 (fun e=>hne e.symm)⟩
theorem kw {w:Wz}{base base':Nat}{e:Wk}{a:Nat}{v:Wq}{n:Nat}{xs:List Wq}(h:w.ownsRow base e a v n xs)(hb:base'<=base):w.ownsRow base' e a v n xs:=by
 refine ⟨h.1,?_⟩;rcases h.2 with h2|⟨g,cap,b,hv,hg,r⟩
 .exact Or.inl h2
 .exact Or.inr ⟨g,cap,b,hv,lT hb hg,r⟩
theorem news3 (W:Wz)(x y z:Wq)(T:Wk):∀j u,[x,y,z][j]?=some u->(W.alloc (.cells #[x,y,z] T)).cell? ((⟨W.heap.size,0,none⟩:Ww).add j)=some u:=by
 intro j u a;rw [Addr.add_lit,cA (w:=W) _ _ W.heap.size _ rfl];simpa using a
theorem one3 (b:Int)(c:ByteArray)(d:Bool):∀u∈[Value.int .i64 b,.string c,.bool d],u.oneCell'=true:=by
 intro u a;simp at a;rcases a with rfl|rfl|rfl<;>rfl
theorem Bh (A:Nat->Prop)(hv:Wq)(h:List Ver)(f:Int)(a:ByteArray)(c:Bool)(w:Wz)(D:aU A w hv h)(hl:h.length<=2199023255552):
  Calls Yq.prog 89 #[hv,.agg #[.int .i64 f,.string a,.bool c]] w fun e w'=>∃o C p,e=.returned (.slice o C p)/\aU (fun b=>w.heap.size<=b) w' (.slice o C p) (h++[⟨f,a,c⟩])/\Below w.heap.size w w':=by
 obtain ⟨i0,t,s,r,q⟩:=info_parts Yq.infoVer;have x:Hid (∀wq:Wz,Below w.heap.size w wq->Calls Yq.prog 96 #[hv] wq fun e w'=>∃v',e=.returned v'/\w'.ownsRow wq.heap.size 81 3 v' h.length (aC h)/\Below wq.heap.size wq w'):=fun wq hq=>
  pE A _ h wq (bG.keep D (fun b hb hlt=>⟨hb,hq.block b hlt⟩)) hl
 obtain ⟨ha,hc,rfl,-⟩:=D;have B:Below w.heap.size w (w.alloc (.cells #[.int .i64 f,.string a,.bool c] 81)):=(bR _ w).alloc (lR _) _;have i:Hid (Below w.heap.size w (w.alloc (.cells #[.int .i64 f,.string a,.bool c] 81))):=B;have B0:(w.alloc (.cells #[.int .i64 f,.string a,.bool c] 81)).cell? ⟨w.heap.size,0,none⟩=some (.int .i64 f):=by rw [cA (w:=w) _ _ w.heap.size 0 rfl];rfl
 have B1:(w.alloc (.cells #[.int .i64 f,.string a,.bool c] 81)).cell? ⟨w.heap.size,1,none⟩=some (.string a):=by rw [cA (w:=w) _ _ w.heap.size 1 rfl];rfl
 have B2:(w.alloc (.cells #[.int .i64 f,.string a,.bool c] 81)).cell? ⟨w.heap.size,2,none⟩=some (.bool c):=by rw [cA (w:=w) _ _ w.heap.size 2 rfl];rfl
 clear B;go_enter (Yq.nq func89),ntmps89;go_wp2_with fail
 go_region_held3 (fun w'=>w'.cell? ⟨w.heap.size,0,none⟩=some (.int .i64 f)/\w'.cell? ⟨w.heap.size,1,none⟩=some (.string a)/\w'.cell? ⟨w.heap.size,2,none⟩=some (.bool c)) (first|assumption|go_keep)
  (first
   |(refine iT rfl _ _ 114 rfl w.heap.size 81 i0 _ 3 32 (Yq.u underlying114) t s r q rfl (by decide) (.slice o h.length p) h.length (aC h) (by simp [Act.eval]) (hown.alloc _) ⟨w2.heap.size,0,none⟩ 1 1 [.int .i64 f,.string a,.bool c] (by simp [Act.eval]) rfl (news3 _ _ _ _ _) (one3 _ _ _) (by simp only [maxLen];omega) (by omega) (lT hbs (by simp)) ?_;intro v2 w3 n l;have hb3:Below w.heap.size w w3:=(m.alloc m.size _).grown l (lT hbs (by simp)) (fun k e=>(hown.lt k e).1);have kS3:=oi l v (by assumption))
   |(refine iT rfl _ _ 114 rfl w.heap.size 81 i0 _ 3 32 (Yq.u underlying114) t s r q rfl (by decide) (.slice o h.length p) h.length (aC h) (by simp [Act.eval]) hown ⟨w.heap.size+1,0,none⟩ 1 1 [.int .i64 f,.string a,.bool c] (by simp [Act.eval]) rfl (fun j u E=>aj hb (by have:=news3 (w.alloc (.cells #[.int .i64 f,.string a,.bool c] 81)) _ _ _ 81 j u E;simpa using this)) (one3 _ _ _) (by simp only [maxLen];omega) (by omega) hbs ?_;intro v2 w3 n l;have hb3:Below w.heap.size w w3:=m.grown l m.size (fun k e=>(hown.lt k e).1);have kS3:=oi l v (by assumption))
   |(go_at_call 96;go_loud (refine (x.out _ ?_).mono ?_);go_loud (first|exact i.out|exact i.out.drew|exact (i.out.alloc (by simp) _).drew);rintro e w2 ⟨v',rfl,d,hb⟩;obtain ⟨o,p,rfl,-⟩:=az d;have hown:=kw (base':=w.heap.size) d (by simp<;>omega);have v:(Value.slice o h.length p).ownBlock≠some w.heap.size:=fun e=>absurd (d.lt _ e).1 (by simp<;>omega);have hbs:w.heap.size<=w2.heap.size:=lT (by simp<;>omega) hb.size;have m:Below w.heap.size w w2:=(by first|exact i.out.drew.trans (hb.mono i.out.size)|exact ((i.out.alloc (by simp) _).drew).trans (hb.mono (by simp<;>omega)));have kS:=Dn hb (by assumption)))
 all_goals
  obtain ⟨y,z,rfl,-⟩:=az n;go_wp2;go_ret;have ho4:=n;rw [show aC h++[.int .i64 f,.string a,.bool c]=aC (h++[⟨f,a,c⟩]) from (qU h ⟨f,a,c⟩).symm] at ho4;exact ⟨y,h.length+1,z,rfl,mz (by simp) ho4 (fun j e=>(ho4.lt j e).1),hb3⟩
theorem Yq.infoU8:(Yq.prog.info? 5).map (fun i=>(i.zero,i.size,i.bytes))=some (some (.int .u8 0),1,1):=by kernel_rfl
theorem vC (s:ByteArray)(w:Wz)(hlim:s.size<=281474976710656):
  Calls Yq.prog 90 #[.string s] w fun e w'=>e=.returned (.string s)/\Below w.heap.size w w':=by
 by_cases h0:s.size=0
 .have hs:s=⟨#[]⟩:=by
   apply ByteArray.ext;exact Array.eq_empty_of_size_eq_zero h0
  subst hs;go_enter (Yq.nq func90),ntmps90;go_wp2;go_ret;exact ⟨rfl,bR _ _⟩
 .obtain ⟨i0,hi,m,a,i⟩:=info_parts Yq.infoU8;have b:(Yq.prog.info? 5).map (·.size)=some 1:=by rw [hi];simp [a]
  have f:Yq.prog.cellsOf 5=1:=by simp [Program.cellsOf,hi,a]
  obtain ⟨M,l⟩:∃M,M=madeCells (Value.int .u8 0).cells (((s.size:Nat):Int).toNat * i0.size):=⟨_,rfl⟩;have hMs:M.size=s.size:=by rw [l,size_madeCells,a];simp
  have hmk:∀W:Wz,(Instr.makeSlice 48 (.int .i64 (s.size:Int)) (.int .i64 (s.size:Int))).run Yq.prog W=.ok (.slice (some ⟨W.heap.size,0,none⟩) s.size s.size) (W.alloc (.cells M 5)):=fun W=>by
   have h:=run_make (P:=Yq.prog) W 48 5 i0 (.int .u8 0) (Yq.u underlying48) hi m .i64 .i64 (s.size:Int) (s.size:Int) (by omega) (by omega) (by rw [i];omega) (by omega);rw [<-l] at h;simpa using h
  clear l;have hcp:=Lib.run_copy_row_string (P:=Yq.prog) (w.alloc (.cells M 5)) 48 9 3 5 w.heap.size 0 s.size s.size s M 5 (Yq.u underlying48) b (heap_alloc_new w _) (lR _) (by omega);obtain ⟨Y,n⟩:∃Y,Y=(M.toList.take 0++Lib.byteCells s.data.toList++M.toList.drop (0+s.size)).toArray:=⟨_,rfl⟩;rw [<-n] at hcp;have c:Y.toList=Lib.byteCells s.data.toList:=by
   rw [n,List.toList_toArray,List.take_zero,List.nil_append,List.drop_of_length_le (by rw [lY];omega),List.append_nil]
  have hYs:Y.size=s.size:=by rw [<-lY,c,Lib.byteCells_length,<-Lib.size_eq]
  have d:((w.alloc (.cells M 5)).setRow w.heap.size Y).heap[w.heap.size]?=some (.cells Y 5 (0,0)):=setRow_heap _ _ M _ 5 (0,0) (heap_alloc_new w _);have hne:s.data.toList≠[]:=fun e=>h0 (by rw [Lib.size_eq,e];rfl)
  have hUS:=Lib.run_unsafeString_row (P:=Yq.prog) ((w.alloc (.cells M 5)).setRow w.heap.size Y) 183 3 9 5 (Yq.u underlying183) f w.heap.size Y.size (by unfold World.shape?;rw [d]) s.data.toList hne (by rw [<-Lib.size_eq];omega) (by rw [<-Lib.size_eq];omega)
   (fun j x hx=>Lib.cells_of_row d Y.size j _ (by rw [tO (by rw [lY];exact lR _),c];simp [Lib.byteCells,hx]))
  rw [<-Lib.size_eq] at hUS;clear n;go_enter (Yq.nq func90),ntmps90;go_wp2;go_ret;have hb1:Below w.heap.size w (w.alloc (.cells M 5)):=(bR _ w).alloc (lR _) _;have hb2:Below w.heap.size (w.alloc (.cells M 5)) ((w.alloc (.cells M 5)).setRow w.heap.size Y):=⟨rfl,rfl,rfl,by simp,fun k hk=>setRow_other _ _ _ _ (by omega)⟩;exact ⟨rfl,Lib.below_freeze (hb1.trans hb2) (p:=⟨w.heap.size,0,none⟩) (lR _) _⟩
theorem zc (s:ByteArray)(w:Wz)(a:s.size<=281474976710656):
  Calls Yq.prog 62 #[.string s] w fun e w'=>e=.returned (.string s)/\Below w.heap.size w w':=by
 go_enter (Yq.nq func62),ntmps62;go_wp2_with (go_at_call 90;refine (vC _ _ a).mono ?_;rintro e w' ⟨rfl,hb⟩)
 go_ret;exact ⟨rfl,hb⟩
structure St where
 f:List UInt8->List Ver
 count:Int
 last:Int
structure OpD where
 kind:Int
 key:ByteArray
 body:ByteArray
 delim:ByteArray
 past:ByteArray
 n:Int
 src:Int
structure GV where
 code:Int
 ver:Int
 body:ByteArray
def cE (o:OpD):Wq:=.agg #[.int .i64 o.kind,.string o.key,.string o.body,.string o.delim,.string o.past,.int .i64 o.n,.int .i64 o.src]
def dv (a:GV):Wq:=.agg #[.int .i64 a.code,.int .i64 a.ver,.string a.body,.slice none 0 0,.string ⟨#[]⟩]
def aX (k:ByteArray):Bool:=decide (1<=k.size/\k.size<=40)
def cW (st:St)(key:ByteArray)(body:ByteArray)(mark:Bool):St:=
 ⟨upd st.f key.data.toList (st.f key.data.toList++[⟨st.last+1,body,mark⟩]),st.count+1,st.last+1⟩
def ec (h:List Ver)(n:Int):Option Nat:=h.findIdx? (fun v=>v.num==n)
def cH (st:St)(key:ByteArray)(r:Nat):St:=
 ⟨upd st.f key.data.toList ((st.f key.data.toList).take r++(st.f key.data.toList).drop (r+1)),st.count-1,st.last⟩
def bf (st:St)(o:OpD):St×GV:=
 let none:GV:=⟨0,0,⟨#[]⟩⟩
 if o.kind=1 then
  if aX o.key=false then (st,{none with code:=2})
  else if 100<o.body.size then (st,{none with code:=3})
  else if 200<=st.count\/st.last=9223372036854775807 then (st,{none with code:=4})
  else (cW st o.key o.body false,{none with ver:=st.last+1})
 else if o.kind=2 then
  if aX o.key=false then (st,{none with code:=2})
  else match (st.f o.key.data.toList).getLast? with
   | .none=>(st,{none with code:=5})
   |some v=>if v.mark then (st,{none with code:=5}) else (st,⟨0,v.num,v.body⟩)
 else if o.kind=3 then
  if aX o.key=false then (st,{none with code:=2})
  else match ec (st.f o.key.data.toList) o.n with
   | .none=>(st,{none with code:=5})
   |some r=>match (st.f o.key.data.toList)[r]? with
    | .none=>(st,{none with code:=5})
    |some v=>if v.mark then (st,{none with code:=6}) else (st,⟨0,0,v.body⟩)
 else if o.kind=4 then
  if aX o.key=false then (st,{none with code:=2})
  else if 200<=st.count\/st.last=9223372036854775807 then (st,{none with code:=4})
  else (cW st o.key ⟨#[]⟩ true,{none with ver:=st.last+1})
 else if o.kind=5 then
  if aX o.key=false then (st,{none with code:=2})
  else match ec (st.f o.key.data.toList) o.n with
   | .none=>(st,{none with code:=5})
   |some r=>(cH st o.key r,none)
 else (st,{none with code:=1})
structure Inv (st:St)(s:Nat):Prop where
 last0:0<=st.last
 lastS:st.last<=9223372036854775807
 countL:-(s:Int)<=st.count
 countU:st.count<=s+200
 len:∀k,(st.f k).length<=s+200
 sorted:∀k i j,i<j->j<(st.f k).length->nums (st.f k) i<nums (st.f k) j
 bounds:∀k i,i<(st.f k).length->1<=nums (st.f k) i/\nums (st.f k) i<=st.last
theorem dE {h:List Ver}{v:Ver}{i:Nat}(hi:i<h.length):nums (h++[v]) i=nums h i:=by
 simp [nums,List.getElem?_append_left hi]
theorem iw {h:List Ver}{v:Ver}:nums (h++[v]) h.length=v.num:=by simp [nums]
theorem Inv.mono {st:St}{s s':Nat}(h:Inv st s)(hs:s<=s'):Inv st s':=
 ⟨h.last0,h.lastS,by have:=h.countL;omega,by have:=h.countU;omega,fun k=>by have:=h.len k;omega,h.sorted,h.bounds⟩
theorem Inv.add {st:St}{s:Nat}(h:Inv st s)(key body:ByteArray)(mark:Bool)(hl:¬st.last=9223372036854775807):Inv (cW st key body mark) (s+1):=by
 refine ⟨by have:=h.last0;simp [cW];omega,by have:=h.lastS;simp [cW];omega,by have:=h.countL;simp [cW];omega,by have:=h.countU;simp [cW];omega,fun k=>?_,?_,?_⟩
 .have h1:=h.len k;have h2:=h.len key.data.toList;unfold cW upd;dsimp only;split
  .rw [lP,lS];omega
  .omega
 .intro k i j a d;by_cases hk:k=key.data.toList
  .subst hk;simp only [cW,upd,if_true] at d ⊢;rw [lP,lS] at d;by_cases b:j<(st.f key.data.toList).length
   .rw [dE b,dE (by omega)];exact h.sorted _ i j a b
   .have l:j=(st.f key.data.toList).length:=by omega
    subst l;rw [iw,dE a];have:=(h.bounds key.data.toList i a).2;simp only;omega
  .simp only [cW,upd,if_neg hk] at d ⊢;exact h.sorted k i j a d
 .intro k i hi;by_cases hk:k=key.data.toList
  .subst hk;simp only [cW,upd,if_true] at hi ⊢;rw [lP,lS] at hi;by_cases c:i<(st.f key.data.toList).length
   .rw [dE c];have:=h.bounds _ i c;omega
   .have e:i=(st.f key.data.toList).length:=by omega
    subst e;rw [iw];have:=h.last0;simp only;omega
  .simp only [cW,upd,if_neg hk] at hi ⊢;have:=h.bounds k i hi;omega
theorem qW {h:List Ver}{r i:Nat}(hr:r<h.length):nums (h.take r++h.drop (r+1)) i=nums h (if i<r then i else i+1):=by
 unfold nums;have hl:(h.take r).length=r:=by rw [tL];omega
 by_cases hi:i<r
 .rw [if_pos hi,List.getElem?_append_left (by omega),List.getElem?_take,if_pos hi]
 .rw [if_neg hi,aR (by omega),hl,List.getElem?_drop];congr 3;omega
theorem Inv.drop {st:St}{s:Nat}(h:Inv st s)(key:ByteArray)(r:Nat)(hr:r<(st.f key.data.toList).length):Inv (cH st key r) (s+1):=by
 refine ⟨h.last0,by have:=h.lastS;simp [cH];omega,by have:=h.countL;simp [cH];omega,by have:=h.countU;simp [cH];omega,fun k=>?_,?_,?_⟩
 .have h1:=h.len k;have h2:=h.len key.data.toList;unfold cH upd;dsimp only;split
  .rw [lP,tL,lD];omega
  .omega
 .intro k i j b a;by_cases hk:k=key.data.toList
  .subst hk;simp only [cH,upd,if_true] at a ⊢;rw [lP,tL,lD] at a;rw [qW hr,qW hr];exact h.sorted _ _ _ (by split<;>split<;>omega) (by split<;>omega)
  .simp only [cH,upd,if_neg hk] at a ⊢;exact h.sorted k i j b a
 .intro k i hi;by_cases hk:k=key.data.toList
  .subst hk;simp only [cH,upd,if_true] at hi ⊢;rw [lP,tL,lD] at hi;rw [qW hr];exact h.bounds _ _ (by split<;>omega)
  .simp only [cH,upd,if_neg hk] at hi ⊢;exact h.bounds k i hi
theorem Do {h:List Ver}{n:Int}{r:Nat}(hp:Bf h n r)(hs:∀i j,i<j->j<h.length->nums h i<nums h j):ec h n=if za h n r then some r else none:=by
 unfold ec;cases c:za h n r with
 |true=>
  have:=of_decide_eq_true c;obtain ⟨hr,hn⟩:=this;simp only [if_true];rw [List.findIdx?_eq_some_iff_getElem];refine ⟨hr,?_,fun j a=>?_⟩
  .rw [gg hr] at hn;simp [hn]
  .have:=hp.lo j (by omega) a;rw [gg (by omega)] at this;simp;omega
 |false=>
  simp only [Bool.false_eq_true,if_false];rw [List.findIdx?_eq_none_iff];intro v hv;obtain ⟨j,a,e⟩:=gM hv;have hne:=of_decide_eq_false c;have hj':nums h j=v.num:=by rw [gg a,e]
  by_cases d:j<r
  .have:=hp.lo j a d;simp;omega
  .have h1:=hp.hi r (by omega) (lR _);by_cases b:j=r
   .subst b;have:¬nums h j=n:=fun e=>hne ⟨a,e⟩
    simp;omega
   .have h2:=hs r j (by omega) a;simp;omega
structure aw (A:Nat->Prop)(w:Wz)(k0:Nat)(st:St):Prop where
 avoid:∀b,A b->b≠k0
 tree:∃p,w.cell? ⟨k0,0,none⟩=some (.pointer p)/\ai A 41 w p st.f
 count:w.cell? ⟨k0,1,none⟩=some (.int .i64 st.count)
 last:w.cell? ⟨k0,2,none⟩=some (.int .i64 st.last)
 frozen:∀j,w.frozen? ⟨k0,j,none⟩=false
theorem qX {w w1:Wz}{k0:Nat}(h:w.grownBy w1 (some k0))(o:Nat)(v:Wq):w.grownBy (w1.setCell ⟨k0,o,none⟩ v) (some k0):=
 ⟨h.os,h.tape,h.output,by have:=h.size;simp [World.setCell];omega,fun k hk hr=>(bS _ _ _ _ (fun e=>hr (by rw [e]))).trans (h.block k hk hr)⟩
theorem qY {w w1:Wz}{r:Option Nat}(h:w.grownBy w1 r){b:Nat}(hb:w.heap.size<=b)(o:Nat)(v:Wq):w.grownBy (w1.setCell ⟨b,o,none⟩ v) r:=
 ⟨h.os,h.tape,h.output,by have:=h.size;simp [World.setCell];omega,fun k hk hr=>(bS _ _ _ _ (by show k≠b;omega)).trans (h.block k hk hr)⟩
theorem aw.lt {A:Nat->Prop}{w:Wz}{k0:Nat}{st:St}(S:aw A w k0 st):k0<w.heap.size:=bC w _ S.count
theorem FK {A:Nat->Prop}{w w':Wz}{k0:Nat}(hg:w.grownBy w' (some k0))(ha:∀b,A b->b≠k0):∀b,A b->b<w.heap.size->A b/\w'.heap[b]?=w.heap[b]?:=
 fun b h1 h2=>⟨h1,hg.block b h2 (by intro e;cases e;exact ha k0 h1 rfl)⟩
theorem aw.on {A:Nat->Prop}{w w':Wz}{k0:Nat}{st:St}(S:aw A w k0 st)(hb:Below w.heap.size w w'):aw A w' k0 st:=by
 obtain ⟨p,c0,a⟩:=S.tree;exact ⟨S.avoid,⟨p,aj hb c0,a.on hb⟩,aj hb S.count,aj hb S.last,fun j=>(hb.frozen (p:=⟨k0,j,none⟩) S.lt).trans (S.frozen j)⟩
theorem aw.grow {A:Nat->Prop}{w:Wz}{k0:Nat}{st:St}(S:aw A w k0 st):aw (Grow A w) w k0 st:=by
 obtain ⟨p,c0,a⟩:=S.tree;refine ⟨?_,⟨p,c0,ai.keep (fun b h1 h2=>⟨Or.inl ⟨h1,h2⟩,rfl⟩) _ _ _ a⟩,S.count,S.last,S.frozen⟩;rintro b (⟨h,_⟩|h)
 .exact S.avoid b h
 .have:=S.lt;omega
def dO:Ver:=⟨0,⟨#[]⟩,false⟩
theorem kx (key:ByteArray)(w:Wz)(h:key.size<=maxLen):Calls Yq.prog 59 #[.string key] w fun e w'=>e=.returned (.bool (aX key))/\w=w':=by
 unfold maxLen at h;by_cases h1:1<=key.size
 .by_cases h2:key.size<=40
  .have e:aX key=true:=by simp [aX,h1,h2]
   go_enter (Yq.nq func59),ntmps59;go_wp2;go_ret;exact ⟨by simp [e]<;>omega,rfl⟩
  .have e:aX key=false:=by simp [aX,h2]
   go_enter (Yq.nq func59),ntmps59;go_wp2;go_ret;exact ⟨by simp [e]<;>omega,rfl⟩
 .go_enter (Yq.nq func59),ntmps59;go_wp2;go_ret;exact ⟨by simp [aX]<;>omega,rfl⟩
def jo (st:St):Bool:=decide (200<=st.count\/st.last=9223372036854775807)
theorem pI (k0:Nat)(st:St)(w:Wz)(hc:w.cell? ⟨k0,1,none⟩=some (.int .i64 st.count))(hl:w.cell? ⟨k0,2,none⟩=some (.int .i64 st.last)):Calls Yq.prog 60 #[.pointer (some ⟨k0,0,none⟩)] w fun e w'=>e=.returned (.bool (jo st))/\w=w':=by
 by_cases hf:200<=st.count
 .have e:jo st=true:=by simp [jo,hf]
  have hd:decide (200<=st.count)=true:=by simp [hf]
  rw [e];go_enter (Yq.nq func60),ntmps60;go_wp2;go_ret;exact ⟨rfl,rfl⟩
 .have hd:decide (200<=st.count)=false:=by simp [hf]
  have e:jo st=(st.last==9223372036854775807):=by rw [jo,Bool.eq_iff_iff];simp [hf]
  rw [e];go_enter (Yq.nq func60),ntmps60;go_wp2;go_ret;exact ⟨rfl,rfl⟩
theorem gG {key:ByteArray}(h:aX key=true):key.size<41/\key.size<=1000:=by
 have:=of_decide_eq_true h;omega
def Dp (A:Nat->Prop)(st:St)(key:ByteArray)(n:Int)(w:Wz)(e:Ending)(w':Wz):Prop:=
  Below w.heap.size w w' /\
  ((aX key=false/\e=.returned (.tuple #[.slice none 0 0,.int .i64 0,.int .i64 2])) \/
   (aX key=true/\ec (st.f key.data.toList) n=none/\e=.returned (.tuple #[.slice none 0 0,.int .i64 0,.int .i64 5])) \/
   (aX key=true/\∃ (r:Nat) (ha:Option Ww) (hc:Nat),ec (st.f key.data.toList) n=some r/\r<(st.f key.data.toList).length/\aU A w' (.slice ha (st.f key.data.toList).length hc) (st.f key.data.toList) /\
      e=.returned (.tuple #[.slice ha (st.f key.data.toList).length hc,.int .i64 r,.int .i64 0])))
theorem tw (A:Nat->Prop)(k0:Nat)(st:St)(s:Nat)(key:ByteArray)(n:Int)(w:Wz)(hk:key.size<=maxLen)(S:aw A w k0 st)(h:Inv st s)(hs:s<=2199023255340):
  Calls Yq.prog 65 #[.pointer (some ⟨k0,0,none⟩),.string key,.int .i64 n] w (Dp A st key n w):=by
 obtain ⟨p,c0,d⟩:=S.tree;have HIK:=kx key w hk;cases a:aX key with
 |false=>
  rw [a] at HIK;have HK:Hid (aX key=false):=a;clear a;go_enter (Yq.nq func65),ntmps65;go_wp2_with (go_at_call 59;refine HIK.mono ?_;rintro e w' ⟨rfl,rfl⟩)
  go_ret3
  exact ⟨bR _ _,Or.inl ⟨HK.out,rfl⟩⟩
 |true=>
  rw [a] at HIK;have HK:Hid (aX key=true):=a;have hsz:=gG a;clear a;have HG:=nf A 41 p st.f key w hsz.1 hk d;have hle:=h.len key.data.toList;have hso:=h.sorted key.data.toList;clear d;go_enter (Yq.nq func65),ntmps65;go_wp2_with (go_at_call 59;refine HIK.mono ?_;rintro e w' ⟨rfl,rfl⟩)
  refine HG.mono ?_;rintro e w1 ⟨hv,rfl,c,hb1⟩;have HF:=Bg A hv (st.f key.data.toList) n w1 c hso (by omega);obtain ⟨ha,hc,rfl,-⟩:=id c;have HH:Hid (aU A w1 (.slice ha (st.f key.data.toList).length hc) (st.f key.data.toList)/\∀i j,i<j->j<(st.f key.data.toList).length->nums (st.f key.data.toList) i<nums (st.f key.data.toList) j):=⟨c,hso⟩;clear c hso HG;go_wp2_with fail
  refine HF.mono ?_;rintro e w2 ⟨r,hp,rfl,hb2⟩;have hpl:=Do hp HH.out.2;have HB:Hid (Below w.heap.size w w2):=hb1.trans (hb2.mono hb1.size);cases b:za (st.f key.data.toList) n r with
  |true=>
   rw [b] at hpl;have HP:Hid (ec (st.f key.data.toList) n=some r/\r<(st.f key.data.toList).length):=⟨by simpa using hpl,(of_decide_eq_true b).1⟩;clear hpl hp HF b;go_wp2
   go_ret3
   exact ⟨HB.out,Or.inr (Or.inr ⟨HK.out,r,ha,hc,HP.out.1,HP.out.2,HH.out.1.on hb2,rfl⟩)⟩
  |false=>
   rw [b] at hpl;have HP:Hid (ec (st.f key.data.toList) n=none):=show ec (st.f key.data.toList) n=none by simpa using hpl
   clear hpl hp HF b;go_wp2
   go_ret3
   exact ⟨HB.out,Or.inr (Or.inl ⟨HK.out,HP.out,rfl⟩)⟩
theorem pJ (b:Int)(c:ByteArray)(a:Bool)(w:Wz):(Instr.field 81 (.agg #[.int .i64 b,.string c,.bool a]) 2).run Yq.prog w=.ok (.bool a) w:=by kernel_rfl
def ky (st:St)(key:ByteArray):Ver×Int:=
 if aX key=false then (dO,2)
 else match (st.f key.data.toList).getLast? with
  |none=>(dO,5)
  |some v=>if v.mark then (dO,5) else (v,0)
theorem Dq (A:Nat->Prop)(k0:Nat)(st:St)(s:Nat)(key:ByteArray)(w:Wz)(hk:key.size<=maxLen)(S:aw A w k0 st)(t:Inv st s)(hs:s<=2199023255340):
  Calls Yq.prog 36 #[.pointer (some ⟨k0,0,none⟩),.string key] w fun e w'=>e=.returned (.tuple #[bO (ky st key).1,.int .i64 (ky st key).2])/\Below w.heap.size w w':=by
 have B0:Below w.heap.size w (w.alloc (.cells #[.int .i64 0,.string ⟨#[]⟩,.bool false] 81)):=(bR _ w).alloc (lR _) _;have S1:=S.on B0;obtain ⟨p,c0,m⟩:=S1.tree;have HIK:=kx key (w.alloc (.cells #[.int .i64 0,.string ⟨#[]⟩,.bool false] 81)) hk;have a0:(w.alloc (.cells #[.int .i64 0,.string ⟨#[]⟩,.bool false] 81)).cell? ⟨w.heap.size,0,none⟩=some (.int .i64 0):=by rw [cA (w:=w) _ _ w.heap.size 0 rfl];rfl
 have n:(w.alloc (.cells #[.int .i64 0,.string ⟨#[]⟩,.bool false] 81)).cell? ⟨w.heap.size,1,none⟩=some (.string ⟨#[]⟩):=by rw [cA (w:=w) _ _ w.heap.size 1 rfl];rfl
 have a2:(w.alloc (.cells #[.int .i64 0,.string ⟨#[]⟩,.bool false] 81)).cell? ⟨w.heap.size,2,none⟩=some (.bool false):=by rw [cA (w:=w) _ _ w.heap.size 2 rfl];rfl
 have i:∀j,(w.alloc (.cells #[.int .i64 0,.string ⟨#[]⟩,.bool false] 81)).frozen? ⟨w.heap.size,j,none⟩=false:=fun j=>World.frozen?_alloc_at (w:=w) _ _ w.heap.size j rfl
 have d:Hid (Below w.heap.size w (w.alloc (.cells #[.int .i64 0,.string ⟨#[]⟩,.bool false] 81))):=B0;have c:w.heap.size<(w.alloc (.cells #[.int .i64 0,.string ⟨#[]⟩,.bool false] 81)).heap.size:=by simp
 clear B0 S S1;cases a:aX key with
 |false=>
  rw [a] at HIK;have HR:Hid (ky st key=(dO,2)):=show ky st key=(dO,2) by simp [ky,a]
  clear a;go_enter (Yq.nq func36),ntmps36;go_wp2_with (go_at_call 59;refine HIK.mono ?_;rintro e w' ⟨rfl,rfl⟩)
  refine bodyPost_ret (v:=.tuple #[bO (ky st key).1,.int .i64 (ky st key).2]) (by rw [HR.out];simp [results,results36,go_sem,bO,dO]) rfl ⟨rfl,?_⟩;exact d.out
 |true=>
  rw [a] at HIK;have hsz:=gG a;have HK:Hid (aX key=true):=a;clear a;have HG:=nf A 41 p st.f key _ hsz.1 hk m;have hle:=t.len key.data.toList;clear m;go_enter (Yq.nq func36),ntmps36;go_wp2_with (go_at_call 59;refine HIK.mono ?_;rintro e w' ⟨rfl,rfl⟩)
  refine HG.mono ?_;generalize w.alloc (.cells #[.int .i64 0,.string ⟨#[]⟩,.bool false] 81)=W0 at *;rintro e w1 ⟨hv,rfl,k,hb1⟩;have d0:=aj hb1 a0;have d1:=aj hb1 n;have d2:=aj hb1 a2;have g0:=(hb1.frozen (p:=⟨w.heap.size,0,none⟩) c).trans (i 0);have g1:=(hb1.frozen (p:=⟨w.heap.size,1,none⟩) c).trans (i 1);have g2:=(hb1.frozen (p:=⟨w.heap.size,2,none⟩) c).trans (i 2);have hb:Below w.heap.size w w1:=d.out.trans (hb1.mono d.out.size);have b:w.heap.size<w1.heap.size:=lL c hb1.size;have HB:Hid (Below w.heap.size w w1):=hb;clear hb hb1 a0 n a2 i c d HIK HG c0;by_cases hnil:st.f key.data.toList=[]
  .have HR:Hid (ky st key=(dO,5)):=show ky st key=(dO,5) by simp [ky,HK.out,hnil]
   have he:(st.f key.data.toList).isEmpty=true:=by rw [hnil];rfl
   clear k hnil;go_wp2;refine bodyPost_ret (v:=.tuple #[bO (ky st key).1,.int .i64 (ky st key).2]) (by rw [HR.out];simp [results,results36,go_sem,bO,dO,d0,d1,d2]) rfl ⟨rfl,?_⟩;exact ((HB.out.setCell (lR _) _).setCell (lR _) _).setCell (lR _) _
  .have HN:Hid (∀wq:Wz,Below w1.heap.size w1 wq->Calls Yq.prog 64 #[hv] wq fun e w'=>e=.returned (bO ((st.f key.data.toList).getLast hnil))/\Below wq.heap.size wq w'):=fun wq hq=>
    lG A hv _ wq (k.on hq) hnil (by omega)
   have he:(st.f key.data.toList).isEmpty=false:=by simp [hnil]
   obtain ⟨v,h⟩:∃v,v=(st.f key.data.toList).getLast hnil:=⟨_,rfl⟩;have hgl:(st.f key.data.toList).getLast?=some v:=by rw [h,List.getLast?_eq_some_getLast hnil]
   have HR:Hid (ky st key=if v.mark then (dO,5) else (v,0)):=show ky st key=_ by simp [ky,HK.out,hgl]
   rw [<-h] at HN;obtain ⟨o,q,r⟩:=v;obtain ⟨ha,hc,rfl,-⟩:=k;clear hnil h hgl;have hfm:=pJ o q;cases r with
   |true=>
    go_wp2_with fail
    refine (HN.out w1 (bR _ _)).mono ?_;rintro e w2 ⟨rfl,hb2⟩;have e0:=aj hb2 d0;have e1:=aj hb2 d1;have e2:=aj hb2 d2;have f0:=(hb2.frozen (p:=⟨w.heap.size,0,none⟩) b).trans g0;have f1:=(hb2.frozen (p:=⟨w.heap.size,1,none⟩) b).trans g1;have f2:=(hb2.frozen (p:=⟨w.heap.size,2,none⟩) b).trans g2;simp only [bO];go_wp2;refine bodyPost_ret (v:=.tuple #[bO (ky st key).1,.int .i64 (ky st key).2]) (by rw [HR.out];simp [results,results36,go_sem,bO,dO,e0,e1,e2]) rfl ⟨rfl,?_⟩;exact (((HB.out.trans (hb2.mono HB.out.size)).setCell (lR _) _).setCell (lR _) _).setCell (lR _) _
   |false=>
    go_wp2_with fail
    refine (HN.out w1 (bR _ _)).mono ?_;rintro e w2 ⟨rfl,hb2⟩;simp only [bO];go_wp2_with fail
    refine (HN.out w2 hb2).mono ?_;rintro e w3 ⟨rfl,hb3⟩;have hb4:Below w1.heap.size w1 w3:=hb2.trans (hb3.mono hb2.size);have e0:=aj hb4 d0;have e1:=aj hb4 d1;have e2:=aj hb4 d2;have f0:=(hb4.frozen (p:=⟨w.heap.size,0,none⟩) b).trans g0;have f1:=(hb4.frozen (p:=⟨w.heap.size,1,none⟩) b).trans g1;have f2:=(hb4.frozen (p:=⟨w.heap.size,2,none⟩) b).trans g2;have l:Hid (Below w1.heap.size w1 w3):=hb4;clear hb2 hb3 hb4 d0 d1 d2 g0 g1 g2;simp only [bO];go_wp2;refine bodyPost_ret (v:=.tuple #[bO (ky st key).1,.int .i64 (ky st key).2]) (by rw [HR.out];simp [results,results36,go_sem,bO,e0,e1,e2]) rfl ⟨rfl,?_⟩;exact (((HB.out.trans (l.out.mono HB.out.size)).setCell (lR _) _).setCell (lR _) _).setCell (lR _) _
theorem cs {w:Wz}{a:Ww}{v u:Wq}(h:w.cell? a=some u):(w.setCell a v).cell? a=some v:=by first|exact World.cell?_setCell_same w a v h|exact World.cell?_setCell_same _ _ _ h
theorem co {w:Wz}{a b:Ww}{v u:Wq}(hne:a≠b)(h:w.cell? b=some u):(w.setCell a v).cell? b=some u:=(cO w a b v hne).trans h
theorem fs {w:Wz}{a b:Ww}{v:Wq}(h:w.frozen? b=false):(w.setCell a v).frozen? b=false:=by simpa using h
structure bI (w:Wz)(b:Nat)(x y z:Wq):Prop where
 c0:w.cell? ⟨b,0,none⟩=some x
 c1:w.cell? ⟨b,1,none⟩=some y
 c2:w.cell? ⟨b,2,none⟩=some z
 fz:∀j,w.frozen? ⟨b,j,none⟩=false
theorem bI.on {w w':Wz}{b:Nat}{x y z:Wq}(h:bI w b x y z)(hb:Below w.heap.size w w'):bI w' b x y z:=
 ⟨aj hb h.c0,aj hb h.c1,aj hb h.c2,fun j=>(hb.frozen (p:=⟨b,j,none⟩) (show b<w.heap.size from bC w ⟨b,0,none⟩ h.c0)).trans (h.fz j)⟩
theorem bI.set0 {w:Wz}{b:Nat}{x y z:Wq}(h:bI w b x y z)(v:Wq):bI (w.setCell ⟨b,0,none⟩ v) b v y z:=
 ⟨cs h.c0,co (by simp) h.c1,co (by simp) h.c2,fun j=>fs (h.fz j)⟩
theorem bI.set1 {w:Wz}{b:Nat}{x y z:Wq}(h:bI w b x y z)(v:Wq):bI (w.setCell ⟨b,1,none⟩ v) b x v z:=
 ⟨co (by simp) h.c0,cs h.c1,co (by simp) h.c2,fun j=>fs (h.fz j)⟩
theorem bI.set2 {w:Wz}{b:Nat}{x y z:Wq}(h:bI w b x y z)(v:Wq):bI (w.setCell ⟨b,2,none⟩ v) b x y v:=
 ⟨co (by simp) h.c0,co (by simp) h.c1,cs h.c2,fun j=>fs (h.fz j)⟩
theorem bI.far {w:Wz}{b:Nat}{x y z:Wq}(h:bI w b x y z)(b' o:Nat)(v:Wq)(hne:b'≠b):bI (w.setCell ⟨b',o,none⟩ v) b x y z:=
 ⟨co (fun e=>hne (congrArg Addr.block e)) h.c0,co (fun e=>hne (congrArg Addr.block e)) h.c1,co (fun e=>hne (congrArg Addr.block e)) h.c2,fun j=>fs (h.fz j)⟩
theorem lH (w:Wz)(x y z:Wq)(T:Wk):bI (w.alloc (.cells #[x,y,z] T)) w.heap.size x y z:=
 ⟨by rw [cA (w:=w) _ _ w.heap.size 0 rfl];rfl,by rw [cA (w:=w) _ _ w.heap.size 1 rfl];rfl,by rw [cA (w:=w) _ _ w.heap.size 2 rfl];rfl,fun j=>World.frozen?_alloc_at (w:=w) _ _ w.heap.size j rfl⟩
theorem aw.cells {A:Nat->Prop}{w:Wz}{k0:Nat}{st:St}(S:aw A w k0 st):∃p,bI w k0 (.pointer p) (.int .i64 st.count) (.int .i64 st.last)/\ai A 41 w p st.f:=by
 obtain ⟨p,c0,a⟩:=S.tree;exact ⟨p,⟨c0,S.count,S.last,S.frozen⟩,a⟩
theorem dM {A:Nat->Prop}{w:Wz}{k0:Nat}{st:St}{p:Option Ww}(h:bI w k0 (.pointer p) (.int .i64 st.count) (.int .i64 st.last))(a:ai A 41 w p st.f)(ha:∀b,A b->b≠k0):aw A w k0 st:=
 ⟨ha,⟨p,h.c0,a⟩,h.c1,h.c2,h.fz⟩
structure bU (w w':Wz)(k0:Nat):Prop where
 g:w.grownBy w' (some k0)
 lt:k0<w.heap.size
 t:∀j,3<=j->w'.cell? ⟨k0,j,none⟩=w.cell? ⟨k0,j,none⟩
theorem ed {w w':Wz}{k0:Nat}(hk:k0<w.heap.size)(hb:Below w.heap.size w w'):bU w w' k0:=
 ⟨dJ hb _,hk,fun j _=>cB (w:=w) (w':=w') (a:=⟨k0,j,none⟩) (hb.block k0 hk)⟩
theorem FL {w:Wz}{k0:Nat}(hk:k0<w.heap.size):bU w w k0:=ed hk (bR _ _)
theorem qZ {a b c:Wz}{k0:Nat}(h:bU a b k0)(d:bU b c k0):bU a c k0:=⟨bN h.g d.g,h.lt,fun j e=>(d.t j e).trans (h.t j e)⟩
theorem fS {w w1 w2:Wz}{k0:Nat}(h:bU w w1 k0)(hb:Below w1.heap.size w1 w2):bU w w2 k0:=qZ h (ed (by have:=h.g.size;have:=h.lt;omega) hb)
theorem Dr {w w1:Wz}{k0:Nat}(h:bU w w1 k0)(o:Obj):bU w (w1.alloc o) k0:=fS h ((bR _ _).alloc (lR _) _)
theorem pK {w w1:Wz}{k0:Nat}(h:bU w w1 k0)(o:Nat)(v:Wq)(ho:o<3:=by decide):bU w (w1.setCell ⟨k0,o,none⟩ v) k0:=
 ⟨qX h.g _ _,h.lt,fun j a=>(cO w1 ⟨k0,o,none⟩ ⟨k0,j,none⟩ v (fun e=>by have:=congrArg Addr.off e;simp at this;omega)).trans (h.t j a)⟩
theorem tz {w w1:Wz}{k0:Nat}(h:bU w w1 k0){b:Nat}(hb:w.heap.size<=b)(o:Nat)(v:Wq):bU w (w1.setCell ⟨b,o,none⟩ v) k0:=
 ⟨qY h.g hb _ _,h.lt,fun j a=>(cO w1 ⟨b,o,none⟩ ⟨k0,j,none⟩ v (fun e=>by have h1:=congrArg Addr.block e;have h2:=h.lt;simp at h1;omega)).trans (h.t j a)⟩
theorem oj {A:Nat->Prop}{w w3 c:Wz}{k0:Nat}{p:Option Ww}{F:List UInt8->List Ver}(hw3:w.heap.size<=w3.heap.size)(ha:∀b,A b->b≠k0)(hk:k0<w.heap.size)(h:ai (Grow (fun b=>(A b/\b<w.heap.size)\/w.heap.size<=b) w3) 41 c p F)(o:Nat)(v:Wq):
  ai (Grow A w) 41 (c.setCell ⟨k0,o,none⟩ v) p F:=by
 refine ai.keep (fun b hb _=>?_) 41 p F h;rcases hb with ⟨⟨hA,hlt⟩|a,_⟩|a
 .exact ⟨Or.inl ⟨hA,hlt⟩,bS _ _ _ _ (ha b hA)⟩
 .exact ⟨Or.inr a,bS _ _ _ _ (by show b≠k0;omega)⟩
 .exact ⟨Or.inr (by omega),bS _ _ _ _ (by show b≠k0;omega)⟩
theorem gH {A:Nat->Prop}{w:Wz}{k0:Nat}(ha:∀b,A b->b≠k0)(hk:k0<w.heap.size):∀b,Grow A w b->b≠k0:=by
 rintro b (⟨h,_⟩|h)
 .exact ha b h
 .omega
theorem xh (A:Nat->Prop)(k0:Nat)(st:St)(s:Nat)(key:ByteArray)(u:Int)(a:ByteArray)(c:Bool)(w:Wz)(hk:key.size<41)(S:aw A w k0 st)(o:Inv st s)(hs:s<2199023255340)(hlx:¬st.last=9223372036854775807):
  Calls Yq.prog 61 #[.pointer (some ⟨k0,0,none⟩),.string key,.agg #[.int .i64 u,.string a,.bool c]] w fun e w'=>e=.returned (.int .i64 (st.last+1))/\aw (Grow A w) w' k0 (cW st key a c)/\bU w w' k0:=by
 obtain ⟨p,C,l⟩:=S.cells;have c0:=C.c0;have c1:=C.c1;have c2:=C.c2;have f0:=C.fz 0;have f1:=C.fz 1;have f2:=C.fz 2;have hk0:=S.lt;have l0:=o.last0;have l1:=o.lastS;have l2:=o.countL;have l3:=o.countU;have hle:=o.len key.data.toList;have hne:¬w.heap.size=k0:=by omega
 have hne':¬k0=w.heap.size:=by omega
 obtain ⟨W1,hW1⟩:∃W1,W1=((w.setCell ⟨k0,2,none⟩ (.int .i64 (st.last+1))).setCell ⟨k0,1,none⟩ (.int .i64 (st.count+1))).alloc (.cells #[.int .i64 (st.last+1),.string a,.bool c] 81):=⟨_,rfl⟩;have m:bU w ((w.setCell ⟨k0,2,none⟩ (.int .i64 (st.last+1))).setCell ⟨k0,1,none⟩ (.int .i64 (st.count+1))) k0:=pK (pK (FL hk0) _ _) _ _;have n:((w.setCell ⟨k0,2,none⟩ (.int .i64 (st.last+1))).setCell ⟨k0,1,none⟩ (.int .i64 (st.count+1))).heap.size=w.heap.size:=by simp [World.setCell]
 have hg1:bU w W1 k0:=by rw [hW1];exact Dr m _
 have C1:bI W1 k0 (.pointer p) (.int .i64 (st.count+1)) (.int .i64 (st.last+1)):=by
  rw [hW1];exact ((C.set2 _).set1 _).on ((bR _ _).alloc (lR _) _)
 have X1:bI W1 w.heap.size (.int .i64 (st.last+1)) (.string a) (.bool c):=by
  rw [hW1,<-n];exact lH _ _ _ _ _
 have r:ai A 41 W1 p st.f:=ai.keep (FK hg1.g S.avoid) 41 p st.f l;have HG:=nf A 41 p st.f key W1 hk (by simp only [maxLen];omega) r;have HS:Hid (aw A w k0 st/\ai A 41 w p st.f/\bU w W1 k0/\bI W1 k0 (.pointer p) (.int .i64 (st.count+1)) (.int .i64 (st.last+1))/\bI W1 w.heap.size (.int .i64 (st.last+1)) (.string a) (.bool c)):=⟨S,l,hg1,C1,X1⟩;have t:Hid (W1=((w.setCell ⟨k0,2,none⟩ (.int .i64 (st.last+1))).setCell ⟨k0,1,none⟩ (.int .i64 (st.count+1))).alloc (.cells #[.int .i64 (st.last+1),.string a,.bool c] 81)):=hW1;clear l S C m n hg1 C1 X1 r hW1;go_enter (Yq.nq func61),ntmps61;go_wp2_with fail
 rw [<-t.out];refine HG.mono ?_;rintro e w2 ⟨hv,rfl,v,hb2⟩;obtain ⟨ha,hc,rfl,-⟩:=id v;obtain ⟨S,l,hg1,C1,X1⟩:=HS.out;have C2:=C1.on hb2;have X2:=X1.on hb2;have j:bU w w2 k0:=fS hg1 hb2;have a0:=C2.c0;have q0:=X2.c0;have q1:=X2.c1;have q2:=X2.c2;have HW:Hid (Calls Yq.prog 89 #[.slice ha (st.f key.data.toList).length hc,.agg #[.int .i64 (st.last+1),.string a,.bool c]] w2.drew fun e w'=>∃h d i,e=.returned (.slice h d i)/\aU (fun b=>w2.heap.size<=b) w' (.slice h d i) (st.f key.data.toList++[⟨st.last+1,a,c⟩])/\Below w2.heap.size w2 w'):=by
  refine (Bh A _ _ (st.last+1) a c w2.drew (bG.keep v (fun b h1 h2=>⟨h1,rfl⟩)) (by omega)).mono ?_;rintro e w' ⟨h,d,i,h1,h2,h3⟩;exact ⟨h,d,i,h1,h2,(bR _ w2).drew.trans h3⟩
 have HT:Hid (∀ (w3:Wz) (h:Option Ww) (d i:Nat),Below w2.heap.size w2 w3->aU (fun b=>w2.heap.size<=b) w3 (.slice h d i) (st.f key.data.toList++[⟨st.last+1,a,c⟩]) ->
   Calls Yq.prog 67 #[.agg #[.pointer p],.string key,.slice h d i] w3 fun e w'=>∃q,e=.returned (.agg #[.pointer q])/\Below w3.heap.size w3 w'/\ai (Grow (fun b=>(A b/\b<w.heap.size)\/w.heap.size<=b) w3) 41 w' q (upd st.f key.data.toList (st.f key.data.toList++[⟨st.last+1,a,c⟩]))):=fun w3 h d i hb3 k=>by
  refine tq _ 41 p st.f key _ _ w3 (ai.keep (fun b h1 h2=>⟨Or.inl ⟨h1,h2⟩,(fS j hb3).g.block b h2 (by intro e;cases e;exact S.avoid k0 h1 rfl)⟩) 41 p st.f l) hk (by omega) (bG.keep k (fun b h1 h2=>⟨Or.inr ?_,rfl⟩)) (by simp);have:=j.g.size;omega
 have HC:Hid (bI w2 k0 (.pointer p) (.int .i64 (st.count+1)) (.int .i64 (st.last+1))/\bI w2 w.heap.size (.int .i64 (st.last+1)) (.string a) (.bool c)/\bU w w2 k0):=⟨C2,X2,j⟩;clear S l hg1 C1 X1 C2 X2 j v hb2 HG;go_wp2_with fail
 go_region_with (first
  |(go_at_call 89;refine HW.out.mono ?_;rintro e w3 ⟨h,d,i,rfl,k,hb3⟩;have b0:=aj hb3 a0)
  |(go_at_call 67;refine (HT.out _ h d i hb3 k).mono ?_;rintro e w4 ⟨q,rfl,hb4,x⟩;have d0:=aj hb4 b0;have D4:=(HC.out.2.1.on hb3).on hb4;have E4:=(HC.out.1.on hb3).on hb4;have r0:=D4.c0;have r1:=E4.c0;have r2:=E4.fz 0))
 all_goals
  go_wp2;go_ret;refine ⟨rfl,?_,?_⟩
  .refine dM (p:=q) ?_ ?_ (gH HS.out.1.avoid hk0)
   .exact E4.set0 _
   .exact oj (by have:=HC.out.2.2.g.size;have:=hb3.size;omega) HS.out.1.avoid hk0 x _ _
  .exact pK (fS (fS HC.out.2.2 hb3) hb4) _ _
end
section
open Go.Conc Go.ConcX Go.ConcX.Gen Go.RowKit
structure ItD where
 kind:Int
 text:ByteArray
 ver:Int
def itVal (i:ItD):Wq:=.agg #[.int .i64 i.kind,.string i.text,.int .i64 i.ver]
def ax (l:List ItD):List Wq:=l.flatMap fun i=>[.int .i64 i.kind,.string i.text,.int .i64 i.ver]
theorem ol (l:List ItD):(ax l).length=l.length * 3:=by
 induction l with
 |nil=>rfl
 |cons i l ih=>simp [ax] at ih ⊢;omega
theorem mB (l:List ItD)(i:ItD):ax (l++[i])=ax l++[.int .i64 i.kind,.string i.text,.int .i64 i.ver]:=by simp [ax]
theorem Yq.infoItem:(Yq.prog.info? 41).map (fun i=>(i.zero,i.size,i.bytes))=some (some (.agg #[.int .i64 0,.string ⟨#[]⟩,.int .i64 0]),3,32):=by kernel_rfl
def cR (n:Nat)(l:Lst)(a:Int)(c:Nat)(b:Int)(u:Nat->Wq):Array Wq:=
 #[lV l,.int .i64 a,ptr n,Wy,ptr (n+1),ptr (n+2),.int .i64 (IntKind.i64.wrap (a * l.size)),.int .i64 b,u 8,.int .i64 a,.pointer (some ⟨n,6,none⟩),.int .i64 l.size,.int .i64 (IntKind.i64.wrap (a * l.size)),.pointer (some ⟨n,2,none⟩),qV l.vs l.p l.d l.af,.pointer (some ⟨n,1,none⟩),sV l.root,.chan (some c),u 18,u 19,u 20,u 21,u 22,u 23,u 24,u 25,u 26,u 27,u 28,u 29,u 30,u 31,u 32,u 33,u 34,u 35,u 36,u 37,u 38,u 39,Wy,Wy,Wy,Wy,Wy,Wy,Wy,Wy,Wy]
theorem jy {P:Wx}{b:Wv}{a:Act}{k:List Item}{cs:List Wv}{w w':Wz}{e:Bool}{ops:Array Oper}{i:Nat}{rest:List Nat}{o:Oper}{cases:Array CommCase}{c:Bool}{d:CommShape}(ho:ops[i]?=some o)(hw:Region.wanted o (yielded ops a.tmps)=true)
  (hr:(execOp a.eval o).run P w=.ok (.comm cases c d) w'):
  ∃es,stepG P e (G (b.at a (.inRegion ops (i::rest)::k)) cs) w=.comm (G (b.at a (.inRegion ops (i::rest)::k)) cs) cases c d w' es:=by
 rw [stepG_oper ho hw];simp only [stepG.apply,G,Frame.at,GStep.after,if_true];have h1:((execOp a.eval o).runT P w #[]).1=.ok (.comm cases c d) w':=by rw [Sem.runT_eq];exact hr
 generalize (execOp a.eval o).runT P w #[]=x at h1;obtain ⟨x1,x2⟩:=x;subst h1;exact ⟨_,rfl⟩
theorem FM {a:Act}{w:Wz}{c k s q:Nat}{v:Wq}{rest:List Wq}{Q:Exit->Act->Wz->Prop}(h17:a.eval (.tmp 17)=.chan (some c))(hsz:a.tmps.size=49)(hrow:w.heap[c]?=some (.chan k (v::rest).toArray true s q false))
  (h:Q .normal ((a.put (some 18) (.tuple #[v,.bool true])).put (some 19) (.bool true)) (w.setChan c k rest.toArray true s (q+1) false)):(Code.region 5 eR false).wp Yq.prog Q a w:=by
 intro b kk cs;refine ⟨.normal,_,_,h,?_⟩;refine Steps.head step_region ?_;have hr:List.range eR.size=[0,1]:=rfl;rw [hr];obtain ⟨es,hcomm⟩:∃es,stepG Yq.prog true (G (b.at a (.inRegion eR [0,1]::kk)) cs) w=.comm (G (b.at a (.inRegion eR [0,1]::kk)) cs) #[rcase c (.agg #[.int .i64 0,.string ⟨#[]⟩,.int .i64 0])] true (.recv true) w es:=by
  refine jy (o := { dst := some 18, op := .recv 165 (.tmp 17) true, type := 0, pos := "listing.go:108", after := #[], guard := none }) rfl rfl ?_
  have e : execOp a.eval { dst := some 18, op := .recv 165 (.tmp 17) true, type := 0, pos := "listing.go:108", after := #[], guard := none } = (do
   let .chan _ elem ← underlying 165 | stuck "receive: channel type expected"
   pure (.comm #[{chan:=a.eval (.tmp 17),send:=none,zero:=<-zeroValue elem}] true (.recv true))):=rfl
  rw [e,h17];simp [go_sem,rcase]
 have st1:=step_lone_recv_buf true hcomm hrow (by simp);have e1:(v::rest).toArray.extract 1 (v::rest).toArray.size=rest.toArray:=by simp
 have e2:(v::rest).toArray.getD 0 Wy=v:=rfl;rw [e1,e2,Frame.finish_at] at st1;refine Steps.head st1 ?_;have hput:(a.put ((eR[0]?).bind (·.dst)) (got true v true))=a.put (some 18) (.tuple #[v,.bool true]):=rfl;rw [hput];have h18:(a.put (some 18) (.tuple #[v,.bool true])).eval (.tmp 18)=.tuple #[v,.bool true]:=by
  simp [Act.put,Act.eval,hsz]
 have st2 := vk (P := Yq.prog) (ops := eR) (a := a.put (some 18) (.tuple #[v, .bool true])) (i := 1) (rest := []) (b := b) (k := kk) (cs := cs) (w := w.setChan c k rest.toArray true s (q + 1) false) (w' := w.setChan c k rest.toArray true s (q + 1) false) (v := .bool true) (o := { dst := some 19, op := .extract (.tmp 18) 1, type := 4, pos := "listing.go:108", after := #[{ on := 0, ground := .data }], guard := none }) rfl rfl (by
  have e : execOp (a.put (some 18) (.tuple #[v, .bool true])).eval { dst := some 19, op := .extract (.tmp 18) 1, type := 4, pos := "listing.go:108", after := #[{ on := 0, ground := .data }], guard := none } = (do let v ← Instr.extract ((a.put (some 18) (.tuple #[v, .bool true])).eval (.tmp 18)) 1; pure (.value v)) := rfl
  rw [e,h18];rfl)
 exact Steps.head st2 (.one step_region_end)
structure PgI (w0 w:Wz)(n c:Nat)(items:List ItD)(rest:List Wq):Prop where
 os:w.os=w0.os
 size:w0.heap.size<=w.heap.size
 block:∀b,b<w0.heap.size->b≠c->b≠n+2->w.heap[b]?=w0.heap[b]?
 ch:∃k s q,w.heap[c]?=some (.chan k rest.toArray true s q false)
 row:∃sv,w.cell? ⟨n+2,0,none⟩=some sv/\w.ownsRow w0.heap.size 41 3 sv items.length (ax items)
 tok:w.cell? ⟨n+2,1,none⟩=some (.string ⟨#[]⟩)
 fz:∀j,w.frozen? ⟨n+2,j,none⟩=false
def jz (l:Lst)(a:Int)(k:Int):Bool:=decide (IntKind.i64.wrap (IntKind.i64.wrap (a * l.size)-l.size)<k)&&decide (k<=IntKind.i64.wrap (a * l.size))
theorem PgI.setChan {w0 w:Wz}{n c k s q:Nat}{e:List ItD}{v:Wq}{rest:List Wq}(I:PgI w0 w n c e (v::rest))(hc:c<w0.heap.size)(hn:n+2<c):PgI w0 (w.setChan c k rest.toArray true s q false) n c e rest:=by
 have i:c<w.heap.size:=lL hc I.size;have d:∀b,b≠c->(w.setChan c k rest.toArray true s q false).heap[b]?=w.heap[b]?:=fun b hb=>aG _ _ _ _ _ _ _ _ hb
 have hcell:∀b j,b≠c->(w.setChan c k rest.toArray true s q false).cell? ⟨b,j,none⟩=w.cell? ⟨b,j,none⟩:=fun b j hb=>cB (a:=⟨b,j,none⟩) (d b hb)
 refine ⟨I.os,by rw [size_setChan];exact I.size,fun b h1 h2 h3=>(d b h2).trans (I.block b h1 h2 h3),⟨_,_,_,heap_setChan _ _ _ _ _ _ _ _ i⟩,?_,(hcell _ _ (by omega)).trans I.tok,fun j=>(fB (a:=⟨n+2,j,none⟩) (d _ (by simp;omega))).trans (I.fz j)⟩;obtain ⟨sv,h1,h2⟩:=I.row;refine ⟨sv,(hcell _ _ (by omega)).trans h1,h2.1,?_⟩;rcases h2.2 with h|⟨g,cap,f,rfl,hb,hg,rest⟩
 .exact .inl h
 .exact .inr ⟨g,cap,f,rfl,hb,(d g (by omega)).trans hg,rest⟩
theorem PgI.alloc {w0 w:Wz}{n c:Nat}{e:List ItD}{rest:List Wq}(I:PgI w0 w n c e rest)(hc:c<w0.heap.size)(hn:n+2<c)(o:Obj):PgI w0 (w.alloc o) n c e rest:=by
 have d:∀b,b<w0.heap.size->(w.alloc o).heap[b]?=w.heap[b]?:=fun b hb=>bA w o b (lL hb I.size)
 obtain ⟨k,s,q,h⟩:=I.ch;obtain ⟨sv,h1,h2⟩:=I.row;refine ⟨I.os,lT I.size (by simp),fun b h1 h2 h3=>(d b h1).trans (I.block b h1 h2 h3),⟨k,s,q,(d c hc).trans h⟩,⟨sv,(cB (a:=⟨n+2,0,none⟩) (d _ (by simp;omega))).trans h1,h2.alloc o⟩,(cB (a:=⟨n+2,1,none⟩) (d _ (by simp;omega))).trans I.tok,fun j=>(fB (a:=⟨n+2,j,none⟩) (d _ (by simp;omega))).trans (I.fz j)⟩
theorem PgI.app {w0 w w3:Wz}{n c:Nat}{d:List ItD}{rest:List Wq}{i:ItD}{sv v':Wq}(I:PgI w0 w n c d rest)(hc:c<w0.heap.size)(hn:n+2<c)(hg:w.grownBy w3 sv.ownBlock)(hb:∀k,sv.ownBlock=some k->w0.heap.size<=k)(ho:w3.ownsRow w0.heap.size 41 3 v' (d.length+1) (ax d++[.int .i64 i.kind,.string i.text,.int .i64 i.ver])):PgI w0 (w3.setCell ⟨n+2,0,none⟩ v') n c (d++[i]) rest:=by
 have f:∀b,b<w0.heap.size->w3.heap[b]?=w.heap[b]?:=fun b h=>hg.block b (lL h I.size) (fun e=>by have:=hb b e.symm;omega)
 have l:∀b,b≠n+2->(w3.setCell ⟨n+2,0,none⟩ v').heap[b]?=w3.heap[b]?:=fun b h=>bS _ _ _ _ h
 obtain ⟨k,s,q,h⟩:=I.ch;obtain ⟨sv0,h1,h2⟩:=I.row;have hc0:w3.cell? ⟨n+2,0,none⟩=some sv0:=(cB (a:=⟨n+2,0,none⟩) (f _ (by simp;omega))).trans h1;have hsz:(w3.setCell ⟨n+2,0,none⟩ v').heap.size=w3.heap.size:=by simp
 refine ⟨((bR 0 w3).setCell (p:=⟨n+2,0,none⟩) (Nat.zero_le _) v').os.trans (hg.os.trans I.os),by rw [hsz];exact lT I.size hg.size,fun b h1 h2 h3=>(l b h3).trans ((f b h1).trans (I.block b h1 h2 h3)),⟨k,s,q,(l c (by omega)).trans ((f c hc).trans h)⟩,⟨v',cs hc0,?_⟩,co (by simp) ((cB (a:=⟨n+2,1,none⟩) (f _ (by simp;omega))).trans I.tok),fun j=>fs ((fB (a:=⟨n+2,j,none⟩) (f _ (by simp;omega))).trans (I.fz j))⟩;rw [mB,lP,lS];refine ⟨ho.1,?_⟩;rcases ho.2 with h|⟨g,cap,m,rfl,hb,hg,rest⟩
 .exact .inl h
 .exact .inr ⟨g,cap,m,rfl,hb,(l g (by omega)).trans hg,rest⟩
theorem zd (w:Wz)(x0 x1 x2:Wq)(T:Wk):∀j u,[x0,x1,x2][j]?=some u->(w.alloc (.cells #[x0,x1,x2] T)).cell? ((⟨w.heap.size,0,none⟩:Ww).add j)=some u:=by
 intro j u a;rw [Addr.add_lit,cA (w:=w) _ _ w.heap.size _ rfl];simpa using a
theorem lI (n:Int):IntKind.i64.wrap n=wrap64 n:=by unfold wrap64;exact IntKind.wrap_i64 n
def FN (l:Lst)(f:Int)(n c d:Nat)(i:ItD)(rest:List Wq)(b:List ItD)(w0:Wz)(e:Exit)(a:Act)(w':Wz):Prop:=
 e=.normal/\a=⟨cR n l f c ((d:Int)+1) (fun i=>a.tmps.getD i Wy),[]⟩/\PgI w0 w' n c (if jz l f ((d:Int)+1) then b++[i] else b) rest
theorem tA (l:Lst)(J:Int)(n c:Nat)(x:Nat)(i:ItD)(rest:List Wq)(b:List ItD)(u:Nat->Wq)(w0 w:Wz)(hn:n+2<c)(hc:c<w0.heap.size)(v:w0.cell? ⟨n,6,none⟩=some (.int .i64 l.size))(I:PgI w0 w n c b (itVal i::rest))(hlen:b.length<=1000)(hcnt:x<=1000):
  cD.wp Yq.prog (FN l J n c x i rest b w0) ⟨cR n l J c x u,[]⟩ w:=by
 obtain ⟨kc,sc,qc,r⟩:=I.ch;show (Code.seq (.region 5 eR false) (cy cD)).wp Yq.prog _ _ _;refine wp_seq (FM (c:=c) rfl rfl r ?_);have I1:=I.setChan (k:=kc) (s:=sc) (q:=qc+1) hc hn;generalize w.setChan c kc rest.toArray true sc (qc+1) false=w1 at I1 ⊢;clear r I;have hI1:Hid (PgI w0 w1 n c b rest):=I1;obtain ⟨sv,G,hown⟩:=I1.row;have hfz:=I1.fz 0;have o:w1.cell? ⟨n,6,none⟩=some (.int .i64 l.size):=(cB (a:=⟨n,6,none⟩) (I1.block n (by omega) (by omega) (by omega))).trans v;clear I1;obtain ⟨num,root,vs,p,d,af,A,left⟩:=l;obtain ⟨j,f,ver⟩:=i;simp only at o;obtain ⟨i0,hi,F,E,D⟩:=info_parts Yq.infoItem;obtain ⟨so,y,sc,rfl⟩:∃so y sc,sv=.slice so y sc:=by
  rcases hown.2 with ⟨rfl,-⟩|⟨g,cap,cur,rfl,-⟩
  .exact ⟨_,_,_,rfl⟩
  .exact ⟨_,_,_,rfl⟩
 have t:Hid (∀k,(Value.slice so y sc).ownBlock=some k->w0.heap.size<=k):=fun k h=>(hown.lt k h).1
 have hnl:n<w1.heap.size:=lL (by omega) hI1.out.size;have hnl2:n+2<w1.heap.size:=lL (by omega) hI1.out.size;obtain ⟨O1,C⟩:∃O1,O1=Obj.cells #[.int .i64 j,.string f,.int .i64 ver] 41:=⟨_,rfl⟩;have m:Hid (O1=Obj.cells #[.int .i64 j,.string f,.int .i64 ver] 41):=C;have hI3:Hid (PgI w0 (w1.alloc O1) n c b rest):=hI1.out.alloc hc hn _;have z:Hid (PgI w0 ((w1.alloc O1).alloc O1) n c b rest):=hI3.out.alloc hc hn _;have L:(w1.alloc O1).cell? ⟨n,6,none⟩=some (.int .i64 A):=aj ((bR _ _).alloc (lR _) _) o;have K:(w1.alloc O1).cell? ⟨n+2,0,none⟩=some (.slice so y sc):=aj ((bR _ _).alloc (lR _) _) G;have H:Hid (((w1.alloc O1).alloc O1).ownsRow w0.heap.size 41 3 (.slice so y sc) b.length (ax b)):=(hown.alloc _).alloc _;clear hown;rw [C] at L K;show Code.wp Yq.prog (cy cD) _ _ _;unfold cR qV sV ptr lV aE itVal;simp only [Act.put];dsimp only [cD,cIn,bu,bH,Tryz.f69,gN,cy,nW,Option.getD];go_wp2_with (at_builtin;rw [<-m.out];refine wpList_append_own _ rfl _ _ 34 rfl w0.heap.size 41 i0 _ 3 32 (Yq.u underlying34) hi F E D rfl (by decide) _ _ _ rfl H.out ⟨(w1.alloc O1).heap.size,0,none⟩ 1 1 [.int .i64 j,.string f,.int .i64 ver] ?qa rfl ?qb ?qc ?qd ?qe ?qf ?_)
 case qc=>simp [Value.oneCell']
 case qd=>simp only [maxLen];omega
 case qe=>omega
 case qf=>have:=hI1.out.size;omega
 .intro v' w3 ho hg _;rw [<-m.out] at hg;obtain ⟨g',B,rfl⟩:=ownsRow_succ ho;have hcel:w3.cell? ⟨n+2,0,none⟩=some (.slice so y sc):=by
   refine hg.cell (aj ((bR _ _).alloc (lR _) _) (by rw [m.out];exact K)) (fun e=>?_);have:=t.out _ e.symm;simp at this;omega
  have hfr:w3.frozen? ⟨n+2,0,none⟩=false:=by
   rw [fR hg ⟨n+2,0,none⟩ (by simp;omega) (fun e=>by have:=t.out _ e.symm;simp at this;omega)];exact z.out.fz 0
  have HPG:Hid (PgI w0 (w3.setCell ⟨n+2,0,none⟩ (.slice (some ⟨g',0,none⟩) (b.length+1) B)) n c (b++[⟨j,f,ver⟩]) rest):=z.out.app hc hn hg t.out ho;clear ho hg hfz;go_wp2_with fail
  refine ⟨rfl,by simp only [cR,lI];rfl,?_⟩;rw [if_pos (by simp only [jz,lI,bT,decide_eq_true_eq];exact ⟨by assumption,by assumption⟩)];exact HPG.out
 .refine ⟨rfl,by simp only [cR,lI];rfl,?_⟩;rw [if_neg (by simp only [jz,lI,bT,decide_eq_true_eq];rintro ⟨h1,h2⟩;omega)];rw [<-m.out];exact hI3.out
 .refine ⟨rfl,by simp only [cR,lI];rfl,?_⟩;rw [if_neg (by simp only [jz,lI,bT,decide_eq_true_eq];rintro ⟨h1,h2⟩;omega)];rw [<-m.out];exact hI3.out
def di (l:Lst)(a:Int):Nat->List ItD->List ItD
 |_,[]=>[]
 |k,i::r=>(if jz l a ((k:Int)+1) then [i] else [])++di l a (k+1) r
noncomputable def om (a:Act):Wv:=(base 69).at a [.code cD,.inLoop cD,.inBlock 0,.code (cy bH)]
theorem GW (n c:Nat)(l:Lst)(a:Int)(cs:List Wv)(w:Wz):Steps Yq.prog (lone (pF2 n l a c) cs w) (lone (om ⟨cR n l a c 0 (fun _=>Wy),[]⟩) cs w):=
 .head step_region_end (.head (step_block (id:=0) (c:=.loop cD)) (.one step_loop))
theorem GX (a:Act)(cs:List Wv)(w:Wz):Steps Yq.prog (lone (om a) cs w) (lone (kg a [0,1]) cs w):=
 .head (step_seq (x:=.region 5 eR false) (y:=cy cD)) (.one step_region)
theorem Ds (l:Lst)(j:Int)(n c:Nat)(w0:Wz)(cs:List Wv)(hn:n+2<c)(hc:c<w0.heap.size)(f:w0.cell? ⟨n,6,none⟩=some (.int .i64 l.size)):
  ∀ (rest:List ItD) (b:Nat) (d:List ItD) (u:Nat->Wq) (w:Wz),PgI w0 w n c d (rest.map itVal)->d.length<=b->b+rest.length<=1000 ->
   ∃u' w',Steps Yq.prog (lone (om ⟨cR n l j c b u,[]⟩) cs w) (lone (om ⟨cR n l j c ((b+rest.length:Nat):Int) u',[]⟩) cs w')/\PgI w0 w' n c (d++di l j b rest) []:=by
 intro rest;induction rest with
 |nil=>exact fun b d u w I _ _=>⟨u,w,by simpa using Steps.refl _ _,by simpa [di] using I⟩
 |cons i r ih=>
  intro b d u w I hi hl;have hl:b+(r.length+1)<=1000:=hl;obtain ⟨e,a,w1,⟨rfl,ha,I1⟩,hs⟩:=tA l j n c b i (r.map itVal) d u w0 w hn hc f I (by omega) (by omega) (base 69) [.inLoop cD,.inBlock 0,.code (cy bH)] cs;have hs:Steps Yq.prog (lone (om ⟨cR n l j c b u,[]⟩) cs w) (lone ((base 69).at a [.inLoop cD,.inBlock 0,.code (cy bH)]) cs w1):=hs;rw [ha] at hs;obtain ⟨u',w',k,I'⟩:=ih (b+1) _ _ w1 I1 (by split<;>(try simp only [lP,lS])<;>omega) (by omega);refine ⟨u',w',Steps.trans hs (.head step_inLoop ?_),?_⟩
  .have e:(((b+1:Nat):Int))=(b:Int)+1:=rfl;rw [e] at k;have e2:b+(i::r).length=b+1+r.length:=by simp;omega
   rw [e2];exact k
  .rw [di];by_cases h:jz l j ((b:Int)+1)=true
   .rw [if_pos h] at I' ⊢;simpa using I'
   .rw [if_neg h] at I' ⊢;simpa using I'
theorem Dt (L:List Wq)(h:∀v∈L,∃ (a b:Int)(s:ByteArray),v=.agg #[.int .i64 a,.string s,.int .i64 b]):∃its:List ItD,L=its.map itVal:=by
 induction L with
 |nil=>exact ⟨[],rfl⟩
 |cons v L ih=>
  obtain ⟨a,b,s,rfl⟩:=h v (by simp);obtain ⟨its,rfl⟩:=ih (fun v hv=>h v (by simp [hv]));exact ⟨⟨a,s,b⟩::its,rfl⟩
theorem tB {w:Wz}{n c:Nat}{its:List ItD}(a:w.heap[n+2]?=some (.cells #[.slice none 0 0,.string ⟨#[]⟩] 88))(hch:∃k s q,w.heap[c]?=some (.chan k (its.map itVal).toArray true s q false)):PgI w w n c [] (its.map itVal):=
 ⟨rfl,lR _,fun _ _ _ _=>rfl,hch,⟨_,by simp [World.cell?,a],World.ownsRow_nil _ _ _ _⟩,by simp [World.cell?,a],fun j=>by simp [World.frozen?,a]⟩
theorem FO:wW:=by
 intro l a L n c w cs b hlen hn h0 _ h2 hch;obtain ⟨its,rfl⟩:=Dt L b;have hc:c<w.heap.size:=by
  obtain ⟨k,s,q,h⟩:=hch;exact (eS h).1
 have hlen:its.length<=1000:=by simpa using hlen
 obtain ⟨u',w',hs,I⟩:=Ds l a n c w cs hn hc (by simp [World.cell?,h0,aE]) its 0 [] (fun _=>Wy) w (tB h2 hch) (by simp) (by omega);exact ⟨_,w',Steps.trans (GW n c l a cs w) (Steps.trans hs (GX _ cs w')),rfl,I.ch⟩
structure Qy where
 vs:Bool
 p:ByteArray
 d:ByteArray
 af:ByteArray
def Du (h:List Ver):Ver:=h.getLast?.getD ⟨0,⟨#[]⟩,false⟩
def ze (a key:ByteArray):Bool:=!Op.bytesLess key.toList a.toList && !decide (key.toList=a.toList)
def vD (q:Qy)(k:List UInt8)(h:List Ver):Bool:=ze q.af ⟨k.toArray⟩&&(q.vs || !(Du h).mark)
def oo (d:List UInt8):List UInt8->Option Nat
 | []=>if d=[] then some 0 else none
 |b::r=>if d.isPrefixOf (b::r) then some 0 else (oo d r).map (·+1)
def ig (q:Qy)(k:List UInt8):Option (List UInt8):=if q.d.size=0 then none else (oo q.d.data.toList (k.drop q.p.size)).map fun i=>k.take (q.p.size+i+q.d.size)
def gi (k:List UInt8)(v:Ver):ItD:=⟨if v.mark then 4 else 3,⟨k.toArray⟩,v.num⟩
def ez (a:Bool)(k:List UInt8)(h:List Ver):List ItD:=if a then h.reverse.map (gi k) else [⟨1,⟨k.toArray⟩,(Du h).num⟩]
def dp (q:Qy)(s:List ItD×List UInt8)(a:List UInt8×List Ver):List ItD×List UInt8:=
 if vD q a.1 a.2 then
  match ig q a.1 with
  |none=>(s.1++ez q.vs a.1 a.2,s.2)
  |some c=>if c=s.2 then s else (s.1++[⟨2,⟨c.toArray⟩,0⟩],c)
 else s
def ay (q:Qy)(l:List (List UInt8×List Ver)):List ItD×List UInt8:=l.foldl (dp q) ([],[])
def ee (q:Qy)(l:List (List UInt8×List Ver)):List ItD:=(ay q l).1
theorem tC (q:Qy)(l:List (List UInt8×List Ver))(x:List UInt8×List Ver):ay q (l++[x])=dp q (ay q l) x:=by simp [ay]
theorem q9 (q:Qy)(s:List ItD×List UInt8)(x:List UInt8×List Ver)(hx:x.2≠[]):s.1.length<=(dp q s x).1.length/\(dp q s x).1.length<=s.1.length+x.2.length:=by
 have h1:0<x.2.length:=List.length_pos_iff.2 hx;unfold dp;split
 .split
  .simp only [lP,ez];split<;>simp<;>omega
  .split<;>simp<;>omega
 .omega
def gt (l:List (List UInt8×List Ver)):Nat:=(l.map fun x=>x.2.length).sum
theorem pL (q:Qy)(l:List (List UInt8×List Ver))(hl:∀x∈l,x.2≠[]):∀s,s.1.length<=(l.foldl (dp q) s).1.length/\(l.foldl (dp q) s).1.length<=s.1.length+gt l:=by
 induction l with
 |nil=>intro s;simp [gt]
 |cons x r ih=>
  intro s;have h1:=q9 q s x (hl x (by simp));have h2:=ih (fun y hy=>hl y (by simp [hy])) (dp q s x);simp only [List.foldl_cons,gt,List.map_cons,List.sum_cons] at h2 ⊢;omega
theorem ng (q:Qy)(l:List (List UInt8×List Ver))(hl:∀x∈l,x.2≠[]):(ee q l).length<=gt l:=by
 have:=(pL q l hl ([],[])).2;simpa [ee,ay] using this
theorem zf (q:Qy)(l pre:List (List UInt8×List Ver))(hl:∀x∈l,x.2≠[])(h:pre <+:l):(ay q pre).1.length<=(ee q l).length:=by
 obtain ⟨r,rfl⟩:=h;unfold ee ay;rw [List.foldl_append];exact (pL q r (fun x hx=>hl x (by simp [hx])) _).1
theorem gI (n:Nat):∀ (f:List UInt8->List Ver)(bs:List UInt8),∀x∈bV n f bs,x.2≠[]:=by
 induction n with
 |zero=>intro f bs x hx;simp [bV] at hx
 |succ n ih=>
  intro f bs x hx;simp only [bV,List.mem_append,List.mem_flatMap] at hx;rcases hx with hx|⟨b,-,hx⟩
  .split at hx
   .simp at hx
   .simp at hx;subst hx;simp_all
  .exact ih _ _ x hx
theorem jP (a b:List (List UInt8×List Ver)):gt (a++b)=gt a+gt b:=by simp [gt]
theorem tD {α:Type}(l:List α)(g:α->List (List UInt8×List Ver)):gt (l.flatMap g)=(l.map fun a=>gt (g a)).sum:=by
 induction l with
 |nil=>rfl
 |cons a r ih=>simp [jP,ih]
def tot (n:Nat)(f:List UInt8->List Ver):Nat:=gt (bV n f [])
theorem tE (n:Nat):∀ (f:List UInt8->List Ver)(bs cs:List UInt8),gt (bV n f bs)=gt (bV n f cs):=by
 induction n with
 |zero=>intro f bs cs;rfl
 |succ n ih=>
  intro f bs cs;simp only [bV,jP,tD];refine congr (congrArg HAdd.hAdd ?_) (congrArg List.sum (List.map_congr_left fun b _=>ih _ _ _));split<;>simp [gt]
theorem ra (n:Nat)(f:List UInt8->List Ver):tot (n+1) f=(f []).length+(zU.map fun b=>tot n (fun k=>f (b::k))).sum:=by
 unfold tot;simp only [bV,jP,tD];refine congr (congrArg HAdd.hAdd ?_) (congrArg List.sum (List.map_congr_left fun b _=>tE _ _ _ _));split<;>simp_all [gt]
theorem GY (l:List UInt8)(g:UInt8->Nat)(b:UInt8)(h:b∈l):g b<=(l.map g).sum:=by
 induction l with
 |nil=>simp at h
 |cons a r ih=>
  rcases List.mem_cons.1 h with rfl|h
  .simp
  .have:=ih h;simp;omega
theorem FP (l:List UInt8)(g g':UInt8->Nat)(b:UInt8)(hn:l.Nodup)(h:b∈l)(ho:∀c,c≠b->g' c=g c):(l.map g').sum+g b=(l.map g).sum+g' b:=by
 induction l with
 |nil=>simp at h
 |cons a r ih=>
  obtain ⟨h1,h2⟩:=List.nodup_cons.1 hn;rcases List.mem_cons.1 h with rfl|h
  .have e:r.map g'=r.map g:=List.map_congr_left fun c hc=>ho c (fun e=>h1 (e▸hc))
   simp [e];omega
  .have:=ih h2 h;have e:=ho a (fun e=>h1 (e▸h));simp [e];omega
theorem zg:zU.Nodup:=jO.imp (fun h e=>by subst e;exact absurd h (by simp))
theorem Bi (n:Nat):∀ (f:List UInt8->List Ver)(key:List UInt8)(h:List Ver),key.length<n->tot n (upd f key h)+(f key).length=tot n f+h.length:=by
 induction n with
 |zero=>intro f key h hk;omega
 |succ n ih=>
  intro f key h hk;rw [ra,ra];cases key with
  |nil=>
   have e:(zU.map fun b=>tot n fun k=>upd f [] h (b::k))=zU.map fun b=>tot n fun k=>f (b::k):=by simp [upd]
   rw [e];simp [upd];omega
  |cons c r=>
   have e0:upd f (c::r) h []=f []:=by simp [upd]
   have e1:(fun k=>upd f (c::r) h (c::k))=upd (fun k=>f (c::k)) r h:=by funext k;simp [upd]
   have e2:=ih (fun k=>f (c::k)) r h (by simp at hk;omega);have e3:=FP zU (fun b=>tot n fun k=>f (b::k)) (fun b=>tot n fun k=>upd f (c::r) h (b::k)) c zg (nb c) (fun b hb=>by simp [upd,hb]);simp only [e1] at e3;rw [e0];omega
theorem Bj (p:List UInt8):∀ (n:Nat)(f:List UInt8->List Ver),tot (n-p.length) (fun k=>f (p++k))<=tot n f:=by
 induction p with
 |nil=>intro n f;exact lR _
 |cons b p ih=>
  intro n f;cases n with
  |zero=>simp [tot,bV,gt]
  |succ n=>
   have h1:=ih n (fun k=>f (b::k));have h2:=GY zU (fun b=>tot n fun k=>f (b::k)) b (nb b);have e:n+1-(b::p).length=n-p.length:=by simp
   rw [e,ra];simp only [List.cons_append] at h2 ⊢;omega
theorem FQ (n:Nat):tot n (fun _=>[])=0:=by rw [tot,iP _ _ _ (fun _=>rfl)];rfl
theorem xi {h:List Ver}(hne:h≠[]):Du h=h.getLast hne:=by simp [Du,List.getLast?_eq_some_getLast hne]
theorem Bk (a:Int)(b:ByteArray)(c:Bool)(w:Wz):(Instr.field 81 (.agg #[.int .i64 a,.string b,.bool c]) 0).run Yq.prog w=.ok (.int .i64 a) w:=by kernel_rfl
theorem Dv (A:Nat->Prop)(q:Qy)(k:List UInt8)(hv:Wq)(h:List Ver)(w:Wz)(j:aU A w hv h)(hne:h≠[])(hl:h.length<=2199023255552):
  Calls Yq.prog 138 #[qV q.vs q.p q.d q.af,.string ⟨k.toArray⟩,hv] w fun e w'=>e=.returned (.bool (vD q k h))/\Below w.heap.size w w':=by
 obtain ⟨f,p,d,i⟩:=q;have HB:Hid (Below w.heap.size w (w.alloc (.cells #[.bool f,.string p,.string d,.string i] 93))):=(bR _ _).alloc (lR _) _;have HN:=lG A hv h _ (j.on HB.out) hne hl;have HW:Hid (∀b,b=vD ⟨f,p,d,i⟩ k h↔b=(ze i ⟨k.toArray⟩&&(f || !(h.getLast hne).mark))):=fun b=>by rw [vD,xi hne]
 generalize vD ⟨f,p,d,i⟩ k h=B at *;obtain ⟨v,c⟩:∃v,h.getLast hne=v:=⟨_,rfl⟩;rw [c] at HN HW;obtain ⟨l,m,n⟩:=v;simp only [bO] at HN;unfold qV;clear c j;have hfm:=pJ l m n;cases f
 .go_enter (Yq.nq func138),ntmps138;go_wp2_with (go_at_call 64;refine HN.mono ?_;clear HN;rintro e w1 ⟨rfl,hb⟩)
  .go_ret;exact ⟨by rw [(HW.out _).1 rfl];simp_all [ze],HB.out.trans (hb.mono HB.out.size)⟩
  .go_ret;exact ⟨by rw [(HW.out _).1 rfl];rename_i hx;simp [ze];exact fun a b=>absurd ⟨a,b⟩ hx,HB.out⟩
 .go_enter (Yq.nq func138),ntmps138;go_wp2_with (go_at_call 64;refine HN.mono ?_;clear HN;rintro e w1 ⟨rfl,hb⟩)
  .go_ret;exact ⟨by rw [(HW.out _).1 rfl];simp_all [ze],HB.out⟩
  .go_ret;exact ⟨by rw [(HW.out _).1 rfl];rename_i hx;simp [ze];exact fun a=>Classical.byContradiction fun b=>hx ⟨a,b⟩,HB.out⟩
theorem vE (b:Bool)(p a key:ByteArray)(w:Wz):
  Calls Yq.prog 139 #[qV b p ⟨#[]⟩ a,.string key] w fun e w'=>e=.returned (.tuple #[.string ⟨#[]⟩,.bool false])/\Below w.heap.size w w':=by
 unfold qV;go_enter (Yq.nq func139),ntmps139;go_wp2_with fail
 go_ret2
 exact ⟨rfl,(bR _ _).alloc (lR _) _⟩
theorem Bl (root:Option Ww)(p:ByteArray)(w:Wz):
  Calls Yq.prog 101 #[sV root,.string p] w fun e w'=>e=.returned (.func (.func 122) #[] #[ptr w.heap.size,ptr (w.heap.size+1)])/\w'=(w.alloc (.cells #[.pointer root] 56)).alloc (.cells #[.string p] 9):=by
 unfold sV ptr;go_enter (Yq.nq func101),ntmps101;go_wp2_with fail
 go_ret;exact ⟨rfl,rfl⟩
def oq (ops:Array Oper)(listed:Array Bool):Prop:=∀ (j:Nat)(o:Oper),ops[j]?=some o->listed.getD j false=true->∀e∈o.after,Region.binds .any e=true->listed.getD e.on false=true
theorem xj {listed:Array Bool}{i k:Nat}(h:listed.getD k false=true):(listed.setIfInBounds i true).getD k false=true:=by
 rw [gD,Array.getElem?_setIfInBounds];rw [gD] at h;split
 .split
  .rfl
  .simp_all
 .exact h
theorem oq.set {ops:Array Oper}{listed:Array Bool}{i:Nat}(h:oq ops listed)(hi:i∈Region.ready .any ops listed):oq ops (listed.setIfInBounds i true):=by
 intro j o ho b e he hb;by_cases a:j=i
 .subst a;exact xj (lu hi ho e he hb)
 .have:listed.getD j false=true:=by
   rw [gD,Array.getElem?_setIfInBounds,if_neg (fun e=>a e.symm)] at b;rw [gD];exact b
  exact xj (h j o ho this e he hb)
def H7 (ops:Array Oper)(j k:Nat):Bool:=((ops[j]?).map fun o=>o.after.toList.any fun e=>e.on==k&&Region.binds .any e).getD false
theorem oq.dep {ops:Array Oper}{listed:Array Bool}(h:oq ops listed){j k:Nat}(hd:H7 ops j k=true)(a:listed.getD j false=true):listed.getD k false=true:=by
 unfold H7 at hd;cases ho:ops[j]? with
 |none=>simp [ho] at hd
 |some o=>
  simp only [ho,Option.map_some,Option.getD_some,List.any_eq_true,bT,beq_iff_eq] at hd;obtain ⟨e,he,rfl,hb⟩:=hd;exact h j o ho a e (Array.mem_toList_iff.1 he) hb
section
variable {P:Wx} {ops:Array Oper} {ro:Option Nat}
theorem fT {id n:Nat}{Q:Exit->Act->Wz->Prop}{a0:Act}{w0:Wz}(hm:P.follows .mixedOrders=true)(base c:Nat)(b:Nat->Wq)(Wd:(Nat->Bool)->Wz->Prop)(hsz:base+c<=a0.tmps.size)
  (f:FA ops base c=true) (l:A6 ops=true)
  (k:∀ (listed:Array Bool) (a:Act) (w:Wz) (i:Nat) (o:Oper),i∈Region.ready .any ops listed->ops[i]?=some o->Vals a0 base c b Wd ops.size listed a w->(∀e∈o.after,Region.binds .any e=true->listed.getD e.on false=true)->oq ops listed ->
   yN P ops ro i a w (fun a' w'=>∃v,a'=a.put o.dst v/\(i<c->v=b i)/\Wd (dR (fun j=>listed.getD j false) i) w'))
  (hend:∀a w,a.tmps.size=a0.tmps.size->a.defers=a0.defers->(∀t,t<base->a.eval (.tmp t)=a0.eval (.tmp t))->(∀i,i<c->i<ops.size->a.eval (.tmp (base+i))=b i)->(∃d,(∀i,i<ops.size->d i=true)/\Wd d w)->Q .normal a w)
  (h0:Wd (fun _=>false) {w0 with drawn:=w0.drawn+1}):(Code.region id ops true).wpIn (wf ro) n P Q a0 w0:=by
 have hf:∀i,(Array.replicate ops.size false).getD i false=false:=fun i=>by
  rw [gD,Array.getElem?_replicate];split<;>rfl
 refine pz hm (fun listed a w=>Vals a0 base c b Wd ops.size listed a w/\oq ops listed) (fun listed a w i V hi=>?_) (fun listed a w V hr=>?_) ⟨⟨rfl,rfl,fun _ _=>rfl,fun i _ h=>?_,by rw [show (fun i=>(Array.replicate ops.size false).getD i false)=fun _=>false from funext hf];exact h0,by simp⟩,fun j o _ h=>?_⟩
 .have hlt:=(cz hi).1;have ho:=eG hlt;refine (k listed a w i _ hi ho V.1 (lu hi ho) V.2).mono ?_;rintro a' w' ⟨v,rfl,hv,hw⟩;exact ⟨V.1.step hi ho (wZ f i _ ho).1 (wZ f i _ ho).2 hsz hv hw,V.2.set hi⟩
 .have h1:=wY l V.1.len hr;exact hend a w V.1.size V.1.defers V.1.old (fun i hi hi2=>V.1.new i hi (h1 i hi2)) ⟨_,h1,V.1.world⟩
 .rw [hf i] at h;cases h
 .rw [hf j] at h;cases h
end
def GZ:Code->Code
 | .cond _ a _=>a
 |c=>c
noncomputable def G0:Array Oper:=nW (gN (GZ (cy (gN (cy (bu Tryz.f140))))))
structure WdS (W1:Wz)(c:Nat)(buf:List Wq)(it:Wq)(d:Nat->Bool)(w:Wz):Prop where
 below:d 6=false->Below W1.heap.size W1 w
 done:d 6=true->∃w1,Below W1.heap.size W1 w1/\w=w1.setChan c 1000 (buf++[it]).toArray false (buf.length+1) 0 false
section
variable {W1:Wz} {c:Nat} {buf:List Wq} {it:Wq} {d:Nat->Bool} {w:Wz}
theorem WdS.other (h:WdS W1 c buf it d w){i:Nat}(hi:6≠i):WdS W1 c buf it (dR d i) w:=⟨fun e=>h.below (by rwa [dI hi] at e),fun e=>h.done (by rwa [dI hi] at e)⟩
theorem WdS.more (h:WdS W1 c buf it d w)(h6:d 6=false){X:Wz}(hX:Below w.heap.size w X):WdS W1 c buf it (dR d 3) X:=⟨fun _=>(h.below h6).trans (hX.mono (h.below h6).size),fun e=>by rw [dI (by omega),h6] at e;cases e⟩
theorem WdS.sent (h:WdS W1 c buf it d w)(hw:d 6=false):WdS W1 c buf it (dR d 6) (w.setChan c 1000 (buf.toArray.push it) false (buf.length+1) 0 false):=⟨fun e=>by simp [dR] at e,fun _=>⟨w,h.below hw,by simp⟩⟩
end
theorem Bm (A:Nat->Prop){id n:Nat}{Q:Exit->Act->Wz->Prop}{a0:Act}{W:Wz}{b5 b7 c:Nat}{key:ByteArray}{hv:Wq}{h:List Ver}{buf:List Wq}(hs:a0.tmps.size=27)(e2:a0.eval (.tmp 2)=hv)(e5:a0.eval (.tmp 5)=ptr b5)(u:a0.eval (.tmp 7)=ptr b7)
  (c5:W.cell? ⟨b5,0,none⟩=some (.string key)) (s:W.cell? ⟨b7,0,none⟩=some (.chan (some c))) (q:aU A W hv h) (hne:h≠[]) (hl:h.length<=2199023255552) (hc:W.heap[c]?=some (.chan 1000 buf.toArray false buf.length 0 false)) (hroom:buf.length<1000)
  (hend:∀a w1,a.tmps.size=27->a.defers=a0.defers->Below W.heap.size W w1->Q .normal a (w1.setChan c 1000 (buf++[itVal ⟨1,key,(h.getLast hne).num⟩]).toArray false (buf.length+1) 0 false)):
  (Code.region id G0 true).wpIn (wf none) n Yq.prog Q a0 W:=by
 obtain ⟨W1,hW1⟩:∃W1:Wz,W1={W with drawn:=W.drawn+1}:=⟨_,rfl⟩;have hb1:Below W.heap.size W W1:=by rw [hW1];exact ⟨rfl,rfl,rfl,lR _,fun _ _=>rfl⟩
 have hsz:W1.heap.size=W.heap.size:=by rw [hW1]
 have k5:W1.cell? ⟨b5,0,none⟩=some (.string key):=aj hb1 c5;have t:W1.cell? ⟨b7,0,none⟩=some (.chan (some c)):=aj hb1 s;have r:c<W1.heap.size:=by rw [hsz];exact (eS hc).1
 have hc:W1.heap[c]?=some (.chan 1000 buf.toArray false buf.length 0 false):=by rw [hW1];exact hc
 have q:aU A W1 hv h:=q.on hb1;have hroom:buf.toArray.size<1000:=by simpa using hroom
 refine fT (ro:=none) (a0:=a0) (w0:=W) mixed 13 6
   (fun i=>match i with| 0=>.chan (some c)| 1=>.string key| 2=>hv| 3=>bO (h.getLast hne)| 4=>.int .i64 (h.getLast hne).num|_=>itVal ⟨1,key,(h.getLast hne).num⟩)
   (WdS W1 c buf (itVal ⟨1,key,(h.getLast hne).num⟩)) (by omega) (by rfl) (by rfl) (fun listed a w i o hi ho V b hcl=>?_) (fun a w h1 h2 h3 h4 h5=>?_) ⟨fun _=>by rw [<-hW1];exact bR _ _,fun e=>by cases e⟩
 .have hlt:i<7:=(cz hi).1;have l:listed.getD 6 false=false:=by
   cases h:listed.getD 6 false with
   |false=>rfl
   |true=>
    exfalso;have l5:=hcl.dep (j:=6) (k:=5) (by rfl) h;have l0:=hcl.dep (j:=6) (k:=0) (by rfl) h;have l4:=hcl.dep (j:=5) (k:=4) (by rfl) l5;have l1:=hcl.dep (j:=5) (k:=1) (by rfl) l5;have l3:=hcl.dep (j:=4) (k:=3) (by rfl) l4;have l2:=hcl.dep (j:=3) (k:=2) (by rfl) l3;have hi2:=(cz hi).2;have m:∀j,j<7->listed.getD j false=true:=fun j hj=>by
     rcases j with - | - | - | - | - | - | - |j;all_goals first|assumption|omega
    have h7:=m i hlt;have p:i<listed.size:=by rw [V.len];exact hlt
    simp only [gD,eG p,Option.getD_some] at hi2 h7;rw [hi2] at h7;cases h7
  have hw:Below W1.heap.size W1 w:=V.world.below l;rcases i with - | - | - | - | - | - | - |i;all_goals first|omega|(have ho1:=ho;dsimp only [G0,GZ,bu,Tryz.f140,gN,cy,nW,Option.getD] at ho1;simp only [gA,gS,gZ,oI,Nat.reduceAdd,zA] at ho1;subst ho1)
  .have q0:a.eval (.tmp 7)=ptr b7:=(V.old 7 (by omega)).trans u;refine an ho rfl (fun c h=>by cases h) (v:=.chan (some c)) (w':=w) (by generalize a.eval=ρ at q0 ⊢;simp [go_sem,q0,ptr,aj hw t]) ⟨_,rfl,fun _=>rfl,V.world.other (by omega)⟩
  .have q0:a.eval (.tmp 5)=ptr b5:=(V.old 5 (by omega)).trans e5;refine an ho rfl (fun c h=>by cases h) (v:=.string key) (w':=w) (by generalize a.eval=ρ at q0 ⊢;simp [go_sem,q0,ptr,aj hw k5]) ⟨_,rfl,fun _=>rfl,V.world.other (by omega)⟩
  .have q0:a.eval (.tmp 2)=hv:=(V.old 2 (by omega)).trans e2;refine an ho rfl (fun c h=>by cases h) (v:=hv) (w':=w) (by generalize a.eval=ρ at q0 ⊢;simp [go_sem,q0]) ⟨_,rfl,fun _=>rfl,V.world.other (by omega)⟩
  .have q0:a.eval (.tmp 15)=hv:=V.new 2 (by omega) (b ⟨2,.data⟩ (by simp) rfl);refine iO (f:=64) (args:=#[hv]) (w':=w) ho rfl (fun c h=>by cases h) (by have qf:=hfun a rfl 64;generalize a.eval=ρ at q0 qf ⊢;simp [go_sem,q0,qf]) ((lG A hv h w (q.on hw) hne hl).mono ?_);rintro e X ⟨rfl,hX⟩;exact ⟨_,rfl,_,rfl,fun _=>rfl,V.world.more l hX⟩
  .have q0:a.eval (.tmp 16)=bO (h.getLast hne):=V.new 3 (by omega) (b ⟨3,.data⟩ (by simp) rfl);refine an ho rfl (fun c h=>by cases h) (v:=.int .i64 (h.getLast hne).num) (w':=w) (by generalize a.eval=ρ at q0 ⊢;simp [go_sem,q0,bO,Bk]) ⟨_,rfl,fun _=>rfl,V.world.other (by omega)⟩
  .have q0:a.eval (.tmp 14)=.string key:=V.new 1 (by omega) (b ⟨1,.data⟩ (by simp) rfl);have q1:a.eval (.tmp 17)=.int .i64 (h.getLast hne).num:=V.new 4 (by omega) (b ⟨4,.data⟩ (by simp) rfl);have q2:a.eval (.const (.int .i64 1))=.int .i64 1:=rfl;refine an ho rfl (fun c h=>by cases h) (v:=itVal ⟨1,key,(h.getLast hne).num⟩) (w':=w) (by generalize a.eval=ρ at q0 q1 q2 ⊢;simp [go_sem,q0,q1,q2,itVal]) ⟨_,rfl,fun _=>rfl,V.world.other (by omega)⟩
  .have q0:a.eval (.tmp 13)=.chan (some c):=V.new 0 (by omega) (b ⟨0,.data⟩ (by simp) rfl);have q1:a.eval (.tmp 18)=itVal ⟨1,key,(h.getLast hne).num⟩:=V.new 5 (by omega) (b ⟨5,.data⟩ (by simp) rfl);refine n9 ho rfl rfl q0 ((hw.block c r).trans hc) hroom ?_;exact ⟨_,rfl,fun h=>absurd h (by omega),by rw [q1];exact V.world.sent l⟩
 .obtain ⟨d,hd,hw⟩:=h5;obtain ⟨w1,hb,rfl⟩:=hw.done (hd 6 (by decide));exact hend a w1 (h1.trans hs) h2 (hb1.trans (by rw [hsz] at hb;exact hb))
end
section
open Go.RowKit
def cw (w:Wz)(b:Nat):Prop:=∃o:Obj,w.heap[b]?=some o/\o.isCells=true
theorem cw.of_cell {w:Wz}{b j:Nat}{v:Wq}(h:w.cell? ⟨b,j,none⟩=some v):cw w b:=by
 unfold World.cell? at h;cases ho:w.heap[b]? with
 |none=>simp [ho] at h
 |some o=>
  cases o with
  |cells c e z=>exact ⟨_,ho,rfl⟩
  |_=>simp [ho] at h
theorem cw.lt {w:Wz}{b:Nat}(h:cw w b):b<w.heap.size:=by
 obtain ⟨o,h,-⟩:=h;exact (eS h).1
theorem bG.inCells {A:Nat->Prop}{w:Wz}{v:Wq}{n:Nat}{xs:List Wq}(h:bG A w v n xs):bG (fun b=>A b/\cw w b) w v n xs:=by
 obtain ⟨a,cap,hv,c,hx⟩:=h;refine ⟨a,cap,hv,c,fun hne=>?_⟩;obtain ⟨g,ha,hA,hg,hc⟩:=hx hne;have h0:0<xs.length:=List.length_pos_iff.2 hne;exact ⟨g,ha,⟨hA,.of_cell ((hc 0 h0).trans (List.getElem?_eq_getElem h0))⟩,hg,hc⟩
theorem ai.inCells {A:Nat->Prop}{w:Wz}:∀ (n:Nat)(p:Option Ww)(f:List UInt8->List Ver),ai A n w p f->ai (fun b=>A b/\cw w b) n w p f:=by
 intro n;induction n with
 |zero=>intro p f h;exact h
 |succ n ih=>
  intro p f h;rcases h with h|⟨g,hv,kv,ks,hp,hA,c0,c1,c2,a,hks,hs,hch,hno⟩
  .exact Or.inl h
  .exact Or.inr ⟨g,hv,kv,ks,hp,⟨hA,.of_cell c0⟩,c0,c1,c2,bG.inCells a,bG.inCells hks,hs,fun c q hq=>ih q _ (hch c q hq),hno⟩
theorem ai.weak {A A':Nat->Prop}{w:Wz}(h:∀b,A b->A' b){n:Nat}{p:Option Ww}{f:List UInt8->List Ver}(a:ai A n w p f):ai A' n w p f:=ai.keep (fun b hb _=>⟨h b hb,rfl⟩) n p f a
def tF (w:Wz)(p:Option Ww)(f:List UInt8->List Ver):Prop:=ai (cw w) 41 w p f
theorem tF.of {A:Nat->Prop}{w:Wz}{p:Option Ww}{f:List UInt8->List Ver}(h:ai A 41 w p f):tF w p f:=(ai.inCells 41 p f h).weak fun _ h=>h.2
end
