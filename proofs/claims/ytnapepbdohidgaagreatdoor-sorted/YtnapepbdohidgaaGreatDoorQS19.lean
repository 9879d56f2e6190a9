/- A part. -/
import Derived.Test.YtnapepbdohidgaaGreatDoorQS16
import Derived.Test.YtnapepbdohidgaaGreatDoorQS18
import Derived.Lib.Strings
import Derived.Lib.BufferWrite
import Derived.Lib.UnsafeStr
import Derived.Laws.MakeOwn
set_option maxHeartbeats 4000000
set_option maxRecDepth 100000
open Go renaming World->Wz,Value->Wq,TypeId->Wk,Addr->Ww
namespace Go.Proofs.Qw
section
open Go.RowKit
theorem rv {A:Nat->Prop}{w w2 w3:Wz}{n:Nat}{p:Option Ww}{F:List UInt8->List Ver}(_hw2:w.heap.size<=w2.heap.size)(h:ai (Grow (fun b=>A b/\b<w.heap.size) w2) n w3 p F)(b1 o:Nat)(v:Wq)(h1:w.heap.size<=b1)(h2:b1<w2.heap.size):
  ai (Grow A w) n (w3.setCell ⟨b1,o,none⟩ v) p F:=by
 refine ai.keep (fun b hb _=>?_) n p F h;rcases hb with ⟨⟨hA,hlt⟩,_⟩|hge
 .exact ⟨Or.inl ⟨hA,hlt⟩,bS _ _ _ _ (by show b≠b1;omega)⟩
 .exact ⟨Or.inr (by omega),bS _ _ _ _ (by show b≠b1;omega)⟩
theorem rx (A:Nat->Prop)(n:Nat)(p:Option Ww)(f:List UInt8->List Ver)(key:ByteArray)(hv:Wq)(h:List Ver)(w:Wz)(hN:ai A n w p f)(hk:key.size<n)(hk2:key.size<=1000)(hh:aU A w hv h)(hne:h≠[]):
  Calls Yq.prog 67 #[.agg #[.pointer p],.string key,hv] w fun e w'=>∃q,e=.returned (.agg #[.pointer q])/\Below w.heap.size w w'/\ai (Grow A w) n w' q (upd f key.data.toList h):=by
 have hcall:∀w2:Wz,Below w.heap.size w w2->Calls Yq.prog 94 #[.pointer p,.string key,hv] w2 fun e w'=>∃g,e=.returned (.pointer (some ⟨g,0,none⟩))/\Below w2.heap.size w2 w'/\ai (Grow (fun b=>A b/\b<w.heap.size) w2) n w' (some ⟨g,0,none⟩) (upd f key.data.toList h):=fun w2 hb=>
  zt n _ p f key hv h w2 (ai.keep (fun b h1 h2=>⟨⟨h1,h2⟩,hb.block b h2⟩) n p f hN) hk hk2 (bH.keep hh (fun b h1 h2=>⟨⟨h1,h2⟩,hb.block b h2⟩)) hne
 have HC:Hid (∀w2:Wz,Below w.heap.size w w2->Calls Yq.prog 94 #[.pointer p,.string key,hv] w2 fun e w'=>∃g,e=.returned (.pointer (some ⟨g,0,none⟩))/\Below w2.heap.size w2 w'/\ai (Grow (fun b=>A b/\b<w.heap.size) w2) n w' (some ⟨g,0,none⟩) (upd f key.data.toList h)):=hcall;obtain ⟨ha,hc,rfl,-⟩:=hh;clear hcall hN;go_enter (Yq.nq Tryz.func67),Tryz.ntmps67;go_wp2_with fail
 have hb0:Below w.heap.size w ((w.alloc (.cells #[.pointer p] 56)).alloc (.cells #[.pointer none] 56)):=((bR _ w).alloc (lR _) _).alloc (by simp) _;have q0:((w.alloc (.cells #[.pointer p] 56)).alloc (.cells #[.pointer none] 56)).cell? ⟨w.heap.size+1,0,none⟩=some (.pointer none):=by rw [cA (w:=w.alloc (.cells #[.pointer p] 56)) _ _ (w.heap.size+1) 0 (by simp)];rfl
 have q1:((w.alloc (.cells #[.pointer p] 56)).alloc (.cells #[.pointer none] 56)).frozen? ⟨w.heap.size+1,0,none⟩=false:=World.frozen?_alloc_at (w:=w.alloc (.cells #[.pointer p] 56)) _ _ (w.heap.size+1) 0 (by simp);have q2:w.heap.size+1<((w.alloc (.cells #[.pointer p] 56)).alloc (.cells #[.pointer none] 56)).heap.size:=by simp
 have HB0:Hid (Below w.heap.size w ((w.alloc (.cells #[.pointer p] 56)).alloc (.cells #[.pointer none] 56))):=hb0;refine (HC.out _ hb0).mono ?_;generalize (w.alloc (.cells #[.pointer p] 56)).alloc (.cells #[.pointer none] 56)=W2 at *;rintro e w3 ⟨g,rfl,hb3,hN3⟩;have q3:=ak hb3 q0;have q4:=(hb3.frozen (p:=⟨w.heap.size+1,0,none⟩) q2).trans q1;have HF:Hid (Below w.heap.size w (w3.setCell ⟨w.heap.size+1,0,none⟩ (.pointer (some ⟨g,0,none⟩)))/\ai (Grow A w) n (w3.setCell ⟨w.heap.size+1,0,none⟩ (.pointer (some ⟨g,0,none⟩))) (some ⟨g,0,none⟩) (upd f key.data.toList h)):=
  ⟨(hb0.trans (hb3.mono hb0.size)).setCell (by show w.heap.size<=w.heap.size+1;omega) _,rv hb0.size hN3 (w.heap.size+1) 0 _ (by omega) q2⟩
 clear hb0 q0 q1 hb3 hN3 HC;go_wp2;exact bodyPost_ret (v:=.agg #[.pointer (some ⟨g,0,none⟩)]) (by simp [results,Tryz.results67,go_sem,q3]) rfl ⟨_,rfl,HF.out⟩
theorem ry (A:Nat->Prop)(n:Nat)(p:Option Ww)(f:List UInt8->List Ver)(key:ByteArray)(w:Wz)(hN:ai A n w p f)(hk:key.size<n)(hk2:key.size<=1000)(hf:f key.data.toList≠[]):
  Calls Yq.prog 66 #[.agg #[.pointer p],.string key] w fun e w'=>∃q,e=.returned (.agg #[.pointer q])/\Below w.heap.size w w'/\ai (Grow A w) n w' q (upd f key.data.toList []):=by
 have hcall:∀w2:Wz,Below w.heap.size w w2->Calls Yq.prog 93 #[.pointer p,.string key] w2 fun e w'=>∃q,e=.returned (.pointer q)/\Below w2.heap.size w2 w'/\ai (Grow (fun b=>A b/\b<w.heap.size) w2) n w' q (upd f key.data.toList []):=fun w2 hb=>
  ru n _ p f key w2 (ai.keep (fun b h1 h2=>⟨⟨h1,h2⟩,hb.block b h2⟩) n p f hN) hk hk2 hf
 have hget:∀w2:Wz,Below w.heap.size w w2->Calls Yq.prog 63 #[.agg #[.pointer p],.string key] w2 fun e w'=>∃hv,e=.returned (.tuple #[hv,.bool true])/\Below w2.heap.size w2 w':=fun w2 hb=>by
  refine (mg A n p f key w2 hk (by simp only [maxLen];omega) (ai.keep (fun b h1 h2=>⟨h1,hb.block b h2⟩) n p f hN)).mono ?_;rintro e w' ⟨hv,rfl,_,hb'⟩;refine ⟨hv,?_,hb'⟩;cases hc:f key.data.toList with
  |nil=>exact absurd hc hf
  |cons a l=>rfl
 have HC:Hid (∀w2:Wz,Below w.heap.size w w2->Calls Yq.prog 93 #[.pointer p,.string key] w2 fun e w'=>∃q,e=.returned (.pointer q)/\Below w2.heap.size w2 w'/\ai (Grow (fun b=>A b/\b<w.heap.size) w2) n w' q (upd f key.data.toList [])):=hcall;have HG:Hid (∀w2:Wz,Below w.heap.size w w2->Calls Yq.prog 63 #[.agg #[.pointer p],.string key] w2 fun e w'=>∃hv,e=.returned (.tuple #[hv,.bool true])/\Below w2.heap.size w2 w'):=hget;clear hcall hN hget hf;go_enter (Yq.nq Tryz.func66),Tryz.ntmps66;go_wp2_with fail
 have hb0:Below w.heap.size w ((w.alloc (.cells #[.pointer p] 56)).alloc (.cells #[.pointer none] 56)):=((bR _ w).alloc (lR _) _).alloc (by simp) _;have q0:((w.alloc (.cells #[.pointer p] 56)).alloc (.cells #[.pointer none] 56)).cell? ⟨w.heap.size+1,0,none⟩=some (.pointer none):=by rw [cA (w:=w.alloc (.cells #[.pointer p] 56)) _ _ (w.heap.size+1) 0 (by simp)];rfl
 have q1:((w.alloc (.cells #[.pointer p] 56)).alloc (.cells #[.pointer none] 56)).frozen? ⟨w.heap.size+1,0,none⟩=false:=World.frozen?_alloc_at (w:=w.alloc (.cells #[.pointer p] 56)) _ _ (w.heap.size+1) 0 (by simp);have q2:w.heap.size+1<((w.alloc (.cells #[.pointer p] 56)).alloc (.cells #[.pointer none] 56)).heap.size:=by simp
 have q5:((w.alloc (.cells #[.pointer p] 56)).alloc (.cells #[.pointer none] 56)).cell? ⟨w.heap.size,0,none⟩=some (.pointer p):=by
  rw [World.cell?_alloc_past (w:=w.alloc (.cells #[.pointer p] 56)) _ w.heap.size 0 (by simp),cA (w:=w) _ _ w.heap.size 0 rfl];rfl
 refine (HG.out _ hb0).mono ?_;generalize (w.alloc (.cells #[.pointer p] 56)).alloc (.cells #[.pointer none] 56)=W1 at *;rintro e W2 ⟨hv,rfl,hbg⟩;have hb2:Below w.heap.size w W2:=hb0.trans (hbg.mono hb0.size);have r0:=ak hbg q0;have r1:=(hbg.frozen (p:=⟨w.heap.size+1,0,none⟩) q2).trans q1;have r2:w.heap.size+1<W2.heap.size:=lL q2 hbg.size;have r5:=ak hbg q5;have HB2:Hid (Below w.heap.size w W2):=hb2;clear hb0 q0 q1 q2 q5 hbg HG hb2;go_wp2_with fail
 refine (HC.out W2 HB2.out).mono ?_;rintro e w3 ⟨q,rfl,hb3,hN3⟩;have q3:=ak hb3 r0;have q4:=(hb3.frozen (p:=⟨w.heap.size+1,0,none⟩) r2).trans r1;have HF:Hid (Below w.heap.size w (w3.setCell ⟨w.heap.size+1,0,none⟩ (.pointer q))/\ai (Grow A w) n (w3.setCell ⟨w.heap.size+1,0,none⟩ (.pointer q)) q (upd f key.data.toList [])):=
  ⟨(HB2.out.trans (hb3.mono HB2.out.size)).setCell (by show w.heap.size<=w.heap.size+1;omega) _,rv HB2.out.size hN3 (w.heap.size+1) 0 _ (by omega) r2⟩
 clear r0 r1 hb3 hN3 HC;go_wp2;exact bodyPost_ret (v:=.agg #[.pointer q]) (by simp [results,Tryz.results66,go_sem,q3]) rfl ⟨_,rfl,HF.out⟩
def nums (h:List Ver)(i:Nat):Int:=((h[i]?).map (·.num)).getD 0
def bods (h:List Ver)(i:Nat):ByteArray:=((h[i]?).map (·.body)).getD ⟨#[]⟩
def mrks (h:List Ver)(i:Nat):Bool:=((h[i]?).map (·.mark)).getD false
theorem nb {h:List Ver}{i:Nat}(hi:i<h.length):nums h i=h[i].num:=by simp [nums,hi]
theorem DT {h:List Ver}{i:Nat}(hi:i<h.length):bods h i=h[i].body:=by simp [bods,hi]
theorem DU {h:List Ver}{i:Nat}(hi:i<h.length):mrks h i=h[i].mark:=by simp [mrks,hi]
structure zu (h:List Ver)(n:Int)(r:Nat):Prop where
 le:r<=h.length
 lo:∀j,j<h.length->j<r->nums h j<n
 hi:∀j,j<h.length->r<=j->n<=nums h j
def wW (h:List Ver)(n:Int)(r:Nat):Bool:=decide (r<h.length/\nums h r=n)
theorem zv (A:Nat->Prop)(hv:Wq)(h:List Ver)(n:Int)(w:Wz)(hh:aU A w hv h)(hs:∀i j,i<j->j<h.length->nums h i<nums h j)(hl:h.length<=2199023255552):
  Calls Yq.prog 92 #[hv,.int .i64 n] w fun e w'=>∃r:Nat,zu h n r/\e=.returned (.tuple #[.int .i64 r,.bool (wW h n r)])/\Below w.heap.size w w':=by
 by_cases hne:h=[]
 .subst hne;obtain ⟨a,cap,rfl,-,-⟩:=hh;go_enter (Yq.nq Tryz.func92),Tryz.ntmps92;go_wp2_with (go_at_call 112;refine (Bw _ _ _ _).mono ?_;rintro e w' ⟨rfl,rfl⟩)
  go_ret2
  exact ⟨0,⟨lR _,fun j h=>absurd h (Nat.not_lt_zero _),fun j h=>absurd h (Nat.not_lt_zero _)⟩,by simp [wW],bR _ _⟩
 .obtain ⟨gk,cap,rfl,-,-,hc,-⟩:=hh.cells hne;have hbs:Calls Yq.prog 112 #[.slice (some ⟨gk,0,none⟩) h.length cap,.int .i64 n,.func (.func 113) #[] #[]] w fun e w'=>∃r:Nat,zu h n r /\
    e=.returned (.tuple #[.int .i64 r,.bool (wW h n r)])/\Below w.heap.size w w':=by
   refine (DN gk h.length cap (nums h) (bods h) (mrks h) n w hl (fun i hi=>by rw [nb hi,DT hi,DU hi];exact hc i hi) hs).mono ?_;rintro e w' ⟨r,h1,h2,h3,rfl,h5⟩;exact ⟨r,⟨h1,fun j _ hj=>h2 j hj,fun j h hj=>h3 j hj h⟩,rfl,h5⟩
  clear hc hs;go_enter (Yq.nq Tryz.func92),Tryz.ntmps92;go_wp2_with (go_at_call 112;refine hbs.mono ?_;rintro e w' ⟨r,h1,rfl,h5⟩)
  go_ret2
  exact ⟨r,h1,rfl,h5⟩
def bV (v:Ver):Wq:=.agg #[.int .i64 v.num,.string v.body,.bool v.mark]
theorem wX (g k cap:Nat)(nm:Int)(bd:ByteArray)(mk:Bool)(w:Wz)(hk:k<=2199023255552)(c0:w.cell? ⟨g,k * 3,none⟩=some (.int .i64 nm))(c1:w.cell? ⟨g,k * 3+1,none⟩=some (.string bd))(c2:w.cell? ⟨g,k * 3+2,none⟩=some (.bool mk)):
  Calls Yq.prog 64 #[.slice (some ⟨g,0,none⟩) (k+1) cap] w fun e w'=>e=.returned (.agg #[.int .i64 nm,.string bd,.bool mk])/\Below w.heap.size w w':=by
 have hg:=bC w _ c0;go_enter (Yq.nq Tryz.func64),Tryz.ntmps64;go_wp2;exact bodyPost_ret (v:=.agg #[.int .i64 nm,.string bd,.bool mk]) (by simp [results,Tryz.results64,go_sem]) rfl ⟨rfl,(bR _ _).alloc (lR _) _⟩
theorem km (A:Nat->Prop)(hv:Wq)(h:List Ver)(w:Wz)(hh:aU A w hv h)(hne:h≠[])(hl:h.length<=2199023255552):
  Calls Yq.prog 64 #[hv] w fun e w'=>e=.returned (bV (h.getLast hne))/\Below w.heap.size w w':=by
 obtain ⟨g,cap,rfl,-,-,hc,-⟩:=hh.cells hne;have hlen:0<h.length:=List.length_pos_iff.2 hne;obtain ⟨k,hk⟩:∃k,h.length=k+1:=⟨h.length-1,by omega⟩;obtain ⟨c0,c1,c2⟩:=hc k (by omega);have e:h.getLast hne=h[k]:=by rw [List.getLast_eq_getElem];congr 1;omega
 rw [e];generalize h[k]=v at *;rw [hk];exact wX g k cap _ _ _ w (by omega) c0 c1 c2
theorem rz (A:Nat->Prop)(hv:Wq)(h:List Ver)(r:Nat)(w:Wz)(hh:aU A w hv h)(hr:r<h.length)(hl:h.length<=2199023255552):
  Calls Yq.prog 68 #[hv,.int .i64 r] w fun e w'=>∃va vl vc,e=.returned (.slice va vl vc)/\aU (fun b=>w.heap.size<=b) w' (.slice va vl vc) (h.take r++h.drop (r+1))/\Below w.heap.size w w':=by
 have hcl:=ov A hv h w hh hl;obtain ⟨k,hk⟩:∃k,h.length=k+1:=⟨h.length-1,by omega⟩;obtain ⟨ha,hc,rfl,-⟩:=hh;have HK:Hid (h.length=k+1):=hk;rw [hk] at hcl ⊢;clear hk;go_enter (Yq.nq Tryz.func68),Tryz.ntmps68;go_wp2_with fail
 refine hcl.mono ?_;rintro e w1 ⟨v',rfl,hown,hb⟩;obtain ⟨g,cap,rfl,-,-,-⟩:=rr hown (Nat.succ_pos _);have hdl:=BA w.heap.size g k cap r (aD h) w1 hown (by have:=HK.out;omega) (by have:=HK.out;omega) (kW h);have hr':(r:Int)<=2199023255552:=by omega
 go_wp2_with (go_at_call 95;refine hdl.mono ?_;rintro e w2 ⟨rfl,ho2,hg2⟩)
 go_ret;refine ⟨_,_,_,rfl,?_,hb.grown hg2 hb.size (fun j e=>by cases e;exact (hown.lt g rfl).1)⟩;rw [rn] at ho2;exact kX (by have:=HK.out;rw [lP,tL,lD];omega) ho2 (fun j e=>(ho2.lt j e).1)
theorem ie {P:Program}{ops:Array Oper}{o:Oper}{a:Act}{w:Wz}{K:Act->Wz->Prop}{Q:Exit->Act->Wz->Prop}{E:Prop}
  (hg:o.guard=none) (s x:Operand) (t:Wk) (hop:o.op=Op.call {callee:=Callee.builtin Builtin.append,args:=#[s,x],argTypes:=#[t,t]})
  (base:Nat) (e:Wk) (i:TypeInfo) (z:Wq) (size bytes:Nat) (ht:P.underlying t=some (.slice e)) (hi:P.info? e=some i) (hz:i.zero=some z)
  (hsize:i.size=size) (hby:i.bytes=bytes) (hzs:z.cells.size=size) (hsz:0<size)
  (v:Wq) (n:Nat) (xs:List Wq) (hs:a.eval s=v) (hown:w.ownsRow base e size v n xs)
  (ad:Ww) (m c:Nat) (news:List Wq) (hx:a.eval x=.slice (some ad) m c) (hl:news.length=m * size) (hnews:∀j u,news[j]?=some u->w.cell? (ad.add j)=some u) (h1:∀u∈news,u.oneCell'=true)
  (h63:n+m<=maxLen) (hbytes:(n+m) * bytes<=140737488355328) (hbase:base<=w.heap.size)
  (h:∀v' w',w'.ownsRow base e size v' (n+m) (xs++news)->w.grownBy w' v.ownBlock->K (a.put o.dst v') w'):
  if Region.wanted o (yielded ops a.tmps)=true then Oper.wp P o a w K Q else E:=by
 obtain ⟨v',w',hr,h2,h3,_⟩:=run_append_own (P:=P) w base t o.type e i z size bytes ht hi hz hsize hby hzs hsz v n xs hown ad m c news hl hnews h1 h63 hbytes hbase;exact dI hg s x t t hop v _ hs hx hr (h v' w' h2 h3)
theorem pH (h:List Ver)(v:Ver):aD (h++[v])=aD h++[.int .i64 v.num,.string v.body,.bool v.mark]:=by simp [aD]
theorem BF {W w1:Wz}(hb:Below W.heap.size W w1){a b c:Ww}{x y z:Wq}(h:W.cell? a=some x/\W.cell? b=some y/\W.cell? c=some z):w1.cell? a=some x/\w1.cell? b=some y/\w1.cell? c=some z:=
 ⟨ak hb h.1,ak hb h.2.1,ak hb h.2.2⟩
theorem nc {w w':Wz}{row:Option Nat}(hg:w.grownBy w' row){b o1 o2 o3:Nat}{x y z:Wq}(hne:row≠some b)(h:w.cell? ⟨b,o1,none⟩=some x/\w.cell? ⟨b,o2,none⟩=some y/\w.cell? ⟨b,o3,none⟩=some z):w'.cell? ⟨b,o1,none⟩=some x/\w'.cell? ⟨b,o2,none⟩=some y/\w'.cell? ⟨b,o3,none⟩=some z:=
 ⟨hg.cell h.1 (fun e=>hne e.symm),hg.cell h.2.1 (fun e=>hne e.symm),hg.cell h.2.2 (fun e=>hne e.symm)⟩
theorem jE {w:Wz}{base base':Nat}{e:Wk}{size:Nat}{v:Wq}{n:Nat}{xs:List Wq}(h:w.ownsRow base e size v n xs)(hb:base'<=base):w.ownsRow base' e size v n xs:=by
 refine ⟨h.1,?_⟩;rcases h.2 with h2|⟨g,cap,cur,hv,hg,r⟩
 .exact Or.inl h2
 .exact Or.inr ⟨g,cap,cur,hv,lT hb hg,r⟩
theorem news3 (W:Wz)(x y z:Wq)(T:Wk):∀j u,[x,y,z][j]?=some u->(W.alloc (.cells #[x,y,z] T)).cell? ((⟨W.heap.size,0,none⟩:Ww).add j)=some u:=by
 intro j u hj;rw [Addr.add_lit,cA (w:=W) _ _ W.heap.size _ rfl];simpa using hj
theorem one3 (nm:Int)(bd:ByteArray)(mk:Bool):∀u∈[Value.int .i64 nm,.string bd,.bool mk],u.oneCell'=true:=by
 intro u hu;simp at hu;rcases hu with rfl|rfl|rfl<;>rfl
theorem zw (A:Nat->Prop)(hv:Wq)(h:List Ver)(nm:Int)(bd:ByteArray)(mk:Bool)(w:Wz)(hh:aU A w hv h)(hl:h.length<=2199023255552):
  Calls Yq.prog 89 #[hv,.agg #[.int .i64 nm,.string bd,.bool mk]] w fun e w'=>∃va vl vc,e=.returned (.slice va vl vc)/\aU (fun b=>w.heap.size<=b) w' (.slice va vl vc) (h++[⟨nm,bd,mk⟩])/\Below w.heap.size w w':=by
 obtain ⟨i0,hi0,hz0,hz1,hz2⟩:=info_parts Yq.infoVer;have HCL:Hid (∀wq:Wz,Below w.heap.size w wq->Calls Yq.prog 96 #[hv] wq fun e w'=>∃v',e=.returned v'/\w'.ownsRow wq.heap.size 81 3 v' h.length (aD h)/\Below wq.heap.size wq w'):=fun wq hq=>
  ov A _ h wq (bH.keep hh (fun b hb hlt=>⟨hb,hq.block b hlt⟩)) hl
 obtain ⟨ha,hc,rfl,-⟩:=hh;have b1:Below w.heap.size w (w.alloc (.cells #[.int .i64 nm,.string bd,.bool mk] 81)):=(bR _ w).alloc (lR _) _;have HB1:Hid (Below w.heap.size w (w.alloc (.cells #[.int .i64 nm,.string bd,.bool mk] 81))):=b1;have B0:(w.alloc (.cells #[.int .i64 nm,.string bd,.bool mk] 81)).cell? ⟨w.heap.size,0,none⟩=some (.int .i64 nm):=by rw [cA (w:=w) _ _ w.heap.size 0 rfl];rfl
 have B1:(w.alloc (.cells #[.int .i64 nm,.string bd,.bool mk] 81)).cell? ⟨w.heap.size,1,none⟩=some (.string bd):=by rw [cA (w:=w) _ _ w.heap.size 1 rfl];rfl
 have B2:(w.alloc (.cells #[.int .i64 nm,.string bd,.bool mk] 81)).cell? ⟨w.heap.size,2,none⟩=some (.bool mk):=by rw [cA (w:=w) _ _ w.heap.size 2 rfl];rfl
 clear b1;go_enter (Yq.nq Tryz.func89),Tryz.ntmps89;go_wp2_with fail
 go_region_held3 (fun w'=>w'.cell? ⟨w.heap.size,0,none⟩=some (.int .i64 nm)/\w'.cell? ⟨w.heap.size,1,none⟩=some (.string bd)/\w'.cell? ⟨w.heap.size,2,none⟩=some (.bool mk)) (first|assumption|go_keep)
  (first
   |(refine ie rfl _ _ 114 rfl w.heap.size 81 i0 _ 3 32 (Yq.u Tryz.underlying114) hi0 hz0 hz1 hz2 rfl (by decide) (.slice va h.length vc) h.length (aD h) (by simp [Act.eval]) (hown.alloc _) ⟨w2.heap.size,0,none⟩ 1 1 [.int .i64 nm,.string bd,.bool mk] (by simp [Act.eval]) rfl (news3 _ _ _ _ _) (one3 _ _ _) (by simp only [maxLen];omega) (by omega) (lT hbs (by simp)) ?_;intro v2 w3 ho3 hg3;have hb3:Below w.heap.size w w3:=(hbw.alloc hbw.size _).grown hg3 (lT hbs (by simp)) (fun k e=>(hown.lt k e).1);have kS3:=nc hg3 hnb (by assumption))
   |(refine ie rfl _ _ 114 rfl w.heap.size 81 i0 _ 3 32 (Yq.u Tryz.underlying114) hi0 hz0 hz1 hz2 rfl (by decide) (.slice va h.length vc) h.length (aD h) (by simp [Act.eval]) hown ⟨w.heap.size+1,0,none⟩ 1 1 [.int .i64 nm,.string bd,.bool mk] (by simp [Act.eval]) rfl (fun j u hj=>ak hb (by have:=news3 (w.alloc (.cells #[.int .i64 nm,.string bd,.bool mk] 81)) _ _ _ 81 j u hj;simpa using this)) (one3 _ _ _) (by simp only [maxLen];omega) (by omega) hbs ?_;intro v2 w3 ho3 hg3;have hb3:Below w.heap.size w w3:=hbw.grown hg3 hbw.size (fun k e=>(hown.lt k e).1);have kS3:=nc hg3 hnb (by assumption))
   |(go_at_call 96;go_loud (refine (HCL.out _ ?_).mono ?_);go_loud (first|exact HB1.out|exact HB1.out.drew|exact (HB1.out.alloc (by simp) _).drew);rintro e w2 ⟨v',rfl,hown0,hb⟩;obtain ⟨va,vc,rfl,-⟩:=ay hown0;have hown:=jE (base':=w.heap.size) hown0 (by simp<;>omega);have hnb:(Value.slice va h.length vc).ownBlock≠some w.heap.size:=fun e=>absurd (hown0.lt _ e).1 (by simp<;>omega);have hbs:w.heap.size<=w2.heap.size:=lT (by simp<;>omega) hb.size;have hbw:Below w.heap.size w w2:=(by first|exact HB1.out.drew.trans (hb.mono HB1.out.size)|exact ((HB1.out.alloc (by simp) _).drew).trans (hb.mono (by simp<;>omega)));have kS:=BF hb (by assumption)))
 all_goals
  obtain ⟨va2,vc2,rfl,-⟩:=ay ho3;go_wp2;go_ret;have ho4:=ho3;rw [show aD h++[.int .i64 nm,.string bd,.bool mk]=aD (h++[⟨nm,bd,mk⟩]) from (pH h ⟨nm,bd,mk⟩).symm] at ho4;exact ⟨va2,h.length+1,vc2,rfl,kX (by simp) ho4 (fun j e=>(ho4.lt j e).1),hb3⟩
theorem Yq.infoU8:(Yq.prog.info? 5).map (fun i=>(i.zero,i.size,i.bytes))=some (some (.int .u8 0),1,1):=by kernel_rfl
theorem tY (s:ByteArray)(w:Wz)(hlim:s.size<=281474976710656):
  Calls Yq.prog 90 #[.string s] w fun e w'=>e=.returned (.string s)/\Below w.heap.size w w':=by
 by_cases h0:s.size=0
 .have hs:s=⟨#[]⟩:=by
   apply ByteArray.ext;exact Array.eq_empty_of_size_eq_zero h0
  subst hs;go_enter (Yq.nq Tryz.func90),Tryz.ntmps90;go_wp2;go_ret;exact ⟨rfl,bR _ _⟩
 .obtain ⟨i0,hi,hz0,hz1,hz2⟩:=info_parts Yq.infoU8;have hinfo:(Yq.prog.info? 5).map (·.size)=some 1:=by rw [hi];simp [hz1]
  have hco:Yq.prog.cellsOf 5=1:=by simp [Program.cellsOf,hi,hz1]
  obtain ⟨M,hM⟩:∃M,M=madeCells (Value.int .u8 0).cells (((s.size:Nat):Int).toNat * i0.size):=⟨_,rfl⟩;have hMs:M.size=s.size:=by rw [hM,size_madeCells,hz1];simp
  have hmk:∀W:Wz,(Instr.makeSlice 48 (.int .i64 (s.size:Int)) (.int .i64 (s.size:Int))).run Yq.prog W=.ok (.slice (some ⟨W.heap.size,0,none⟩) s.size s.size) (W.alloc (.cells M 5)):=fun W=>by
   have h:=run_make (P:=Yq.prog) W 48 5 i0 (.int .u8 0) (Yq.u Tryz.underlying48) hi hz0 .i64 .i64 (s.size:Int) (s.size:Int) (by omega) (by omega) (by rw [hz2];omega) (by omega);rw [<-hM] at h;simpa using h
  clear hM;have hcp:=Lib.run_copy_row_string (P:=Yq.prog) (w.alloc (.cells M 5)) 48 9 3 5 w.heap.size 0 s.size s.size s M 5 (Yq.u Tryz.underlying48) hinfo (heap_alloc_new w _) (lR _) (by omega);obtain ⟨Y,hY⟩:∃Y,Y=(M.toList.take 0++Lib.byteCells s.data.toList++M.toList.drop (0+s.size)).toArray:=⟨_,rfl⟩;rw [<-hY] at hcp;have hYl:Y.toList=Lib.byteCells s.data.toList:=by
   rw [hY,List.toList_toArray,List.take_zero,List.nil_append,List.drop_of_length_le (by rw [lY];omega),List.append_nil]
  have hYs:Y.size=s.size:=by rw [<-lY,hYl,Lib.byteCells_length,<-Lib.size_eq]
  have hgY:((w.alloc (.cells M 5)).setRow w.heap.size Y).heap[w.heap.size]?=some (.cells Y 5 (0,0)):=setRow_heap _ _ M _ 5 (0,0) (heap_alloc_new w _);have hne:s.data.toList≠[]:=fun e=>h0 (by rw [Lib.size_eq,e];rfl)
  have hUS:=Lib.run_unsafeString_row (P:=Yq.prog) ((w.alloc (.cells M 5)).setRow w.heap.size Y) 183 3 9 5 (Yq.u Tryz.underlying183) hco w.heap.size Y.size (by unfold World.shape?;rw [hgY]) s.data.toList hne (by rw [<-Lib.size_eq];omega) (by rw [<-Lib.size_eq];omega)
   (fun j x hx=>Lib.cells_of_row hgY Y.size j _ (by rw [tO (by rw [lY];exact lR _),hYl];simp [Lib.byteCells,hx]))
  rw [<-Lib.size_eq] at hUS;clear hY;go_enter (Yq.nq Tryz.func90),Tryz.ntmps90;go_wp2;go_ret;have hb1:Below w.heap.size w (w.alloc (.cells M 5)):=(bR _ w).alloc (lR _) _;have hb2:Below w.heap.size (w.alloc (.cells M 5)) ((w.alloc (.cells M 5)).setRow w.heap.size Y):=⟨rfl,rfl,rfl,by simp,fun k hk=>setRow_other _ _ _ _ (by omega)⟩;exact ⟨rfl,Lib.below_freeze (hb1.trans hb2) (p:=⟨w.heap.size,0,none⟩) (lR _) _⟩
theorem wY (s:ByteArray)(w:Wz)(hlim:s.size<=281474976710656):
  Calls Yq.prog 62 #[.string s] w fun e w'=>e=.returned (.string s)/\Below w.heap.size w w':=by
 go_enter (Yq.nq Tryz.func62),Tryz.ntmps62;go_wp2_with (go_at_call 90;refine (tY _ _ hlim).mono ?_;rintro e w' ⟨rfl,hb⟩)
 go_ret;exact ⟨rfl,hb⟩
structure St where
 f:List UInt8->List Ver
 count:Int
 last:Int
structure OpD where
 kind:Int
 key:ByteArray
 body:ByteArray
 delim:ByteArray
 past:ByteArray
 n:Int
 src:Int
structure Ev where
 code:Int
 ver:Int
 body:ByteArray
def cP (o:OpD):Wq:=.agg #[.int .i64 o.kind,.string o.key,.string o.body,.string o.delim,.string o.past,.int .i64 o.n,.int .i64 o.src]
def dk (a:Ev):Wq:=.agg #[.int .i64 a.code,.int .i64 a.ver,.string a.body,.slice none 0 0,.string ⟨#[]⟩]
def aY (k:ByteArray):Bool:=decide (1<=k.size/\k.size<=40)
def dB (st:St)(key:ByteArray)(body:ByteArray)(mark:Bool):St:=
 ⟨upd st.f key.data.toList (st.f key.data.toList++[⟨st.last+1,body,mark⟩]),st.count+1,st.last+1⟩
def dP (h:List Ver)(n:Int):Option Nat:=h.findIdx? (fun v=>v.num==n)
def dm (st:St)(key:ByteArray)(r:Nat):St:=
 ⟨upd st.f key.data.toList ((st.f key.data.toList).take r++(st.f key.data.toList).drop (r+1)),st.count-1,st.last⟩
def aL (st:St)(o:OpD):St×Ev:=
 let none:Ev:=⟨0,0,⟨#[]⟩⟩
 if o.kind=1 then
  if aY o.key=false then (st,{none with code:=2})
  else if 100<o.body.size then (st,{none with code:=3})
  else if 200<=st.count then (st,{none with code:=4})
  else (dB st o.key o.body false,{none with ver:=st.last+1})
 else if o.kind=2 then
  if aY o.key=false then (st,{none with code:=2})
  else match (st.f o.key.data.toList).getLast? with
   | .none=>(st,{none with code:=5})
   |some v=>if v.mark then (st,{none with code:=5}) else (st,⟨0,v.num,v.body⟩)
 else if o.kind=3 then
  if aY o.key=false then (st,{none with code:=2})
  else match dP (st.f o.key.data.toList) o.n with
   | .none=>(st,{none with code:=5})
   |some r=>match (st.f o.key.data.toList)[r]? with
    | .none=>(st,{none with code:=5})
    |some v=>if v.mark then (st,{none with code:=6}) else (st,⟨0,0,v.body⟩)
 else if o.kind=4 then
  if aY o.key=false then (st,{none with code:=2})
  else if 200<=st.count then (st,{none with code:=4})
  else (dB st o.key ⟨#[]⟩ true,{none with ver:=st.last+1})
 else if o.kind=5 then
  if aY o.key=false then (st,{none with code:=2})
  else match dP (st.f o.key.data.toList) o.n with
   | .none=>(st,{none with code:=5})
   |some r=>(dm st o.key r,none)
 else (st,{none with code:=1})
structure Inv (st:St)(s:Nat):Prop where
 last0:0<=st.last
 lastS:st.last<=s
 countL:-(s:Int)<=st.count
 countU:st.count<=s
 sorted:∀k i j,i<j->j<(st.f k).length->nums (st.f k) i<nums (st.f k) j
 bounds:∀k i,i<(st.f k).length->1<=nums (st.f k) i/\nums (st.f k) i<=st.last
theorem Inv.len_aux {st:St}{s:Nat}(h:Inv st s)(k:List UInt8):∀i,i<(st.f k).length->(i:Int)+1<=nums (st.f k) i:=by
 intro i;induction i with
 |zero=>intro hi;have:=(h.bounds k 0 hi).1;omega
 |succ i ih=>
  intro hi;have h1:=ih (by omega);have h2:=h.sorted k i (i+1) (by omega) hi;omega
theorem Inv.len {st:St}{s:Nat}(h:Inv st s)(k:List UInt8):(st.f k).length<=s:=by
 by_cases h0:(st.f k).length=0
 .omega
 .have h1:=h.len_aux k ((st.f k).length-1) (by omega);have h2:=(h.bounds k ((st.f k).length-1) (by omega)).2;have:=h.lastS;omega
theorem du {h:List Ver}{v:Ver}{i:Nat}(hi:i<h.length):nums (h++[v]) i=nums h i:=by
 simp [nums,List.getElem?_append_left hi]
theorem gB {h:List Ver}{v:Ver}:nums (h++[v]) h.length=v.num:=by simp [nums]
theorem Inv.mono {st:St}{s s':Nat}(h:Inv st s)(hs:s<=s'):Inv st s':=
 ⟨h.last0,by have:=h.lastS;omega,by have:=h.countL;omega,by have:=h.countU;omega,h.sorted,h.bounds⟩
theorem Inv.add {st:St}{s:Nat}(h:Inv st s)(key body:ByteArray)(mark:Bool):Inv (dB st key body mark) (s+1):=by
 refine ⟨by have:=h.last0;simp [dB];omega,by have:=h.lastS;simp [dB];omega,by have:=h.countL;simp [dB];omega,by have:=h.countU;simp [dB];omega,?_,?_⟩
 .intro k i j hij hj;by_cases hk:k=key.data.toList
  .subst hk;simp only [dB,upd,if_true] at hj ⊢;rw [lP,lS] at hj;by_cases hjl:j<(st.f key.data.toList).length
   .rw [du hjl,du (by omega)];exact h.sorted _ i j hij hjl
   .have hje:j=(st.f key.data.toList).length:=by omega
    subst hje;rw [gB,du hij];have:=(h.bounds key.data.toList i hij).2;simp only;omega
  .simp only [dB,upd,if_neg hk] at hj ⊢;exact h.sorted k i j hij hj
 .intro k i hi;by_cases hk:k=key.data.toList
  .subst hk;simp only [dB,upd,if_true] at hi ⊢;rw [lP,lS] at hi;by_cases hil:i<(st.f key.data.toList).length
   .rw [du hil];have:=h.bounds _ i hil;omega
   .have hie:i=(st.f key.data.toList).length:=by omega
    subst hie;rw [gB];have:=h.last0;simp only;omega
  .simp only [dB,upd,if_neg hk] at hi ⊢;have:=h.bounds k i hi;omega
theorem pI {h:List Ver}{r i:Nat}(hr:r<h.length):nums (h.take r++h.drop (r+1)) i=nums h (if i<r then i else i+1):=by
 unfold nums;have hl:(h.take r).length=r:=by rw [tL];omega
 by_cases hi:i<r
 .rw [if_pos hi,List.getElem?_append_left (by omega),List.getElem?_take,if_pos hi]
 .rw [if_neg hi,aR (by omega),hl,List.getElem?_drop];congr 3;omega
theorem Inv.drop {st:St}{s:Nat}(h:Inv st s)(key:ByteArray)(r:Nat)(hr:r<(st.f key.data.toList).length):Inv (dm st key r) (s+1):=by
 refine ⟨h.last0,by have:=h.lastS;simp [dm];omega,by have:=h.countL;simp [dm];omega,by have:=h.countU;simp [dm];omega,?_,?_⟩
 .intro k i j hij hj;by_cases hk:k=key.data.toList
  .subst hk;simp only [dm,upd,if_true] at hj ⊢;rw [lP,tL,lD] at hj;rw [pI hr,pI hr];exact h.sorted _ _ _ (by split<;>split<;>omega) (by split<;>omega)
  .simp only [dm,upd,if_neg hk] at hj ⊢;exact h.sorted k i j hij hj
 .intro k i hi;by_cases hk:k=key.data.toList
  .subst hk;simp only [dm,upd,if_true] at hi ⊢;rw [lP,tL,lD] at hi;rw [pI hr];exact h.bounds _ _ (by split<;>omega)
  .simp only [dm,upd,if_neg hk] at hi ⊢;exact h.bounds k i hi
theorem BG {h:List Ver}{n:Int}{r:Nat}(hp:zu h n r)(hs:∀i j,i<j->j<h.length->nums h i<nums h j):dP h n=if wW h n r then some r else none:=by
 unfold dP;cases hat:wW h n r with
 |true=>
  have:=of_decide_eq_true hat;obtain ⟨hr,hn⟩:=this;simp only [if_true];rw [List.findIdx?_eq_some_iff_getElem];refine ⟨hr,?_,fun j hj=>?_⟩
  .rw [nb hr] at hn;simp [hn]
  .have:=hp.lo j (by omega) hj;rw [nb (by omega)] at this;simp;omega
 |false=>
  simp only [Bool.false_eq_true,if_false];rw [List.findIdx?_eq_none_iff];intro v hv;obtain ⟨j,hj,e⟩:=gM hv;have hne:=of_decide_eq_false hat;have hj':nums h j=v.num:=by rw [nb hj,e]
  by_cases hjr:j<r
  .have:=hp.lo j hj hjr;simp;omega
  .have h1:=hp.hi r (by omega) (lR _);by_cases hjr2:j=r
   .subst hjr2;have:¬nums h j=n:=fun e=>hne ⟨hj,e⟩
    simp;omega
   .have h2:=hs r j (by omega) hj;simp;omega
structure az (A:Nat->Prop)(w:Wz)(k0:Nat)(st:St):Prop where
 avoid:∀b,A b->b≠k0
 tree:∃p,w.cell? ⟨k0,0,none⟩=some (.pointer p)/\ai A 41 w p st.f
 count:w.cell? ⟨k0,1,none⟩=some (.int .i64 st.count)
 last:w.cell? ⟨k0,2,none⟩=some (.int .i64 st.last)
 frozen:∀j,w.frozen? ⟨k0,j,none⟩=false
theorem pJ {w w1:Wz}{k0:Nat}(h:w.grownBy w1 (some k0))(o:Nat)(v:Wq):w.grownBy (w1.setCell ⟨k0,o,none⟩ v) (some k0):=
 ⟨h.os,h.tape,h.output,by have:=h.size;simp [World.setCell];omega,fun k hk hr=>(bS _ _ _ _ (fun e=>hr (by rw [e]))).trans (h.block k hk hr)⟩
theorem pK {w w1:Wz}{r:Option Nat}(h:w.grownBy w1 r){b:Nat}(hb:w.heap.size<=b)(o:Nat)(v:Wq):w.grownBy (w1.setCell ⟨b,o,none⟩ v) r:=
 ⟨h.os,h.tape,h.output,by have:=h.size;simp [World.setCell];omega,fun k hk hr=>(bS _ _ _ _ (by show k≠b;omega)).trans (h.block k hk hr)⟩
theorem az.lt {A:Nat->Prop}{w:Wz}{k0:Nat}{st:St}(S:az A w k0 st):k0<w.heap.size:=bC w _ S.count
theorem DV {A:Nat->Prop}{w w':Wz}{k0:Nat}(hg:w.grownBy w' (some k0))(ha:∀b,A b->b≠k0):∀b,A b->b<w.heap.size->A b/\w'.heap[b]?=w.heap[b]?:=
 fun b h1 h2=>⟨h1,hg.block b h2 (by intro e;cases e;exact ha k0 h1 rfl)⟩
theorem az.on {A:Nat->Prop}{w w':Wz}{k0:Nat}{st:St}(S:az A w k0 st)(hb:Below w.heap.size w w'):az A w' k0 st:=by
 obtain ⟨p,c0,hN⟩:=S.tree;exact ⟨S.avoid,⟨p,ak hb c0,hN.on hb⟩,ak hb S.count,ak hb S.last,fun j=>(hb.frozen (p:=⟨k0,j,none⟩) S.lt).trans (S.frozen j)⟩
theorem az.grow {A:Nat->Prop}{w:Wz}{k0:Nat}{st:St}(S:az A w k0 st):az (Grow A w) w k0 st:=by
 obtain ⟨p,c0,hN⟩:=S.tree;refine ⟨?_,⟨p,c0,ai.keep (fun b h1 h2=>⟨Or.inl ⟨h1,h2⟩,rfl⟩) _ _ _ hN⟩,S.count,S.last,S.frozen⟩;rintro b (⟨h,_⟩|h)
 .exact S.avoid b h
 .have:=S.lt;omega
def dE:Ver:=⟨0,⟨#[]⟩,false⟩
theorem jF (key:ByteArray)(w:Wz)(h:key.size<=maxLen):Calls Yq.prog 59 #[.string key] w fun e w'=>e=.returned (.bool (aY key))/\w=w':=by
 unfold maxLen at h;by_cases h1:1<=key.size
 .by_cases h2:key.size<=40
  .have e:aY key=true:=by simp [aY,h1,h2]
   go_enter (Yq.nq Tryz.func59),Tryz.ntmps59;go_wp2;go_ret;exact ⟨by simp [e]<;>omega,rfl⟩
  .have e:aY key=false:=by simp [aY,h2]
   go_enter (Yq.nq Tryz.func59),Tryz.ntmps59;go_wp2;go_ret;exact ⟨by simp [e]<;>omega,rfl⟩
 .go_enter (Yq.nq Tryz.func59),Tryz.ntmps59;go_wp2;go_ret;exact ⟨by simp [aY]<;>omega,rfl⟩
def nd (st:St):Bool:=decide (200<=st.count)
theorem oy (k0:Nat)(st:St)(w:Wz)(hc:w.cell? ⟨k0,1,none⟩=some (.int .i64 st.count))(hl:w.cell? ⟨k0,2,none⟩=some (.int .i64 st.last))(h0:0<=st.last)(h1:st.last<=2199023255552):Calls Yq.prog 60 #[.pointer (some ⟨k0,0,none⟩)] w fun e w'=>e=.returned (.bool (nd st))/\w=w':=by
 have hne:(st.last==9223372036854775807)=false:=by simp;omega
 by_cases hf:200<=st.count
 .have e:nd st=true:=by simp [nd,hf]
  have hd:decide (200<=st.count)=true:=by simp [hf]
  rw [e];go_enter (Yq.nq Tryz.func60),Tryz.ntmps60;go_wp2;go_ret;exact ⟨rfl,rfl⟩
 .have e:nd st=false:=by simp [nd,hf]
  have hd:decide (200<=st.count)=false:=by simp [hf]
  rw [e];go_enter (Yq.nq Tryz.func60),Tryz.ntmps60;go_wp2;go_ret;exact ⟨rfl,rfl⟩
theorem fO {key:ByteArray}(h:aY key=true):key.size<41/\key.size<=1000:=by
 have:=of_decide_eq_true h;omega
def BH (A:Nat->Prop)(st:St)(key:ByteArray)(n:Int)(w:Wz)(e:Ending)(w':Wz):Prop:=
  Below w.heap.size w w' /\
  ((aY key=false/\e=.returned (.tuple #[.slice none 0 0,.int .i64 0,.int .i64 2])) \/
   (aY key=true/\dP (st.f key.data.toList) n=none/\e=.returned (.tuple #[.slice none 0 0,.int .i64 0,.int .i64 5])) \/
   (aY key=true/\∃ (r:Nat) (ha:Option Ww) (hc:Nat),dP (st.f key.data.toList) n=some r/\r<(st.f key.data.toList).length/\aU A w' (.slice ha (st.f key.data.toList).length hc) (st.f key.data.toList) /\
      e=.returned (.tuple #[.slice ha (st.f key.data.toList).length hc,.int .i64 r,.int .i64 0])))
theorem rB (A:Nat->Prop)(k0:Nat)(st:St)(s:Nat)(key:ByteArray)(n:Int)(w:Wz)(hk:key.size<=maxLen)(S:az A w k0 st)(hI:Inv st s)(hs:s<=2199023255552):
  Calls Yq.prog 65 #[.pointer (some ⟨k0,0,none⟩),.string key,.int .i64 n] w (BH A st key n w):=by
 obtain ⟨p,c0,hN⟩:=S.tree;have HIK:=jF key w hk;cases hkey:aY key with
 |false=>
  rw [hkey] at HIK;have HK:Hid (aY key=false):=hkey;clear hkey;go_enter (Yq.nq Tryz.func65),Tryz.ntmps65;go_wp2_with (go_at_call 59;refine HIK.mono ?_;rintro e w' ⟨rfl,rfl⟩)
  go_ret3
  exact ⟨bR _ _,Or.inl ⟨HK.out,rfl⟩⟩
 |true=>
  rw [hkey] at HIK;have HK:Hid (aY key=true):=hkey;have hsz:=fO hkey;clear hkey;have HG:=mg A 41 p st.f key w hsz.1 hk hN;have hle:=hI.len key.data.toList;have hso:=hI.sorted key.data.toList;clear hN;go_enter (Yq.nq Tryz.func65),Tryz.ntmps65;go_wp2_with (go_at_call 59;refine HIK.mono ?_;rintro e w' ⟨rfl,rfl⟩)
  refine HG.mono ?_;rintro e w1 ⟨hv,rfl,hh,hb1⟩;have HF:=zv A hv (st.f key.data.toList) n w1 hh hso (by omega);obtain ⟨ha,hc,rfl,-⟩:=id hh;have HH:Hid (aU A w1 (.slice ha (st.f key.data.toList).length hc) (st.f key.data.toList)/\∀i j,i<j->j<(st.f key.data.toList).length->nums (st.f key.data.toList) i<nums (st.f key.data.toList) j):=⟨hh,hso⟩;clear hh hso HG;go_wp2_with fail
  refine HF.mono ?_;rintro e w2 ⟨r,hp,rfl,hb2⟩;have hpl:=BG hp HH.out.2;have HB:Hid (Below w.heap.size w w2):=hb1.trans (hb2.mono hb1.size);cases hat:wW (st.f key.data.toList) n r with
  |true=>
   rw [hat] at hpl;have HP:Hid (dP (st.f key.data.toList) n=some r/\r<(st.f key.data.toList).length):=⟨by simpa using hpl,(of_decide_eq_true hat).1⟩;clear hpl hp HF hat;go_wp2
   go_ret3
   exact ⟨HB.out,Or.inr (Or.inr ⟨HK.out,r,ha,hc,HP.out.1,HP.out.2,HH.out.1.on hb2,rfl⟩)⟩
  |false=>
   rw [hat] at hpl;have HP:Hid (dP (st.f key.data.toList) n=none):=show dP (st.f key.data.toList) n=none by simpa using hpl
   clear hpl hp HF hat;go_wp2
   go_ret3
   exact ⟨HB.out,Or.inr (Or.inl ⟨HK.out,HP.out,rfl⟩)⟩
theorem oz (nm:Int)(bd:ByteArray)(mk:Bool)(w:Wz):(Instr.field 81 (.agg #[.int .i64 nm,.string bd,.bool mk]) 2).run Yq.prog w=.ok (.bool mk) w:=by kernel_rfl
def jG (st:St)(key:ByteArray):Ver×Int:=
 if aY key=false then (dE,2)
 else match (st.f key.data.toList).getLast? with
  |none=>(dE,5)
  |some v=>if v.mark then (dE,5) else (v,0)
theorem BI (A:Nat->Prop)(k0:Nat)(st:St)(s:Nat)(key:ByteArray)(w:Wz)(hk:key.size<=maxLen)(S:az A w k0 st)(hI:Inv st s)(hs:s<=2199023255552):
  Calls Yq.prog 36 #[.pointer (some ⟨k0,0,none⟩),.string key] w fun e w'=>e=.returned (.tuple #[bV (jG st key).1,.int .i64 (jG st key).2])/\Below w.heap.size w w':=by
 have B0:Below w.heap.size w (w.alloc (.cells #[.int .i64 0,.string ⟨#[]⟩,.bool false] 81)):=(bR _ w).alloc (lR _) _;have S1:=S.on B0;obtain ⟨p,c0,hN⟩:=S1.tree;have HIK:=jF key (w.alloc (.cells #[.int .i64 0,.string ⟨#[]⟩,.bool false] 81)) hk;have a0:(w.alloc (.cells #[.int .i64 0,.string ⟨#[]⟩,.bool false] 81)).cell? ⟨w.heap.size,0,none⟩=some (.int .i64 0):=by rw [cA (w:=w) _ _ w.heap.size 0 rfl];rfl
 have a1:(w.alloc (.cells #[.int .i64 0,.string ⟨#[]⟩,.bool false] 81)).cell? ⟨w.heap.size,1,none⟩=some (.string ⟨#[]⟩):=by rw [cA (w:=w) _ _ w.heap.size 1 rfl];rfl
 have a2:(w.alloc (.cells #[.int .i64 0,.string ⟨#[]⟩,.bool false] 81)).cell? ⟨w.heap.size,2,none⟩=some (.bool false):=by rw [cA (w:=w) _ _ w.heap.size 2 rfl];rfl
 have af:∀j,(w.alloc (.cells #[.int .i64 0,.string ⟨#[]⟩,.bool false] 81)).frozen? ⟨w.heap.size,j,none⟩=false:=fun j=>World.frozen?_alloc_at (w:=w) _ _ w.heap.size j rfl
 have HB0:Hid (Below w.heap.size w (w.alloc (.cells #[.int .i64 0,.string ⟨#[]⟩,.bool false] 81))):=B0;have alt:w.heap.size<(w.alloc (.cells #[.int .i64 0,.string ⟨#[]⟩,.bool false] 81)).heap.size:=by simp
 clear B0 S S1;cases hkey:aY key with
 |false=>
  rw [hkey] at HIK;have HR:Hid (jG st key=(dE,2)):=show jG st key=(dE,2) by simp [jG,hkey]
  clear hkey;go_enter (Yq.nq Tryz.func36),Tryz.ntmps36;go_wp2_with (go_at_call 59;refine HIK.mono ?_;rintro e w' ⟨rfl,rfl⟩)
  refine bodyPost_ret (v:=.tuple #[bV (jG st key).1,.int .i64 (jG st key).2]) (by rw [HR.out];simp [results,Tryz.results36,go_sem,bV,dE]) rfl ⟨rfl,?_⟩;exact HB0.out
 |true=>
  rw [hkey] at HIK;have hsz:=fO hkey;have HK:Hid (aY key=true):=hkey;clear hkey;have HG:=mg A 41 p st.f key _ hsz.1 hk hN;have hle:=hI.len key.data.toList;clear hN;go_enter (Yq.nq Tryz.func36),Tryz.ntmps36;go_wp2_with (go_at_call 59;refine HIK.mono ?_;rintro e w' ⟨rfl,rfl⟩)
  refine HG.mono ?_;generalize w.alloc (.cells #[.int .i64 0,.string ⟨#[]⟩,.bool false] 81)=W0 at *;rintro e w1 ⟨hv,rfl,hh,hb1⟩;have d0:=ak hb1 a0;have d1:=ak hb1 a1;have d2:=ak hb1 a2;have g0:=(hb1.frozen (p:=⟨w.heap.size,0,none⟩) alt).trans (af 0);have g1:=(hb1.frozen (p:=⟨w.heap.size,1,none⟩) alt).trans (af 1);have g2:=(hb1.frozen (p:=⟨w.heap.size,2,none⟩) alt).trans (af 2);have hb:Below w.heap.size w w1:=HB0.out.trans (hb1.mono HB0.out.size);have alt1:w.heap.size<w1.heap.size:=lL alt hb1.size;have HB:Hid (Below w.heap.size w w1):=hb;clear hb hb1 a0 a1 a2 af alt HB0 HIK HG c0;by_cases hnil:st.f key.data.toList=[]
  .have HR:Hid (jG st key=(dE,5)):=show jG st key=(dE,5) by simp [jG,HK.out,hnil]
   have he:(st.f key.data.toList).isEmpty=true:=by rw [hnil];rfl
   clear hh hnil;go_wp2;refine bodyPost_ret (v:=.tuple #[bV (jG st key).1,.int .i64 (jG st key).2]) (by rw [HR.out];simp [results,Tryz.results36,go_sem,bV,dE,d0,d1,d2]) rfl ⟨rfl,?_⟩;exact ((HB.out.setCell (lR _) _).setCell (lR _) _).setCell (lR _) _
  .have HN:Hid (∀wq:Wz,Below w1.heap.size w1 wq->Calls Yq.prog 64 #[hv] wq fun e w'=>e=.returned (bV ((st.f key.data.toList).getLast hnil))/\Below wq.heap.size wq w'):=fun wq hq=>
    km A hv _ wq (hh.on hq) hnil (by omega)
   have he:(st.f key.data.toList).isEmpty=false:=by simp [hnil]
   obtain ⟨v,hv'⟩:∃v,v=(st.f key.data.toList).getLast hnil:=⟨_,rfl⟩;have hgl:(st.f key.data.toList).getLast?=some v:=by rw [hv',List.getLast?_eq_some_getLast hnil]
   have HR:Hid (jG st key=if v.mark then (dE,5) else (v,0)):=show jG st key=_ by simp [jG,HK.out,hgl]
   rw [<-hv'] at HN;obtain ⟨nm,bd,mk⟩:=v;obtain ⟨ha,hc,rfl,-⟩:=hh;clear hnil hv' hgl;have hfm:=oz nm bd;cases mk with
   |true=>
    go_wp2_with fail
    refine (HN.out w1 (bR _ _)).mono ?_;rintro e w2 ⟨rfl,hb2⟩;have e0:=ak hb2 d0;have e1:=ak hb2 d1;have e2:=ak hb2 d2;have f0:=(hb2.frozen (p:=⟨w.heap.size,0,none⟩) alt1).trans g0;have f1:=(hb2.frozen (p:=⟨w.heap.size,1,none⟩) alt1).trans g1;have f2:=(hb2.frozen (p:=⟨w.heap.size,2,none⟩) alt1).trans g2;simp only [bV];go_wp2;refine bodyPost_ret (v:=.tuple #[bV (jG st key).1,.int .i64 (jG st key).2]) (by rw [HR.out];simp [results,Tryz.results36,go_sem,bV,dE,e0,e1,e2]) rfl ⟨rfl,?_⟩;exact (((HB.out.trans (hb2.mono HB.out.size)).setCell (lR _) _).setCell (lR _) _).setCell (lR _) _
   |false=>
    go_wp2_with fail
    refine (HN.out w1 (bR _ _)).mono ?_;rintro e w2 ⟨rfl,hb2⟩;simp only [bV];go_wp2_with fail
    refine (HN.out w2 hb2).mono ?_;rintro e w3 ⟨rfl,hb3⟩;have hb4:Below w1.heap.size w1 w3:=hb2.trans (hb3.mono hb2.size);have e0:=ak hb4 d0;have e1:=ak hb4 d1;have e2:=ak hb4 d2;have f0:=(hb4.frozen (p:=⟨w.heap.size,0,none⟩) alt1).trans g0;have f1:=(hb4.frozen (p:=⟨w.heap.size,1,none⟩) alt1).trans g1;have f2:=(hb4.frozen (p:=⟨w.heap.size,2,none⟩) alt1).trans g2;have HB4:Hid (Below w1.heap.size w1 w3):=hb4;clear hb2 hb3 hb4 d0 d1 d2 g0 g1 g2;simp only [bV];go_wp2;refine bodyPost_ret (v:=.tuple #[bV (jG st key).1,.int .i64 (jG st key).2]) (by rw [HR.out];simp [results,Tryz.results36,go_sem,bV,e0,e1,e2]) rfl ⟨rfl,?_⟩;exact (((HB.out.trans (HB4.out.mono HB.out.size)).setCell (lR _) _).setCell (lR _) _).setCell (lR _) _
end
