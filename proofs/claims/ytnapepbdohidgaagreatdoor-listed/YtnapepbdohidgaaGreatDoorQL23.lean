/- A part. -/
import Derived.Test.YtnapepbdohidgaaGreatDoorQL21
import Derived.Test.YtnapepbdohidgaaGreatDoorQL22
set_option maxHeartbeats 4000000
set_option maxRecDepth 100000
open Go renaming World->Wj,Value->Wx
namespace Go.Proofs.Qw
open Tryz
section
open Go.RowKit
theorem DI (B k:Nat)(sl:Wx)(R:List br)(nx tm:Int)(st:St)(s:Nat)(key:ByteArray)(c:Int)(a:ByteArray)(b:Bool)(w:Wj)(H:ax B w k sl R nx tm)(S:Sim st R nx)(e:Low st s)(hs:s<2199023255552)(d:B<=w.heap.size):
  Calls Yq.prog 81 #[.pointer (some ⟨k,0,none⟩),.string key,.agg #[.int .i64 c,.string a,.bool b]] w (bL B k (if 200<=st.count then st else cw st key a b) (if 200<=st.count then ⟨4,0,⟨#[]⟩⟩ else ⟨0,st.last+1,⟨#[]⟩⟩) w sl R tm):=by
 by_cases h:200<=st.count
 .rw [if_pos h,if_pos h];exact Bt B k sl R nx tm st key c a b w H S h
 .rw [if_neg h,if_neg h];exact Bu B k sl R nx tm st s key c a b w H S e hs d h
theorem DJ (B k:Nat)(sl:Wx)(R:List br)(nx tm:Int)(st:St)(o:OpD)(w:Wj)(H:ax B w k sl R nx tm)(S:Sim st R nx)(a:o.kind=2\/o.kind=3\/o.kind=5)(hk:aI o.key=true)(d:B<=w.heap.size):
  Calls Yq.prog 82 #[.pointer (some ⟨k,0,none⟩),bh o] w (bL B k (ay st o).1 (ay st o).2 w sl R tm):=by
 by_cases hno:∀x∈R,x.key≠o.key
 .exact Bw B k sl R nx tm st o w H S a hk hno
 .have:∃ (i:Nat) (h:i<R.length),R[i].key=o.key:=by
   rw [Classical.not_forall] at hno;obtain ⟨x,hx⟩:=hno;rw [Classical.not_imp,Classical.not_not] at hx;obtain ⟨i,c,rfl⟩:=gM hx.1;exact ⟨i,c,hx.2⟩
  obtain ⟨i,c,b⟩:=this;rcases a with h|h|h
  .exact DF B k sl R nx tm st o w H S h hk i c b
  .exact Bx B k sl R nx tm st o w H S h hk i c b
  .exact yy B k sl R nx tm st o w H S h hk i c b d
theorem Em (w:Wj)(cs:Array Wx)(x0 x1 x2 b x4:Wx):∃a z,((w.alloc (.cells cs 31)).alloc (.cells #[x0,x1,x2,b,x4] 36)).heap[w.heap.size+1]?=some (.cells a 36 z):=
 ⟨#[x0,x1,x2,b,x4],(0,0),by have:=heap_alloc_new (w.alloc (.cells cs 31)) (.cells #[x0,x1,x2,b,x4] 36);rwa [show (w.alloc (.cells cs 31)).heap.size=w.heap.size+1 by simp] at this⟩
theorem yz (B k:Nat)(sl:Wx)(R:List br)(nx tm:Int)(st:St)(o:OpD)(w:Wj)(H:ax B w k sl R nx tm)(S:Sim st R nx)(hB:B<=w.heap.size)(c:o.kind=2\/o.kind=3\/o.kind=5)(hk:aI o.key=true):
  Calls Yq.prog 52 #[.pointer (some ⟨k,0,none⟩),bh o] w (bL B k (ay st o).1 (ay st o).2 w sl R tm):=by
 have hk':=of_decide_eq_true hk;obtain ⟨hk1,hk2⟩:=hk';have h1:¬o.kind=1:=by omega
 have h4:¬o.kind=4:=by omega
 have R0:=DD (w.alloc (.cells #[.int .i64 o.kind,.string o.key,.string o.body,.string o.delim,.string o.past,.int .i64 o.n,.int .i64 o.src] 31)) (w.heap.size+1) (by simp) 36;have HC:=DJ B k sl R nx tm st o ((w.alloc (.cells #[.int .i64 o.kind,.string o.key,.string o.body,.string o.delim,.string o.past,.int .i64 o.n,.int .i64 o.src] 31)).alloc (.cells #[.int .i64 0,.int .i64 0,.string ⟨#[]⟩,.slice none 0 0,.string ⟨#[]⟩] 36)) ((H.alloc _).alloc _) S c hk (by simp;omega);obtain ⟨a,key,body,b,d,l,f⟩:=o;simp only at h1 h4 hk1 hk2 HC R0;have b1:(a==1)=false:=by simp [h1]
 have b4:(a==4)=false:=by simp [h4]
 have HH:Hid (ax B w k sl R nx tm):=H;have j:Hid (iY (w.heap.size+1) ((w.alloc (.cells #[.int .i64 a,.string key,.string body,.string b,.string d,.int .i64 l,.int .i64 f] 31)).alloc (.cells #[.int .i64 0,.int .i64 0,.string ⟨#[]⟩,.slice none 0 0,.string ⟨#[]⟩] 36))):=R0;clear H S c hk R0 h1 h4;generalize ay st ⟨a,key,body,b,d,l,f⟩=s at *;obtain ⟨m,r,q,p⟩:=s;simp only at HC ⊢;unfold bL;unfold bL at HC;simp only [bh,aA] at HC ⊢;go_enter (Yq.nq func52),ntmps52;go_wp2_with fail
 refine HC.mono ?_;rintro e w2 ⟨rfl,sl',R',h,H',S',F⟩;obtain ⟨d0,d1,d2,d3,d4,i⟩:=j.out.frame F (HH.out.old (by omega));have g0:=i 0;have g1:=i 1;have g2:=i 2;have g3:=i 3;have g4:=i 4;have HE:Hid (ax B w2 k sl' R' h tm/\Sim m R' h/\bg ((w.alloc (.cells #[.int .i64 a,.string key,.string body,.string b,.string d,.int .i64 l,.int .i64 f] 31)).alloc (.cells #[.int .i64 0,.int .i64 0,.string ⟨#[]⟩,.slice none 0 0,.string ⟨#[]⟩] 36)) w2 k sl R):=⟨H',S',F⟩;clear HC H' S' F i;go_wp2;refine bodyPost_ret (v:=aA ⟨r,q,p⟩) (by simp [results,results52,go_sem,aA,d0,d1,d2,d3,d4]) rfl ⟨rfl,?_⟩;obtain ⟨e1,e2⟩:=El HH.out (x:=w.heap.size+1) (((bR _ w).alloc (lR _) _).alloc (by simp) _) (by omega) j.out.lt (Em w _ _ _ _ _ _) HE.out.1 HE.out.2.2 (.int .i64 r) (.int .i64 q) (.string p) (.slice none 0 0) (.string ⟨#[]⟩);exact ⟨sl',R',h,e1,HE.out.2.1,e2⟩
theorem yA {st:St}{o:OpD}(hkind:1<=o.kind/\o.kind<=5)(hk:aI o.key=false):ay st o=(st,⟨2,0,⟨#[]⟩⟩):=by
 have h:o.kind=1\/o.kind=2\/o.kind=3\/o.kind=4\/o.kind=5:=by omega
 rcases h with h|h|h|h|h<;>simp [ay,h,hk]
theorem uU {st:St}{o:OpD}(a:o.kind=1)(hk:aI o.key=true)(hb:100<o.body.size):ay st o=(st,⟨3,0,⟨#[]⟩⟩):=by
 simp [ay,a,hk,hb]
theorem sZ {st:St}{o:OpD}(a:o.kind=1)(hk:aI o.key=true)(hb:¬100<o.body.size)(hl:¬st.last=9223372036854775807):ay st o=(if 200<=st.count then st else cw st o.key o.body false,if 200<=st.count then ⟨4,0,⟨#[]⟩⟩ else ⟨0,st.last+1,⟨#[]⟩⟩):=by
 by_cases h:200<=st.count<;>simp [ay,a,hk,hb,h,hl]
theorem qA {st:St}{o:OpD}(a:o.kind=4)(hk:aI o.key=true)(hl:¬st.last=9223372036854775807):ay st o=(if 200<=st.count then st else cw st o.key ⟨#[]⟩ true,if 200<=st.count then ⟨4,0,⟨#[]⟩⟩ else ⟨0,st.last+1,⟨#[]⟩⟩):=by
 by_cases h:200<=st.count<;>simp [ay,a,hk,h,hl]
theorem tc (B k:Nat)(sl:Wx)(R:List br)(nx tm:Int)(st:St)(o:OpD)(c:Int)(w:Wj)(H:ax B w k sl R nx tm)(S:Sim st R nx)(hc:(c=2/\aI o.key=false)\/(c=3/\o.kind=1/\aI o.key=true/\100<o.body.size)):
  Calls Yq.prog 52 #[.pointer (some ⟨k,0,none⟩),bh o] w (bL B k st ⟨c,0,⟨#[]⟩⟩ w sl R tm):=by
 have R0:=DD (w.alloc (.cells #[.int .i64 o.kind,.string o.key,.string o.body,.string o.delim,.string o.past,.int .i64 o.n,.int .i64 o.src] 31)) (w.heap.size+1) (by simp) 36;obtain ⟨d,key,body,i,j,p,m⟩:=o;simp only at hc R0;have l:(c=2/\key.size<1)\/(c=2/\¬key.size<1/\40<key.size)\/(c=3/\d=1/\¬key.size<1/\¬40<key.size/\100<body.size):=by
  rcases hc with ⟨h1,h2⟩|⟨h1,h2,h3,h4⟩
  .have:=of_decide_eq_false h2;by_cases h:key.size<1
   .exact Or.inl ⟨h1,h⟩
   .exact Or.inr (Or.inl ⟨h1,h,by omega⟩)
  .have:=of_decide_eq_true h3;exact Or.inr (Or.inr ⟨h1,h2,by omega,by omega,h4⟩)
 have HH:Hid (ax B w k sl R nx tm/\Sim st R nx):=⟨H,S⟩;have f:Hid (iY (w.heap.size+1) ((w.alloc (.cells #[.int .i64 d,.string key,.string body,.string i,.string j,.int .i64 p,.int .i64 m] 31)).alloc (.cells #[.int .i64 0,.int .i64 0,.string ⟨#[]⟩,.slice none 0 0,.string ⟨#[]⟩] 36))):=R0;have hkw:=H.lt;clear H S R0 hc;unfold bL;simp only [bh,aA];rcases l with ⟨rfl,h1⟩|⟨rfl,h1,h2⟩|⟨rfl,rfl,h1,h2,h3⟩
 .have h0:key.size=0:=by omega
  go_enter (Yq.nq func52),ntmps52;go_wp2_with fail
  refine (eA 2 _).mono ?_;rintro e w2 ⟨rfl,b⟩;have HB:Hid (Below w.heap.size w w2):=(((bR _ w).alloc (lR _) _).alloc (by simp) _).trans (b.mono (by simp;omega));obtain ⟨d0,d1,d2,d3,d4,a⟩:=f.out.on b;have g0:=a 0;have g1:=a 1;have g2:=a 2;have g3:=a 3;have g4:=a 4;clear b a;unfold aA;go_wp2;refine bodyPost_ret (v:=aA ⟨2,0,⟨#[]⟩⟩) (by simp [results,results52,go_sem,aA,d0,d1,d2,d3,d4]) rfl ⟨rfl,?_⟩;have hb:=cT HB.out (x:=w.heap.size+1) (by omega) (.int .i64 2) (.int .i64 0) (.string ⟨#[]⟩) (.slice none 0 0) (.string ⟨#[]⟩);exact ⟨sl,R,nx,HH.out.1.below hb,HH.out.2,ba hkw hb _ _⟩
 .go_enter (Yq.nq func52),ntmps52;go_wp2_with fail
  refine (eA 2 _).mono ?_;rintro e w2 ⟨rfl,b⟩;have HB:Hid (Below w.heap.size w w2):=(((bR _ w).alloc (lR _) _).alloc (by simp) _).trans (b.mono (by simp;omega));obtain ⟨d0,d1,d2,d3,d4,a⟩:=f.out.on b;have g0:=a 0;have g1:=a 1;have g2:=a 2;have g3:=a 3;have g4:=a 4;clear b a;unfold aA;go_wp2;refine bodyPost_ret (v:=aA ⟨2,0,⟨#[]⟩⟩) (by simp [results,results52,go_sem,aA,d0,d1,d2,d3,d4]) rfl ⟨rfl,?_⟩;have hb:=cT HB.out (x:=w.heap.size+1) (by omega) (.int .i64 2) (.int .i64 0) (.string ⟨#[]⟩) (.slice none 0 0) (.string ⟨#[]⟩);exact ⟨sl,R,nx,HH.out.1.below hb,HH.out.2,ba hkw hb _ _⟩
 .go_enter (Yq.nq func52),ntmps52;go_wp2_with fail
  refine (eA 3 _).mono ?_;rintro e w2 ⟨rfl,b⟩;have HB:Hid (Below w.heap.size w w2):=(((bR _ w).alloc (lR _) _).alloc (by simp) _).trans (b.mono (by simp;omega));obtain ⟨d0,d1,d2,d3,d4,a⟩:=f.out.on b;have g0:=a 0;have g1:=a 1;have g2:=a 2;have g3:=a 3;have g4:=a 4;clear b a;unfold aA;go_wp2;refine bodyPost_ret (v:=aA ⟨3,0,⟨#[]⟩⟩) (by simp [results,results52,go_sem,aA,d0,d1,d2,d3,d4]) rfl ⟨rfl,?_⟩;have hb:=cT HB.out (x:=w.heap.size+1) (by omega) (.int .i64 3) (.int .i64 0) (.string ⟨#[]⟩) (.slice none 0 0) (.string ⟨#[]⟩);exact ⟨sl,R,nx,HH.out.1.below hb,HH.out.2,ba hkw hb _ _⟩
theorem pk (B k:Nat)(sl:Wx)(R:List br)(nx tm:Int)(st:St)(s:Nat)(o:OpD)(r:ByteArray)(t:Bool)(w:Wj)(H:ax B w k sl R nx tm)(S:Sim st R nx)(z:Low st s)(hs:s<2199023255552)(hB:B<=w.heap.size)(hk:aI o.key=true)
  (hc:(o.kind=1/\¬100<o.body.size/\r=o.body/\t=false)\/(o.kind=4/\r=⟨#[]⟩/\t=true)):
  Calls Yq.prog 52 #[.pointer (some ⟨k,0,none⟩),bh o] w (bL B k (if 200<=st.count then st else cw st o.key r t) (if 200<=st.count then ⟨4,0,⟨#[]⟩⟩ else ⟨0,st.last+1,⟨#[]⟩⟩) w sl R tm):=by
 have hk':=of_decide_eq_true hk;obtain ⟨hk1,hk2⟩:=hk';have R0:=DD (w.alloc (.cells #[.int .i64 o.kind,.string o.key,.string o.body,.string o.delim,.string o.past,.int .i64 o.n,.int .i64 o.src] 31)) (w.heap.size+1) (by simp) 36;have HC:=DI B k sl R nx tm st s o.key 0 r t ((w.alloc (.cells #[.int .i64 o.kind,.string o.key,.string o.body,.string o.delim,.string o.past,.int .i64 o.n,.int .i64 o.src] 31)).alloc (.cells #[.int .i64 0,.int .i64 0,.string ⟨#[]⟩,.slice none 0 0,.string ⟨#[]⟩] 36)) ((H.alloc _).alloc _) S z hs (by simp;omega);obtain ⟨d,key,body,b,f,y,j⟩:=o;simp only at hk1 hk2 HC R0 hc;have HH:Hid (ax B w k sl R nx tm):=H;have l:Hid (iY (w.heap.size+1) ((w.alloc (.cells #[.int .i64 d,.string key,.string body,.string b,.string f,.int .i64 y,.int .i64 j] 31)).alloc (.cells #[.int .i64 0,.int .i64 0,.string ⟨#[]⟩,.slice none 0 0,.string ⟨#[]⟩] 36))):=R0;clear H S hk R0 z hs;generalize (if 200<=st.count then st else cw st key r t)=m at *;generalize (if 200<=st.count then (⟨4,0,⟨#[]⟩⟩:yU) else ⟨0,st.last+1,⟨#[]⟩⟩)=A at *;obtain ⟨q,u,p⟩:=A;unfold bL;unfold bL at HC;simp only [bh,aA] at HC ⊢;have h:∀w2,Hid (∃sl' R' a,ax B w2 k sl' R' a tm/\Sim m R' a/\bg ((w.alloc (.cells #[.int .i64 d,.string key,.string body,.string b,.string f,.int .i64 y,.int .i64 j] 31)).alloc (.cells #[.int .i64 0,.int .i64 0,.string ⟨#[]⟩,.slice none 0 0,.string ⟨#[]⟩] 36)) w2 k sl R) ->
   ∃sl' R' a,ax B (((((w2.setCell ⟨w.heap.size+1,0,none⟩ (.int .i64 q)).setCell ⟨w.heap.size+1,1,none⟩ (.int .i64 u)).setCell ⟨w.heap.size+1,2,none⟩ (.string p)).setCell ⟨w.heap.size+1,3,none⟩ (.slice none 0 0)).setCell ⟨w.heap.size+1,4,none⟩ (.string ⟨#[]⟩)) k sl' R' a tm/\Sim m R' a /\
    bg w (((((w2.setCell ⟨w.heap.size+1,0,none⟩ (.int .i64 q)).setCell ⟨w.heap.size+1,1,none⟩ (.int .i64 u)).setCell ⟨w.heap.size+1,2,none⟩ (.string p)).setCell ⟨w.heap.size+1,3,none⟩ (.slice none 0 0)).setCell ⟨w.heap.size+1,4,none⟩ (.string ⟨#[]⟩)) k sl R:=fun w2 C=>by
  obtain ⟨sl',R',a,H',S',F⟩:=C.out;obtain ⟨e1,e2⟩:=El HH.out (x:=w.heap.size+1) (((bR _ w).alloc (lR _) _).alloc (by simp) _) (by omega) l.out.lt (Em w _ _ _ _ _ _) H' F (.int .i64 q) (.int .i64 u) (.string p) (.slice none 0 0) (.string ⟨#[]⟩);exact ⟨sl',R',a,e1,S',e2⟩
 have KEY2:Hid (∀w2,Hid (∃sl' R' a,ax B w2 k sl' R' a tm/\Sim m R' a/\bg ((w.alloc (.cells #[.int .i64 d,.string key,.string body,.string b,.string f,.int .i64 y,.int .i64 j] 31)).alloc (.cells #[.int .i64 0,.int .i64 0,.string ⟨#[]⟩,.slice none 0 0,.string ⟨#[]⟩] 36)) w2 k sl R)->_):=h;clear h;rcases hc with ⟨rfl,hbd,rfl,rfl⟩|⟨rfl,rfl,rfl⟩
 .go_enter (Yq.nq func52),ntmps52;go_wp2_with fail
  refine HC.mono ?_;rintro e w2 ⟨rfl,sl',R',a,H',S',F⟩;obtain ⟨d0,d1,d2,d3,d4,c⟩:=l.out.frame F (HH.out.old (by omega));have g0:=c 0;have g1:=c 1;have g2:=c 2;have g3:=c 3;have g4:=c 4;have HE:=KEY2.out w2 ⟨sl',R',a,H',S',F⟩;have i:Hid _:=HE;clear HC H' S' F c HE KEY2;go_wp2;exact bodyPost_ret (v:=aA ⟨q,u,p⟩) (by simp [results,results52,go_sem,aA,d0,d1,d2,d3,d4]) rfl ⟨rfl,i.out⟩
 .go_enter (Yq.nq func52),ntmps52;go_wp2_with fail
  refine HC.mono ?_;rintro e w2 ⟨rfl,sl',R',a,H',S',F⟩;obtain ⟨d0,d1,d2,d3,d4,c⟩:=l.out.frame F (HH.out.old (by omega));have g0:=c 0;have g1:=c 1;have g2:=c 2;have g3:=c 3;have g4:=c 4;have HE:=KEY2.out w2 ⟨sl',R',a,H',S',F⟩;have i:Hid _:=HE;clear HC H' S' F c HE KEY2;go_wp2;exact bodyPost_ret (v:=aA ⟨q,u,p⟩) (by simp [results,results52,go_sem,aA,d0,d1,d2,d3,d4]) rfl ⟨rfl,i.out⟩
theorem yB (B k:Nat)(sl:Wx)(R:List br)(nx tm:Int)(st:St)(s:Nat)(o:OpD)(w:Wj)(H:ax B w k sl R nx tm)(S:Sim st R nx)(b:Low st s)(hs:s<2199023255552)(c:B<=w.heap.size)(a:1<=o.kind/\o.kind<=5):
  Calls Yq.prog 52 #[.pointer (some ⟨k,0,none⟩),bh o] w (bL B k (ay st o).1 (ay st o).2 w sl R tm):=by
 cases hk:aI o.key with
 |false=>rw [yA a hk];exact tc B k sl R nx tm st o 2 w H S (Or.inl ⟨rfl,hk⟩)
 |true=>
  have h:o.kind=1\/o.kind=4\/o.kind=2\/o.kind=3\/o.kind=5:=by omega
  rcases h with h|h|h
  .by_cases hb:100<o.body.size
   .rw [uU h hk hb];exact tc B k sl R nx tm st o 3 w H S (Or.inr ⟨rfl,h,hk,hb⟩)
   .rw [sZ h hk hb (by have:=b.lastS;omega)];exact pk B k sl R nx tm st s o o.body false w H S b hs c hk (Or.inl ⟨h,hb,rfl,rfl⟩)
  .rw [qA h hk (by have:=b.lastS;omega)];exact pk B k sl R nx tm st s o ⟨#[]⟩ true w H S b hs c hk (Or.inr ⟨h,rfl,rfl⟩)
  .exact yz B k sl R nx tm st o w H S c h hk
end
