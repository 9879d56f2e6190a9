/- A part. -/
import Derived.Test.YtnapepbdohidgaaGreatDoorQL12
import Derived.Test.YtnapepbdohidgaaGreatDoorChecked
import Derived.ProofKit
import Derived.SizedLaws
import Derived.Deep.Slices
import Derived.ChangeMaps5
import Derived.LaidMore
import Derived.Stop.Joined
import Derived.OpenShut
import Derived.MapKept
import Derived.Carry
set_option maxHeartbeats 4000000
set_option maxRecDepth 100000
open Go renaming World->Wj,Value->Wx,Program->Wv,TypeId->Ww,Addr->Wu
namespace Go.Proofs.Qw
open Tryz
section
open Go.RowKit
theorem j8.more {w W0:Wj}(h:j8 w W0)(o:Obj):j8 w (W0.alloc o):=by
 have hb:Below W0.heap.size W0 (W0.alloc o):=(bR _ _).alloc (lR _) _;exact ⟨h.below.trans (hb.mono h.below.size),lL h.lt hb.size,ai hb h.c0,ai hb h.c1,ai hb h.c2,ai hb h.c3,ai hb h.c4,fun j=>(hb.frozen (p:=⟨w.heap.size+1,j,none⟩) h.lt).trans (h.fz j)⟩
theorem yd {w w1:Wj}(h:Below w.heap.size w w1)(x0 x1 x2 a x4:Wx)(o:Obj):Below w.heap.size w ((((((w1.setCell ⟨w.heap.size+1,0,none⟩ x0).setCell ⟨w.heap.size+1,1,none⟩ x1).setCell ⟨w.heap.size+1,2,none⟩ x2).setCell ⟨w.heap.size+1,3,none⟩ a).setCell ⟨w.heap.size+1,4,none⟩ x4).alloc o):=by
 have hx:w.heap.size<=w.heap.size+1:=by omega
 have h5:=((((h.setCell (p:=⟨w.heap.size+1,0,none⟩) hx x0).setCell (p:=⟨w.heap.size+1,1,none⟩) hx x1).setCell (p:=⟨w.heap.size+1,2,none⟩) hx x2).setCell (p:=⟨w.heap.size+1,3,none⟩) hx a).setCell (p:=⟨w.heap.size+1,4,none⟩) hx x4;exact h5.alloc h5.size o
theorem ye {w w1:Wj}(h:Below w.heap.size w w1)(y0 y1 a x0 x1 x2 b x4:Wx):Below w.heap.size w ((((((((w1.setCell ⟨w.heap.size+1+1,0,none⟩ y0).setCell ⟨w.heap.size+1+1,1,none⟩ y1).setCell ⟨w.heap.size+1+1,2,none⟩ a).setCell ⟨w.heap.size+1,0,none⟩ x0).setCell ⟨w.heap.size+1,1,none⟩ x1).setCell ⟨w.heap.size+1,2,none⟩ x2).setCell ⟨w.heap.size+1,3,none⟩ b).setCell ⟨w.heap.size+1,4,none⟩ x4):=by
 have hx:w.heap.size<=w.heap.size+1:=by omega
 have hy:w.heap.size<=w.heap.size+1+1:=by omega
 have h3:=((h.setCell (p:=⟨w.heap.size+1+1,0,none⟩) hy y0).setCell (p:=⟨w.heap.size+1+1,1,none⟩) hy y1).setCell (p:=⟨w.heap.size+1+1,2,none⟩) hy a;exact ((((h3.setCell (p:=⟨w.heap.size+1,0,none⟩) hx x0).setCell (p:=⟨w.heap.size+1,1,none⟩) hx x1).setCell (p:=⟨w.heap.size+1,2,none⟩) hx x2).setCell (p:=⟨w.heap.size+1,3,none⟩) hx b).setCell (p:=⟨w.heap.size+1,4,none⟩) hx x4
theorem yg {w w1:Wj}(h:Below w.heap.size w w1)(x0 x1 x2 a x4:Wx):Below w.heap.size w (((((w1.setCell ⟨w.heap.size+1,0,none⟩ x0).setCell ⟨w.heap.size+1,1,none⟩ x1).setCell ⟨w.heap.size+1,2,none⟩ x2).setCell ⟨w.heap.size+1,3,none⟩ a).setCell ⟨w.heap.size+1,4,none⟩ x4):=by
 have hx:w.heap.size<=w.heap.size+1:=by omega
 exact ((((h.setCell (p:=⟨w.heap.size+1,0,none⟩) hx x0).setCell (p:=⟨w.heap.size+1,1,none⟩) hx x1).setCell (p:=⟨w.heap.size+1,2,none⟩) hx x2).setCell (p:=⟨w.heap.size+1,3,none⟩) hx a).setCell (p:=⟨w.heap.size+1,4,none⟩) hx x4
theorem j8.to {w W0 w1:Wj}(h:j8 w W0)(hb:Below W0.heap.size W0 w1):j8 w w1:=
 ⟨h.below.trans (hb.mono h.below.size),lL h.lt hb.size,ai hb h.c0,ai hb h.c1,ai hb h.c2,ai hb h.c3,ai hb h.c4,fun j=>(hb.frozen (p:=⟨w.heap.size+1,j,none⟩) h.lt).trans (h.fz j)⟩
theorem j8.put {w w1:Wj}(h:j8 w w1)(b o:Nat)(v:Wx)(hb:w.heap.size+1<b):j8 w (w1.setCell ⟨b,o,none⟩ v):=by
 have hne:∀j,(w1.setCell ⟨b,o,none⟩ v).cell? ⟨w.heap.size+1,j,none⟩=w1.cell? ⟨w.heap.size+1,j,none⟩:=fun j=>cO w1 ⟨b,o,none⟩ ⟨w.heap.size+1,j,none⟩ v (fun e=>by have:=congrArg Addr.block e;simp only at this;omega)
 exact ⟨h.below.setCell (p:=⟨b,o,none⟩) (by simp only;omega) v,by have:=h.lt;simpa [World.setCell] using this,(hne 0).trans h.c0,(hne 1).trans h.c1,(hne 2).trans h.c2,(hne 3).trans h.c3,(hne 4).trans h.c4,fun j=>fs (h.fz j)⟩
theorem j8.put3 {w w1:Wj}(h:j8 w w1)(x y z:Wx):j8 w (((w1.setCell ⟨w.heap.size+1+1,0,none⟩ x).setCell ⟨w.heap.size+1+1,1,none⟩ y).setCell ⟨w.heap.size+1+1,2,none⟩ z):=
 ((h.put _ 0 x (by omega)).put _ 1 y (by omega)).put _ 2 z (by omega)
theorem ss (w:Wj)(x y z:Wx)(T:Ww)(b:Nat)(hb:w.heap.size=b):aQ (w.alloc (.cells #[x,y,z] T)).drew b x y z:=by
 subst hb;have h:=fX w x y z T;exact ⟨h.c0,h.c1,h.c2,h.fz⟩
theorem yh (A:Nat->Prop)(k0:Nat)(st:St)(s:Nat)(o:OpD)(w:Wj)(hk:o.key.size<=maxLen)(S:aF A w k0 st)(q:Inv st s)(hs:s<2199023255340)(f:o.kind=2):
  Calls Yq.prog 33 #[.pointer (some ⟨k0,0,none⟩),bh o] w (dq A w k0 st (aA ⟨(jR st o.key).2,(jR st o.key).1.num,(jR st o.key).1.body⟩)):=by
 obtain ⟨kind,key,body,b,c,n,i⟩:=o;simp only at f hk;subst f;have R0:=(GA w #[.int .i64 2,.string key,.string body,.string b,.string c,.int .i64 n,.int .i64 i]);have HC:Hid (∀W1,Below w.heap.size w W1->Calls Yq.prog 36 #[.pointer (some ⟨k0,0,none⟩),.string key] W1 fun e w'=>e=.returned (.tuple #[bZ (jR st key).1,.int .i64 (jR st key).2])/\Below W1.heap.size W1 w'):=fun W1 hb=>CW A k0 st s key W1 hk (S.on hb) q (by omega)
 have HS:Hid (aF A w k0 st):=S;have h:Hid (j8 w ((w.alloc (.cells #[.int .i64 2,.string key,.string body,.string b,.string c,.int .i64 n,.int .i64 i] 31)).alloc (.cells #[.int .i64 0,.int .i64 0,.string ⟨#[]⟩,.slice none 0 0,.string ⟨#[]⟩] 36)).drew):=R0.drew;have d:Hid (j8 w (((w.alloc (.cells #[.int .i64 2,.string key,.string body,.string b,.string c,.int .i64 n,.int .i64 i] 31)).alloc (.cells #[.int .i64 0,.int .i64 0,.string ⟨#[]⟩,.slice none 0 0,.string ⟨#[]⟩] 36)).alloc (.cells #[.int .i64 0,.string ⟨#[]⟩,.bool false] 81)).drew/\aQ (((w.alloc (.cells #[.int .i64 2,.string key,.string body,.string b,.string c,.int .i64 n,.int .i64 i] 31)).alloc (.cells #[.int .i64 0,.int .i64 0,.string ⟨#[]⟩,.slice none 0 0,.string ⟨#[]⟩] 36)).alloc (.cells #[.int .i64 0,.string ⟨#[]⟩,.bool false] 81)).drew (w.heap.size+1+1) (.int .i64 0) (.string ⟨#[]⟩) (.bool false)):=⟨(R0.more _).drew,(ss _ _ _ _ _ _ (by simp))⟩;have hk0:=S.lt;clear R0 S;simp only [bh];generalize jR st key=p at *;obtain ⟨⟨k,j,m⟩,code⟩:=p;simp only [bZ] at HC;go_enter (Yq.nq func33),ntmps33;go_wp2_with fail
 go_region_with (first
  |(go_at_call 36;refine (HC.out _ h.out.below).mono ?_;rintro e w1 ⟨rfl,a⟩;obtain ⟨⟨d0,d1,d2,d3,d4⟩,g0,g1,g2,g3,g4⟩:=h.out.on hk0 (aS a (some k0));have HX:Hid (Below w.heap.size w w1):=h.out.below.trans (a.mono h.out.below.size);have hlt:w.heap.size+1<w1.heap.size:=lL h.out.lt a.size;clear a)
  |(go_at_call 36;refine (HC.out _ d.out.1.below).mono ?_;rintro e w1 ⟨rfl,a⟩;obtain ⟨⟨d0,d1,d2,d3,d4⟩,g0,g1,g2,g3,g4⟩:=d.out.1.on hk0 (aS a (some k0));obtain ⟨v0,v1,v2,l⟩:=d.out.2.on a;have f0:=l 0;have f1:=l 1;have f2:=l 2;have HX:Hid (Below w.heap.size w w1):=d.out.1.below.trans (a.mono d.out.1.below.size);have hlt:w.heap.size+1<w1.heap.size:=lL d.out.1.lt a.size;clear a))
 .go_wp2;refine bodyPost_ret (v:=aA ⟨code,k,j⟩) (by simp [results,results33,go_sem,aA,d0,d1,d2,d3,d4,hlt]) rfl ?_;exact bj HS.out (yd HX.out _ _ _ _ _ _)
 all_goals
  go_wp2;refine bodyPost_ret (v:=aA ⟨code,k,j⟩) (by simp [results,results33,go_sem,aA,d0,d1,d2,d3,d4]) rfl ?_;have hend:=ye HX.out (.int .i64 k) (.string j) (.bool m) (.int .i64 code) (.int .i64 k) (.string j) (.slice none 0 0) (.string ⟨#[]⟩);exact bj HS.out hend
theorem uA (A:Nat->Prop)(k0:Nat)(st:St)(s:Nat)(o:OpD)(w:Wj)(hk:o.key.size<=maxLen)(S:aF A w k0 st)(y:Inv st s)(hs:s<2199023255340)(d:o.kind=3):
  Calls Yq.prog 33 #[.pointer (some ⟨k0,0,none⟩),bh o] w (dq A w k0 st (aA ⟨(ed st o.key o.n).2,0,(ed st o.key o.n).1.body⟩)):=by
 obtain ⟨kind,key,body,a,c,n,f⟩:=o;simp only at d hk;subst d;have R0:=(GA w #[.int .i64 3,.string key,.string body,.string a,.string c,.int .i64 n,.int .i64 f]);have HC:Hid (∀W1,Below w.heap.size w W1->Calls Yq.prog 37 #[.pointer (some ⟨k0,0,none⟩),.string key,.int .i64 n] W1 fun e w'=>e=.returned (.tuple #[bZ (ed st key n).1,.int .i64 (ed st key n).2])/\Below W1.heap.size W1 w'):=fun W1 hb=>AH A k0 st s key n W1 hk (S.on hb) y (by omega)
 have HS:Hid (aF A w k0 st):=S;have j:Hid (j8 w ((w.alloc (.cells #[.int .i64 3,.string key,.string body,.string a,.string c,.int .i64 n,.int .i64 f] 31)).alloc (.cells #[.int .i64 0,.int .i64 0,.string ⟨#[]⟩,.slice none 0 0,.string ⟨#[]⟩] 36)).drew):=R0.drew;have i:Hid (j8 w (((w.alloc (.cells #[.int .i64 3,.string key,.string body,.string a,.string c,.int .i64 n,.int .i64 f] 31)).alloc (.cells #[.int .i64 0,.int .i64 0,.string ⟨#[]⟩,.slice none 0 0,.string ⟨#[]⟩] 36)).alloc (.cells #[.int .i64 0,.string ⟨#[]⟩,.bool false] 81)).drew/\aQ (((w.alloc (.cells #[.int .i64 3,.string key,.string body,.string a,.string c,.int .i64 n,.int .i64 f] 31)).alloc (.cells #[.int .i64 0,.int .i64 0,.string ⟨#[]⟩,.slice none 0 0,.string ⟨#[]⟩] 36)).alloc (.cells #[.int .i64 0,.string ⟨#[]⟩,.bool false] 81)).drew (w.heap.size+1+1) (.int .i64 0) (.string ⟨#[]⟩) (.bool false)):=⟨(R0.more _).drew,(ss _ _ _ _ _ _ (by simp))⟩;have hk0:=S.lt;clear R0 S;simp only [bh];generalize ed st key n=x at *;obtain ⟨⟨t,k,r⟩,code⟩:=x;simp only [bZ] at HC;go_enter (Yq.nq func33),ntmps33
 go_upto_region 9 with fail
 go_cut [9,10] (fun s9 s10 u=>s10=.int .i64 code/\∃m,s9=.pointer (some ⟨m,0,none⟩)/\aQ u m (.int .i64 t) (.string k) (.bool r)/\w.heap.size+1<m/\j8 w u)
 case first=>
  go_region_with (first
   |(go_at_call 37;refine (HC.out _ j.out.below).mono ?_;rintro e w1 ⟨rfl,b⟩;have HX:Hid (j8 w w1):=j.out.to b;have hlt:w.heap.size+1<w1.heap.size:=lL j.out.lt b.size;clear b)
   |(go_at_call 37;refine (HC.out _ i.out.1.below).mono ?_;rintro e w1 ⟨rfl,b⟩;obtain ⟨v0,v1,v2,q⟩:=i.out.2.on b;have f0:=q 0;have f1:=q 1;have f2:=q 2;have HV:Hid (aQ w1 (w.heap.size+1+1) (.int .i64 0) (.string ⟨#[]⟩) (.bool false)/\j8 w w1):=⟨⟨v0,v1,v2,q⟩,i.out.1.to b⟩;clear b))
  all_goals
   go_wp2_with fail
   go_meet
   case rel=>
    first
     |exact ⟨rfl,w.heap.size+1+1,rfl,((HV.out.1.set0 (.int .i64 t)).set1 (.string k)).set2 (.bool r),by omega,HV.out.2.put3 (.int .i64 t) (.string k) (.bool r)⟩
     |exact ⟨rfl,w1.heap.size,rfl,fX w1 (.int .i64 t) (.string k) (.bool r) 81,hlt,HX.out.more _⟩
 case rest=>
 obtain ⟨rfl,m,rfl,⟨v0,v1,v2,-⟩,hbv,h⟩:=hcut;have hne:¬m=w.heap.size+1:=by omega
 have hlt:=h.lt;obtain ⟨p,-,d0,d1,d2,d3,d4,l⟩:=h;have g0:=l 0;have g1:=l 1;have g2:=l 2;have g3:=l 3;have g4:=l 4;have HX:Hid (Below w.heap.size w wc):=p;clear p l;go_wp2;refine bodyPost_ret (v:=aA ⟨code,0,k⟩) (by simp [results,results33,go_sem,aA,d0,d1,d2,d3,d4]) rfl ?_;have hend:=yg HX.out (.int .i64 code) (.int .i64 0) (.string k) (.slice none 0 0) (.string ⟨#[]⟩);exact bj HS.out hend
theorem kO (st:St)(o:OpD)(h:o.kind=1):ay st o=((mN st o.key o.body).1,⟨(mN st o.key o.body).2.2,(mN st o.key o.body).2.1,⟨#[]⟩⟩):=by
 unfold ay mN jj;rw [if_pos h];by_cases h1:aI o.key=false
 .simp [h1]
 .by_cases h2:100<o.body.size
  .simp [h1,h2]
  .by_cases h3:200<=st.count\/st.last=9223372036854775807
   .simp [h1,h2,h3]
   .simp [h1,h2,h3]
theorem oT (st:St)(o:OpD)(h:o.kind=2):ay st o=(st,⟨(jR st o.key).2,(jR st o.key).1.num,(jR st o.key).1.body⟩):=by
 unfold ay jR;rw [if_neg (by omega),if_pos h];by_cases h1:aI o.key=false
 .simp [h1,dL]
 .cases h2:(st.f o.key.data.toList).getLast? with
  |none=>simp [h1,dL]
  |some v=>cases h3:v.mark<;>simp [h1,h3,dL]
theorem nN (st:St)(o:OpD)(h:o.kind=3):ay st o=(st,⟨(ed st o.key o.n).2,0,(ed st o.key o.n).1.body⟩):=by
 unfold ay ed;rw [if_neg (by omega),if_neg (by omega),if_pos h];by_cases h1:aI o.key=false
 .simp [h1,dL]
 .cases h2:ci (st.f o.key.data.toList) o.n with
  |none=>simp [h1,dL]
  |some r=>
   cases h4:(st.f o.key.data.toList)[r]? with
   |none=>simp [h1,h4,dL]
   |some v=>cases h3:v.mark<;>simp [h1,h3,h4,dL]
theorem jq (st:St)(o:OpD)(h:o.kind=4):ay st o=((fj st o.key).1,⟨(fj st o.key).2.2,(fj st o.key).2.1,⟨#[]⟩⟩):=by
 unfold ay fj jj;rw [if_neg (by omega),if_neg (by omega),if_neg (by omega),if_pos h];by_cases h1:aI o.key=false
 .simp [h1]
 .by_cases h3:200<=st.count\/st.last=9223372036854775807
  .simp [h1,h3]
  .simp [h1,h3]
theorem lQ (st:St)(o:OpD)(h:o.kind=5):ay st o=((d7 st o.key o.n).1,⟨(d7 st o.key o.n).2,0,⟨#[]⟩⟩):=by
 unfold ay d7;rw [if_neg (by omega),if_neg (by omega),if_neg (by omega),if_neg (by omega),if_pos h];by_cases h1:aI o.key=false
 .simp [h1]
 .cases h2:ci (st.f o.key.data.toList) o.n<;>simp [h1]
theorem yi (A:Nat->Prop)(k0:Nat)(st:St)(s:Nat)(o:OpD)(w:Wj)(hk:o.key.size<=maxLen)(b:o.body.size<=maxLen)(S:aF A w k0 st)(a:Inv st s)(hs:s<2199023255340)(h6:o.kind<6\/12<o.kind):
  Calls Yq.prog 33 #[.pointer (some ⟨k0,0,none⟩),bh o] w (dq A w k0 (ay st o).1 (aA (ay st o).2)):=by
 by_cases h1:o.kind=1
 .rw [kO st o h1];exact yc A k0 st s o w hk b S a hs h1
 by_cases h2:o.kind=2
 .rw [oT st o h2];exact yh A k0 st s o w hk S a hs h2
 by_cases h3:o.kind=3
 .rw [nN st o h3];exact uA A k0 st s o w hk S a hs h3
 by_cases h4:o.kind=4
 .rw [jq st o h4];exact uz A k0 st s o w hk S a hs h4
 by_cases h5:o.kind=5
 .rw [lQ st o h5];exact sk A k0 st s o w hk S a hs h5
 .have e:ay st o=(st,⟨1,0,⟨#[]⟩⟩):=by unfold ay;simp [h1,h2,h3,h4,h5]
  rw [e];exact sp A k0 st o w S (by omega)
theorem Inv.step {st:St}{s:Nat}(h:Inv st s)(o:OpD):Inv (ay st o).1 (s+1):=by
 by_cases h1:o.kind=1
 .rw [kO st o h1];unfold mN
  (repeat' split)<;>first|exact h.mono (by omega)|exact h.add _ _ _ (fun e=>by simp_all [jj])
 by_cases h2:o.kind=2
 .rw [oT st o h2];exact h.mono (by omega)
 by_cases h3:o.kind=3
 .rw [nN st o h3];exact h.mono (by omega)
 by_cases h4:o.kind=4
 .rw [jq st o h4];unfold fj
  (repeat' split)<;>first|exact h.mono (by omega)|exact h.add _ _ _ (fun e=>by simp_all [jj])
 by_cases h5:o.kind=5
 .rw [lQ st o h5];unfold d7;split
  .exact h.mono (by omega)
  .split
   .exact h.mono (by omega)
   .rename_i r hr;exact h.drop _ _ (List.findIdx?_eq_some_iff_getElem.1 hr).1
 .have e:ay st o=(st,⟨1,0,⟨#[]⟩⟩):=by unfold ay;simp [h1,h2,h3,h4,h5]
  rw [e];exact h.mono (by omega)
def st0:St:=⟨fun _=>[],0,0⟩
def AI (st:St):List OpD->List yU
 | []=>[]
 |o::r=>(ay st o).2::AI (ay st o).1 r
def Ho (ops:List OpD):List yU:=AI st0 ops
theorem inv0:Inv st0 0:=by
 refine ⟨by simp [st0],by simp [st0],by simp [st0],by simp [st0],fun k=>by simp [st0],?_,?_⟩
 .intro k i j _ a;simp [st0] at a
 .intro k i b;simp [st0] at b
def bK (o:OpD):List Wx:=[.int .i64 o.kind,.string o.key,.string o.body,.string o.delim,.string o.past,.int .i64 o.n,.int .i64 o.src]
def De (l:List yU):List Wx:=l.flatMap fun a=>[.int .i64 a.code,.int .i64 a.ver,.string a.body,.slice none 0 0,.string ⟨#[]⟩]
def gz (w:Wj)(b off:Nat)(ops:List OpD):Prop:=
 ∀i (h:i<ops.length),w.cell? ⟨b,off+i * 7,none⟩=some (.int .i64 ops[i].kind)/\w.cell? ⟨b,off+i * 7+1,none⟩=some (.string ops[i].key)/\w.cell? ⟨b,off+i * 7+2,none⟩=some (.string ops[i].body) /\
  w.cell? ⟨b,off+i * 7+3,none⟩=some (.string ops[i].delim)/\w.cell? ⟨b,off+i * 7+4,none⟩=some (.string ops[i].past)/\w.cell? ⟨b,off+i * 7+5,none⟩=some (.int .i64 ops[i].n)/\w.cell? ⟨b,off+i * 7+6,none⟩=some (.int .i64 ops[i].src)
def Sized (ops:List OpD):Prop:=∀o∈ops,o.key.size<=maxLen/\o.body.size<=maxLen
theorem Yq.infoAns:(Yq.prog.info? 36).map (fun i=>(i.zero,i.size,i.bytes))=some (some (.agg #[.int .i64 0,.int .i64 0,.string ⟨#[]⟩,.slice none 0 0,.string ⟨#[]⟩]),5,72):=by kernel_rfl
theorem mr {P:Wv}{ops:Array Oper}{o:Oper}{a:Act}{w:Wj}{K:Act->Wj->Prop}{Q:Exit->Act->Wj->Prop}{E:Prop}
  (hg:o.guard=none) (s x:Operand) (t:Ww) (h:o.op=Op.call {callee:=Callee.builtin Builtin.append,args:=#[s,x],argTypes:=#[t,t]})
  (f:Nat) (e:Ww) (i:TypeInfo) (d:Nat) (h1:P.underlying t=some (.slice e)) (h2:P.info? e=some i) (h4:i.size=d)
  (g k cap:Nat) (xs:List Wx) (hs:a.eval s=.slice (some ⟨g,0,none⟩) k cap) (hown:w.ownsRow f e d (.slice (some ⟨g,0,none⟩) k cap) k xs) (n:Wu) (m c:Nat) (b:List Wx) (hx:a.eval x=.slice (some n) m c) (hn:b.length=m * d)
  (hc:∀j u,b[j]?=some u->w.cell? (n.add j)=some u) (l:∀u∈b,u.oneCell'=true) (b1:k+m<=cap)
  (p:∀w',w'.ownsRow f e d (.slice (some ⟨g,0,none⟩) (k+m) cap) (k+m) (xs++b)->w.grownBy w' (some g)->K (a.put o.dst (.slice (some ⟨g,0,none⟩) (k+m) cap)) w'):
  if Region.wanted o (yielded ops a.tmps)=true then Oper.wp P o a w K Q else E:=by
 have hw:Region.wanted o (yielded ops a.tmps)=true:=by simp [Region.wanted,hg]
 rw [if_pos hw];obtain ⟨w',hrun,r1,r2⟩:=run_append_fits (P:=P) w f t o.type e i d h1 h2 h4 g k cap xs hown n m c b hn hc l b1;unfold Oper.wp;simp [execOp,h,resolve,invoke,builtin,hs,hx,hrun,Result.andThen];exact p w' r1 r2
theorem oU (w:Wj)(x0 x1 x2 a x4:Wx)(T:Ww):∀j u,[x0,x1,x2,a,x4][j]?=some u->(w.alloc (.cells #[x0,x1,x2,a,x4] T)).cell? ((⟨w.heap.size,0,none⟩:Wu).add j)=some u:=by
 intro j u b;rw [Addr.add_lit,cA (w:=w) _ _ w.heap.size _ rfl];simpa using b
theorem qq (w:Wj)(xs:Array Wx)(T:Ww)(j:Nat):(w.alloc (.cells xs T)).cell? ⟨w.heap.size,j,none⟩=xs[j]?:=cA (w:=w) _ _ w.heap.size j rfl
theorem FB (a:Option Wu)(cap:Nat)(w:Wj):
  Calls Yq.prog 18 #[.slice a 0 cap] w fun e w'=>∃g,e=.returned (.slice (some ⟨g,0,none⟩) 0 0) /\
   w'.ownsRow w.heap.size 36 5 (.slice (some ⟨g,0,none⟩) 0 0) 0 (De (Ho []))/\Below w.heap.size w w':=by
 obtain ⟨i0,i,h,d,l⟩:=info_parts Yq.infoAns;go_enter (Yq.nq func18),ntmps18;go_wp2_with (at_make;refine wpList_make_own _ rfl _ _ 27 rfl w.heap.size 36 i0 _ 5 (Yq.u underlying27) i h d _ _ _ 0 rfl rfl (by simp) ?qb1 ?qb2 ?qb3 ?_)
 case qb1=>rw [l];omega
 case qb2=>simp only [maxLen];omega
 case qb3=>simp
 intro w1 c b;have b1:Below w.heap.size w w1:=⟨b.os,b.tape,b.output,b.size,fun k hk=>b.block k hk (by simp)⟩;have j:Hid (∀o,Below w.heap.size w (w1.alloc o)):=fun o=>b1.alloc b1.size _
 have f:Hid (∀o,(w1.alloc o).ownsRow w.heap.size 36 5 (.slice (some ⟨w.heap.size,0,none⟩) 0 0) 0 []):=fun o=>World.ownsRow.alloc (show w1.ownsRow w.heap.size 36 5 (.slice (some ⟨w.heap.size,0,none⟩) 0 0) 0 [] by simpa using c) o
 clear b1 c b;go_wp2_with fail
 refine wp_loop_rounds 1 ?_;rw [rounds_succ];go_wp2;go_ret;exact ⟨w.heap.size,rfl,f.out _,j.out _⟩
structure gB (w:Wj)(v:Wx)(ops:List OpD):Prop where
 form:∃a cap,v=.slice a ops.length cap/\(ops≠[]->∃b off,a=some ⟨b,off,none⟩/\gz w b off ops)
 sized:Sized ops
 len:ops.length<=2199023255552
end
section
open Go.ChangeShapes Go.WideShapes Go.ChangeAt Go.RowKit
theorem Hp:ownKnob Tryz.prog.godebug=none:=by kernel_rfl
theorem Df:laidOutB Tryz.prog=true:=by kernel_rfl
theorem qr:Tryz.prog.cellsOf 31=7:=by kernel_rfl
theorem nO:Tryz.prog.cellsOf 3=1:=by kernel_rfl
theorem fx:Tryz.prog.cellsOf 9=1:=by kernel_rfl
theorem Dg:Tryz.prog.bytesOf 31=88:=by kernel_rfl
theorem seven {α:Type}(l:List α)(h:l.length=7):∃c0 c1 c2 c3 c4 c5 c6,l=[c0,c1,c2,c3,c4,c5,c6]:=by
 match l,h with
 | [a,b,c,d,e,f,g],_=>exact ⟨a,b,c,d,e,f,g,rfl⟩
theorem FC {H:Type}{enc:Ww×Wx->H}{W:Wj}{a:Nat}{spare:Nat->Bool}{b:Bool}{fuel:Nat}{cs:List Wx}{x:DataW H×List MemPlace}(h:DataW.trod enc Tryz.prog W a spare b fuel 31 cs=some x):
  ∃o:OpD,cs=bK o/\o.key.size<=maxLen/\o.body.size<=maxLen:=by
 obtain ⟨xs,n,rfl,_,hl,c,hf⟩:=DataW.trod_struct underlying31 h;rw [qr] at hl;have hx:∀i,i<7->∃y,xs[i]?=some y:=fun i d=>⟨xs[i]'(by rw [c];exact d),eL _⟩
 obtain ⟨c0,c1,c2,c3,c4,c5,c6,rfl⟩:=seven cs hl
 .skip
  obtain ⟨y0,e0⟩:=hx 0 (by omega);obtain ⟨y1,e1⟩:=hx 1 (by omega);obtain ⟨y2,e2⟩:=hx 2 (by omega);obtain ⟨y3,e3⟩:=hx 3 (by omega);obtain ⟨y4,e4⟩:=hx 4 (by omega);obtain ⟨y5,e5⟩:=hx 5 (by omega);obtain ⟨y6,e6⟩:=hx 6 (by omega);have t0:=hf 0 _ rfl;have t1:=hf 1 _ rfl;have t2:=hf 2 _ rfl;have t3:=hf 3 _ rfl;have t4:=hf 4 _ rfl;have t5:=hf 5 _ rfl;have t6:=hf 6 _ rfl;rw [e0] at t0;rw [e1] at t1;rw [e2] at t2;rw [e3] at t3;rw [e4] at t4;rw [e5] at t5;rw [e6] at t6;obtain ⟨z0,h0,_,_⟩:=DataW.trod_int underlying3 t0;obtain ⟨z1,h1,_,s1⟩:=DataW.trod_string underlying9 t1;obtain ⟨z2,h2,_,s2⟩:=DataW.trod_string underlying9 t2;obtain ⟨z3,h3,_,s3⟩:=DataW.trod_string underlying9 t3;obtain ⟨z4,h4,_,s4⟩:=DataW.trod_string underlying9 t4;obtain ⟨z5,h5,_,_⟩:=DataW.trod_int underlying3 t5;obtain ⟨z6,h6,_,_⟩:=DataW.trod_int underlying3 t6;have k0:c0=.int .i64 z0:=by simpa [nO] using h0
  have k1:c1=.string z1:=by simpa [fx] using h1
  have k2:c2=.string z2:=by simpa [fx] using h2
  have k3:c3=.string z3:=by simpa [fx] using h3
  have k4:c4=.string z4:=by simpa [fx] using h4
  have k5:c5=.int .i64 z5:=by simpa [nO] using h5
  have k6:c6=.int .i64 z6:=by simpa [nO] using h6
  subst k0 k1 k2 k3 k4 k5 k6;exact ⟨⟨z0,z1,z2,z3,z4,z5,z6⟩,rfl,s1,s2⟩
theorem uB {H:Type}{enc:Ww×Wx->H}{W:Wj}{fuel:Nat}{a0:Option Wu}{len cap:Nat}{x:DataW H×List MemPlace}(h:DataW.trod enc Tryz.prog W 0 (fun _=>true) true fuel 22 [.slice a0 len cap]=some x)
  (hz:∀elems spare,x.1=.slice elems spare->(elems.length+spare.length) * 88<=140737488355328):
  (∃ops,gB W (.slice a0 len cap) ops)/\len<=cap/\cap<=maxLen/\cap * 88<=140737488355328:=by
 rcases Go.Deep.open_slice underlying22 h with ⟨hcs,_⟩|⟨a,len',cap',m,n,D,Pl,hcs,_,q,p,hm,hx,hel⟩
 .simp only [List.cons.injEq,Value.slice.injEq,and_true] at hcs;obtain ⟨rfl,rfl,rfl⟩:=hcs;exact ⟨⟨[],⟨none,0,rfl,fun h=>absurd rfl h⟩,fun o ho=>absurd ho List.not_mem_nil,by simp⟩,lR _,by simp [maxLen],by omega⟩
 .simp only [List.cons.injEq,Value.slice.injEq,and_true] at hcs;obtain ⟨rfl,rfl,rfl⟩:=hcs;simp only [if_true] at hm;subst hm;have hb:=hz _ _ (by rw [hx]);simp only [lM,List.length_range] at hb;rw [qr] at hel;have k:∀i,i<len->∃o:OpD,(∀j,j<7->W.cell? (a.add (i * 7+j))=(bK o)[j]?)/\o.key.size<=maxLen/\o.body.size<=maxLen:=fun i e=>by
   obtain ⟨cs',h1,h2⟩:=hel i (by omega);obtain ⟨o,rfl,s1,s2⟩:=FC h2;obtain ⟨_,_,h3⟩:=World.cells?_some h1;refine ⟨o,fun j l=>?_,s1,s2⟩;rw [<-Go.Deep.add_add];exact h3 j l
  have hin:Inhabited OpD:=⟨⟨0,⟨#[]⟩,⟨#[]⟩,⟨#[]⟩,⟨#[]⟩,0,0⟩⟩;obtain ⟨f,hf⟩:=Go.Deep.choose_lt (α:=OpD) k;refine ⟨⟨(List.range len).map f,⟨some a,m,by simp,fun hne=>?_⟩,?_,?_⟩,q,p,by omega⟩
  .have hlen:0<len:=by
    rcases Nat.eq_zero_or_pos len with h0|h0
    .subst h0;simp at hne
    .exact h0
   obtain ⟨b,off,c⟩:=a;have hc0:=(hf 0 hlen).1 0 (by omega);have d:c=none:=by
    have:W.cell? ((⟨b,off,c⟩:Wu).add 0)=some (.int .i64 (f 0).kind):=by simpa [bK] using hc0
    simpa [Addr.add] using World.cell?_spot this
   subst d;refine ⟨b,off,rfl,fun i e=>?_⟩;simp only [lM,List.length_range] at e;have h7:∀j,j<7->W.cell? ⟨b,off+i * 7+j,none⟩=(bK (f i))[j]?:=fun j l=>by
    rw [<-(hf i e).1 j l,Addr.add_lit];congr 2;omega
   have hg:((List.range len).map f)[i]'(by simpa using e)=f i:=by simp
   rw [hg];exact ⟨h7 0 (by omega),h7 1 (by omega),h7 2 (by omega),h7 3 (by omega),h7 4 (by omega),h7 5 (by omega),h7 6 (by omega)⟩
  .intro o ho;obtain ⟨i,e,rfl⟩:=List.mem_map.1 ho;exact (hf i (by simpa using e)).2
  .simp only [lM,List.length_range];omega
theorem Dh {H:Type}{enc:Ww×Wx->H}{W:Wj}{fuel:Nat}{a0:Option Wu}{len cap B:Nat}{x:DataW H×List MemPlace}(h:DataW.trod enc Tryz.prog W 0 (fun _=>true) true fuel 22 [.slice a0 len cap]=some x)
  (hz:∀elems spare,x.1=.slice elems spare->(elems.length+spare.length) * 88<=B):len * 88<=B:=by
 rcases Go.Deep.open_slice underlying22 h with ⟨hcs,_⟩|⟨a,len',cap',m,n,D,Pl,hcs,_,hlc,hcm,hm,hx,hel⟩
 .simp only [List.cons.injEq,Value.slice.injEq,and_true] at hcs;obtain ⟨rfl,rfl,rfl⟩:=hcs;omega
 .simp only [List.cons.injEq,Value.slice.injEq,and_true] at hcs;obtain ⟨rfl,rfl,rfl⟩:=hcs;simp only [if_true] at hm;subst hm;have hb:=hz _ _ (by rw [hx]);simp only [lM,List.length_range] at hb;omega
end
section
open Go.ChangeShapes Go.WideShapes Go.ChangeAt Go.RowKit
open Go.Conc Go.ConcX Go.ConcX.Gen
def slB (a:Option Wu)(b:Nat):Prop:=∃x,a=some x/\x.block=b
theorem Di {w:Wj}(h:laidMetH Tryz.prog YtnapepbdohidgaaGreatDoor.Rows.steadyRow.laid w):qp w:=by
 have h1:laidMet Tryz.prog YtnapepbdohidgaaGreatDoor.Rows.steadyRow.laid w:=h;have h2:=lO (lO h1);have e:(YtnapepbdohidgaaGreatDoor.Rows.laid_internal_strconv_uint64pow10:DataW Unit)=Lib.tabData .u64 Lib.pow10Tab:=by kernel_rfl
 rw [e] at h2;exact Lib.tabIs_of_head (P:=Tryz.prog) (g:=1) (t:=249) (e:=57) (n:=20) (by kernel_rfl) (by kernel_rfl) (by kernel_rfl) (by kernel_rfl) (by kernel_rfl) (by kernel_rfl) h2
theorem AJ {H:Type}{enc:Ww×Wx->H}{W:Wj}{f:Nat}{v:Wx}{d:DataW H}{p:List MemPlace}(hv:Value.okWide Tryz.prog W .any f 22 v)(h:DataW.Trod enc Tryz.prog W 0 (fun _=>true) true 22 v d p)(hz:∀elems spare,d=.slice elems spare->(elems.length+spare.length) * 88<=140737488351232):
  ∃a len cap ops,v=.slice a len cap/\gB W (.slice a len cap) ops/\(∀b,slB a b->∃c e z,W.heap[b]?=some (.cells c e z))/\len * 88<=140737488351232:=by
 obtain ⟨a,len,cap,rfl⟩:=okWide_slice underlying22 hv;obtain ⟨fuel,hf⟩:=h;have hf2:DataW.trod enc Tryz.prog W 0 (fun _=>true) true fuel 22 [.slice a len cap]=some (d,p):=by simpa [Value.cells] using hf
 obtain ⟨⟨ops,hS⟩,-,-,-⟩:=uB hf2 (fun elems spare he=>by have:=hz elems spare he;omega);refine ⟨a,len,cap,ops,rfl,hS,?_,Dh hf2 hz⟩;rintro b ⟨x,rfl,rfl⟩;unfold Value.okWide at hv;rw [underlying22] at hv;have hv:Cell.okWide Tryz.prog W .any f 22 (.slice (some x) len cap):=hv;unfold Cell.okWide Cell.ok at hv;rw [underlying22] at hv;obtain ⟨-,-,-,-,row,cells,hs,-⟩:=hv;unfold World.shape? at hs;split at hs
 .rename_i c e z i;exact ⟨c,e,z,i⟩
 .cases hs
theorem Dj {P:Wv}{Post Post':Wx->Wj->Prop}{gs:Array Goroutine}{W:Wj}{sl:Option (Nat×Nat)}{t:Trace}(h:Fin P Post gs W sl t)(hp:∀v w',Post v w'->Post' v w'):Fin P Post' gs W sl t:=by
 obtain ⟨N,a,o,w',t',e1,e2,e3,e4⟩:=h;exact ⟨N,a,o,w',t',e1,e2,e3,e4.mono fun v h=>hp v w' h⟩
theorem FD {H:Type}{enc:Ww×Wx->H}{os:Os}(d:os.Started){f:FuncId}{fn:Func}{s:ChangeSpec}{c:List (String×DataW Unit)}(q:Tryz.prog.funcs[f]?=some fn)
  (x:∃ (w:Wj) (tape:Tape) (i:Input),w.os=os/\(w.forCall tape i).Shaped Tryz.prog/\i.vars=[]/\Input.okWide Tryz.prog (w.forCall tape i) .any w.heap.size f i/\((s.pre enc Tryz.prog fn [] false (w.forCall tape i).memory i.args/\laidMetH Tryz.prog c (w.forCall tape i).memory)/\sizedMet enc Tryz.prog fn (OpenSpec.ofChange s) false (w.forCall tape i).memory i.args)/\({}:Assume).holds Tryz.prog (lone (Frame.enter Tryz.prog f i.args .normal) [] (w.forCall tape i)))
  (b:∀ (W:Wj) (h:Nat) (args:Array Wx) (p gs:List (DataW H)) (a:List MemPlace),W.ShapedOpen Tryz.prog->(∀ (j:Nat) t v,fn.params[j]?=some t->args[j]?=some v->Value.okWide Tryz.prog W .any h t v)->DataW.Whole enc Tryz.prog fn.params.toList s.vars false W args.toList p gs a->(DataW.weightsEach Tryz.prog (fn.params.toList++s.plain.varTypes Tryz.prog) (p++gs)).all (·<=reachBytes)=true->laidMetH Tryz.prog c W->Fin Tryz.prog (fun v W'=>s.post enc Tryz.prog fn false true false false W args v W') #[G (Frame.enter Tryz.prog f args .normal) []] W none #[]):
  ReturnsInLeavingWide {} Tryz.checked os f .any (fun w args=>(s.pre enc Tryz.prog fn [] false w args/\laidMetH Tryz.prog c w)/\sizedMet enc Tryz.prog fn (OpenSpec.ofChange s) false w args) (s.post enc Tryz.prog fn false true false false):=by
 refine returnsInLeavingWide_of_good (C:=Tryz.checked) Hp d x ?_;intro w tape i _ r _ hok n _;obtain ⟨_,_,_,u,m,_,_,_,_,l⟩:=hok;have e:u=fn:=oJ (m.symm.trans q);subst e;obtain ⟨⟨⟨p,gs,a,hw,-⟩,hx⟩,hz⟩:=n;obtain ⟨N,k,o,w',t',e1,e2,e3,e4⟩:=b (w.forCall tape i) w.heap.size i.args p gs a r l (DataW.Whole.of_heap (w':=w.forCall tape i) (by rfl) hw) (hz.weights hw) (hx.of_heap (by rfl));exact ⟨N,k,o,w',t',e1,e2,e3,e4.mono fun v hp=>ChangeSpec.post_blind hp⟩
end
section
open Go.Conc Go.ConcX Go.ConcX.Gen Go.RowKit Go.MapKept
abbrev Told:=List (ByteArray×Int×Int)
def plV (x:Int×Int):Wx:=.agg #[.int .i64 x.1,.int .i64 x.2]
def iu (k:ByteArray):Told->Option (Int×Int)
 | []=>none
 |(k',x)::r=>if k=k' then some x else iu k r
def mt (k:ByteArray)(x:Int×Int):Told->Told
 | []=>[(k,x)]
 |(k',x')::r=>if k=k' then (k,x)::r else (k',x')::mt k x r
def yV:List MapEntry->Told->Prop
 | [],[]=>True
 |e::es,(k,x)::r=>e.key=.string k/\e.val=plV x/\yV es r
 |_,_=>False
theorem Dl (k:ByteArray):∀ (es:List MapEntry)(t:Told)(i:Nat),yV es t ->
  (∃x j,iu k t=some x/\j<es.length/\Instr.findNow .string (.string k) es i=some (some (i+j,plV x))/\((es[j]?).map (·.key))=some (.string k)/\∀ (x':Int×Int) (es':List MapEntry),es'=es.modify j (fun e=>{e with key:=.string k,val:=plV x'})->yV es' (mt k x' t)) \/
  (iu k t=none/\Instr.findNow .string (.string k) es i=some none/\∀ (x':Int×Int) (n:Nat),yV (es++[⟨.string k,plV x',n⟩]) (mt k x' t)):=by
 intro es;induction es with
 |nil=>
  intro t i h;cases t with
  |nil=>exact .inr ⟨rfl,rfl,fun x' n=>⟨rfl,rfl,trivial⟩⟩
  |cons a r=>exact h.elim
 |cons e es ih=>
  intro t i h;cases t with
  |nil=>exact h.elim
  |cons a r=>
   obtain ⟨k',x⟩:=a;obtain ⟨h1,h2,h3⟩:=h;by_cases hk:k=k'
   .subst hk
    left
    refine ⟨x,0,by simp [iu],by simp,?_,by simp [h1],fun x' es' he=>?_⟩
    .simp [Instr.findNow,Instr.sameNow,h1,h2,(bytes_beq k k).2 rfl]
    .subst he;simp [mt,yV,h3]
   .have hs:Instr.findNow .string (.string k) (e::es) i=Instr.findNow .string (.string k) es (i+1):=by
     have hb:(k==k')=false:=by
      cases h:k==k' with
      |true=>exact absurd ((bytes_beq k k').1 h) hk
      |false=>rfl
     simp [Instr.findNow,Instr.sameNow,h1,hb]
    rcases ih r (i+1) h3 with ⟨y,j,a1,a2,a3,a4,a5⟩|⟨a1,a2,a3⟩
    .left
     refine ⟨y,j+1,by simp [iu,hk,a1],by simp;omega,?_,by simpa using a4,fun x' es' he=>?_⟩
     .rw [hs,a3,show i+1+j=i+(j+1) by omega]
     .subst he;simp only [mt,hk,if_false,List.modify_succ_cons,yV];exact ⟨h1,h2,a5 x' _ rfl⟩
    .right
     refine ⟨by simp [iu,hk,a1],by rw [hs,a2],fun x' n=>?_⟩;simp only [mt,hk,if_false,List.cons_append,yV];exact ⟨h1,h2,a3 x' n⟩
def Dm (w:Wj)(b:Wx)(t:Told)(A:Nat->Prop)(B:Nat):Prop:=
 (b=.map none/\t=[])\/∃m es a,b=.map (some m)/\w.heap[m]?=some (.map es a)/\yV es.toList t/\¬A m/\B<=m
theorem su (b:Bool)(k:ByteArray)(w:Wj):(Instr.checkKey b 10000 9 (.string k)).run Yq.prog w=.ok () w:=by
 show (Instr.checkKey b (9999+1) 9 (.string k)).run Yq.prog w=_;rw [Instr.checkKey];simp [go_sem]
theorem AK {w:Wj}{m:Nat}{o:Obj}(h:w.heap[m]?=some o)(hc:o.isCells=false):Sem.run Yq.prog (getObj m) w=.ok o w:=by
 cases o with
 |cells c e z=>cases hc
 |_=>simp [getObj,Sem.run,h]
theorem AL {w:Wj}{m:Nat}{o o':Obj}(h:w.heap[m]?=some o)(hc:o.isCells=false):Sem.run Yq.prog (setObj m o') w=.ok () (w.putObj m o'):=by
 cases o with
 |cells c e z=>cases hc
 |_=>simp [setObj,Sem.run,h,World.putObj]
theorem oV {w:Wj}{m:Nat}{es:Array MapEntry}{a:Nat}{t:Told}(hm:w.heap[m]?=some (.map es a))(he:yV es.toList t)(k:ByteArray)(x:Int×Int):
  ∃es' clock',(Instr.mapUpdate 61 (.map (some m)) (.string k) (plV x)).run Yq.prog w=.ok () (w.putObj m (.map es' clock'))/\yV es'.toList (mt k x t):=by
 rcases Dl k es.toList t 0 he with ⟨y,j,a1,a2,a3,a4,a5⟩|⟨a1,a2,a3⟩
 .refine ⟨es.modify j fun e=>{e with key:=.string k,val:=plV x},a,?_,a5 x _ (by simp)⟩;have b:(es[j]?).map (·.key)=some (.string k):=by simpa using a4
  simp [Instr.mapUpdate,go_sem,su,Instr.findKey,AK hm rfl,AL hm rfl,a3,b,Instr.keyThatStays,Instr.sameBits,World.putObj,(bytes_beq k k).2 rfl]
 .refine ⟨es.push ⟨.string k,plV x,a⟩,a+1,?_,by simpa using a3 x a⟩;simp [Instr.mapUpdate,go_sem,su,Instr.findKey,AK hm rfl,AL hm rfl,a2,World.putObj]
end
section
open Go.Conc Go.ConcX Go.ConcX.Gen Go.RowKit
structure LsA where
 num:Int
 f:List UInt8->List Ver
 q:Qy
 size:Int
 left:Int
def LsA.lst (x:LsA)(r:Option Wu):Lst:=⟨x.num,r,x.q.vs,x.q.p,x.q.d,x.q.af,x.size,x.left⟩
structure Lg where
 opened:List LsA
 begun:Int
 told:Told
 tm:Int
def fg (zs:List (LsA×Option Wu)):List Wx:=zs.flatMap fun z=>(bN (z.1.lst z.2)).toList
theorem uC (zs:List (LsA×Option Wu))(z:LsA×Option Wu):fg (zs++[z])=fg zs++(bN (z.1.lst z.2)).toList:=by simp [fg]
def we (A:Nat->Prop)(B:Nat)(w:Wj)(v:Wx)(xs:List LsA):Prop:=
 ∃zs:List (LsA×Option Wu),xs=zs.map (·.1)/\w.ownsRow B 125 8 v zs.length (fg zs)/\(∀g,v.ownBlock=some g->¬A g)/\∀z∈zs,ak A 41 w z.2 z.1.f
structure fJ (A:Nat->Prop)(B:Nat)(w:Wj)(k0:Nat)(L:Lg):Prop where
 opened:∃v,w.cell? ⟨k0,4,none⟩=some v/\we A B w v L.opened
 begun:w.cell? ⟨k0,5,none⟩=some (.int .i64 L.begun)
 told:∃mv,w.cell? ⟨k0,6,none⟩=some mv/\Dm w mv L.told A B
 frozen:∀j,w.frozen? ⟨k0,j,none⟩=false
 avoid:¬A k0
 low:k0<B
 inn:∀b,A b->b<w.heap.size
structure cf (A:Nat->Prop)(B k0:Nat)(w w':Wj):Prop where
 os:w'.os=w.os
 size:w.heap.size<=w'.heap.size
 low:∀b,b<B->b<w.heap.size->b≠k0->w'.heap[b]?=w.heap[b]?
 tree:∀b,A b->b<w.heap.size->w'.heap[b]?=w.heap[b]?
 cells:∀j,j<4\/6<j->w'.cell? ⟨k0,j,none⟩=w.cell? ⟨k0,j,none⟩
 fz:∀j,w'.frozen? ⟨k0,j,none⟩=w.frozen? ⟨k0,j,none⟩
section
variable {A:Nat->Prop} {B k0:Nat} {w w' w'':Wj} {L:Lg}
theorem cf.trans (h:cf A B k0 w w')(k:cf A B k0 w' w''):cf A B k0 w w'':=
 ⟨k.os.trans h.os,lT h.size k.size,fun b h1 h2 h3=>(k.low b h1 (lL h2 h.size) h3).trans (h.low b h1 h2 h3),fun b h1 h2=>(k.tree b h1 (lL h2 h.size)).trans (h.tree b h1 h2),fun j a=>(k.cells j a).trans (h.cells j a),fun j=>(k.fz j).trans (h.fz j)⟩
theorem fJ.lt (h:fJ A B w k0 L):k0<w.heap.size:=bC w _ h.begun
theorem cf.left (hk:k0<w.heap.size)(h:au w w'):cf A B k0 w w':=
 ⟨h.os,h.size,fun b _ h2 _=>h.block b h2,fun b _ h2=>h.block b h2,fun j _=>cB (a:=⟨k0,j,none⟩) (h.block k0 hk),fun j=>fB (a:=⟨k0,j,none⟩) (h.block k0 hk)⟩
theorem au.refl:au w w:=⟨rfl,lR _,fun _ _=>rfl⟩
theorem au.trans (h:au w w')(k:au w' w''):au w w'':=⟨k.os.trans h.os,lT h.size k.size,fun b hb=>(k.block b (lL hb h.size)).trans (h.block b hb)⟩
theorem au.below (h:Below w.heap.size w w'):au w w':=⟨h.os,h.size,h.block⟩
theorem au.alloc (h:au w w')(o:Obj):au w (w'.alloc o):=⟨h.os,by have:=h.size;simp;omega,fun b hb=>(bA _ _ _ (lL hb h.size)).trans (h.block b hb)⟩
theorem au.drew (h:au w w'):au w w'.drew:=⟨h.os,h.size,h.block⟩
theorem au.cell (h:au w w'){b j:Nat}{v:Wx}(hc:w.cell? ⟨b,j,none⟩=some v):w'.cell? ⟨b,j,none⟩=some v:=
 (cB (a:=⟨b,j,none⟩) (h.block b (bC w _ hc))).trans hc
theorem au.set (h:au w w'){b:Nat}(hb:w.heap.size<=b)(j:Nat)(v:Wx):au w (w'.setCell ⟨b,j,none⟩ v):=
 ⟨h.os,by have:=h.size;simp;omega,fun k hk=>(bS _ _ _ _ (by show k≠b;omega)).trans (h.block k hk)⟩
theorem Dm.left {b:Wx}{t:Told}(h:Dm w b t A B)(hl:au w w'):Dm w' b t A B:=by
 rcases h with h|⟨m,es,a,h1,h2,h3⟩
 .exact .inl h
 .exact .inr ⟨m,es,a,h1,(hl.block m (eS h2).1).trans h2,h3⟩
theorem we.left {v:Wx}{xs:List LsA}(h:we A B w v xs)(hl:au w w'):we A B w' v xs:=by
 obtain ⟨zs,h1,h2,h3,h4⟩:=h;exact ⟨zs,h1,dA h2 fun g _ hg=>hl.block g hg,h3,fun z hz=>ak.keep (fun b hb hlt=>⟨hb,hl.block b hlt⟩) 41 _ _ (h4 z hz)⟩
theorem fJ.left (h:fJ A B w k0 L)(hl:au w w'):fJ A B w' k0 L:=by
 obtain ⟨v,c4,ho⟩:=h.opened;obtain ⟨c,c6,hm⟩:=h.told;exact ⟨⟨v,hl.cell c4,ho.left hl⟩,hl.cell h.begun,⟨c,hl.cell c6,hm.left hl⟩,fun j=>(fB (a:=⟨k0,j,none⟩) (hl.block k0 h.lt)).trans (h.frozen j),h.avoid,h.low,fun b hb=>lL (h.inn b hb) hl.size⟩
theorem putMap {m:Nat}{es es':Array MapEntry}{c clock':Nat}(_hm:w.heap[m]?=some (.map es c))(hA:¬A m)(hB:B<=m)(hk:k0<B):cf A B k0 w (w.putObj m (.map es' clock')):=by
 have hne:∀b,b≠m->(w.putObj m (.map es' clock')).heap[b]?=w.heap[b]?:=fun b hb=>pO hb
 exact ⟨rfl,by simp,fun b h1 h2 _=>hne b (by omega),fun b h1 h2=>hne b (fun e=>hA (e▸h1)),fun j _=>cB (a:=⟨k0,j,none⟩) (hne k0 (by omega)),fun j=>fB (a:=⟨k0,j,none⟩) (hne k0 (by omega))⟩
theorem fJ.putMap (h:fJ A B w k0 L){m:Nat}{es es':Array MapEntry}{d clock':Nat}(c6:w.cell? ⟨k0,6,none⟩=some (.map (some m)))(hm:w.heap[m]?=some (.map es d))(hA:¬A m)(i:B<=m){t:Told}(he:yV es'.toList t):fJ A B (w.putObj m (.map es' clock')) k0 {L with told:=t}:=by
 have hne:∀b,b≠m->(w.putObj m (.map es' clock')).heap[b]?=w.heap[b]?:=fun b hb=>pO hb
 have hk:=h.low;have c:∀j,(w.putObj m (.map es' clock')).cell? ⟨k0,j,none⟩=w.cell? ⟨k0,j,none⟩:=fun j=>cB (a:=⟨k0,j,none⟩) (hne k0 (by omega))
 obtain ⟨v,c4,zs,h1,h2,h3,h4⟩:=h.opened;refine ⟨⟨v,(c 4).trans c4,zs,h1,?_,h3,fun z hz=>ak.keep (fun b hb hlt=>⟨hb,hne b (fun e=>hA (e▸hb))⟩) 41 _ _ (h4 z hz)⟩,(c 5).trans h.begun,⟨_,(c 6).trans c6,.inr ⟨m,es',clock',rfl,World.putObj_heap_same (eS hm).1,he,hA,i⟩⟩,fun j=>(fB (a:=⟨k0,j,none⟩) (hne k0 (by omega))).trans (h.frozen j),h.avoid,h.low,fun b hb=>by simpa using h.inn b hb⟩;refine ⟨h2.1,?_⟩;rcases h2.2 with h5|⟨g,cap,f,hv,hg,hr,r⟩
 .exact .inl h5
 .refine .inr ⟨g,cap,f,hv,hg,(hne g fun e=>?_).trans hr,r⟩;subst e;rw [hr] at hm;cases hm
end
def jW (k0:Nat)(w:Wj)(b:Nat):Prop:=∃v,w.cell? ⟨k0,4,none⟩=some v/\v.ownBlock=some b
structure FrC (k0:Nat)(w w':Wj):Prop where
 size:w.heap.size<=w'.heap.size
 keep:∀b,dY w b->b≠k0->¬jW k0 w b->w'.heap[b]?=w.heap[b]?
 own:∀b,jW k0 w' b->jW k0 w b\/w.heap.size<=b
section
variable {k0:Nat} {w w' w'':Wj}
theorem dY.same {b:Nat}(h:dY w b)(e:w'.heap[b]?=w.heap[b]?):dY w' b:=by
 obtain ⟨o,h1,h2⟩:=h;exact ⟨o,e.trans h1,h2⟩
theorem FrC.trans (h:FrC k0 w w')(k:FrC k0 w' w''):FrC k0 w w'':=by
 refine ⟨lT h.size k.size,fun b hb hk ho=>?_,fun b ho=>?_⟩
 .have e:=h.keep b hb hk ho;refine (k.keep b (hb.same e) hk fun h2=>?_).trans e;rcases h.own b h2 with h3|h3
  .exact ho h3
  .have:=hb.lt;omega
 .rcases k.own b ho with h2|h2
  .exact h.own b h2
  .exact .inr (lT h.size h2)
theorem FrC.same4 (hs:w.heap.size<=w'.heap.size)(h4:w'.cell? ⟨k0,4,none⟩=w.cell? ⟨k0,4,none⟩)(h:∀b,dY w b->b≠k0->¬jW k0 w b->w'.heap[b]?=w.heap[b]?):FrC k0 w w':=
 ⟨hs,h,fun b ho=>.inl (by obtain ⟨v,h1,h2⟩:=ho;exact ⟨v,h4.symm.trans h1,h2⟩)⟩
theorem FrC.left (hk:k0<w.heap.size)(h:au w w'):FrC k0 w w':=FrC.same4 h.size (cB (a:=⟨k0,4,none⟩) (h.block k0 hk)) fun b hb _ _=>h.block b hb.lt
theorem FrC.fresh {r j:Nat}{v:Wx}{W:Wj}(h:FrC k0 W w)(hr:W.heap.size<=r)(hk:r≠k0):FrC k0 W (w.setCell ⟨r,j,none⟩ v):=by
 refine ⟨by have:=h.size;simpa using this,fun b hb c ho=>(bS _ _ _ _ (show b≠r by have:=hb.lt;omega)).trans (h.keep b hb c ho),fun b ho=>?_⟩;refine h.own b ?_;obtain ⟨x,h1,h2⟩:=ho;exact ⟨x,(cB (a:=⟨k0,4,none⟩) (bS _ _ _ _ (fun e=>hk e.symm))).symm.trans h1,h2⟩
theorem FrC.keepC (h:dR k0 w w')(h4:w'.cell? ⟨k0,4,none⟩=w.cell? ⟨k0,4,none⟩):FrC k0 w w':=
 FrC.same4 h.1 h4 fun b hb hk _=>by
  obtain ⟨o,h1,h2⟩:=hb;exact (h.2.2 b o h1 h2 hk).trans h1.symm
end
theorem iX {P:Wv}{ops:Array Oper}{o:Oper}{a:Act}{w w':Wj}{K:Act->Wj->Prop}{Q:Exit->Act->Wj->Prop}{E:Prop}(hg:o.guard=none)(t:Ww)(x y z:Operand)(b:o.op=.mapUpdate t x y z)
  (hr:(Instr.mapUpdate t (a.eval x) (a.eval y) (a.eval z)).run P w=.ok () w') (c:K (a.put o.dst undef) w'):
  if Region.wanted o (yielded ops a.tmps)=true then Oper.wp P o a w K Q else E:=by
 have hw:Region.wanted o (yielded ops a.tmps)=true:=by simp [Region.wanted,hg]
 rw [if_pos hw];unfold Oper.wp;simp [execOp,b,hr,Result.andThen];exact c
theorem yj (m:Nat)(w:Wj):(binOp BinOp.eql 61 (.map (some m)) (.map none)).run Yq.prog w=.ok (.bool false) w:=by kernel_rfl
theorem uD (w:Wj):(binOp BinOp.eql 61 (.map none) (.map none)).run Yq.prog w=.ok (.bool true) w:=by kernel_rfl
section
variable {A:Nat->Prop} {B k0:Nat} {L:Lg}
theorem cf.set {w:Wj}(hA:¬A k0){j:Nat}(hj:4<=j/\j<=6)(v:Wx):cf A B k0 w (w.setCell ⟨k0,j,none⟩ v):=
 ⟨rfl,by simp,fun b _ _ h=>bS _ _ _ _ h,fun b hb _=>bS _ _ _ _ (fun e=>hA (by rw [<-show b=k0 from e];exact hb)),fun i hi=>cO _ _ _ _ (fd (by omega)),fun i=>World.frozen?_setCell ..⟩
theorem uE {w:Wj}{v:Wx}{B e a n:Nat}{xs:List Wx}(h:w.ownsRow B e a v n xs){g:Nat}(hg:v.ownBlock=some g):B<=g/\g<w.heap.size:=h.lt g hg
theorem kP {w w':Wj}{a:Nat}{e:Ww}{b:Nat}{v:Wx}{n:Nat}{xs:List Wx}(h:w.ownsRow a e b v n xs)(hb:∀g,v.ownBlock=some g->w'.heap[g]?=w.heap[g]?):w'.ownsRow a e b v n xs:=by
 refine ⟨h.1,?_⟩;rcases h.2 with h2|⟨g,cap,c,hv,hg,hr,r⟩
 .exact Or.inl h2
 .exact Or.inr ⟨g,cap,c,hv,hg,(hb g (by rw [hv];rfl)).trans hr,r⟩
theorem fJ.setMap {w:Wj}(h:fJ A B w k0 L){m:Nat}{es:Array MapEntry}{a:Nat}{t:Told}(hm:w.heap[m]?=some (.map es a))(hA:¬A m)(d:B<=m)(he:yV es.toList t):fJ A B (w.setCell ⟨k0,6,none⟩ (.map (some m))) k0 {L with told:=t}:=by
 have hk:=h.low;have hlt:=h.lt;have hne:∀b,b≠k0->(w.setCell ⟨k0,6,none⟩ (.map (some m))).heap[b]?=w.heap[b]?:=fun b hb=>bS _ _ _ _ hb
 have c:∀j,j≠6->(w.setCell ⟨k0,6,none⟩ (.map (some m))).cell? ⟨k0,j,none⟩=w.cell? ⟨k0,j,none⟩:=fun j hj=>cO _ _ _ _ (fd (by omega))
 obtain ⟨v,c4,zs,h1,h2,h3,h4⟩:=h.opened;obtain ⟨mv,c6,-⟩:=h.told;refine ⟨⟨v,(c 4 (by omega)).trans c4,zs,h1,kP h2 (fun g hg=>hne g (by have:=(uE h2 hg).1;omega)),h3,fun z hz=>ak.keep (fun b hb hlt=>⟨hb,hne b (fun e=>h.avoid (e▸hb))⟩) 41 _ _ (h4 z hz)⟩,(c 5 (by omega)).trans h.begun,⟨_,cS _ _ _ (by rw [c6];rfl),.inr ⟨m,es,a,rfl,(hne m (by omega)).trans hm,he,hA,d⟩⟩,fun j=>by rw [World.frozen?_setCell];exact h.frozen j,h.avoid,h.low,fun b hb=>by simpa using h.inn b hb⟩
theorem wg {w w':Wj}(h:∀b,b<w.heap.size->b≠k0->w'.heap[b]?=w.heap[b]?)(hs:w.heap.size<=w'.heap.size)(ho:w'.os=w.os):dR k0 w w':=⟨hs,ho,fun b _o hb _ hk=>(h b (eS hb).1 hk).trans hb⟩
theorem FE (w:Wj)(h:fJ A B w k0 L)(hB:B<=w.heap.size)(k:ByteArray)(x:Int×Int):
  Calls Yq.prog 70 #[.pointer (some ⟨k0,4,none⟩),.string k,plV x] w fun e w'=>e=.returned (.tuple #[])/\fJ A B w' k0 {L with told:=mt k x L.told}/\cf A B k0 w w'/\dR k0 w w'/\∀j,j≠6->w'.cell? ⟨k0,j,none⟩=w.cell? ⟨k0,j,none⟩:=by
 obtain ⟨q,c6,hm⟩:=h.told;have f6:=h.frozen 6;have hlt:=h.lt;rcases hm with ⟨rfl,ht⟩|⟨m,es,clock,rfl,hm,he,hA,o⟩
 .have hb:au w ((w.alloc (.cells #[.int .i64 x.1,.int .i64 x.2] 129)).alloc (.map #[] 0)):=(au.refl.alloc _).alloc _;have d:((w.alloc (.cells #[.int .i64 x.1,.int .i64 x.2] 129)).alloc (.map #[] 0)).heap[w.heap.size+1]?=some (.map #[] 0):=by
   have:=aN (w.alloc (.cells #[.int .i64 x.1,.int .i64 x.2] 129)) (.map #[] 0)
   rwa [World.size_alloc] at this
  have l:¬A (w.heap.size+1):=fun e=>by have:=h.inn _ e;omega
  have h1:=(h.left hb).setMap d l (by omega) (t:=[]) trivial;have hw:((w.alloc (.cells #[.int .i64 x.1,.int .i64 x.2] 129)).alloc (.map #[] 0)).setCell ⟨k0,6,none⟩ (.map (some (w.heap.size+1)))=((w.setCell ⟨k0,6,none⟩ (.map (some (w.heap.size+1)))).alloc (.cells #[.int .i64 x.1,.int .i64 x.2] 129)).alloc (.map #[] 0):=by
   rw [World.setCell_alloc_past _ _ _ _ (by simp;omega),World.setCell_alloc_past _ _ _ _ hlt]
  rw [hw] at h1;have hd:cf A B k0 w (((w.setCell ⟨k0,6,none⟩ (.map (some (w.heap.size+1)))).alloc (.cells #[.int .i64 x.1,.int .i64 x.2] 129)).alloc (.map #[] 0)):=by
   rw [<-hw];exact (cf.left hlt hb).trans (cf.set h.avoid ⟨by omega,by omega⟩ _)
  obtain ⟨W,n⟩:∃W,W=((w.setCell ⟨k0,6,none⟩ (.map (some (w.heap.size+1)))).alloc (.cells #[.int .i64 x.1,.int .i64 x.2] 129)).alloc (.map #[] 0):=⟨_,rfl⟩;have hm1:W.drew.heap[w.heap.size+1]?=some (.map #[] 0):=by
   rw [n,<-hw];exact (bS _ _ _ _ (by show w.heap.size+1≠k0;omega)).trans d
  rw [<-n] at h1 hd;obtain ⟨es',clock',c,f⟩:=oV hm1 (t:=[]) trivial k x;obtain ⟨q,k6,-⟩:=h1.told;have p:W.cell? ⟨k0,6,none⟩=some (.map (some (w.heap.size+1))):=by
   rw [n,<-hw];exact cS _ _ _ (by rw [hb.cell c6];rfl)
  have i:au W W.drew:=au.refl.drew;have HX:Hid (fJ A B (W.drew.putObj (w.heap.size+1) (.map es' clock')) k0 {L with told:=mt k x L.told}/\cf A B k0 w (W.drew.putObj (w.heap.size+1) (.map es' clock'))/\dR k0 w (W.drew.putObj (w.heap.size+1) (.map es' clock'))/\∀j,j≠6->(W.drew.putObj (w.heap.size+1) (.map es' clock')).cell? ⟨k0,j,none⟩=w.cell? ⟨k0,j,none⟩):=by
   have hkc:dR k0 w W:=by
    rw [n,<-hw];exact wg (fun b h1 h2=>(bS _ _ _ _ h2).trans (hb.block b h1)) (by simp;omega) rfl
   refine ⟨?_,(hd.trans (cf.left h1.lt i)).trans (putMap hm1 l (by omega) h.low),hkc.trans (dR.trans ⟨lR _,rfl,fun _ _ h _ _=>h⟩ (fv hm1 rfl _)),fun j hj=>?_⟩
   rotate_left
   .have e1:(W.drew.putObj (w.heap.size+1) (.map es' clock')).cell? ⟨k0,j,none⟩=W.drew.cell? ⟨k0,j,none⟩:=cB (a:=⟨k0,j,none⟩) (pO (show k0≠w.heap.size+1 by omega));have e2:W.drew.cell? ⟨k0,j,none⟩=W.cell? ⟨k0,j,none⟩:=rfl;rw [e1,e2,n,<-hw,cO _ _ _ _ (fd (by omega))];exact cB (a:=⟨k0,j,none⟩) (hb.block k0 hlt)
   have:=(h1.left i).putMap (es':=es') (clock':=clock') (i.cell p) hm1 l (by omega) (t:=mt k x []) f;rw [ht];exact this
  have hn:=uD;have hmm:=@run_makeMap Yq.prog;clear h h1 hd hm1 f hb hw d k6 i p;subst n;unfold plV at c ⊢;go_enter (Yq.nq func70),ntmps70;go_wp2_with fail
  go_region_law (refine iX rfl 61 (.tmp 18) (.tmp 19) (.tmp 20) rfl c ?_)
  all_goals go_end0
  all_goals exact ⟨rfl,HX.out⟩
 .have hb:au w (w.alloc (.cells #[.int .i64 x.1,.int .i64 x.2] 129)).drew:=(au.refl.alloc _).drew;have h1:=h.left hb;obtain ⟨es',clock',c,f⟩:=oV (w:=(w.alloc (.cells #[.int .i64 x.1,.int .i64 x.2] 129)).drew) ((hb.block m (eS hm).1).trans hm) he k x;have HX:Hid (fJ A B ((w.alloc (.cells #[.int .i64 x.1,.int .i64 x.2] 129)).drew.putObj m (.map es' clock')) k0 {L with told:=mt k x L.told}/\cf A B k0 w ((w.alloc (.cells #[.int .i64 x.1,.int .i64 x.2] 129)).drew.putObj m (.map es' clock'))/\dR k0 w ((w.alloc (.cells #[.int .i64 x.1,.int .i64 x.2] 129)).drew.putObj m (.map es' clock'))/\∀j,j≠6->((w.alloc (.cells #[.int .i64 x.1,.int .i64 x.2] 129)).drew.putObj m (.map es' clock')).cell? ⟨k0,j,none⟩=w.cell? ⟨k0,j,none⟩):=
   ⟨h1.putMap (hb.cell c6) ((hb.block m (eS hm).1).trans hm) hA o f,(cf.left hlt hb).trans (putMap ((hb.block m (eS hm).1).trans hm) hA o h.low),(wg (fun b h1 _=>hb.block b h1) hb.size hb.os).trans (fv ((hb.block m (eS hm).1).trans hm) rfl _),fun j _=>(cB (a:=⟨k0,j,none⟩) (pO (by have:=h.low;show k0≠m;omega))).trans (cB (a:=⟨k0,j,none⟩) (hb.block k0 hlt))⟩
  clear h h1 hm he f hb;unfold plV at c ⊢;have hn:=yj m;go_enter (Yq.nq func70),ntmps70;go_wp2_with fail
  go_region_law (refine iX rfl 61 (.tmp 18) (.tmp 19) (.tmp 20) rfl c ?_)
  all_goals go_end0
  all_goals exact ⟨rfl,HX.out⟩
end
theorem uF {l l':Lst}(h:l.size=l'.size)(a k:Int):gO l a k=gO l' a k:=by simp [gO,h]
theorem jr {l l':Lst}(h:l.size=l'.size)(a:Int):∀ (its:List ItD)(k:Nat),dW l a k its=dW l' a k its
 | [],_=>rfl
 |i::r,k=>by rw [dW,dW,uF h,jr h a r]
def LsA.page (x:LsA)(a:Int):List ItD:=dW (x.lst none) a 0 (bD x.q (cD x.f x.q.p.data.toList))
def LsA.tok (x:LsA)(a:Int):ByteArray:=Da (x.lst none) a (bD x.q (cD x.f x.q.p.data.toList)).length
def gC (L:Lg)(f:List UInt8->List Ver)(q:Qy)(a:Int):LsA:=⟨L.begun+1,f,q,a,10⟩
def ez (L:Lg)(f:List UInt8->List Ver)(q:Qy)(a:Int):Lg×List ItD×ByteArray×Int:=
 if a<1\/20<a then (L,[],⟨#[]⟩,7)
 else if (gC L f q a).tok 1=⟨#[]⟩ then (L,(gC L f q a).page 1,⟨#[]⟩,0)
 else if 3<=L.opened.length then (L,[],⟨#[]⟩,8)
 else (⟨L.opened++[gC L f q a],L.begun+1,mt ((gC L f q a).tok 1) (L.begun+1,2) L.told,L.tm⟩,(gC L f q a).page 1,(gC L f q a).tok 1,0)
def cQ (A:Nat->Prop)(B k0:Nat)(w:Wj)(L':Lg)(its:List ItD)(sv:Wx)(w':Wj):Prop:=
 ∃A':Nat->Prop,(∀b,A b->A' b)/\(∀b,A' b->A b\/w.heap.size<=b)/\fJ A' B w' k0 L'/\cf A B k0 w w'/\bO A' w' sv its.length (an its)/\FrC k0 w w'
theorem sw (n:Int)(r:Option Wu)(b:Bool)(p d a:ByteArray)(s:Int)(w:Wj):(Instr.build 125 #[(0,.int .i64 n),(1,.agg #[.pointer r]),(2,.agg #[.bool b,.string p,.string d,.string a]),(3,.int .i64 s),(4,.int .i64 10)]).run Yq.prog w=.ok (.agg #[.int .i64 n,.pointer r,.bool b,.string p,.string d,.string a,.int .i64 s,.int .i64 10]) w:=by kernel_rfl
theorem uG (a b:Int)(w:Wj):(Instr.build 129 #[(0,.int .i64 a),(1,.int .i64 b)]).run Yq.prog w=.ok (.agg #[.int .i64 a,.int .i64 b]) w:=by kernel_rfl
theorem kQ (w:Wj):(Instr.build 88 #[]).run Yq.prog w=.ok (.agg #[.slice none 0 0,.string ⟨#[]⟩]) w:=by kernel_rfl
section
variable {A:Nat->Prop} {B k0:Nat} {L:Lg}
theorem cQ.same {w w':Wj}(h:fJ A B w k0 L)(hl:au w w'):cQ A B k0 w L [] (.slice none 0 0) w':=
 ⟨A,fun _ h=>h,fun _ h=>.inl h,h.left hl,cf.left h.lt hl,⟨none,0,rfl,fun _=>rfl,fun h=>absurd rfl h⟩,FrC.left h.lt hl⟩
theorem fJ.more {w w2:Wj}(h:fJ A B w k0 L)(hl:au w w2){A':Nat->Prop}(h1:∀b,A b->A' b)(h2:∀b,A' b->A b\/w.heap.size<=b)(h3:∀b,A' b->b<w2.heap.size):fJ A' B w2 k0 L:=by
 have hlt:=h.lt;have hno:∀g,g<w.heap.size->¬A g->¬A' g:=fun g hg ha hx=>by
  rcases h2 g hx with h|h
  .exact ha h
  .omega
 obtain ⟨v,c4,zs,z1,z2,z3,z4⟩:=h.opened;obtain ⟨f,c6,hm⟩:=h.told;refine ⟨⟨v,hl.cell c4,zs,z1,dA z2 fun g _ hg=>hl.block g hg,fun g hg=>hno g (z2.lt g hg).2 (z3 g hg),fun z hz=>ak.keep (fun b hb hlt=>⟨h1 b hb,hl.block b hlt⟩) 41 _ _ (z4 z hz)⟩,hl.cell h.begun,⟨f,hl.cell c6,?_⟩,fun j=>(fB (a:=⟨k0,j,none⟩) (hl.block k0 hlt)).trans (h.frozen j),hno k0 hlt h.avoid,h.low,h3⟩;rcases hm with hm|⟨m,es,c,m1,m2,m3,e,d⟩
 .exact .inl hm
 .have hml:=(eS m2).1;exact .inr ⟨m,es,c,m1,(hl.block m hml).trans m2,m3,hno m hml e,d⟩
theorem oW {w:Wj}{a e:Nat}{sv:Wx}{n:Nat}{xs:List Wx}(h:w.ownsRow a e 3 sv n xs){A':Nat->Prop}(hA:∀g,sv.ownBlock=some g->A' g):bO A' w sv n xs:=by
 rcases h.2 with ⟨rfl,rfl⟩|⟨g,cap,cur,rfl,hb,hr,r⟩
 .have:xs=[]:=by have:=h.1;simpa using this
  exact ⟨none,0,rfl,fun _=>rfl,fun hx=>absurd this hx⟩
 .refine ⟨some ⟨g,0,none⟩,cap,rfl,fun h=>(by cases h),fun _=>⟨g,rfl,hA g rfl,(eS hr).1,fun j b=>?_⟩⟩;have:=h.cells (g:=g) rfl j xs[j] (eL b);rw [Addr.add_lit,zA] at this;rw [this,eL b]
theorem cQ.page {w w1 w2:Wj}(h:fJ A B w k0 L)(hl:au w w2){a:Nat}{sv:Wx}{pg:List ItD}(hrow:w1.ownsRow a 41 3 sv pg.length (an pg))(hb:w.heap.size<=a)(hk:∀g,a<=g->g<w1.heap.size->w2.heap[g]?=w1.heap[g]?):cQ A B k0 w L pg sv w2:=by
 have hr2:=dA hrow hk;refine ⟨fun b=>A b\/sv.ownBlock=some b,fun _ h=>.inl h,fun b hx=>?_,h.more hl (fun _ h=>.inl h) (fun b hx=>?_) (fun b hx=>?_),cf.left h.lt hl,oW hr2 fun g hg=>.inr hg,FrC.left h.lt hl⟩
 .rcases hx with hx|hx
  .exact .inl hx
  .exact .inr (by have:=(hr2.lt b hx).1;omega)
 .rcases hx with hx|hx
  .exact .inl hx
  .exact .inr (by have:=(hr2.lt b hx).1;omega)
 .rcases hx with hx|hx
  .exact lL (h.inn b hx) hl.size
  .exact (hr2.lt b hx).2
end
section
variable {P:Wv}
theorem uH (w:Wj)(o:Nat)(t A e:Ww)(i:TypeInfo)(z:Wx)(b f:Nat)(ht:P.underlying t=some (.slice e))(B:P.info? e=some i)(hz:i.zero=some z)(l:i.size=b)(q:i.bytes=f)(s:z.cells.size=b)(hsz:0<b)
  (v:Wx) (n:Nat) (xs:List Wx) (hown:w.ownsRow o e b v n xs) (a:Wu) (m c:Nat) (d:List Wx) (hl:d.length=m * b) (k:∀j u,d[j]?=some u->w.cell? (a.add j)=some u) (h1:∀u∈d,u.oneCell'=true)
  (r:n+m<=maxLen) (h:(n+m) * f<=140737488355328) (x:o<=w.heap.size):
  ∃v' w',(Builtin.append_ #[t,t] A #[v,.slice (some a) m c]).run P w=.ok v' w'/\w'.ownsRow o e b v' (n+m) (xs++d)/\w.grownBy w' v.ownBlock/\∀g,v'.ownBlock=some g->v.ownBlock=some g\/w.heap.size<=g:=by
 obtain ⟨v',w',hr,ho,hg,-⟩:=run_append_own (P:=P) w o t A e i z b f ht B hz l q s hsz v n xs hown a m c d hl k h1 r h x;refine ⟨v',w',hr,ho,hg,fun g p=>?_⟩;rcases hown.2 with ⟨rfl,rfl⟩|⟨g0,cap,cur,rfl,hb0,hrow,hcap⟩
 .obtain ⟨v2,w2,hr2,y,-⟩:=run_append_own (P:=P) w w.heap.size t A e i z b f ht B hz l q s hsz (.slice none 0 0) 0 xs ⟨hown.1,.inl ⟨rfl,rfl⟩⟩ a m c d hl k h1 r h (lR _);rw [hr] at hr2;cases hr2;exact .inr (y.lt g p).1
 .by_cases hf:n+m<=cap
  .obtain ⟨w2,hr2,-⟩:=run_append_fits (P:=P) w o t A e i b ht B l g0 n cap xs hown a m c d hl k h1 hf;rw [hr] at hr2;cases hr2;exact .inl p
  .obtain ⟨v2,w2,hr2,y,-⟩:=run_append_arg_grows (P:=P) w t A e i z b f ht B hz l q s hsz ⟨g0,0,none⟩ n cap xs hown.1 (fun j u C=>hown.cells (g:=g0) rfl j u C) a m c d hl k (by omega) r h;rw [hr] at hr2;cases hr2;exact .inr (y.lt g p).1
theorem mu {ops:Array Oper}{o:Oper}{a:Act}{w:Wj}{K:Act->Wj->Prop}{Q:Exit->Act->Wj->Prop}{E:Prop}
  (hg:o.guard=none) (s x:Operand) (t:Ww) (A:o.op=Op.call {callee:=Callee.builtin Builtin.append,args:=#[s,x],argTypes:=#[t,t]})
  (k:Nat) (e:Ww) (i:TypeInfo) (z:Wx) (b f:Nat) (ht:P.underlying t=some (.slice e)) (F:P.info? e=some i) (hz:i.zero=some z) (r:i.size=b) (y:i.bytes=f) (C:z.cells.size=b) (hsz:0<b)
  (v:Wx) (n:Nat) (xs:List Wx) (hs:a.eval s=v) (hown:w.ownsRow k e b v n xs)
  (D:Wu) (m c:Nat) (d:List Wx) (hx:a.eval x=.slice (some D) m c) (hl:d.length=m * b) (p:∀j u,d[j]?=some u->w.cell? (D.add j)=some u) (h1:∀u∈d,u.oneCell'=true)
  (B:n+m<=maxLen) (l:(n+m) * f<=140737488355328) (q:k<=w.heap.size)
  (h:∀v' w',w'.ownsRow k e b v' (n+m) (xs++d)->w.grownBy w' v.ownBlock->(∀g,v'.ownBlock=some g->v.ownBlock=some g\/w.heap.size<=g)->K (a.put o.dst v') w'):
  if Region.wanted o (yielded ops a.tmps)=true then Oper.wp P o a w K Q else E:=by
 obtain ⟨v',w',hr,h2,h3,h4⟩:=uH (P:=P) w k t o.type e i z b f ht F hz r y C hsz v n xs hown D m c d hl p h1 B l q;exact dS hg s x t t A v _ hs hx hr (h v' w' h2 h3 h4)
end
theorem Yq.infoLst:(Yq.prog.info? 125).map (fun i=>(i.zero,i.size,i.bytes))=some (some (.agg #[.int .i64 0,.pointer none,.bool false,.string ⟨#[]⟩,.string ⟨#[]⟩,.string ⟨#[]⟩,.int .i64 0,.int .i64 0]),8,88):=by kernel_rfl
theorem one8 (l:Lst):∀u∈(bN l).toList,u.oneCell'=true:=by
 intro u a;simp [bN] at a;rcases a with rfl|rfl|rfl|rfl|rfl|rfl|rfl|rfl<;>rfl
section
variable {A:Nat->Prop} {B k0:Nat} {L:Lg}
theorem fJ.push {W w3:Wj}(h:fJ A B W k0 L){v v':Wx}{zs:List (LsA×Option Wu)}{x:LsA}{root:Option Wu}{n:Int}(c4:W.cell? ⟨k0,4,none⟩=some v)(z1:L.opened=zs.map (·.1))(z2:W.ownsRow B 125 8 v zs.length (fg zs))(z3:∀g,v.ownBlock=some g->¬A g)(z4:∀z∈zs,ak A 41 W z.2 z.1.f)
  (ho:w3.ownsRow B 125 8 v' (zs.length+1) (fg zs++(bN (x.lst root)).toList)) (hg:W.grownBy w3 v.ownBlock) (r:∀g,v'.ownBlock=some g->v.ownBlock=some g\/W.heap.size<=g) (s:ak A 41 W root x.f):
  fJ A B ((w3.setCell ⟨k0,4,none⟩ v').setCell ⟨k0,5,none⟩ (.int .i64 n)) k0 ⟨L.opened++[x],n,L.told,L.tm⟩/\cf A B k0 W ((w3.setCell ⟨k0,4,none⟩ v').setCell ⟨k0,5,none⟩ (.int .i64 n)):=by
 have hk:=h.low;have hlt:=h.lt;obtain ⟨u,c6,hm⟩:=h.told;have l:∀g,v.ownBlock=some g->B<=g:=fun g hg=>(z2.lt g hg).1
 have q:some k0≠v.ownBlock:=fun e=>by have:=l k0 e.symm;omega
 have p:W.heap[k0]?=w3.heap[k0]?:=(hg.block k0 hlt q).symm;have hset:∀b,b≠k0->((w3.setCell ⟨k0,4,none⟩ v').setCell ⟨k0,5,none⟩ (.int .i64 n)).heap[b]?=w3.heap[b]?:=fun b hb=>by
  rw [bS _ _ _ _ hb,bS _ _ _ _ hb]
 have c:∀b,A b->((w3.setCell ⟨k0,4,none⟩ v').setCell ⟨k0,5,none⟩ (.int .i64 n)).heap[b]?=W.heap[b]?:=fun b hb=>
  (hset b (fun e=>h.avoid (e▸hb))).trans (hg.block b (h.inn b hb) (fun e=>z3 b e.symm hb))
 have i:∀j,w3.cell? ⟨k0,j,none⟩=W.cell? ⟨k0,j,none⟩:=fun j=>cB (a:=⟨k0,j,none⟩) p.symm
 have o:∀j,j≠4->j≠5->((w3.setCell ⟨k0,4,none⟩ v').setCell ⟨k0,5,none⟩ (.int .i64 n)).cell? ⟨k0,j,none⟩=W.cell? ⟨k0,j,none⟩:=fun j h4 h5=>by
  rw [cO _ _ _ _ (fd fun e=>h5 e.symm),cO _ _ _ _ (fd fun e=>h4 e.symm),i]
 have hfz:∀j,((w3.setCell ⟨k0,4,none⟩ v').setCell ⟨k0,5,none⟩ (.int .i64 n)).frozen? ⟨k0,j,none⟩=W.frozen? ⟨k0,j,none⟩:=fun j=>by
  rw [World.frozen?_setCell,World.frozen?_setCell];exact fB (a:=⟨k0,j,none⟩) p.symm
 have hsz:W.heap.size<=((w3.setCell ⟨k0,4,none⟩ v').setCell ⟨k0,5,none⟩ (.int .i64 n)).heap.size:=by have:=hg.size;simpa using this
 refine ⟨⟨⟨v',?_,zs++[(x,root)],by simp [z1],?_,fun g k=>?_,fun z hz=>?_⟩,?_,⟨u,(o 6 (by omega) (by omega)).trans c6,?_⟩,fun j=>(hfz j).trans (h.frozen j),h.avoid,h.low,fun b hb=>lL (h.inn b hb) hsz⟩,⟨hg.os,hsz,fun b h1 h2 h3=>(hset b h3).trans (hg.block b h2 (fun e=>by have:=l b e.symm;omega)),fun b hb _=>c b hb,fun j hj=>o j (by omega) (by omega),hfz⟩⟩
 .rw [cO _ _ _ _ (fd (by omega))];exact cS _ _ _ (by rw [i,c4];rfl)
 .rw [uC,lP,lS];exact kP ho fun g k=>hset g (by have:=(ho.lt g k).1;omega)
 .rcases r g k with h1|h1
  .exact z3 g h1
  .exact fun ha=>by have:=h.inn g ha;omega
 .rcases List.mem_append.1 hz with hz|hz
  .exact ak.keep (fun b hb _=>⟨hb,c b hb⟩) 41 _ _ (z4 z hz)
  .simp at hz;subst hz;exact ak.keep (fun b hb _=>⟨hb,c b hb⟩) 41 _ _ s
 .refine cS _ _ _ ?_;rw [cO _ _ _ _ (fd (by omega)),i,h.begun];rfl
 .rcases hm with hm|⟨m,es,d,m1,m2,m3,y,t⟩
  .exact .inl hm
  .refine .inr ⟨m,es,d,m1,?_,m3,y,t⟩;rw [hset m (by omega),hg.block m (eS m2).1 (fun e=>?_)]
   .exact m2
   .rcases z2.2 with ⟨rfl,-⟩|⟨g,cap,cur,rfl,hb,hr,-⟩
    .cases e
    .cases e;rw [hr] at m2;cases m2
theorem fJ.other {w:Wj}(h:fJ A B w k0 L){b j:Nat}{x:Wx}(hb:b≠k0)(hA:¬A b)(hcl:dY w b)(hv:∀v g,w.cell? ⟨k0,4,none⟩=some v->v.ownBlock=some g->g≠b):fJ A B (w.setCell ⟨b,j,none⟩ x) k0 L:=by
 have hne:∀g,g≠b->(w.setCell ⟨b,j,none⟩ x).heap[g]?=w.heap[g]?:=fun g hg=>bS _ _ _ _ hg
 have hk:=hne k0 (fun e=>hb e.symm);have c:∀i,(w.setCell ⟨b,j,none⟩ x).cell? ⟨k0,i,none⟩=w.cell? ⟨k0,i,none⟩:=fun i=>cB (a:=⟨k0,i,none⟩) hk
 obtain ⟨v,c4,zs,z1,z2,z3,z4⟩:=h.opened;obtain ⟨f,c6,hm⟩:=h.told;refine ⟨⟨v,(c 4).trans c4,zs,z1,kP z2 fun g hg=>hne g (hv v g c4 hg),z3,fun z hz=>ak.keep (fun g hg _=>⟨hg,hne g (fun e=>hA (e▸hg))⟩) 41 _ _ (z4 z hz)⟩,(c 5).trans h.begun,⟨f,(c 6).trans c6,?_⟩,fun i=>(fB (a:=⟨k0,i,none⟩) hk).trans (h.frozen i),h.avoid,h.low,fun g hg=>by simpa using h.inn g hg⟩;rcases hm with hm|⟨m,es,d,m1,m2,m3⟩
 .exact .inl hm
 .refine .inr ⟨m,es,d,m1,(hne m fun e=>?_).trans m2,m3⟩;subst e;obtain ⟨o,h1,h2⟩:=hcl;rw [m2] at h1;cases h1;cases h2
theorem cf.other {w:Wj}{b j:Nat}{x:Wx}(hb:b≠k0)(hA:¬A b)(hB:B<=b):cf A B k0 w (w.setCell ⟨b,j,none⟩ x):=by
 have hne:∀g,g≠b->(w.setCell ⟨b,j,none⟩ x).heap[g]?=w.heap[g]?:=fun g hg=>bS _ _ _ _ hg
 have hk:=hne k0 (fun e=>hb e.symm);exact ⟨rfl,by simp,fun g h1 _ _=>hne g (by omega),fun g h1 _=>hne g (fun e=>hA (e▸h1)),fun i _=>cB (a:=⟨k0,i,none⟩) hk,fun i=>fB (a:=⟨k0,i,none⟩) hk⟩
theorem cf.mono {A':Nat->Prop}{w w':Wj}(h:cf A' B k0 w w')(hA:∀b,A b->A' b):cf A B k0 w w':=⟨h.os,h.size,h.low,fun b hb=>h.tree b (hA b hb),h.cells,h.fz⟩
theorem G2 (W:Wj)(xs:List Wx)(T:Ww):∀j u,xs[j]?=some u->(W.alloc (.cells xs.toArray T)).drew.cell? ((⟨W.heap.size,0,none⟩:Wu).add j)=some u:=by
 intro j u a;rw [Addr.add_lit,zA];have:(W.alloc (.cells xs.toArray T)).cell? ⟨W.heap.size,j,none⟩=xs.toArray[j]?:=cA (w:=W) _ _ W.heap.size _ rfl;show (W.alloc (.cells xs.toArray T)).cell? ⟨W.heap.size,j,none⟩=some u;rw [this];simpa using a
theorem dR.cell {t:Nat}{W W':Wj}(h:dR t W W'){b j:Nat}{v:Wx}(hc:W.cell? ⟨b,j,none⟩=some v)(hb:b≠t):W'.cell? ⟨b,j,none⟩=some v:=by
 obtain ⟨o,h1,h2⟩:=dY.of_cell hc;exact (cB (a:=⟨b,j,none⟩) ((h.2.2 b o h1 h2 hb).trans h1.symm)).trans hc
theorem dR.frozen {t:Nat}{W W':Wj}(h:dR t W W'){b j:Nat}{v:Wx}(hc:W.cell? ⟨b,j,none⟩=some v)(hb:b≠t):W'.frozen? ⟨b,j,none⟩=W.frozen? ⟨b,j,none⟩:=by
 obtain ⟨o,h1,h2⟩:=dY.of_cell hc;exact fB (a:=⟨b,j,none⟩) ((h.2.2 b o h1 h2 hb).trans h1.symm)
theorem fh {w3:Wj}{v' c:Wx}{b j:Nat}{v:Wx}(hc:w3.cell? ⟨b,j,none⟩=some v)(hb:b≠k0):((w3.setCell ⟨k0,4,none⟩ v').setCell ⟨k0,5,none⟩ c).cell? ⟨b,j,none⟩=some v:=by
 have e:((w3.setCell ⟨k0,4,none⟩ v').setCell ⟨k0,5,none⟩ c).heap[b]?=w3.heap[b]?:=by rw [bS _ _ _ _ hb,bS _ _ _ _ hb]
 exact (cB (a:=⟨b,j,none⟩) e).trans hc
theorem FF {w V w1 w3:Wj}(h:fJ A B w k0 L)(hB:B<=w.heap.size)(K:au w V)(hVs:V.heap.size=w.heap.size+4)(t:au V w1){sv v4 v':Wx}{pg:List ItD}(hrow:w1.ownsRow V.heap.size 41 3 sv pg.length (an pg)){zs:List (LsA×Option Wu)}(c4:w.cell? ⟨k0,4,none⟩=some v4)
    (z1:L.opened=zs.map (·.1)) (z2:w.ownsRow B 125 8 v4 zs.length (fg zs)) (z3:∀g,v4.ownBlock=some g->¬A g) (z4:∀z∈zs,ak A 41 w z.2 z.1.f) {root:Option Wu} {x:LsA} (Q:ak A 41 w root x.f) (o o':Obj) (ho3:w3.ownsRow B 125 8 v' (zs.length+1) (fg zs++(bN (x.lst root)).toList)) (d:((w1.alloc o).alloc o').drew.grownBy w3 v4.ownBlock) (l:∀g,v'.ownBlock=some g->v4.ownBlock=some g\/((w1.alloc o).alloc o').drew.heap.size<=g) (n:Int) (H:ByteArray) (G:Int×Int) {y:Wx} (q:w1.cell? ⟨w.heap.size+1+1,0,none⟩=some y):
    Calls Yq.prog 70 #[.pointer (some ⟨k0,4,none⟩),.string H,plV G] ((w3.setCell ⟨k0,4,none⟩ v').setCell ⟨k0,5,none⟩ (.int .i64 n)) fun e w6=>e=.returned (.tuple #[])/\dR k0 ((w3.setCell ⟨k0,4,none⟩ v').setCell ⟨k0,5,none⟩ (.int .i64 n)) w6 /\
      ∀y0 y1,cQ A B k0 w ⟨L.opened++[x],n,mt H G L.told,L.tm⟩ pg sv ((w6.setCell ⟨w.heap.size+1+1,0,none⟩ y0).setCell ⟨w.heap.size+1+1,1,none⟩ y1):=by
  obtain ⟨W2,s⟩:∃W2,W2=((w1.alloc o).alloc o').drew:=⟨_,rfl⟩;rw [<-s] at d l;have i:au w1 W2:=by rw [s];exact ((au.refl.alloc o).alloc o').drew
  have c:au w W2:=(K.trans t).trans i;have hsz2:W2.heap.size=w1.heap.size+2:=by rw [s];simp
  have hlow:=h.low;have hlt:=h.lt;have hs1:=t.size;obtain ⟨A',p⟩:∃A':Nat->Prop,A'=fun b=>A b\/sv.ownBlock=some b:=⟨_,rfl⟩
  have a1:∀b,A b->A' b:=fun b hb=>by rw [p];exact .inl hb
  have a2:∀b,A' b->A b\/w.heap.size+4<=b/\b<w1.heap.size:=fun b hb=>by
    rw [p] at hb;rcases hb with hb|hb
    . exact .inl hb
    . have:=hrow.lt b hb;exact .inr (by omega)
  have h2:fJ A' B W2 k0 L:=h.more c a1 (fun b hb=>(a2 b hb).imp id (by omega)) (fun b hb=>by
    rcases a2 b hb with h1|h1
    . have:=h.inn b h1;have:=c.size;omega
    . omega)
  have c4':=c.cell c4;have z2':W2.ownsRow B 125 8 v4 zs.length (fg zs):=dA z2 fun g _ hg=>c.block g hg
  have I:∀g,v4.ownBlock=some g->¬A' g:=fun g hg ha=>by
    rcases a2 g ha with h1|h1
    . exact z3 g hg h1
    . have:=(z2.lt g hg).2;omega
  obtain ⟨h5,F⟩:=h2.push (x:=x) (root:=root) (n:=n) c4' z1 z2' I (fun z hz=>ak.keep (fun b hb hb2=>⟨a1 b hb,c.block b hb2⟩) 41 _ _ (z4 z hz)) ho3 d l (ak.keep (fun b hb hb2=>⟨a1 b hb,c.block b hb2⟩) 41 _ _ Q);have hs3:=d.size;obtain ⟨W5,k⟩:∃W5,W5=(w3.setCell ⟨k0,4,none⟩ v').setCell ⟨k0,5,none⟩ (.int .i64 n):=⟨_,rfl⟩;have hs5:W5.heap.size=w3.heap.size:=by rw [k];simp
  have k4:W5.cell? ⟨k0,4,none⟩=some v':=by
    have N:w3.heap[k0]?=W2.heap[k0]?:=d.block k0 (by have:=c.size;omega) (fun e=>by have:=(z2.lt k0 e.symm).1;omega);rw [k,cO _ _ _ _ (fd (by omega))];exact cS _ _ _ (by rw [cB (a:=⟨k0,4,none⟩) N,c4'];rfl)
  rw [<-k] at h5 F ⊢;refine (FE W5 h5 (by omega) H G).mono ?_;rintro e w6 ⟨rfl,h6,O,r,u⟩;refine ⟨rfl,r,fun y0 y1=>?_⟩;have m:¬A' (w.heap.size+1+1):=fun ha=>by
    rcases a2 _ ha with h1|h1
    . have:=h.inn _ h1;omega
    . omega
  have D:∀v g,w6.cell? ⟨k0,4,none⟩=some v->v.ownBlock=some g->g≠w.heap.size+1+1:=fun v g hv hg e=>by
    rw [u 4 (by omega),k4] at hv;cases hv;rcases l g hg with h1|h1
    . have:=(z2.lt g h1).2;omega
    . omega
  have E:dY w6 (w.heap.size+1+1):=by
    refine dY.of_cell (r.cell (j:=0) (v:=y) ?_ (by omega));rw [k];refine fh ?_ (by omega);have e:w3.heap[w.heap.size+1+1]?=w1.heap[w.heap.size+1+1]?:=(d.block _ (by omega) (fun e=>by have:=(z2.lt _ e.symm).2;omega)).trans (i.block _ (bC w1 _ q));exact (cB (a:=⟨w.heap.size+1+1,0,none⟩) e).trans q
  have h7:=h6.other (j:=0) (x:=y0) (show w.heap.size+1+1≠k0 by omega) m E D;have M:(w6.setCell ⟨w.heap.size+1+1,0,none⟩ y0).cell? ⟨k0,4,none⟩=w6.cell? ⟨k0,4,none⟩:=cB (a:=⟨k0,4,none⟩) (bS _ _ _ _ (show k0≠w.heap.size+1+1 by omega));have J:dY (w6.setCell ⟨w.heap.size+1+1,0,none⟩ y0) (w.heap.size+1+1):=by
    obtain ⟨R,e1,e2⟩:=E;cases R with
    |cells xs e z=>
      obtain ⟨g1,g2⟩:=eS e1;refine ⟨.cells (xs.setIfInBounds 0 y0) e z,?_,rfl⟩;show (w6.heap.modify (w.heap.size+1+1) _)[w.heap.size+1+1]?=_;rw [eG (by rw [Array.size_modify];exact g1),Array.getElem_modify_self,g2];rfl
    |_=>cases e2
  have h8:=h7.other (j:=1) (x:=y1) (show w.heap.size+1+1≠k0 by omega) m J (fun v g hv hg=>D v g (by rw [<-M];exact hv) hg);have C:cf A' B k0 W2 ((w6.setCell ⟨w.heap.size+1+1,0,none⟩ y0).setCell ⟨w.heap.size+1+1,1,none⟩ y1):=((F.trans O).trans (cf.other (by omega) m (by omega))).trans (cf.other (by omega) m (by omega));refine ⟨A',a1,fun b hb=>(a2 b hb).imp id (by omega),h8,(cf.left hlt c).trans (C.mono a1),?_,?_⟩
  rotate_left
  . have P : FrC k0 W2 W5 := ⟨by omega, fun b hb hk ho => by
        have e1:W5.heap[b]?=w3.heap[b]?:=by rw [k,bS _ _ _ _ hk,bS _ _ _ _ hk]
        exact e1.trans (d.block b hb.lt (fun e=>ho ⟨v4,c4',e.symm⟩)),fun b ho=>by
        obtain ⟨x,h1,h2⟩:=ho;rw [k4] at h1;cases h1;rcases l b h2 with h3|h3
        . exact .inl ⟨v4,c4',h3⟩
        . exact .inr h3⟩
    have q6:FrC k0 w w6:=((FrC.left hlt c).trans P).trans (FrC.keepC r (u 4 (by omega)));exact (q6.fresh (by omega) (by omega)).fresh (by omega) (by omega)
  refine oW (kP hrow fun g hg=>?_) (fun g hg=>by rw [p];exact .inr hg);have hg1:=(hrow.lt g hg).2;exact (C.tree g (by rw [p];exact .inr hg) (by omega)).trans (i.block g hg1)
end
def G3 (n:Int)(xs:List LsA):Option Nat:=xs.findIdx? (fun x=>x.num==n)
def LsA.again (x:LsA)(v:Int):LsA:={x with left:=v}
def Dn (L:Lg)(a:ByteArray):Lg×List ItD×ByteArray×Int:=
 match iu a L.told with
 |none=>(L,[],⟨#[]⟩,9)
 |some (n,pg)=>
  match G3 n L.opened with
  |none=>(L,[],⟨#[]⟩,10)
  |some i=>
   match L.opened[i]? with
   |none=>(L,[],⟨#[]⟩,10)
   |some x=>(⟨L.opened.set i (x.again 10),L.begun,if x.tok pg=⟨#[]⟩ then L.told else mt (x.tok pg) (n,pg+1) L.told,L.tm⟩,x.page pg,x.tok pg,0)
theorem wh {α:Type}(m:Nat)(f:α->List Wx)(hf:∀a,(f a).length=m):∀ (l:List α)(i j:Nat)(a:α)(v:Wx)(_:j<m)(c:i<l.length),f a=(f l[i]).set j v->(l.set i a).flatMap f=(l.flatMap f).set (i * m+j) v
 | [],i,j,a,v,hj,c,h=>by simp at c
 |b::l,0,j,a,v,hj,c,h=>by
  simp only [List.getElem_cons_zero] at h;simp only [List.set_cons_zero,List.flatMap_cons,Nat.zero_mul,zA];rw [h,List.set_append_left _ _ (by rw [hf];exact hj)]
 |b::l,i+1,j,a,v,hj,c,h=>by
  simp only [List.getElem_cons_succ] at h;simp only [List.set_cons_succ,List.flatMap_cons];rw [wh m f hf l i j a v hj (by simpa using c) h,List.set_append_right _ _ (by rw [hf,Nat.add_mul];omega),hf];congr 2;rw [Nat.add_mul];omega
section
variable {A:Nat->Prop} {B k0:Nat} {L:Lg}
end
section
variable {P:Wv}
end
end
