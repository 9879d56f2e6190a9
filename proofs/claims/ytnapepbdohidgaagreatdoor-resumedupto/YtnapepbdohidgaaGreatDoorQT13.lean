/- A part. -/
import Derived.Test.YtnapepbdohidgaaGreatDoorQT12
import Derived.Test.YtnapepbdohidgaaGreatDoorChecked
import Derived.ProofKit
import Derived.SizedLaws
import Derived.Deep.Slices
import Derived.ChangeMaps5
import Derived.LaidMore
import Derived.Stop.Joined
import Derived.OpenShut
import Derived.MapKept
import Derived.Carry
set_option maxHeartbeats 4000000
set_option maxRecDepth 100000
open Go renaming World->Wz,Value->Wq,Program->Wx,TypeId->Wk,Addr->Ww
namespace Go.Proofs.Qw
open Tryz
section
open Go.RowKit
theorem kP.more {w W0:Wz}(h:kP w W0)(o:Obj):kP w (W0.alloc o):=by
 have hb:Below W0.heap.size W0 (W0.alloc o):=(bR _ _).alloc (lR _) _;exact ⟨h.below.trans (hb.mono h.below.size),lL h.lt hb.size,aj hb h.c0,aj hb h.c1,aj hb h.c2,aj hb h.c3,aj hb h.c4,fun j=>(hb.frozen (p:=⟨w.heap.size+1,j,none⟩) h.lt).trans (h.fz j)⟩
theorem zm {w w1:Wz}(h:Below w.heap.size w w1)(x0 x1 x2 x3 a:Wq)(o:Obj):Below w.heap.size w ((((((w1.setCell ⟨w.heap.size+1,0,none⟩ x0).setCell ⟨w.heap.size+1,1,none⟩ x1).setCell ⟨w.heap.size+1,2,none⟩ x2).setCell ⟨w.heap.size+1,3,none⟩ x3).setCell ⟨w.heap.size+1,4,none⟩ a).alloc o):=by
 have hx:w.heap.size<=w.heap.size+1:=by omega
 have h5:=((((h.setCell (p:=⟨w.heap.size+1,0,none⟩) hx x0).setCell (p:=⟨w.heap.size+1,1,none⟩) hx x1).setCell (p:=⟨w.heap.size+1,2,none⟩) hx x2).setCell (p:=⟨w.heap.size+1,3,none⟩) hx x3).setCell (p:=⟨w.heap.size+1,4,none⟩) hx a;exact h5.alloc h5.size o
theorem zn {w w1:Wz}(h:Below w.heap.size w w1)(y0 y1 y2 x0 x1 x2 x3 a:Wq):Below w.heap.size w ((((((((w1.setCell ⟨w.heap.size+1+1,0,none⟩ y0).setCell ⟨w.heap.size+1+1,1,none⟩ y1).setCell ⟨w.heap.size+1+1,2,none⟩ y2).setCell ⟨w.heap.size+1,0,none⟩ x0).setCell ⟨w.heap.size+1,1,none⟩ x1).setCell ⟨w.heap.size+1,2,none⟩ x2).setCell ⟨w.heap.size+1,3,none⟩ x3).setCell ⟨w.heap.size+1,4,none⟩ a):=by
 have hx:w.heap.size<=w.heap.size+1:=by omega
 have hy:w.heap.size<=w.heap.size+1+1:=by omega
 have h3:=((h.setCell (p:=⟨w.heap.size+1+1,0,none⟩) hy y0).setCell (p:=⟨w.heap.size+1+1,1,none⟩) hy y1).setCell (p:=⟨w.heap.size+1+1,2,none⟩) hy y2;exact ((((h3.setCell (p:=⟨w.heap.size+1,0,none⟩) hx x0).setCell (p:=⟨w.heap.size+1,1,none⟩) hx x1).setCell (p:=⟨w.heap.size+1,2,none⟩) hx x2).setCell (p:=⟨w.heap.size+1,3,none⟩) hx x3).setCell (p:=⟨w.heap.size+1,4,none⟩) hx a
theorem zo {w w1:Wz}(h:Below w.heap.size w w1)(x0 x1 x2 x3 a:Wq):Below w.heap.size w (((((w1.setCell ⟨w.heap.size+1,0,none⟩ x0).setCell ⟨w.heap.size+1,1,none⟩ x1).setCell ⟨w.heap.size+1,2,none⟩ x2).setCell ⟨w.heap.size+1,3,none⟩ x3).setCell ⟨w.heap.size+1,4,none⟩ a):=by
 have hx:w.heap.size<=w.heap.size+1:=by omega
 exact ((((h.setCell (p:=⟨w.heap.size+1,0,none⟩) hx x0).setCell (p:=⟨w.heap.size+1,1,none⟩) hx x1).setCell (p:=⟨w.heap.size+1,2,none⟩) hx x2).setCell (p:=⟨w.heap.size+1,3,none⟩) hx x3).setCell (p:=⟨w.heap.size+1,4,none⟩) hx a
theorem kP.to {w W0 w1:Wz}(h:kP w W0)(hb:Below W0.heap.size W0 w1):kP w w1:=
 ⟨h.below.trans (hb.mono h.below.size),lL h.lt hb.size,aj hb h.c0,aj hb h.c1,aj hb h.c2,aj hb h.c3,aj hb h.c4,fun j=>(hb.frozen (p:=⟨w.heap.size+1,j,none⟩) h.lt).trans (h.fz j)⟩
theorem kP.put {w w1:Wz}(h:kP w w1)(b o:Nat)(v:Wq)(hb:w.heap.size+1<b):kP w (w1.setCell ⟨b,o,none⟩ v):=by
 have hne:∀j,(w1.setCell ⟨b,o,none⟩ v).cell? ⟨w.heap.size+1,j,none⟩=w1.cell? ⟨w.heap.size+1,j,none⟩:=fun j=>cO w1 ⟨b,o,none⟩ ⟨w.heap.size+1,j,none⟩ v (fun e=>by have:=congrArg Addr.block e;simp only at this;omega)
 exact ⟨h.below.setCell (p:=⟨b,o,none⟩) (by simp only;omega) v,by have:=h.lt;simpa [World.setCell] using this,(hne 0).trans h.c0,(hne 1).trans h.c1,(hne 2).trans h.c2,(hne 3).trans h.c3,(hne 4).trans h.c4,fun j=>fs (h.fz j)⟩
theorem kP.put3 {w w1:Wz}(h:kP w w1)(x y z:Wq):kP w (((w1.setCell ⟨w.heap.size+1+1,0,none⟩ x).setCell ⟨w.heap.size+1+1,1,none⟩ y).setCell ⟨w.heap.size+1+1,2,none⟩ z):=
 ((h.put _ 0 x (by omega)).put _ 1 y (by omega)).put _ 2 z (by omega)
theorem tT (w:Wz)(x y z:Wq)(T:Wk)(b:Nat)(hb:w.heap.size=b):bI (w.alloc (.cells #[x,y,z] T)).drew b x y z:=by
 subst hb;have h:=lH w x y z T;exact ⟨h.c0,h.c1,h.c2,h.fz⟩
theorem zp (A:Nat->Prop)(k0:Nat)(st:St)(s:Nat)(o:OpD)(w:Wz)(hk:o.key.size<=maxLen)(S:aw A w k0 st)(p:Inv st s)(hs:s<2199023255340)(d:o.kind=2):
  Calls Yq.prog 33 #[.pointer (some ⟨k0,0,none⟩),cE o] w (dq A w k0 st (dv ⟨(ky st o.key).2,(ky st o.key).1.num,(ky st o.key).1.body⟩)):=by
 obtain ⟨kind,key,body,a,b,n,src⟩:=o;simp only at d hk;subst d;have R0:=(G5 w #[.int .i64 2,.string key,.string body,.string a,.string b,.int .i64 n,.int .i64 src]);have HC:Hid (∀W1,Below w.heap.size w W1->Calls Yq.prog 36 #[.pointer (some ⟨k0,0,none⟩),.string key] W1 fun e w'=>e=.returned (.tuple #[bO (ky st key).1,.int .i64 (ky st key).2])/\Below W1.heap.size W1 w'):=fun W1 hb=>Dq A k0 st s key W1 hk (S.on hb) p (by omega)
 have HS:Hid (aw A w k0 st):=S;have f:Hid (kP w ((w.alloc (.cells #[.int .i64 2,.string key,.string body,.string a,.string b,.int .i64 n,.int .i64 src] 31)).alloc (.cells #[.int .i64 0,.int .i64 0,.string ⟨#[]⟩,.slice none 0 0,.string ⟨#[]⟩] 36)).drew):=R0.drew;have c:Hid (kP w (((w.alloc (.cells #[.int .i64 2,.string key,.string body,.string a,.string b,.int .i64 n,.int .i64 src] 31)).alloc (.cells #[.int .i64 0,.int .i64 0,.string ⟨#[]⟩,.slice none 0 0,.string ⟨#[]⟩] 36)).alloc (.cells #[.int .i64 0,.string ⟨#[]⟩,.bool false] 81)).drew/\bI (((w.alloc (.cells #[.int .i64 2,.string key,.string body,.string a,.string b,.int .i64 n,.int .i64 src] 31)).alloc (.cells #[.int .i64 0,.int .i64 0,.string ⟨#[]⟩,.slice none 0 0,.string ⟨#[]⟩] 36)).alloc (.cells #[.int .i64 0,.string ⟨#[]⟩,.bool false] 81)).drew (w.heap.size+1+1) (.int .i64 0) (.string ⟨#[]⟩) (.bool false)):=⟨(R0.more _).drew,(tT _ _ _ _ _ _ (by simp))⟩;have hk0:=S.lt;clear R0 S;simp only [cE];generalize ky st key=l at *;obtain ⟨⟨h,i,m⟩,code⟩:=l;simp only [bO] at HC;go_enter (Yq.nq func33),ntmps33;go_wp2_with fail
 go_region_with (first
  |(go_at_call 36;refine (HC.out _ f.out.below).mono ?_;rintro e w1 ⟨rfl,hb1⟩;obtain ⟨⟨d0,d1,d2,d3,j⟩,g0,g1,g2,g3,g4⟩:=f.out.on hk0 (dJ hb1 (some k0));have HX:Hid (Below w.heap.size w w1):=f.out.below.trans (hb1.mono f.out.below.size);have hlt:w.heap.size+1<w1.heap.size:=lL f.out.lt hb1.size;clear hb1)
  |(go_at_call 36;refine (HC.out _ c.out.1.below).mono ?_;rintro e w1 ⟨rfl,hb1⟩;obtain ⟨⟨d0,d1,d2,d3,j⟩,g0,g1,g2,g3,g4⟩:=c.out.1.on hk0 (dJ hb1 (some k0));obtain ⟨v0,v1,v2,k⟩:=c.out.2.on hb1;have f0:=k 0;have f1:=k 1;have f2:=k 2;have HX:Hid (Below w.heap.size w w1):=c.out.1.below.trans (hb1.mono c.out.1.below.size);have hlt:w.heap.size+1<w1.heap.size:=lL c.out.1.lt hb1.size;clear hb1))
 .go_wp2;refine bodyPost_ret (v:=dv ⟨code,h,i⟩) (by simp [results,results33,go_sem,dv,d0,d1,d2,d3,j,hlt]) rfl ?_;exact aY HS.out (zm HX.out _ _ _ _ _ _)
 all_goals
  go_wp2;refine bodyPost_ret (v:=dv ⟨code,h,i⟩) (by simp [results,results33,go_sem,dv,d0,d1,d2,d3,j]) rfl ?_;have hend:=zn HX.out (.int .i64 h) (.string i) (.bool m) (.int .i64 code) (.int .i64 h) (.string i) (.slice none 0 0) (.string ⟨#[]⟩);exact aY HS.out hend
theorem vI (A:Nat->Prop)(k0:Nat)(st:St)(s:Nat)(o:OpD)(w:Wz)(hk:o.key.size<=maxLen)(S:aw A w k0 st)(x:Inv st s)(hs:s<2199023255340)(c:o.kind=3):
  Calls Yq.prog 33 #[.pointer (some ⟨k0,0,none⟩),cE o] w (dq A w k0 st (dv ⟨(eh st o.key o.n).2,0,(eh st o.key o.n).1.body⟩)):=by
 obtain ⟨kind,key,body,a,b,n,src⟩:=o;simp only at c hk;subst c;have R0:=(G5 w #[.int .i64 3,.string key,.string body,.string a,.string b,.int .i64 n,.int .i64 src]);have HC:Hid (∀W1,Below w.heap.size w W1->Calls Yq.prog 37 #[.pointer (some ⟨k0,0,none⟩),.string key,.int .i64 n] W1 fun e w'=>e=.returned (.tuple #[bO (eh st key n).1,.int .i64 (eh st key n).2])/\Below W1.heap.size W1 w'):=fun W1 hb=>Bt A k0 st s key n W1 hk (S.on hb) x (by omega)
 have HS:Hid (aw A w k0 st):=S;have h:Hid (kP w ((w.alloc (.cells #[.int .i64 3,.string key,.string body,.string a,.string b,.int .i64 n,.int .i64 src] 31)).alloc (.cells #[.int .i64 0,.int .i64 0,.string ⟨#[]⟩,.slice none 0 0,.string ⟨#[]⟩] 36)).drew):=R0.drew;have f:Hid (kP w (((w.alloc (.cells #[.int .i64 3,.string key,.string body,.string a,.string b,.int .i64 n,.int .i64 src] 31)).alloc (.cells #[.int .i64 0,.int .i64 0,.string ⟨#[]⟩,.slice none 0 0,.string ⟨#[]⟩] 36)).alloc (.cells #[.int .i64 0,.string ⟨#[]⟩,.bool false] 81)).drew/\bI (((w.alloc (.cells #[.int .i64 3,.string key,.string body,.string a,.string b,.int .i64 n,.int .i64 src] 31)).alloc (.cells #[.int .i64 0,.int .i64 0,.string ⟨#[]⟩,.slice none 0 0,.string ⟨#[]⟩] 36)).alloc (.cells #[.int .i64 0,.string ⟨#[]⟩,.bool false] 81)).drew (w.heap.size+1+1) (.int .i64 0) (.string ⟨#[]⟩) (.bool false)):=⟨(R0.more _).drew,(tT _ _ _ _ _ _ (by simp))⟩;have hk0:=S.lt;clear R0 S;simp only [cE];generalize eh st key n=t at *;obtain ⟨⟨m,j,p⟩,code⟩:=t;simp only [bO] at HC;go_enter (Yq.nq func33),ntmps33
 go_upto_region 9 with fail
 go_cut [9,10] (fun s9 s10 r=>s10=.int .i64 code/\∃l,s9=.pointer (some ⟨l,0,none⟩)/\bI r l (.int .i64 m) (.string j) (.bool p)/\w.heap.size+1<l/\kP w r)
 case first=>
  go_region_with (first
   |(go_at_call 37;refine (HC.out _ h.out.below).mono ?_;rintro e w1 ⟨rfl,hb1⟩;have HX:Hid (kP w w1):=h.out.to hb1;have hlt:w.heap.size+1<w1.heap.size:=lL h.out.lt hb1.size;clear hb1)
   |(go_at_call 37;refine (HC.out _ f.out.1.below).mono ?_;rintro e w1 ⟨rfl,hb1⟩;obtain ⟨v0,v1,v2,q⟩:=f.out.2.on hb1;have f0:=q 0;have f1:=q 1;have f2:=q 2;have HV:Hid (bI w1 (w.heap.size+1+1) (.int .i64 0) (.string ⟨#[]⟩) (.bool false)/\kP w w1):=⟨⟨v0,v1,v2,q⟩,f.out.1.to hb1⟩;clear hb1))
  all_goals
   go_wp2_with fail
   go_meet
   case rel=>
    first
     |exact ⟨rfl,w.heap.size+1+1,rfl,((HV.out.1.set0 (.int .i64 m)).set1 (.string j)).set2 (.bool p),by omega,HV.out.2.put3 (.int .i64 m) (.string j) (.bool p)⟩
     |exact ⟨rfl,w1.heap.size,rfl,lH w1 (.int .i64 m) (.string j) (.bool p) 81,hlt,HX.out.more _⟩
 case rest=>
 obtain ⟨rfl,l,rfl,⟨v0,v1,v2,-⟩,hbv,d⟩:=hcut;have hne:¬l=w.heap.size+1:=by omega
 have hlt:=d.lt;obtain ⟨k,-,d0,d1,d2,d3,u,i⟩:=d;have g0:=i 0;have g1:=i 1;have g2:=i 2;have g3:=i 3;have g4:=i 4;have HX:Hid (Below w.heap.size w wc):=k;clear k i;go_wp2;refine bodyPost_ret (v:=dv ⟨code,0,j⟩) (by simp [results,results33,go_sem,dv,d0,d1,d2,d3,u]) rfl ?_;have hend:=zo HX.out (.int .i64 code) (.int .i64 0) (.string j) (.slice none 0 0) (.string ⟨#[]⟩);exact aY HS.out hend
theorem jg (st:St)(o:OpD)(h:o.kind=1):bf st o=((jq st o.key o.body).1,⟨(jq st o.key o.body).2.2,(jq st o.key o.body).2.1,⟨#[]⟩⟩):=by
 unfold bf jq jo;rw [if_pos h];by_cases h1:aX o.key=false
 .simp [h1]
 .by_cases h2:100<o.body.size
  .simp [h1,h2]
  .by_cases h3:200<=st.count\/st.last=9223372036854775807
   .simp [h1,h2,h3]
   .simp [h1,h2,h3]
theorem pP (st:St)(o:OpD)(h:o.kind=2):bf st o=(st,⟨(ky st o.key).2,(ky st o.key).1.num,(ky st o.key).1.body⟩):=by
 unfold bf ky;rw [if_neg (by omega),if_pos h];by_cases h1:aX o.key=false
 .simp [h1,dO]
 .cases h2:(st.f o.key.data.toList).getLast? with
  |none=>simp [h1,dO]
  |some v=>cases h3:v.mark<;>simp [h1,h3,dO]
theorem ou (st:St)(o:OpD)(h:o.kind=3):bf st o=(st,⟨(eh st o.key o.n).2,0,(eh st o.key o.n).1.body⟩):=by
 unfold bf eh;rw [if_neg (by omega),if_neg (by omega),if_pos h];by_cases h1:aX o.key=false
 .simp [h1,dO]
 .cases h2:ec (st.f o.key.data.toList) o.n with
  |none=>simp [h1,dO]
  |some r=>
   cases h4:(st.f o.key.data.toList)[r]? with
   |none=>simp [h1,h4,dO]
   |some v=>cases h3:v.mark<;>simp [h1,h3,h4,dO]
theorem ik (st:St)(o:OpD)(h:o.kind=4):bf st o=((dropR st o.key).1,⟨(dropR st o.key).2.2,(dropR st o.key).2.1,⟨#[]⟩⟩):=by
 unfold bf dropR jo;rw [if_neg (by omega),if_neg (by omega),if_neg (by omega),if_pos h];by_cases h1:aX o.key=false
 .simp [h1]
 .by_cases h3:200<=st.count\/st.last=9223372036854775807
  .simp [h1,h3]
  .simp [h1,h3]
theorem mE (st:St)(o:OpD)(h:o.kind=5):bf st o=((d9 st o.key o.n).1,⟨(d9 st o.key o.n).2,0,⟨#[]⟩⟩):=by
 unfold bf d9;rw [if_neg (by omega),if_neg (by omega),if_neg (by omega),if_neg (by omega),if_pos h];by_cases h1:aX o.key=false
 .simp [h1]
 .cases h2:ec (st.f o.key.data.toList) o.n<;>simp [h1]
theorem zq (A:Nat->Prop)(k0:Nat)(st:St)(s:Nat)(o:OpD)(w:Wz)(hk:o.key.size<=maxLen)(hbd:o.body.size<=maxLen)(S:aw A w k0 st)(a:Inv st s)(hs:s<2199023255340)(h6:o.kind<6\/12<o.kind):
  Calls Yq.prog 33 #[.pointer (some ⟨k0,0,none⟩),cE o] w (dq A w k0 (bf st o).1 (dv (bf st o).2)):=by
 by_cases h1:o.kind=1
 .rw [jg st o h1];exact zl A k0 st s o w hk hbd S a hs h1
 by_cases h2:o.kind=2
 .rw [pP st o h2];exact zp A k0 st s o w hk S a hs h2
 by_cases h3:o.kind=3
 .rw [ou st o h3];exact vI A k0 st s o w hk S a hs h3
 by_cases h4:o.kind=4
 .rw [ik st o h4];exact vH A k0 st s o w hk S a hs h4
 by_cases h5:o.kind=5
 .rw [mE st o h5];exact tQ A k0 st s o w hk S a hs h5
 .have e:bf st o=(st,⟨1,0,⟨#[]⟩⟩):=by unfold bf;simp [h1,h2,h3,h4,h5]
  rw [e];exact tR A k0 st o w S (by omega)
theorem Inv.step {st:St}{s:Nat}(h:Inv st s)(o:OpD):Inv (bf st o).1 (s+1):=by
 by_cases h1:o.kind=1
 .rw [jg st o h1];unfold jq
  (repeat' split)<;>first|exact h.mono (by omega)|exact h.add _ _ _ (fun e=>by simp_all [jo])
 by_cases h2:o.kind=2
 .rw [pP st o h2];exact h.mono (by omega)
 by_cases h3:o.kind=3
 .rw [ou st o h3];exact h.mono (by omega)
 by_cases h4:o.kind=4
 .rw [ik st o h4];unfold dropR
  (repeat' split)<;>first|exact h.mono (by omega)|exact h.add _ _ _ (fun e=>by simp_all [jo])
 by_cases h5:o.kind=5
 .rw [mE st o h5];unfold d9;split
  .exact h.mono (by omega)
  .split
   .exact h.mono (by omega)
   .rename_i r hr;exact h.drop _ _ (List.findIdx?_eq_some_iff_getElem.1 hr).1
 .have e:bf st o=(st,⟨1,0,⟨#[]⟩⟩):=by unfold bf;simp [h1,h2,h3,h4,h5]
  rw [e];exact h.mono (by omega)
def st0:St:=⟨fun _=>[],0,0⟩
theorem inv0:Inv st0 0:=by
 refine ⟨by simp [st0],by simp [st0],by simp [st0],by simp [st0],fun k=>by simp [st0],?_,?_⟩
 .intro k i j _ a;simp [st0] at a
 .intro k i hi;simp [st0] at hi
def aD (o:OpD):List Wq:=[.int .i64 o.kind,.string o.key,.string o.body,.string o.delim,.string o.past,.int .i64 o.n,.int .i64 o.src]
def rj (w:Wz)(b off:Nat)(ops:List OpD):Prop:=
 ∀i (h:i<ops.length),w.cell? ⟨b,off+i * 7,none⟩=some (.int .i64 ops[i].kind)/\w.cell? ⟨b,off+i * 7+1,none⟩=some (.string ops[i].key)/\w.cell? ⟨b,off+i * 7+2,none⟩=some (.string ops[i].body) /\
  w.cell? ⟨b,off+i * 7+3,none⟩=some (.string ops[i].delim)/\w.cell? ⟨b,off+i * 7+4,none⟩=some (.string ops[i].past)/\w.cell? ⟨b,off+i * 7+5,none⟩=some (.int .i64 ops[i].n)/\w.cell? ⟨b,off+i * 7+6,none⟩=some (.int .i64 ops[i].src)
def Sized (ops:List OpD):Prop:=∀o∈ops,o.key.size<=maxLen/\o.body.size<=maxLen
theorem Yq.infoAns:(Yq.prog.info? 36).map (fun i=>(i.zero,i.size,i.bytes))=some (some (.agg #[.int .i64 0,.int .i64 0,.string ⟨#[]⟩,.slice none 0 0,.string ⟨#[]⟩]),5,72):=by kernel_rfl
theorem mU {P:Wx}{ops:Array Oper}{o:Oper}{a:Act}{w:Wz}{K:Act->Wz->Prop}{Q:Exit->Act->Wz->Prop}{E:Prop}
  (hg:o.guard=none) (s x:Operand) (t:Wk) (d:o.op=Op.call {callee:=Callee.builtin Builtin.append,args:=#[s,x],argTypes:=#[t,t]})
  (base:Nat) (e:Wk) (i:TypeInfo) (b:Nat) (h1:P.underlying t=some (.slice e)) (h2:P.info? e=some i) (h4:i.size=b)
  (g k cap:Nat) (xs:List Wq) (hs:a.eval s=.slice (some ⟨g,0,none⟩) k cap) (hown:w.ownsRow base e b (.slice (some ⟨g,0,none⟩) k cap) k xs) (h:Ww) (m c:Nat) (news:List Wq) (hx:a.eval x=.slice (some h) m c) (hn:news.length=m * b)
  (hc:∀j u,news[j]?=some u->w.cell? (h.add j)=some u) (f:∀u∈news,u.oneCell'=true) (l:k+m<=cap)
  (n:∀w',w'.ownsRow base e b (.slice (some ⟨g,0,none⟩) (k+m) cap) (k+m) (xs++news)->w.grownBy w' (some g)->K (a.put o.dst (.slice (some ⟨g,0,none⟩) (k+m) cap)) w'):
  if Region.wanted o (yielded ops a.tmps)=true then Oper.wp P o a w K Q else E:=by
 have hw:Region.wanted o (yielded ops a.tmps)=true:=by simp [Region.wanted,hg]
 rw [if_pos hw];obtain ⟨w',hrun,r1,r2⟩:=run_append_fits (P:=P) w base t o.type e i b h1 h2 h4 g k cap xs hown h m c news hn hc f l;unfold Oper.wp;simp [execOp,d,resolve,invoke,builtin,hs,hx,hrun,Result.andThen];exact n w' r1 r2
theorem zr (w:Wz)(x0 x1 x2 x3 a:Wq)(T:Wk):∀j u,[x0,x1,x2,x3,a][j]?=some u->(w.alloc (.cells #[x0,x1,x2,x3,a] T)).cell? ((⟨w.heap.size,0,none⟩:Ww).add j)=some u:=by
 intro j u b;rw [Addr.add_lit,cA (w:=w) _ _ w.heap.size _ rfl];simpa using b
theorem fU (w:Wz)(xs:Array Wq)(T:Wk)(j:Nat):(w.alloc (.cells xs T)).cell? ⟨w.heap.size,j,none⟩=xs[j]?:=cA (w:=w) _ _ w.heap.size j rfl
structure cN (w:Wz)(v:Wq)(ops:List OpD):Prop where
 form:∃a cap,v=.slice a ops.length cap/\(ops≠[]->∃b off,a=some ⟨b,off,none⟩/\rj w b off ops)
 sized:Sized ops
 len:ops.length<=2199023255552
end
section
open Go.ChangeShapes Go.WideShapes Go.ChangeAt Go.RowKit
theorem Id:ownKnob Tryz.prog.godebug=none:=by kernel_rfl
theorem rl:laidOutB Tryz.prog=true:=by kernel_rfl
theorem xq:Tryz.prog.cellsOf 31=7:=by kernel_rfl
theorem ov:Tryz.prog.cellsOf 3=1:=by kernel_rfl
theorem fV:Tryz.prog.cellsOf 9=1:=by kernel_rfl
theorem rm:Tryz.prog.bytesOf 31=88:=by kernel_rfl
theorem seven {α:Type}(l:List α)(h:l.length=7):∃c0 c1 c2 c3 c4 c5 c6,l=[c0,c1,c2,c3,c4,c5,c6]:=by
 match l,h with
 | [a,b,c,d,e,f,g],_=>exact ⟨a,b,c,d,e,f,g,rfl⟩
theorem FW {H:Type}{b:Wk×Wq->H}{W:Wz}{base:Nat}{spare:Nat->Bool}{a:Bool}{fuel:Nat}{cs:List Wq}{x:DataW H×List MemPlace}(h:DataW.trod b Tryz.prog W base spare a fuel 31 cs=some x):
  ∃o:OpD,cs=aD o/\o.key.size<=maxLen/\o.body.size<=maxLen:=by
 obtain ⟨xs,n,rfl,_,hl,c,hf⟩:=DataW.trod_struct underlying31 h;rw [xq] at hl;have hx:∀i,i<7->∃y,xs[i]?=some y:=fun i hi=>⟨xs[i]'(by rw [c];exact hi),List.getElem?_eq_getElem _⟩
 obtain ⟨c0,c1,c2,c3,c4,c5,c6,rfl⟩:=seven cs hl
 .skip
  obtain ⟨y0,e0⟩:=hx 0 (by omega);obtain ⟨y1,e1⟩:=hx 1 (by omega);obtain ⟨y2,e2⟩:=hx 2 (by omega);obtain ⟨y3,e3⟩:=hx 3 (by omega);obtain ⟨y4,e4⟩:=hx 4 (by omega);obtain ⟨y5,e5⟩:=hx 5 (by omega);obtain ⟨y6,e6⟩:=hx 6 (by omega);have t0:=hf 0 _ rfl;have t1:=hf 1 _ rfl;have t2:=hf 2 _ rfl;have t3:=hf 3 _ rfl;have t4:=hf 4 _ rfl;have t5:=hf 5 _ rfl;have t6:=hf 6 _ rfl;rw [e0] at t0;rw [e1] at t1;rw [e2] at t2;rw [e3] at t3;rw [e4] at t4;rw [e5] at t5;rw [e6] at t6;obtain ⟨z0,h0,_,_⟩:=DataW.trod_int underlying3 t0;obtain ⟨z1,h1,_,s1⟩:=DataW.trod_string underlying9 t1;obtain ⟨z2,h2,_,s2⟩:=DataW.trod_string underlying9 t2;obtain ⟨z3,h3,_,s3⟩:=DataW.trod_string underlying9 t3;obtain ⟨z4,h4,_,s4⟩:=DataW.trod_string underlying9 t4;obtain ⟨z5,h5,_,_⟩:=DataW.trod_int underlying3 t5;obtain ⟨z6,h6,_,_⟩:=DataW.trod_int underlying3 t6;have k0:c0=.int .i64 z0:=by simpa [ov] using h0
  have k1:c1=.string z1:=by simpa [fV] using h1
  have k2:c2=.string z2:=by simpa [fV] using h2
  have d:c3=.string z3:=by simpa [fV] using h3
  have k4:c4=.string z4:=by simpa [fV] using h4
  have k5:c5=.int .i64 z5:=by simpa [ov] using h5
  have k6:c6=.int .i64 z6:=by simpa [ov] using h6
  subst k0 k1 k2 d k4 k5 k6;exact ⟨⟨z0,z1,z2,z3,z4,z5,z6⟩,rfl,s1,s2⟩
theorem vJ {H:Type}{k:Wk×Wq->H}{W:Wz}{fuel:Nat}{a0:Option Ww}{len cap:Nat}{x:DataW H×List MemPlace}(h:DataW.trod k Tryz.prog W 0 (fun _=>true) true fuel 22 [.slice a0 len cap]=some x)
  (hz:∀elems spare,x.1=.slice elems spare->(elems.length+spare.length) * 88<=140737488355328):
  (∃ops,cN W (.slice a0 len cap) ops)/\len<=cap/\cap<=maxLen/\cap * 88<=140737488355328:=by
 rcases Go.Deep.open_slice underlying22 h with ⟨hcs,_⟩|⟨a,len',cap',m,n,D,Pl,hcs,_,e,q,hm,hx,hel⟩
 .simp only [List.cons.injEq,Value.slice.injEq,and_true] at hcs;obtain ⟨rfl,rfl,rfl⟩:=hcs;exact ⟨⟨[],⟨none,0,rfl,fun h=>absurd rfl h⟩,fun o ho=>absurd ho List.not_mem_nil,by simp⟩,lR _,by simp [maxLen],by omega⟩
 .simp only [List.cons.injEq,Value.slice.injEq,and_true] at hcs;obtain ⟨rfl,rfl,rfl⟩:=hcs;simp only [if_true] at hm;subst hm;have hb:=hz _ _ (by rw [hx]);simp only [lM,List.length_range] at hb;rw [xq] at hel;have p:∀i,i<len->∃o:OpD,(∀j,j<7->W.cell? (a.add (i * 7+j))=(aD o)[j]?)/\o.key.size<=maxLen/\o.body.size<=maxLen:=fun i hi=>by
   obtain ⟨cs',h1,h2⟩:=hel i (by omega);obtain ⟨o,rfl,s1,s2⟩:=FW h2;obtain ⟨_,_,h3⟩:=World.cells?_some h1;refine ⟨o,fun j l=>?_,s1,s2⟩;rw [<-Go.Deep.add_add];exact h3 j l
  have hin:Inhabited OpD:=⟨⟨0,⟨#[]⟩,⟨#[]⟩,⟨#[]⟩,⟨#[]⟩,0,0⟩⟩;obtain ⟨f,hf⟩:=Go.Deep.choose_lt (α:=OpD) p;refine ⟨⟨(List.range len).map f,⟨some a,m,by simp,fun hne=>?_⟩,?_,?_⟩,e,q,by omega⟩
  .have hlen:0<len:=by
    rcases Nat.eq_zero_or_pos len with h0|h0
    .subst h0;simp at hne
    .exact h0
   obtain ⟨b,off,c⟩:=a;have hc0:=(hf 0 hlen).1 0 (by omega);have d:c=none:=by
    have:W.cell? ((⟨b,off,c⟩:Ww).add 0)=some (.int .i64 (f 0).kind):=by simpa [aD] using hc0
    simpa [Addr.add] using World.cell?_spot this
   subst d;refine ⟨b,off,rfl,fun i hi=>?_⟩;simp only [lM,List.length_range] at hi;have h7:∀j,j<7->W.cell? ⟨b,off+i * 7+j,none⟩=(aD (f i))[j]?:=fun j l=>by
    rw [<-(hf i hi).1 j l,Addr.add_lit];congr 2;omega
   have hg:((List.range len).map f)[i]'(by simpa using hi)=f i:=by simp
   rw [hg];exact ⟨h7 0 (by omega),h7 1 (by omega),h7 2 (by omega),h7 3 (by omega),h7 4 (by omega),h7 5 (by omega),h7 6 (by omega)⟩
  .intro o ho;obtain ⟨i,hi,rfl⟩:=List.mem_map.1 ho;exact (hf i (by simpa using hi)).2
  .simp only [lM,List.length_range];omega
theorem xr {H:Type}{b:Wk×Wq->H}{W:Wz}{fuel:Nat}{a0:Option Ww}{len cap B:Nat}{x:DataW H×List MemPlace}(h:DataW.trod b Tryz.prog W 0 (fun _=>true) true fuel 22 [.slice a0 len cap]=some x)
  (hz:∀elems spare,x.1=.slice elems spare->(elems.length+spare.length) * 88<=B):len * 88<=B:=by
 rcases Go.Deep.open_slice underlying22 h with ⟨hcs,_⟩|⟨a,len',cap',m,n,D,Pl,hcs,_,hlc,hcm,hm,hx,hel⟩
 .simp only [List.cons.injEq,Value.slice.injEq,and_true] at hcs;obtain ⟨rfl,rfl,rfl⟩:=hcs;omega
 .simp only [List.cons.injEq,Value.slice.injEq,and_true] at hcs;obtain ⟨rfl,rfl,rfl⟩:=hcs;simp only [if_true] at hm;subst hm;have hb:=hz _ _ (by rw [hx]);simp only [lM,List.length_range] at hb;omega
end
section
open Go.ChangeShapes Go.WideShapes Go.ChangeAt Go.RowKit
open Go.Conc Go.ConcX Go.ConcX.Gen
def slB (a:Option Ww)(b:Nat):Prop:=∃x,a=some x/\x.block=b
theorem DI {w:Wz}(h:laidMetH Tryz.prog YtnapepbdohidgaaGreatDoor.Rows.steadyRow.laid w):ri w:=by
 have h1:laidMet Tryz.prog YtnapepbdohidgaaGreatDoor.Rows.steadyRow.laid w:=h;have h2:=mD (mD h1);have e:(YtnapepbdohidgaaGreatDoor.Rows.laid_internal_strconv_uint64pow10:DataW Unit)=Lib.tabData .u64 Lib.pow10Tab:=by kernel_rfl
 rw [e] at h2;exact Lib.tabIs_of_head (P:=Tryz.prog) (g:=1) (t:=249) (e:=57) (n:=20) (by kernel_rfl) (by kernel_rfl) (by kernel_rfl) (by kernel_rfl) (by kernel_rfl) (by kernel_rfl) h2
theorem ow {H:Type}{f:Wk×Wq->H}{W:Wz}{base:Nat}{v:Wq}{d:DataW H}{p:List MemPlace}(hv:Value.okWide Tryz.prog W .any base 22 v)(h:DataW.Trod f Tryz.prog W 0 (fun _=>true) true 22 v d p)(hz:∀elems spare,d=.slice elems spare->(elems.length+spare.length) * 88<=140737488351232):
  ∃a len cap ops,v=.slice a len cap/\cN W (.slice a len cap) ops/\(∀b,slB a b->∃c e z,W.heap[b]?=some (.cells c e z))/\len * 88<=140737488351232:=by
 obtain ⟨a,len,cap,rfl⟩:=okWide_slice underlying22 hv;obtain ⟨fuel,hf⟩:=h;have hf2:DataW.trod f Tryz.prog W 0 (fun _=>true) true fuel 22 [.slice a len cap]=some (d,p):=by simpa [Value.cells] using hf
 obtain ⟨⟨ops,hS⟩,-,-,-⟩:=vJ hf2 (fun elems spare he=>by have:=hz elems spare he;omega);refine ⟨a,len,cap,ops,rfl,hS,?_,xr hf2 hz⟩;rintro b ⟨x,rfl,rfl⟩;unfold Value.okWide at hv;rw [underlying22] at hv;have hv:Cell.okWide Tryz.prog W .any base 22 (.slice (some x) len cap):=hv;unfold Cell.okWide Cell.ok at hv;rw [underlying22] at hv;obtain ⟨-,-,-,-,row,cells,hs,-⟩:=hv;unfold World.shape? at hs;split at hs
 .rename_i c e z i;exact ⟨c,e,z,i⟩
 .cases hs
theorem DJ {P:Wx}{Post Post':Wq->Wz->Prop}{gs:Array Goroutine}{W:Wz}{sl:Option (Nat×Nat)}{t:Trace}(h:Fin P Post gs W sl t)(hp:∀v w',Post v w'->Post' v w'):Fin P Post' gs W sl t:=by
 obtain ⟨N,a,o,w',t',e1,e2,e3,e4⟩:=h;exact ⟨N,a,o,w',t',e1,e2,e3,e4.mono fun v h=>hp v w' h⟩
end
section
open Go.Conc Go.ConcX Go.ConcX.Gen Go.RowKit Go.MapKept
abbrev Told:=List (ByteArray×Int×Int)
def plV (x:Int×Int):Wq:=.agg #[.int .i64 x.1,.int .i64 x.2]
def eN (k:ByteArray):Told->Option (Int×Int)
 | []=>none
 |(k',x)::r=>if k=k' then some x else eN k r
def mF (k:ByteArray)(x:Int×Int):Told->Told
 | []=>[(k,x)]
 |(k',x')::r=>if k=k' then (k,x)::r else (k',x')::mF k x r
def zV:List MapEntry->Told->Prop
 | [],[]=>True
 |e::es,(k,x)::r=>e.key=.string k/\e.val=plV x/\zV es r
 |_,_=>False
theorem xu (k:ByteArray):∀ (es:List MapEntry)(t:Told)(i:Nat),zV es t ->
  (∃x j,eN k t=some x/\j<es.length/\Instr.findNow .string (.string k) es i=some (some (i+j,plV x))/\((es[j]?).map (·.key))=some (.string k)/\∀ (x':Int×Int) (es':List MapEntry),es'=es.modify j (fun e=>{e with key:=.string k,val:=plV x'})->zV es' (mF k x' t)) \/
  (eN k t=none/\Instr.findNow .string (.string k) es i=some none/\∀ (x':Int×Int) (n:Nat),zV (es++[⟨.string k,plV x',n⟩]) (mF k x' t)):=by
 intro es;induction es with
 |nil=>
  intro t i h;cases t with
  |nil=>exact .inr ⟨rfl,rfl,fun x' n=>⟨rfl,rfl,trivial⟩⟩
  |cons a r=>exact h.elim
 |cons e es ih=>
  intro t i h;cases t with
  |nil=>exact h.elim
  |cons a r=>
   obtain ⟨k',x⟩:=a;obtain ⟨h1,h2,h3⟩:=h;by_cases hk:k=k'
   .subst hk
    left
    refine ⟨x,0,by simp [eN],by simp,?_,by simp [h1],fun x' es' he=>?_⟩
    .simp [Instr.findNow,Instr.sameNow,h1,h2,(bytes_beq k k).2 rfl]
    .subst he;simp [mF,zV,h3]
   .have hs:Instr.findNow .string (.string k) (e::es) i=Instr.findNow .string (.string k) es (i+1):=by
     have hb:(k==k')=false:=by
      cases h:k==k' with
      |true=>exact absurd ((bytes_beq k k').1 h) hk
      |false=>rfl
     simp [Instr.findNow,Instr.sameNow,h1,hb]
    rcases ih r (i+1) h3 with ⟨y,j,b,a2,a3,a4,a5⟩|⟨b,a2,a3⟩
    .left
     refine ⟨y,j+1,by simp [eN,hk,b],by simp;omega,?_,by simpa using a4,fun x' es' he=>?_⟩
     .rw [hs,a3,show i+1+j=i+(j+1) by omega]
     .subst he;simp only [mF,hk,if_false,List.modify_succ_cons,zV];exact ⟨h1,h2,a5 x' _ rfl⟩
    .right
     refine ⟨by simp [eN,hk,b],by rw [hs,a2],fun x' n=>?_⟩;simp only [mF,hk,if_false,List.cons_append,zV];exact ⟨h1,h2,a3 x' n⟩
def Bu (w:Wz)(b:Wq)(t:Told)(A:Nat->Prop)(B:Nat):Prop:=
 (b=.map none/\t=[])\/∃m es a,b=.map (some m)/\w.heap[m]?=some (.map es a)/\zV es.toList t/\¬A m/\B<=m
theorem iU (b:Bool)(k:ByteArray)(w:Wz):(Instr.checkKey b 10000 9 (.string k)).run Yq.prog w=.ok () w:=by
 show (Instr.checkKey b (9999+1) 9 (.string k)).run Yq.prog w=_;rw [Instr.checkKey];simp [go_sem]
theorem FX (w:Wz):(zeroValue 129).run Yq.prog w=.ok (plV (0,0)) w:=by kernel_rfl
theorem rn {w:Wz}{m:Nat}{o:Obj}(h:w.heap[m]?=some o)(hc:o.isCells=false):Sem.run Yq.prog (getObj m) w=.ok o w:=by
 cases o with
 |cells c e z=>cases hc
 |_=>simp [getObj,Sem.run,h]
theorem Bv {w:Wz}{m:Nat}{o o':Obj}(h:w.heap[m]?=some o)(hc:o.isCells=false):Sem.run Yq.prog (setObj m o') w=.ok () (w.putObj m o'):=by
 cases o with
 |cells c e z=>cases hc
 |_=>simp [setObj,Sem.run,h,World.putObj]
theorem lK {w:Wz}{b:Wq}{t:Told}{A:Nat->Prop}{B:Nat}(h:Bu w b t A B)(k:ByteArray):
  (Instr.lookup 61 b (.string k) true).run Yq.prog w=.ok (.tuple #[plV ((eN k t).getD (0,0)),.bool (eN k t).isSome]) w:=by
 have hz:=FX w;rcases h with ⟨rfl,rfl⟩|⟨m,es,clock,rfl,hm,he,-,-⟩
 .simp [Instr.lookup,go_sem,iU,Instr.findKey,Instr.findNow,eN,plV]
 .rcases xu k es.toList t 0 he with ⟨x,j,a,a2,a3,-⟩|⟨a,a2,-⟩
  .simp [Instr.lookup,go_sem,iU,Instr.findKey,rn hm rfl,a,a3]
  .simp [Instr.lookup,go_sem,iU,Instr.findKey,rn hm rfl,a,a2,plV]
theorem pQ {w:Wz}{m:Nat}{es:Array MapEntry}{a:Nat}{t:Told}(hm:w.heap[m]?=some (.map es a))(he:zV es.toList t)(k:ByteArray)(x:Int×Int):
  ∃es' clock',(Instr.mapUpdate 61 (.map (some m)) (.string k) (plV x)).run Yq.prog w=.ok () (w.putObj m (.map es' clock'))/\zV es'.toList (mF k x t):=by
 rcases xu k es.toList t 0 he with ⟨y,j,c,a2,a3,a4,a5⟩|⟨c,a2,a3⟩
 .refine ⟨es.modify j fun e=>{e with key:=.string k,val:=plV x},a,?_,a5 x _ (by simp)⟩;have b:(es[j]?).map (·.key)=some (.string k):=by simpa using a4
  simp [Instr.mapUpdate,go_sem,iU,Instr.findKey,rn hm rfl,Bv hm rfl,a3,b,Instr.keyThatStays,Instr.sameBits,World.putObj,(bytes_beq k k).2 rfl]
 .refine ⟨es.push ⟨.string k,plV x,a⟩,a+1,?_,by simpa using a3 x a⟩;simp [Instr.mapUpdate,go_sem,iU,Instr.findKey,rn hm rfl,Bv hm rfl,a2,World.putObj]
end
section
open Go.Conc Go.ConcX Go.ConcX.Gen Go.RowKit
structure LsA where
 num:Int
 f:List UInt8->List Ver
 q:Qy
 size:Int
 left:Int
def LsA.lst (x:LsA)(r:Option Ww):Lst:=⟨x.num,r,x.q.vs,x.q.p,x.q.d,x.q.af,x.size,x.left⟩
structure Lg where
 opened:List LsA
 begun:Int
 told:Told
 tm:Int
def aT (zs:List (LsA×Option Ww)):List Wq:=zs.flatMap fun z=>(aE (z.1.lst z.2)).toList
theorem lO (zs:List (LsA×Option Ww)):(aT zs).length=zs.length * 8:=eZ 8 _ (fun _=>rfl) zs
theorem vK (zs:List (LsA×Option Ww))(z:LsA×Option Ww):aT (zs++[z])=aT zs++(aE (z.1.lst z.2)).toList:=by simp [aT]
def xv (A:Nat->Prop)(B:Nat)(w:Wz)(v:Wq)(xs:List LsA):Prop:=
 ∃zs:List (LsA×Option Ww),xs=zs.map (·.1)/\w.ownsRow B 125 8 v zs.length (aT zs)/\(∀g,v.ownBlock=some g->¬A g)/\∀z∈zs,ai A 41 w z.2 z.1.f
structure dr (A:Nat->Prop)(B:Nat)(w:Wz)(k0:Nat)(L:Lg):Prop where
 opened:∃v,w.cell? ⟨k0,4,none⟩=some v/\xv A B w v L.opened
 begun:w.cell? ⟨k0,5,none⟩=some (.int .i64 L.begun)
 told:∃mv,w.cell? ⟨k0,6,none⟩=some mv/\Bu w mv L.told A B
 frozen:∀j,w.frozen? ⟨k0,j,none⟩=false
 avoid:¬A k0
 low:k0<B
 inn:∀b,A b->b<w.heap.size
structure aJ (A:Nat->Prop)(B k0:Nat)(w w':Wz):Prop where
 os:w'.os=w.os
 size:w.heap.size<=w'.heap.size
 low:∀b,b<B->b<w.heap.size->b≠k0->w'.heap[b]?=w.heap[b]?
 tree:∀b,A b->b<w.heap.size->w'.heap[b]?=w.heap[b]?
 cells:∀j,j<4\/6<j->w'.cell? ⟨k0,j,none⟩=w.cell? ⟨k0,j,none⟩
 fz:∀j,w'.frozen? ⟨k0,j,none⟩=w.frozen? ⟨k0,j,none⟩
section
variable {A:Nat->Prop} {B k0:Nat} {w w' w'':Wz} {L:Lg}
theorem aJ.refl:aJ A B k0 w w:=⟨rfl,lR _,fun _ _ _ _=>rfl,fun _ _ _=>rfl,fun _ _=>rfl,fun _=>rfl⟩
theorem aJ.trans (h:aJ A B k0 w w')(k:aJ A B k0 w' w''):aJ A B k0 w w'':=
 ⟨k.os.trans h.os,lT h.size k.size,fun b h1 h2 h3=>(k.low b h1 (lL h2 h.size) h3).trans (h.low b h1 h2 h3),fun b h1 h2=>(k.tree b h1 (lL h2 h.size)).trans (h.tree b h1 h2),fun j a=>(k.cells j a).trans (h.cells j a),fun j=>(k.fz j).trans (h.fz j)⟩
theorem dr.lt (h:dr A B w k0 L):k0<w.heap.size:=bC w _ h.begun
theorem aJ.left (hk:k0<w.heap.size)(h:am w w'):aJ A B k0 w w':=
 ⟨h.os,h.size,fun b _ h2 _=>h.block b h2,fun b _ h2=>h.block b h2,fun j _=>cB (a:=⟨k0,j,none⟩) (h.block k0 hk),fun j=>fB (a:=⟨k0,j,none⟩) (h.block k0 hk)⟩
theorem am.refl:am w w:=⟨rfl,lR _,fun _ _=>rfl⟩
theorem am.trans (h:am w w')(k:am w' w''):am w w'':=⟨k.os.trans h.os,lT h.size k.size,fun b hb=>(k.block b (lL hb h.size)).trans (h.block b hb)⟩
theorem am.below (h:Below w.heap.size w w'):am w w':=⟨h.os,h.size,h.block⟩
theorem am.alloc (h:am w w')(o:Obj):am w (w'.alloc o):=⟨h.os,by have:=h.size;simp;omega,fun b hb=>(bA _ _ _ (lL hb h.size)).trans (h.block b hb)⟩
theorem am.drew (h:am w w'):am w w'.drew:=⟨h.os,h.size,h.block⟩
theorem am.cell (h:am w w'){b j:Nat}{v:Wq}(hc:w.cell? ⟨b,j,none⟩=some v):w'.cell? ⟨b,j,none⟩=some v:=
 (cB (a:=⟨b,j,none⟩) (h.block b (bC w _ hc))).trans hc
theorem am.set (h:am w w'){b:Nat}(hb:w.heap.size<=b)(j:Nat)(v:Wq):am w (w'.setCell ⟨b,j,none⟩ v):=
 ⟨h.os,by have:=h.size;simp;omega,fun k hk=>(bS _ _ _ _ (by show k≠b;omega)).trans (h.block k hk)⟩
theorem Bu.left {b:Wq}{t:Told}(h:Bu w b t A B)(hl:am w w'):Bu w' b t A B:=by
 rcases h with h|⟨m,es,a,h1,h2,h3⟩
 .exact .inl h
 .exact .inr ⟨m,es,a,h1,(hl.block m (eS h2).1).trans h2,h3⟩
theorem xv.left {v:Wq}{xs:List LsA}(h:xv A B w v xs)(hl:am w w'):xv A B w' v xs:=by
 obtain ⟨zs,h1,h2,h3,h4⟩:=h;exact ⟨zs,h1,aZ h2 fun g _ hg=>hl.block g hg,h3,fun z hz=>ai.keep (fun b hb hlt=>⟨hb,hl.block b hlt⟩) 41 _ _ (h4 z hz)⟩
theorem dr.left (h:dr A B w k0 L)(hl:am w w'):dr A B w' k0 L:=by
 obtain ⟨v,c4,ho⟩:=h.opened;obtain ⟨c,c6,hm⟩:=h.told;exact ⟨⟨v,hl.cell c4,ho.left hl⟩,hl.cell h.begun,⟨c,hl.cell c6,hm.left hl⟩,fun j=>(fB (a:=⟨k0,j,none⟩) (hl.block k0 h.lt)).trans (h.frozen j),h.avoid,h.low,fun b hb=>lL (h.inn b hb) hl.size⟩
theorem putMap {m:Nat}{es es':Array MapEntry}{c clock':Nat}(_hm:w.heap[m]?=some (.map es c))(hA:¬A m)(hB:B<=m)(hk:k0<B):aJ A B k0 w (w.putObj m (.map es' clock')):=by
 have hne:∀b,b≠m->(w.putObj m (.map es' clock')).heap[b]?=w.heap[b]?:=fun b hb=>pO hb
 exact ⟨rfl,by simp,fun b h1 h2 _=>hne b (by omega),fun b h1 h2=>hne b (fun e=>hA (e▸h1)),fun j _=>cB (a:=⟨k0,j,none⟩) (hne k0 (by omega)),fun j=>fB (a:=⟨k0,j,none⟩) (hne k0 (by omega))⟩
theorem dr.putMap (h:dr A B w k0 L){m:Nat}{es es':Array MapEntry}{c clock':Nat}(c6:w.cell? ⟨k0,6,none⟩=some (.map (some m)))(hm:w.heap[m]?=some (.map es c))(hA:¬A m)(i:B<=m){t:Told}(he:zV es'.toList t):dr A B (w.putObj m (.map es' clock')) k0 {L with told:=t}:=by
 have hne:∀b,b≠m->(w.putObj m (.map es' clock')).heap[b]?=w.heap[b]?:=fun b hb=>pO hb
 have hk:=h.low;have d:∀j,(w.putObj m (.map es' clock')).cell? ⟨k0,j,none⟩=w.cell? ⟨k0,j,none⟩:=fun j=>cB (a:=⟨k0,j,none⟩) (hne k0 (by omega))
 obtain ⟨v,c4,zs,h1,h2,h3,h4⟩:=h.opened;refine ⟨⟨v,(d 4).trans c4,zs,h1,?_,h3,fun z hz=>ai.keep (fun b hb hlt=>⟨hb,hne b (fun e=>hA (e▸hb))⟩) 41 _ _ (h4 z hz)⟩,(d 5).trans h.begun,⟨_,(d 6).trans c6,.inr ⟨m,es',clock',rfl,World.putObj_heap_same (eS hm).1,he,hA,i⟩⟩,fun j=>(fB (a:=⟨k0,j,none⟩) (hne k0 (by omega))).trans (h.frozen j),h.avoid,h.low,fun b hb=>by simpa using h.inn b hb⟩;refine ⟨h2.1,?_⟩;rcases h2.2 with h5|⟨g,cap,f,hv,hg,hr,r⟩
 .exact .inl h5
 .refine .inr ⟨g,cap,f,hv,hg,(hne g fun e=>?_).trans hr,r⟩;subst e;rw [hr] at hm;cases hm
end
def jS (k0:Nat)(w:Wz)(b:Nat):Prop:=∃v,w.cell? ⟨k0,4,none⟩=some v/\v.ownBlock=some b
structure FrC (k0:Nat)(w w':Wz):Prop where
 size:w.heap.size<=w'.heap.size
 keep:∀b,cw w b->b≠k0->¬jS k0 w b->w'.heap[b]?=w.heap[b]?
 own:∀b,jS k0 w' b->jS k0 w b\/w.heap.size<=b
section
variable {k0:Nat} {w w' w'':Wz}
theorem cw.same {b:Nat}(h:cw w b)(e:w'.heap[b]?=w.heap[b]?):cw w' b:=by
 obtain ⟨o,h1,h2⟩:=h;exact ⟨o,e.trans h1,h2⟩
theorem FrC.refl:FrC k0 w w:=⟨lR _,fun _ _ _ _=>rfl,fun _ h=>.inl h⟩
theorem FrC.trans (h:FrC k0 w w')(k:FrC k0 w' w''):FrC k0 w w'':=by
 refine ⟨lT h.size k.size,fun b hb hk ho=>?_,fun b ho=>?_⟩
 .have e:=h.keep b hb hk ho;refine (k.keep b (hb.same e) hk fun h2=>?_).trans e;rcases h.own b h2 with h3|h3
  .exact ho h3
  .have:=hb.lt;omega
 .rcases k.own b ho with h2|h2
  .exact h.own b h2
  .exact .inr (lT h.size h2)
theorem FrC.same4 (hs:w.heap.size<=w'.heap.size)(h4:w'.cell? ⟨k0,4,none⟩=w.cell? ⟨k0,4,none⟩)(h:∀b,cw w b->b≠k0->¬jS k0 w b->w'.heap[b]?=w.heap[b]?):FrC k0 w w':=
 ⟨hs,h,fun b ho=>.inl (by obtain ⟨v,h1,h2⟩:=ho;exact ⟨v,h4.symm.trans h1,h2⟩)⟩
theorem FrC.left (hk:k0<w.heap.size)(h:am w w'):FrC k0 w w':=FrC.same4 h.size (cB (a:=⟨k0,4,none⟩) (h.block k0 hk)) fun b hb _ _=>h.block b hb.lt
theorem FrC.set (j:Nat)(v:Wq)(a:j≠4):FrC k0 w (w.setCell ⟨k0,j,none⟩ v):=
 FrC.same4 (by simp) (cO _ _ _ _ (aW a)) fun b _ hb _=>bS _ _ _ _ hb
theorem FrC.open {g j:Nat}{v:Wq}(ho:jS k0 w g)(hg:g≠k0):FrC k0 w (w.setCell ⟨g,j,none⟩ v):=
 FrC.same4 (by simp) (cB (a:=⟨k0,4,none⟩) (bS _ _ _ _ (fun e=>hg e.symm))) fun b _ _ h=>bS _ _ _ _ (fun e=>h (by rw [show b=g from e];exact ho))
theorem FrC.fresh {r j:Nat}{v:Wq}{W:Wz}(h:FrC k0 W w)(hr:W.heap.size<=r)(hk:r≠k0):FrC k0 W (w.setCell ⟨r,j,none⟩ v):=by
 refine ⟨by have:=h.size;simpa using this,fun b hb c ho=>(bS _ _ _ _ (show b≠r by have:=hb.lt;omega)).trans (h.keep b hb c ho),fun b ho=>?_⟩;refine h.own b ?_;obtain ⟨x,h1,h2⟩:=ho;exact ⟨x,(cB (a:=⟨k0,4,none⟩) (bS _ _ _ _ (fun e=>hk e.symm))).symm.trans h1,h2⟩
theorem FrC.keepC (h:dA k0 w w')(h4:w'.cell? ⟨k0,4,none⟩=w.cell? ⟨k0,4,none⟩):FrC k0 w w':=
 FrC.same4 h.1 h4 fun b hb hk _=>by
  obtain ⟨o,h1,h2⟩:=hb;exact (h.2.2 b o h1 h2 hk).trans h1.symm
end
theorem jA {P:Wx}{ops:Array Oper}{o:Oper}{a:Act}{w w':Wz}{K:Act->Wz->Prop}{Q:Exit->Act->Wz->Prop}{E:Prop}(hg:o.guard=none)(t:Wk)(x y z:Operand)(b:o.op=.mapUpdate t x y z)
  (hr:(Instr.mapUpdate t (a.eval x) (a.eval y) (a.eval z)).run P w=.ok () w') (c:K (a.put o.dst undef) w'):
  if Region.wanted o (yielded ops a.tmps)=true then Oper.wp P o a w K Q else E:=by
 have hw:Region.wanted o (yielded ops a.tmps)=true:=by simp [Region.wanted,hg]
 rw [if_pos hw];unfold Oper.wp;simp [execOp,b,hr,Result.andThen];exact c
theorem zt (m:Nat)(w:Wz):(binOp BinOp.eql 61 (.map (some m)) (.map none)).run Yq.prog w=.ok (.bool false) w:=by kernel_rfl
theorem vM (w:Wz):(binOp BinOp.eql 61 (.map none) (.map none)).run Yq.prog w=.ok (.bool true) w:=by kernel_rfl
section
variable {A:Nat->Prop} {B k0:Nat} {L:Lg}
theorem aJ.set {w:Wz}(hA:¬A k0){j:Nat}(hj:4<=j/\j<=6)(v:Wq):aJ A B k0 w (w.setCell ⟨k0,j,none⟩ v):=
 ⟨rfl,by simp,fun b _ _ h=>bS _ _ _ _ h,fun b hb _=>bS _ _ _ _ (fun e=>hA (by rw [<-show b=k0 from e];exact hb)),fun i hi=>cO _ _ _ _ (aW (by omega)),fun i=>World.frozen?_setCell ..⟩
theorem vN {w:Wz}{v:Wq}{B e a n:Nat}{xs:List Wq}(h:w.ownsRow B e a v n xs){g:Nat}(hg:v.ownBlock=some g):B<=g/\g<w.heap.size:=h.lt g hg
theorem eO {w w':Wz}{base:Nat}{e:Wk}{a:Nat}{v:Wq}{n:Nat}{xs:List Wq}(h:w.ownsRow base e a v n xs)(hb:∀g,v.ownBlock=some g->w'.heap[g]?=w.heap[g]?):w'.ownsRow base e a v n xs:=by
 refine ⟨h.1,?_⟩;rcases h.2 with h2|⟨g,cap,b,hv,hg,hr,r⟩
 .exact Or.inl h2
 .exact Or.inr ⟨g,cap,b,hv,hg,(hb g (by rw [hv];rfl)).trans hr,r⟩
theorem dr.setMap {w:Wz}(h:dr A B w k0 L){m:Nat}{es:Array MapEntry}{a:Nat}{t:Told}(hm:w.heap[m]?=some (.map es a))(hA:¬A m)(d:B<=m)(he:zV es.toList t):dr A B (w.setCell ⟨k0,6,none⟩ (.map (some m))) k0 {L with told:=t}:=by
 have hk:=h.low;have hlt:=h.lt;have hne:∀b,b≠k0->(w.setCell ⟨k0,6,none⟩ (.map (some m))).heap[b]?=w.heap[b]?:=fun b hb=>bS _ _ _ _ hb
 have c:∀j,j≠6->(w.setCell ⟨k0,6,none⟩ (.map (some m))).cell? ⟨k0,j,none⟩=w.cell? ⟨k0,j,none⟩:=fun j hj=>cO _ _ _ _ (aW (by omega))
 obtain ⟨v,c4,zs,h1,h2,h3,h4⟩:=h.opened;obtain ⟨mv,c6,-⟩:=h.told;refine ⟨⟨v,(c 4 (by omega)).trans c4,zs,h1,eO h2 (fun g hg=>hne g (by have:=(vN h2 hg).1;omega)),h3,fun z hz=>ai.keep (fun b hb hlt=>⟨hb,hne b (fun e=>h.avoid (e▸hb))⟩) 41 _ _ (h4 z hz)⟩,(c 5 (by omega)).trans h.begun,⟨_,cS _ _ _ (by rw [c6];rfl),.inr ⟨m,es,a,rfl,(hne m (by omega)).trans hm,he,hA,d⟩⟩,fun j=>by rw [World.frozen?_setCell];exact h.frozen j,h.avoid,h.low,fun b hb=>by simpa using h.inn b hb⟩
theorem xx {w w':Wz}(h:∀b,b<w.heap.size->b≠k0->w'.heap[b]?=w.heap[b]?)(hs:w.heap.size<=w'.heap.size)(ho:w'.os=w.os):dA k0 w w':=⟨hs,ho,fun b _o hb _ hk=>(h b (eS hb).1 hk).trans hb⟩
theorem Bw (w:Wz)(h:dr A B w k0 L)(hB:B<=w.heap.size)(k:ByteArray)(x:Int×Int):
  Calls Yq.prog 70 #[.pointer (some ⟨k0,4,none⟩),.string k,plV x] w fun e w'=>e=.returned (.tuple #[])/\dr A B w' k0 {L with told:=mF k x L.told}/\aJ A B k0 w w'/\dA k0 w w'/\∀j,j≠6->w'.cell? ⟨k0,j,none⟩=w.cell? ⟨k0,j,none⟩:=by
 obtain ⟨q,c6,hm⟩:=h.told;have f6:=h.frozen 6;have hlt:=h.lt;rcases hm with ⟨rfl,ht⟩|⟨m,es,clock,rfl,hm,he,hA,o⟩
 .have hb:am w ((w.alloc (.cells #[.int .i64 x.1,.int .i64 x.2] 129)).alloc (.map #[] 0)):=(am.refl.alloc _).alloc _;have d:((w.alloc (.cells #[.int .i64 x.1,.int .i64 x.2] 129)).alloc (.map #[] 0)).heap[w.heap.size+1]?=some (.map #[] 0):=by
   have:=aN (w.alloc (.cells #[.int .i64 x.1,.int .i64 x.2] 129)) (.map #[] 0)
   rwa [World.size_alloc] at this
  have l:¬A (w.heap.size+1):=fun e=>by have:=h.inn _ e;omega
  have h1:=(h.left hb).setMap d l (by omega) (t:=[]) trivial;have hw:((w.alloc (.cells #[.int .i64 x.1,.int .i64 x.2] 129)).alloc (.map #[] 0)).setCell ⟨k0,6,none⟩ (.map (some (w.heap.size+1)))=((w.setCell ⟨k0,6,none⟩ (.map (some (w.heap.size+1)))).alloc (.cells #[.int .i64 x.1,.int .i64 x.2] 129)).alloc (.map #[] 0):=by
   rw [World.setCell_alloc_past _ _ _ _ (by simp;omega),World.setCell_alloc_past _ _ _ _ hlt]
  rw [hw] at h1;have hd:aJ A B k0 w (((w.setCell ⟨k0,6,none⟩ (.map (some (w.heap.size+1)))).alloc (.cells #[.int .i64 x.1,.int .i64 x.2] 129)).alloc (.map #[] 0)):=by
   rw [<-hw];exact (aJ.left hlt hb).trans (aJ.set h.avoid ⟨by omega,by omega⟩ _)
  obtain ⟨W,n⟩:∃W,W=((w.setCell ⟨k0,6,none⟩ (.map (some (w.heap.size+1)))).alloc (.cells #[.int .i64 x.1,.int .i64 x.2] 129)).alloc (.map #[] 0):=⟨_,rfl⟩;have hm1:W.drew.heap[w.heap.size+1]?=some (.map #[] 0):=by
   rw [n,<-hw];exact (bS _ _ _ _ (by show w.heap.size+1≠k0;omega)).trans d
  rw [<-n] at h1 hd;obtain ⟨es',clock',f,c⟩:=pQ hm1 (t:=[]) trivial k x;obtain ⟨q,k6,-⟩:=h1.told;have p:W.cell? ⟨k0,6,none⟩=some (.map (some (w.heap.size+1))):=by
   rw [n,<-hw];exact cS _ _ _ (by rw [hb.cell c6];rfl)
  have i:am W W.drew:=am.refl.drew;have HX:Hid (dr A B (W.drew.putObj (w.heap.size+1) (.map es' clock')) k0 {L with told:=mF k x L.told}/\aJ A B k0 w (W.drew.putObj (w.heap.size+1) (.map es' clock'))/\dA k0 w (W.drew.putObj (w.heap.size+1) (.map es' clock'))/\∀j,j≠6->(W.drew.putObj (w.heap.size+1) (.map es' clock')).cell? ⟨k0,j,none⟩=w.cell? ⟨k0,j,none⟩):=by
   have hkc:dA k0 w W:=by
    rw [n,<-hw];exact xx (fun b h1 h2=>(bS _ _ _ _ h2).trans (hb.block b h1)) (by simp;omega) rfl
   refine ⟨?_,(hd.trans (aJ.left h1.lt i)).trans (putMap hm1 l (by omega) h.low),hkc.trans (dA.trans ⟨lR _,rfl,fun _ _ h _ _=>h⟩ (fQ hm1 rfl _)),fun j hj=>?_⟩
   rotate_left
   .have e1:(W.drew.putObj (w.heap.size+1) (.map es' clock')).cell? ⟨k0,j,none⟩=W.drew.cell? ⟨k0,j,none⟩:=cB (a:=⟨k0,j,none⟩) (pO (show k0≠w.heap.size+1 by omega));have e2:W.drew.cell? ⟨k0,j,none⟩=W.cell? ⟨k0,j,none⟩:=rfl;rw [e1,e2,n,<-hw,cO _ _ _ _ (aW (by omega))];exact cB (a:=⟨k0,j,none⟩) (hb.block k0 hlt)
   have:=(h1.left i).putMap (es':=es') (clock':=clock') (i.cell p) hm1 l (by omega) (t:=mF k x []) c;rw [ht];exact this
  have hn:=vM;have hmm:=@run_makeMap Yq.prog;clear h h1 hd hm1 c hb hw d k6 i p;subst n;unfold plV at f ⊢;go_enter (Yq.nq func70),ntmps70;go_wp2_with fail
  go_region_law (refine jA rfl 61 (.tmp 18) (.tmp 19) (.tmp 20) rfl f ?_)
  all_goals go_end0
  all_goals exact ⟨rfl,HX.out⟩
 .have hb:am w (w.alloc (.cells #[.int .i64 x.1,.int .i64 x.2] 129)).drew:=(am.refl.alloc _).drew;have h1:=h.left hb;obtain ⟨es',clock',f,c⟩:=pQ (w:=(w.alloc (.cells #[.int .i64 x.1,.int .i64 x.2] 129)).drew) ((hb.block m (eS hm).1).trans hm) he k x;have HX:Hid (dr A B ((w.alloc (.cells #[.int .i64 x.1,.int .i64 x.2] 129)).drew.putObj m (.map es' clock')) k0 {L with told:=mF k x L.told}/\aJ A B k0 w ((w.alloc (.cells #[.int .i64 x.1,.int .i64 x.2] 129)).drew.putObj m (.map es' clock'))/\dA k0 w ((w.alloc (.cells #[.int .i64 x.1,.int .i64 x.2] 129)).drew.putObj m (.map es' clock'))/\∀j,j≠6->((w.alloc (.cells #[.int .i64 x.1,.int .i64 x.2] 129)).drew.putObj m (.map es' clock')).cell? ⟨k0,j,none⟩=w.cell? ⟨k0,j,none⟩):=
   ⟨h1.putMap (hb.cell c6) ((hb.block m (eS hm).1).trans hm) hA o c,(aJ.left hlt hb).trans (putMap ((hb.block m (eS hm).1).trans hm) hA o h.low),(xx (fun b h1 _=>hb.block b h1) hb.size hb.os).trans (fQ ((hb.block m (eS hm).1).trans hm) rfl _),fun j _=>(cB (a:=⟨k0,j,none⟩) (pO (by have:=h.low;show k0≠m;omega))).trans (cB (a:=⟨k0,j,none⟩) (hb.block k0 hlt))⟩
  clear h h1 hm he c hb;unfold plV at f ⊢;have hn:=zt m;go_enter (Yq.nq func70),ntmps70;go_wp2_with fail
  go_region_law (refine jA rfl 61 (.tmp 18) (.tmp 19) (.tmp 20) rfl f ?_)
  all_goals go_end0
  all_goals exact ⟨rfl,HX.out⟩
end
theorem vO {l l':Lst}(h:l.size=l'.size)(a k:Int):jz l a k=jz l' a k:=by simp [jz,h]
theorem il {l l':Lst}(h:l.size=l'.size)(a:Int):∀ (its:List ItD)(k:Nat),di l a k its=di l' a k its
 | [],_=>rfl
 |i::r,k=>by rw [di,di,vO h,il h a r]
def LsA.page (x:LsA)(a:Int):List ItD:=di (x.lst none) a 0 (ee x.q (cu x.f x.q.p.data.toList))
def LsA.tok (x:LsA)(a:Int):ByteArray:=DD (x.lst none) a (ee x.q (cu x.f x.q.p.data.toList)).length
def gp (L:Lg)(f:List UInt8->List Ver)(q:Qy)(a:Int):LsA:=⟨L.begun+1,f,q,a,10⟩
def eP (L:Lg)(f:List UInt8->List Ver)(q:Qy)(a:Int):Lg×List ItD×ByteArray×Int:=
 if a<1\/20<a then (L,[],⟨#[]⟩,7)
 else if (gp L f q a).tok 1=⟨#[]⟩ then (L,(gp L f q a).page 1,⟨#[]⟩,0)
 else if 3<=L.opened.length then (L,[],⟨#[]⟩,8)
 else (⟨L.opened++[gp L f q a],L.begun+1,mF ((gp L f q a).tok 1) (L.begun+1,2) L.told,L.tm⟩,(gp L f q a).page 1,(gp L f q a).tok 1,0)
def ba (A:Nat->Prop)(B k0:Nat)(w:Wz)(L':Lg)(its:List ItD)(sv:Wq)(w':Wz):Prop:=
 ∃A':Nat->Prop,(∀b,A b->A' b)/\(∀b,A' b->A b\/w.heap.size<=b)/\dr A' B w' k0 L'/\aJ A B k0 w w'/\bG A' w' sv its.length (ax its)/\FrC k0 w w'
theorem tU (n:Int)(r:Option Ww)(b:Bool)(p d a:ByteArray)(s:Int)(w:Wz):(Instr.build 125 #[(0,.int .i64 n),(1,.agg #[.pointer r]),(2,.agg #[.bool b,.string p,.string d,.string a]),(3,.int .i64 s),(4,.int .i64 10)]).run Yq.prog w=.ok (.agg #[.int .i64 n,.pointer r,.bool b,.string p,.string d,.string a,.int .i64 s,.int .i64 10]) w:=by kernel_rfl
theorem ox (a b:Int)(w:Wz):(Instr.build 129 #[(0,.int .i64 a),(1,.int .i64 b)]).run Yq.prog w=.ok (.agg #[.int .i64 a,.int .i64 b]) w:=by kernel_rfl
theorem fm (w:Wz):(Instr.build 88 #[]).run Yq.prog w=.ok (.agg #[.slice none 0 0,.string ⟨#[]⟩]) w:=by kernel_rfl
section
variable {A:Nat->Prop} {B k0:Nat} {L:Lg}
theorem ba.same {w w':Wz}(h:dr A B w k0 L)(hl:am w w'):ba A B k0 w L [] (.slice none 0 0) w':=
 ⟨A,fun _ h=>h,fun _ h=>.inl h,h.left hl,aJ.left h.lt hl,⟨none,0,rfl,fun _=>rfl,fun h=>absurd rfl h⟩,FrC.left h.lt hl⟩
theorem dr.more {w w2:Wz}(h:dr A B w k0 L)(hl:am w w2){A':Nat->Prop}(h1:∀b,A b->A' b)(h2:∀b,A' b->A b\/w.heap.size<=b)(h3:∀b,A' b->b<w2.heap.size):dr A' B w2 k0 L:=by
 have hlt:=h.lt;have hno:∀g,g<w.heap.size->¬A g->¬A' g:=fun g hg ha hx=>by
  rcases h2 g hx with h|h
  .exact ha h
  .omega
 obtain ⟨v,c4,zs,z1,z2,z3,z4⟩:=h.opened;obtain ⟨e,c6,hm⟩:=h.told;refine ⟨⟨v,hl.cell c4,zs,z1,aZ z2 fun g _ hg=>hl.block g hg,fun g hg=>hno g (z2.lt g hg).2 (z3 g hg),fun z hz=>ai.keep (fun b hb hlt=>⟨h1 b hb,hl.block b hlt⟩) 41 _ _ (z4 z hz)⟩,hl.cell h.begun,⟨e,hl.cell c6,?_⟩,fun j=>(fB (a:=⟨k0,j,none⟩) (hl.block k0 hlt)).trans (h.frozen j),hno k0 hlt h.avoid,h.low,h3⟩;rcases hm with hm|⟨m,es,c,m1,m2,m3,d,f⟩
 .exact .inl hm
 .have hml:=(eS m2).1;exact .inr ⟨m,es,c,m1,(hl.block m hml).trans m2,m3,hno m hml d,f⟩
theorem lQ {w:Wz}{base e:Nat}{sv:Wq}{n:Nat}{xs:List Wq}(h:w.ownsRow base e 3 sv n xs){A':Nat->Prop}(hA:∀g,sv.ownBlock=some g->A' g):bG A' w sv n xs:=by
 rcases h.2 with ⟨rfl,rfl⟩|⟨g,cap,cur,rfl,hb,hr,r⟩
 .have:xs=[]:=by have:=h.1;simpa using this
  exact ⟨none,0,rfl,fun _=>rfl,fun hx=>absurd this hx⟩
 .refine ⟨some ⟨g,0,none⟩,cap,rfl,fun h=>(by cases h),fun _=>⟨g,rfl,hA g rfl,(eS hr).1,fun j a=>?_⟩⟩;have:=h.cells (g:=g) rfl j xs[j] (List.getElem?_eq_getElem a);rw [Addr.add_lit,zA] at this;rw [this,List.getElem?_eq_getElem a]
theorem ba.page {w w1 w2:Wz}(h:dr A B w k0 L)(hl:am w w2){base:Nat}{sv:Wq}{pg:List ItD}(a:w1.ownsRow base 41 3 sv pg.length (ax pg))(hb:w.heap.size<=base)(hk:∀g,base<=g->g<w1.heap.size->w2.heap[g]?=w1.heap[g]?):ba A B k0 w L pg sv w2:=by
 have hr2:=aZ a hk;refine ⟨fun b=>A b\/sv.ownBlock=some b,fun _ h=>.inl h,fun b hx=>?_,h.more hl (fun _ h=>.inl h) (fun b hx=>?_) (fun b hx=>?_),aJ.left h.lt hl,lQ hr2 fun g hg=>.inr hg,FrC.left h.lt hl⟩
 .rcases hx with hx|hx
  .exact .inl hx
  .exact .inr (by have:=(hr2.lt b hx).1;omega)
 .rcases hx with hx|hx
  .exact .inl hx
  .exact .inr (by have:=(hr2.lt b hx).1;omega)
 .rcases hx with hx|hx
  .exact lL (h.inn b hx) hl.size
  .exact (hr2.lt b hx).2
end
section
variable {P:Wx}
theorem jT (w:Wz)(base:Nat)(t ty e:Wk)(i:TypeInfo)(z:Wq)(b d:Nat)(ht:P.underlying t=some (.slice e))(hi:P.info? e=some i)(hz:i.zero=some z)(f:i.size=b)(o:i.bytes=d)(r:z.cells.size=b)(hsz:0<b)
  (v:Wq) (n:Nat) (xs:List Wq) (hown:w.ownsRow base e b v n xs) (a:Ww) (m c:Nat) (news:List Wq) (hl:news.length=m * b) (k:∀j u,news[j]?=some u->w.cell? (a.add j)=some u) (h1:∀u∈news,u.oneCell'=true)
  (q:n+m<=maxLen) (h:(n+m) * d<=140737488355328) (l:base<=w.heap.size):
  ∃v' w',(Builtin.append_ #[t,t] ty #[v,.slice (some a) m c]).run P w=.ok v' w'/\w'.ownsRow base e b v' (n+m) (xs++news)/\w.grownBy w' v.ownBlock/\∀g,v'.ownBlock=some g->v.ownBlock=some g\/w.heap.size<=g:=by
 obtain ⟨v',w',hr,ho,hg,-⟩:=run_append_own (P:=P) w base t ty e i z b d ht hi hz f o r hsz v n xs hown a m c news hl k h1 q h l;refine ⟨v',w',hr,ho,hg,fun g s=>?_⟩;rcases hown.2 with ⟨rfl,rfl⟩|⟨g0,cap,cur,rfl,hb0,hrow,hcap⟩
 .obtain ⟨v2,w2,hr2,p,-⟩:=run_append_own (P:=P) w w.heap.size t ty e i z b d ht hi hz f o r hsz (.slice none 0 0) 0 xs ⟨hown.1,.inl ⟨rfl,rfl⟩⟩ a m c news hl k h1 q h (lR _);rw [hr] at hr2;cases hr2;exact .inr (p.lt g s).1
 .by_cases hf:n+m<=cap
  .obtain ⟨w2,hr2,-⟩:=run_append_fits (P:=P) w base t ty e i b ht hi f g0 n cap xs hown a m c news hl k h1 hf;rw [hr] at hr2;cases hr2;exact .inl s
  .obtain ⟨v2,w2,hr2,p,-⟩:=run_append_arg_grows (P:=P) w t ty e i z b d ht hi hz f o r hsz ⟨g0,0,none⟩ n cap xs hown.1 (fun j u x=>hown.cells (g:=g0) rfl j u x) a m c news hl k (by omega) q h;rw [hr] at hr2;cases hr2;exact .inr (p.lt g s).1
theorem cP {ops:Array Oper}{o:Oper}{a:Act}{w:Wz}{K:Act->Wz->Prop}{Q:Exit->Act->Wz->Prop}{E:Prop}
  (hg:o.guard=none) (s x:Operand) (t:Wk) (q:o.op=Op.call {callee:=Callee.builtin Builtin.append,args:=#[s,x],argTypes:=#[t,t]})
  (base:Nat) (e:Wk) (i:TypeInfo) (z:Wq) (b d:Nat) (ht:P.underlying t=some (.slice e)) (hi:P.info? e=some i) (hz:i.zero=some z) (l:i.size=b) (r:i.bytes=d) (B:z.cells.size=b) (hsz:0<b)
  (v:Wq) (n:Nat) (xs:List Wq) (hs:a.eval s=v) (hown:w.ownsRow base e b v n xs)
  (A:Ww) (m c:Nat) (news:List Wq) (hx:a.eval x=.slice (some A) m c) (hl:news.length=m * b) (p:∀j u,news[j]?=some u->w.cell? (A.add j)=some u) (h1:∀u∈news,u.oneCell'=true)
  (y:n+m<=maxLen) (f:(n+m) * d<=140737488355328) (k:base<=w.heap.size)
  (h:∀v' w',w'.ownsRow base e b v' (n+m) (xs++news)->w.grownBy w' v.ownBlock->(∀g,v'.ownBlock=some g->v.ownBlock=some g\/w.heap.size<=g)->K (a.put o.dst v') w'):
  if Region.wanted o (yielded ops a.tmps)=true then Oper.wp P o a w K Q else E:=by
 obtain ⟨v',w',hr,h2,h3,h4⟩:=jT (P:=P) w base t o.type e i z b d ht hi hz l r B hsz v n xs hown A m c news hl p h1 y f k;exact dS hg s x t t q v _ hs hx hr (h v' w' h2 h3 h4)
end
theorem Yq.infoLst:(Yq.prog.info? 125).map (fun i=>(i.zero,i.size,i.bytes))=some (some (.agg #[.int .i64 0,.pointer none,.bool false,.string ⟨#[]⟩,.string ⟨#[]⟩,.string ⟨#[]⟩,.int .i64 0,.int .i64 0]),8,88):=by kernel_rfl
theorem one8 (l:Lst):∀u∈(aE l).toList,u.oneCell'=true:=by
 intro u a;simp [aE] at a;rcases a with rfl|rfl|rfl|rfl|rfl|rfl|rfl|rfl<;>rfl
section
variable {A:Nat->Prop} {B k0:Nat} {L:Lg}
theorem dr.push {W w3:Wz}(h:dr A B W k0 L){v v':Wq}{zs:List (LsA×Option Ww)}{x:LsA}{root:Option Ww}{n:Int}(c4:W.cell? ⟨k0,4,none⟩=some v)(z1:L.opened=zs.map (·.1))(z2:W.ownsRow B 125 8 v zs.length (aT zs))(z3:∀g,v.ownBlock=some g->¬A g)(z4:∀z∈zs,ai A 41 W z.2 z.1.f)
  (ho:w3.ownsRow B 125 8 v' (zs.length+1) (aT zs++(aE (x.lst root)).toList)) (hg:W.grownBy w3 v.ownBlock) (s:∀g,v'.ownBlock=some g->v.ownBlock=some g\/W.heap.size<=g) (t:ai A 41 W root x.f):
  dr A B ((w3.setCell ⟨k0,4,none⟩ v').setCell ⟨k0,5,none⟩ (.int .i64 n)) k0 ⟨L.opened++[x],n,L.told,L.tm⟩/\aJ A B k0 W ((w3.setCell ⟨k0,4,none⟩ v').setCell ⟨k0,5,none⟩ (.int .i64 n)):=by
 have hk:=h.low;have hlt:=h.lt;obtain ⟨y,c6,hm⟩:=h.told;have q:∀g,v.ownBlock=some g->B<=g:=fun g hg=>(z2.lt g hg).1
 have p:some k0≠v.ownBlock:=fun e=>by have:=q k0 e.symm;omega
 have r:W.heap[k0]?=w3.heap[k0]?:=(hg.block k0 hlt p).symm;have c:∀b,b≠k0->((w3.setCell ⟨k0,4,none⟩ v').setCell ⟨k0,5,none⟩ (.int .i64 n)).heap[b]?=w3.heap[b]?:=fun b hb=>by
  rw [bS _ _ _ _ hb,bS _ _ _ _ hb]
 have i:∀b,A b->((w3.setCell ⟨k0,4,none⟩ v').setCell ⟨k0,5,none⟩ (.int .i64 n)).heap[b]?=W.heap[b]?:=fun b hb=>
  (c b (fun e=>h.avoid (e▸hb))).trans (hg.block b (h.inn b hb) (fun e=>z3 b e.symm hb))
 have k:∀j,w3.cell? ⟨k0,j,none⟩=W.cell? ⟨k0,j,none⟩:=fun j=>cB (a:=⟨k0,j,none⟩) r.symm
 have o:∀j,j≠4->j≠5->((w3.setCell ⟨k0,4,none⟩ v').setCell ⟨k0,5,none⟩ (.int .i64 n)).cell? ⟨k0,j,none⟩=W.cell? ⟨k0,j,none⟩:=fun j h4 h5=>by
  rw [cO _ _ _ _ (aW fun e=>h5 e.symm),cO _ _ _ _ (aW fun e=>h4 e.symm),k]
 have hfz:∀j,((w3.setCell ⟨k0,4,none⟩ v').setCell ⟨k0,5,none⟩ (.int .i64 n)).frozen? ⟨k0,j,none⟩=W.frozen? ⟨k0,j,none⟩:=fun j=>by
  rw [World.frozen?_setCell,World.frozen?_setCell];exact fB (a:=⟨k0,j,none⟩) r.symm
 have hsz:W.heap.size<=((w3.setCell ⟨k0,4,none⟩ v').setCell ⟨k0,5,none⟩ (.int .i64 n)).heap.size:=by have:=hg.size;simpa using this
 refine ⟨⟨⟨v',?_,zs++[(x,root)],by simp [z1],?_,fun g l=>?_,fun z hz=>?_⟩,?_,⟨y,(o 6 (by omega) (by omega)).trans c6,?_⟩,fun j=>(hfz j).trans (h.frozen j),h.avoid,h.low,fun b hb=>lL (h.inn b hb) hsz⟩,⟨hg.os,hsz,fun b h1 h2 h3=>(c b h3).trans (hg.block b h2 (fun e=>by have:=q b e.symm;omega)),fun b hb _=>i b hb,fun j hj=>o j (by omega) (by omega),hfz⟩⟩
 .rw [cO _ _ _ _ (aW (by omega))];exact cS _ _ _ (by rw [k,c4];rfl)
 .rw [vK,lP,lS];exact eO ho fun g l=>c g (by have:=(ho.lt g l).1;omega)
 .rcases s g l with h1|h1
  .exact z3 g h1
  .exact fun ha=>by have:=h.inn g ha;omega
 .rcases List.mem_append.1 hz with hz|hz
  .exact ai.keep (fun b hb _=>⟨hb,i b hb⟩) 41 _ _ (z4 z hz)
  .simp at hz;subst hz;exact ai.keep (fun b hb _=>⟨hb,i b hb⟩) 41 _ _ t
 .refine cS _ _ _ ?_;rw [cO _ _ _ _ (aW (by omega)),k,h.begun];rfl
 .rcases hm with hm|⟨m,es,d,m1,m2,m3,C,u⟩
  .exact .inl hm
  .refine .inr ⟨m,es,d,m1,?_,m3,C,u⟩;rw [c m (by omega),hg.block m (eS m2).1 (fun e=>?_)]
   .exact m2
   .rcases z2.2 with ⟨rfl,-⟩|⟨g,cap,cur,rfl,hb,hr,-⟩
    .cases e
    .cases e;rw [hr] at m2;cases m2
theorem dr.other {w:Wz}(h:dr A B w k0 L){b j:Nat}{x:Wq}(hb:b≠k0)(hA:¬A b)(hcl:cw w b)(hv:∀v g,w.cell? ⟨k0,4,none⟩=some v->v.ownBlock=some g->g≠b):dr A B (w.setCell ⟨b,j,none⟩ x) k0 L:=by
 have hne:∀g,g≠b->(w.setCell ⟨b,j,none⟩ x).heap[g]?=w.heap[g]?:=fun g hg=>bS _ _ _ _ hg
 have hk:=hne k0 (fun e=>hb e.symm);have d:∀i,(w.setCell ⟨b,j,none⟩ x).cell? ⟨k0,i,none⟩=w.cell? ⟨k0,i,none⟩:=fun i=>cB (a:=⟨k0,i,none⟩) hk
 obtain ⟨v,c4,zs,z1,z2,z3,z4⟩:=h.opened;obtain ⟨f,c6,hm⟩:=h.told;refine ⟨⟨v,(d 4).trans c4,zs,z1,eO z2 fun g hg=>hne g (hv v g c4 hg),z3,fun z hz=>ai.keep (fun g hg _=>⟨hg,hne g (fun e=>hA (e▸hg))⟩) 41 _ _ (z4 z hz)⟩,(d 5).trans h.begun,⟨f,(d 6).trans c6,?_⟩,fun i=>(fB (a:=⟨k0,i,none⟩) hk).trans (h.frozen i),h.avoid,h.low,fun g hg=>by simpa using h.inn g hg⟩;rcases hm with hm|⟨m,es,c,m1,m2,m3⟩
 .exact .inl hm
 .refine .inr ⟨m,es,c,m1,(hne m fun e=>?_).trans m2,m3⟩;subst e;obtain ⟨o,h1,h2⟩:=hcl;rw [m2] at h1;cases h1;cases h2
theorem aJ.other {w:Wz}{b j:Nat}{x:Wq}(hb:b≠k0)(hA:¬A b)(hB:B<=b):aJ A B k0 w (w.setCell ⟨b,j,none⟩ x):=by
 have hne:∀g,g≠b->(w.setCell ⟨b,j,none⟩ x).heap[g]?=w.heap[g]?:=fun g hg=>bS _ _ _ _ hg
 have hk:=hne k0 (fun e=>hb e.symm);exact ⟨rfl,by simp,fun g h1 _ _=>hne g (by omega),fun g h1 _=>hne g (fun e=>hA (e▸h1)),fun i _=>cB (a:=⟨k0,i,none⟩) hk,fun i=>fB (a:=⟨k0,i,none⟩) hk⟩
theorem aJ.mono {A':Nat->Prop}{w w':Wz}(h:aJ A' B k0 w w')(hA:∀b,A b->A' b):aJ A B k0 w w':=⟨h.os,h.size,h.low,fun b hb=>h.tree b (hA b hb),h.cells,h.fz⟩
theorem Hv (W:Wz)(xs:List Wq)(T:Wk):∀j u,xs[j]?=some u->(W.alloc (.cells xs.toArray T)).drew.cell? ((⟨W.heap.size,0,none⟩:Ww).add j)=some u:=by
 intro j u a;rw [Addr.add_lit,zA];have:(W.alloc (.cells xs.toArray T)).cell? ⟨W.heap.size,j,none⟩=xs.toArray[j]?:=cA (w:=W) _ _ W.heap.size _ rfl;show (W.alloc (.cells xs.toArray T)).cell? ⟨W.heap.size,j,none⟩=some u;rw [this];simpa using a
theorem dA.cell {t:Nat}{W W':Wz}(h:dA t W W'){b j:Nat}{v:Wq}(hc:W.cell? ⟨b,j,none⟩=some v)(hb:b≠t):W'.cell? ⟨b,j,none⟩=some v:=by
 obtain ⟨o,h1,h2⟩:=cw.of_cell hc;exact (cB (a:=⟨b,j,none⟩) ((h.2.2 b o h1 h2 hb).trans h1.symm)).trans hc
theorem dA.frozen {t:Nat}{W W':Wz}(h:dA t W W'){b j:Nat}{v:Wq}(hc:W.cell? ⟨b,j,none⟩=some v)(hb:b≠t):W'.frozen? ⟨b,j,none⟩=W.frozen? ⟨b,j,none⟩:=by
 obtain ⟨o,h1,h2⟩:=cw.of_cell hc;exact fB (a:=⟨b,j,none⟩) ((h.2.2 b o h1 h2 hb).trans h1.symm)
theorem fC {w3:Wz}{v' c:Wq}{b j:Nat}{v:Wq}(hc:w3.cell? ⟨b,j,none⟩=some v)(hb:b≠k0):((w3.setCell ⟨k0,4,none⟩ v').setCell ⟨k0,5,none⟩ c).cell? ⟨b,j,none⟩=some v:=by
 have e:((w3.setCell ⟨k0,4,none⟩ v').setCell ⟨k0,5,none⟩ c).heap[b]?=w3.heap[b]?:=by rw [bS _ _ _ _ hb,bS _ _ _ _ hb]
 exact (cB (a:=⟨b,j,none⟩) e).trans hc
theorem FY {w V w1 w3:Wz}(h:dr A B w k0 L)(hB:B<=w.heap.size)(Q:am w V)(hVs:V.heap.size=w.heap.size+4)(hl1:am V w1){sv v4 v':Wq}{pg:List ItD}(l:w1.ownsRow V.heap.size 41 3 sv pg.length (ax pg)){zs:List (LsA×Option Ww)}(c4:w.cell? ⟨k0,4,none⟩=some v4)
    (z1:L.opened=zs.map (·.1)) (z2:w.ownsRow B 125 8 v4 zs.length (aT zs)) (z3:∀g,v4.ownBlock=some g->¬A g) (z4:∀z∈zs,ai A 41 w z.2 z.1.f) {root:Option Ww} {x:LsA} (R:ai A 41 w root x.f) (o o':Obj) (I:w3.ownsRow B 125 8 v' (zs.length+1) (aT zs++(aE (x.lst root)).toList)) (d:((w1.alloc o).alloc o').drew.grownBy w3 v4.ownBlock) (p:∀g,v'.ownBlock=some g->v4.ownBlock=some g\/((w1.alloc o).alloc o').drew.heap.size<=g) (n:Int) (tk:ByteArray) (N:Int×Int) {y:Wq} (r:w1.cell? ⟨w.heap.size+1+1,0,none⟩=some y):
    Calls Yq.prog 70 #[.pointer (some ⟨k0,4,none⟩),.string tk,plV N] ((w3.setCell ⟨k0,4,none⟩ v').setCell ⟨k0,5,none⟩ (.int .i64 n)) fun e w6=>e=.returned (.tuple #[])/\dA k0 ((w3.setCell ⟨k0,4,none⟩ v').setCell ⟨k0,5,none⟩ (.int .i64 n)) w6 /\
      ∀y0 y1,ba A B k0 w ⟨L.opened++[x],n,mF tk N L.told,L.tm⟩ pg sv ((w6.setCell ⟨w.heap.size+1+1,0,none⟩ y0).setCell ⟨w.heap.size+1+1,1,none⟩ y1):=by
  obtain ⟨W2,t⟩:∃W2,W2=((w1.alloc o).alloc o').drew:=⟨_,rfl⟩;rw [<-t] at d p;have i:am w1 W2:=by rw [t];exact ((am.refl.alloc o).alloc o').drew
  have c:am w W2:=(Q.trans hl1).trans i;have hsz2:W2.heap.size=w1.heap.size+2:=by rw [t];simp
  have hlow:=h.low;have hlt:=h.lt;have hs1:=hl1.size;obtain ⟨A',q⟩:∃A':Nat->Prop,A'=fun b=>A b\/sv.ownBlock=some b:=⟨_,rfl⟩
  have F:∀b,A b->A' b:=fun b hb=>by rw [q];exact .inl hb
  have a2:∀b,A' b->A b\/w.heap.size+4<=b/\b<w1.heap.size:=fun b hb=>by
    rw [q] at hb;rcases hb with hb|hb
    . exact .inl hb
    . have:=l.lt b hb;exact .inr (by omega)
  have h2:dr A' B W2 k0 L:=h.more c F (fun b hb=>(a2 b hb).imp id (by omega)) (fun b hb=>by
    rcases a2 b hb with h1|h1
    . have:=h.inn b h1;have:=c.size;omega
    . omega)
  have c4':=c.cell c4;have O:W2.ownsRow B 125 8 v4 zs.length (aT zs):=aZ z2 fun g _ hg=>c.block g hg
  have J:∀g,v4.ownBlock=some g->¬A' g:=fun g hg ha=>by
    rcases a2 g ha with h1|h1
    . exact z3 g hg h1
    . have:=(z2.lt g hg).2;omega
  obtain ⟨h5,u⟩:=h2.push (x:=x) (root:=root) (n:=n) c4' z1 O J (fun z hz=>ai.keep (fun b hb hb2=>⟨F b hb,c.block b hb2⟩) 41 _ _ (z4 z hz)) I d p (ai.keep (fun b hb hb2=>⟨F b hb,c.block b hb2⟩) 41 _ _ R);have hs3:=d.size;obtain ⟨W5,k⟩:∃W5,W5=(w3.setCell ⟨k0,4,none⟩ v').setCell ⟨k0,5,none⟩ (.int .i64 n):=⟨_,rfl⟩;have hs5:W5.heap.size=w3.heap.size:=by rw [k];simp
  have k4:W5.cell? ⟨k0,4,none⟩=some v':=by
    have K:w3.heap[k0]?=W2.heap[k0]?:=d.block k0 (by have:=c.size;omega) (fun e=>by have:=(z2.lt k0 e.symm).1;omega);rw [k,cO _ _ _ _ (aW (by omega))];exact cS _ _ _ (by rw [cB (a:=⟨k0,4,none⟩) K,c4'];rfl)
  rw [<-k] at h5 u ⊢;refine (Bw W5 h5 (by omega) tk N).mono ?_;rintro e w6 ⟨rfl,h6,M,s,G⟩;refine ⟨rfl,s,fun y0 y1=>?_⟩;have m:¬A' (w.heap.size+1+1):=fun ha=>by
    rcases a2 _ ha with h1|h1
    . have:=h.inn _ h1;omega
    . omega
  have E:∀v g,w6.cell? ⟨k0,4,none⟩=some v->v.ownBlock=some g->g≠w.heap.size+1+1:=fun v g hv hg e=>by
    rw [G 4 (by omega),k4] at hv;cases hv;rcases p g hg with h1|h1
    . have:=(z2.lt g h1).2;omega
    . omega
  have C:cw w6 (w.heap.size+1+1):=by
    refine cw.of_cell (s.cell (j:=0) (v:=y) ?_ (by omega));rw [k];refine fC ?_ (by omega);have e:w3.heap[w.heap.size+1+1]?=w1.heap[w.heap.size+1+1]?:=(d.block _ (by omega) (fun e=>by have:=(z2.lt _ e.symm).2;omega)).trans (i.block _ (bC w1 _ r));exact (cB (a:=⟨w.heap.size+1+1,0,none⟩) e).trans r
  have h7:=h6.other (j:=0) (x:=y0) (show w.heap.size+1+1≠k0 by omega) m C E;have H:(w6.setCell ⟨w.heap.size+1+1,0,none⟩ y0).cell? ⟨k0,4,none⟩=w6.cell? ⟨k0,4,none⟩:=cB (a:=⟨k0,4,none⟩) (bS _ _ _ _ (show k0≠w.heap.size+1+1 by omega));have hc7:cw (w6.setCell ⟨w.heap.size+1+1,0,none⟩ y0) (w.heap.size+1+1):=by
    obtain ⟨S,e1,e2⟩:=C;cases S with
    |cells xs e z=>
      obtain ⟨g1,g2⟩:=eS e1;refine ⟨.cells (xs.setIfInBounds 0 y0) e z,?_,rfl⟩;show (w6.heap.modify (w.heap.size+1+1) _)[w.heap.size+1+1]?=_;rw [eG (by rw [Array.size_modify];exact g1),Array.getElem_modify_self,g2];rfl
    |_=>cases e2
  have h8:=h7.other (j:=1) (x:=y1) (show w.heap.size+1+1≠k0 by omega) m hc7 (fun v g hv hg=>E v g (by rw [<-H];exact hv) hg);have D:aJ A' B k0 W2 ((w6.setCell ⟨w.heap.size+1+1,0,none⟩ y0).setCell ⟨w.heap.size+1+1,1,none⟩ y1):=((u.trans M).trans (aJ.other (by omega) m (by omega))).trans (aJ.other (by omega) m (by omega));refine ⟨A',F,fun b hb=>(a2 b hb).imp id (by omega),h8,(aJ.left hlt c).trans (D.mono F),?_,?_⟩
  rotate_left
  . have P : FrC k0 W2 W5 := ⟨by omega, fun b hb hk ho => by
        have e1:W5.heap[b]?=w3.heap[b]?:=by rw [k,bS _ _ _ _ hk,bS _ _ _ _ hk]
        exact e1.trans (d.block b hb.lt (fun e=>ho ⟨v4,c4',e.symm⟩)),fun b ho=>by
        obtain ⟨x,h1,h2⟩:=ho;rw [k4] at h1;cases h1;rcases p b h2 with h3|h3
        . exact .inl ⟨v4,c4',h3⟩
        . exact .inr h3⟩
    have q6:FrC k0 w w6:=((FrC.left hlt c).trans P).trans (FrC.keepC s (G 4 (by omega)));exact (q6.fresh (by omega) (by omega)).fresh (by omega) (by omega)
  refine lQ (eO l fun g hg=>?_) (fun g hg=>by rw [q];exact .inr hg);have hg1:=(l.lt g hg).2;exact (D.tree g (by rw [q];exact .inr hg) (by omega)).trans (i.block g hg1)
end
theorem rp {w:Wz}{B:Nat}{g cap:Nat}{zs:List (LsA×Option Ww)}(h:w.ownsRow B 125 8 (.slice (some ⟨g,0,none⟩) zs.length cap) zs.length (aT zs))(i:Nat)(hi:i<zs.length)(j:Nat)(a:j<8):w.cell? ⟨g,i * 8+j,none⟩=(aE (zs[i].1.lst zs[i].2))[j]?:=by
 have e:=ey 8 (fun z:LsA×Option Ww=>(aE (z.1.lst z.2)).toList) (fun _=>rfl) zs i j hi a;have hx:(aE (zs[i].1.lst zs[i].2))[j]?=some ((aE (zs[i].1.lst zs[i].2))[j]'(by simp [aE];omega)):=eG _;have:=h.cells (g:=g) rfl (i * 8+j) _ (e.trans (by rw [gT];exact hx));rw [Addr.add_lit,zA] at this;rw [this,hx]
theorem lU {w:Wz}{B:Nat}{g cap:Nat}{zs:List (LsA×Option Ww)}(h:w.ownsRow B 125 8 (.slice (some ⟨g,0,none⟩) zs.length cap) zs.length (aT zs))(i:Nat)(hi:i<zs.length):
  w.cell? ⟨g,i * 8,none⟩=some (.int .i64 zs[i].1.num)/\w.cell? ⟨g,i * 8+1,none⟩=some (.pointer zs[i].2)/\w.cell? ⟨g,i * 8+2,none⟩=some (.bool zs[i].1.q.vs)/\w.cell? ⟨g,i * 8+3,none⟩=some (.string zs[i].1.q.p)/\w.cell? ⟨g,i * 8+4,none⟩=some (.string zs[i].1.q.d)/\w.cell? ⟨g,i * 8+5,none⟩=some (.string zs[i].1.q.af)/\w.cell? ⟨g,i * 8+6,none⟩=some (.int .i64 zs[i].1.size)/\w.cell? ⟨g,i * 8+7,none⟩=some (.int .i64 zs[i].1.left):=
 ⟨rp h i hi 0 (by omega),rp h i hi 1 (by omega),rp h i hi 2 (by omega),rp h i hi 3 (by omega),rp h i hi 4 (by omega),rp h i hi 5 (by omega),rp h i hi 6 (by omega),rp h i hi 7 (by omega)⟩
theorem DK (l:Lst)(bx:Nat)(n:Int)(w:Wz)(c0:w.cell? ⟨bx,0,none⟩=some (.int .i64 n)):Calls Yq.prog 72 #[lV l,.pointer (some ⟨bx,0,none⟩)] w fun e w'=>e=.returned (.bool (l.num==n))/\Below w.heap.size w w':=by
 have hlt:=bC w _ c0;simp only at hlt;unfold lV aE;go_enter (Yq.nq func72),ntmps72;go_wp2_with fail
 go_ret;exact ⟨rfl,(bR _ _).alloc (lR _) _⟩
def lW (n:Int)(xs:List LsA):Option Nat:=xs.findIdx? (fun x=>x.num==n)
theorem xy (B:Nat)(c:Option Ww)(d:Nat)(zs:List (LsA×Option Ww))(bx:Nat)(n:Int)(w:Wz)(hz:w.ownsRow B 125 8 (.slice c zs.length d) zs.length (aT zs))(hl:zs.length<=3)(c0:w.cell? ⟨bx,0,none⟩=some (.int .i64 n)):
  Calls Yq.prog 71 #[.slice c zs.length d,.func (.func 72) #[] #[.pointer (some ⟨bx,0,none⟩)]] w fun e w'=>e=.returned (.int .i64 (((lW n (zs.map (·.1))).map fun (i:Nat)=>(i:Int)).getD (-1)))/\Below w.heap.size w w':=by
 have HZ:Hid (w.ownsRow B 125 8 (.slice c zs.length d) zs.length (aT zs)):=hz;have HC:Hid (w.cell? ⟨bx,0,none⟩=some (.int .i64 n)):=c0;obtain ⟨R,f⟩:∃R:Int,R=((lW n (zs.map (·.1))).map fun (i:Nat)=>(i:Int)).getD (-1):=⟨_,rfl⟩;have HR:Hid (R=((lW n (zs.map (·.1))).map fun (i:Nat)=>(i:Int)).getD (-1)):=f;rw [<-f];clear hz f c0;go_enter (Yq.nq func71),ntmps71;go_wp2_with fail
 go_loopw [5,8] (fun _ s8 wr=>∃i:Nat,i<=zs.length/\s8=.int .i64 i/\(∀j (b:j<zs.length),j<i->(zs[j].1.num==n)=false)/\Below w.heap.size w wr) (fun _ s8 _=>zs.length-(intOf s8).toNat)
 case atStart=>exact ⟨0,Nat.zero_le _,rfl,fun _ _ h=>absurd h (by omega),bR _ _⟩
 case round=>
  obtain ⟨i,hi,rfl,hno,hb⟩:=hrel;by_cases hlt:i<zs.length
  .obtain ⟨g,cap,he⟩:∃g cap,Value.slice c zs.length d=.slice (some ⟨g,0,none⟩) zs.length cap:=by
    rcases HZ.out.2 with ⟨h1,h2⟩|⟨g,cap,cur,h1,-⟩
    .omega
    .exact ⟨g,cap,h1⟩
   cases he;obtain ⟨q0,q1,q2,q3,q4,q5,q6,q7⟩:=lU HZ.out i hlt;replace q0:=aj hb q0;replace q1:=aj hb q1;replace q2:=aj hb q2;replace q3:=aj hb q3;replace q4:=aj hb q4;replace q5:=aj hb q5;replace q6:=aj hb q6;replace q7:=aj hb q7;have HF:=DK (zs[i].1.lst zs[i].2) bx n wr (aj hb HC.out);have a:Hid ((∀j (b:j<zs.length),j<i->(zs[j].1.num==n)=false)/\Below w.heap.size w wr):=⟨hno,hb⟩;clear hno hb;simp only [lV,aE,LsA.lst] at HF;cases hb2:(zs[i].1.num==n) with
   |true=>
    rw [hb2] at HF;have HE:Hid (R=(i:Int)):=by
     show R=(i:Int);have:lW n (zs.map (·.1))=some i:=by
      unfold lW;rw [List.findIdx?_eq_some_iff_getElem];refine ⟨by simpa using hlt,by simpa using hb2,fun j b=>?_⟩;have:=a.out.1 j (by omega) b;simpa using this
     rw [HR.out,this];rfl
    go_wp2_with (go_at_call 72;refine HF.mono ?_;clear HF;rintro e w1 ⟨rfl,hb1⟩)
    go_ret;exact ⟨by rw [HE.out];rfl,a.out.2.trans (hb1.mono a.out.2.size)⟩
   |false=>
    rw [hb2] at HF;go_wp2_with (go_at_call 72;refine HF.mono ?_;clear HF;rintro e w1 ⟨rfl,hb1⟩)
    refine ⟨⟨i+1,by omega,by go_num,fun j b hji=>?_,a.out.2.trans (hb1.mono a.out.2.size)⟩,by simp [intOf];omega⟩;by_cases k:j=i
    .subst k;exact hb2
    .exact a.out.1 j b (by omega)
  .have:i=zs.length:=by omega
   subst this;go_wp2_with fail
   go_ret;refine ⟨?_,hb⟩;have:lW n (zs.map (·.1))=none:=by
    unfold lW;rw [List.findIdx?_eq_none_iff];intro x hx;obtain ⟨z,hz,rfl⟩:=List.mem_map.1 hx;obtain ⟨j,b,rfl⟩:=gM hz;exact hno j b b
   rw [HR.out,this];rfl
def LsA.again (x:LsA)(v:Int):LsA:={x with left:=v}
def fD (L:Lg)(a:ByteArray):Lg×List ItD×ByteArray×Int:=
 match eN a L.told with
 |none=>(L,[],⟨#[]⟩,9)
 |some (n,pg)=>
  match lW n L.opened with
  |none=>(L,[],⟨#[]⟩,10)
  |some i=>
   match L.opened[i]? with
   |none=>(L,[],⟨#[]⟩,10)
   |some x=>(⟨L.opened.set i (x.again 10),L.begun,if x.tok pg=⟨#[]⟩ then L.told else mF (x.tok pg) (n,pg+1) L.told,L.tm⟩,x.page pg,x.tok pg,0)
theorem xz {α:Type}(m:Nat)(f:α->List Wq)(hf:∀a,(f a).length=m):∀ (l:List α)(i j:Nat)(a:α)(v:Wq)(_:j<m)(hi:i<l.length),f a=(f l[i]).set j v->(l.set i a).flatMap f=(l.flatMap f).set (i * m+j) v
 | [],i,j,a,v,hj,hi,h=>by simp at hi
 |b::l,0,j,a,v,hj,hi,h=>by
  simp only [List.getElem_cons_zero] at h;simp only [List.set_cons_zero,List.flatMap_cons,Nat.zero_mul,zA];rw [h,List.set_append_left _ _ (by rw [hf];exact hj)]
 |b::l,i+1,j,a,v,hj,hi,h=>by
  simp only [List.getElem_cons_succ] at h;simp only [List.set_cons_succ,List.flatMap_cons];rw [xz m f hf l i j a v hj (by simpa using hi) h,List.set_append_right _ _ (by rw [hf,Nat.add_mul];omega),hf];congr 2;rw [Nat.add_mul];omega
theorem DL {w:Wz}{B:Nat}{e:Wk}{a g n cap:Nat}{xs:List Wq}(h:w.ownsRow B e a (.slice (some ⟨g,0,none⟩) n cap) n xs)(j:Nat)(_hj:j<xs.length)(v:Wq):(w.setCell ⟨g,j,none⟩ v).ownsRow B e a (.slice (some ⟨g,0,none⟩) n cap) n (xs.set j v):=by
 refine ⟨by rw [List.length_set];exact h.1,?_⟩;rcases h.2 with ⟨h1,-⟩|⟨g',cap',b,h1,hb,hr,h2,h3,h4,h5⟩
 .cases h1
 .cases h1;obtain ⟨c,a2⟩:=eS hr;refine .inr ⟨g,cap,b.setIfInBounds j v,rfl,hb,?_,h2,h3,by simpa using h4,?_⟩
  .show (w.heap.modify g _)[g]?=_;rw [eG (by rw [Array.size_modify];exact c),Array.getElem_modify_self,a2];rfl
  .rw [Array.toList_setIfInBounds,List.take_set,h5]
section
variable {A:Nat->Prop} {B k0:Nat} {L:Lg}
theorem dr.setLeft {w:Wz}(h:dr A B w k0 L){g cap:Nat}{zs:List (LsA×Option Ww)}(c4:w.cell? ⟨k0,4,none⟩=some (.slice (some ⟨g,0,none⟩) zs.length cap))(z1:L.opened=zs.map (·.1))(z2:w.ownsRow B 125 8 (.slice (some ⟨g,0,none⟩) zs.length cap) zs.length (aT zs))(z3:¬A g)(z4:∀z∈zs,ai A 41 w z.2 z.1.f)(i:Nat)(hi:i<zs.length)(v:Int):
  dr A B (w.setCell ⟨g,i * 8+7,none⟩ (.int .i64 v)) k0 {L with opened:=L.opened.set i (zs[i].1.again v)}/\aJ A B k0 w (w.setCell ⟨g,i * 8+7,none⟩ (.int .i64 v)) /\
   (w.setCell ⟨g,i * 8+7,none⟩ (.int .i64 v)).ownsRow B 125 8 (.slice (some ⟨g,0,none⟩) zs.length cap) (zs.set i (zs[i].1.again v,zs[i].2)).length (aT (zs.set i (zs[i].1.again v,zs[i].2)))/\(∀z∈zs.set i (zs[i].1.again v,zs[i].2),ai A 41 (w.setCell ⟨g,i * 8+7,none⟩ (.int .i64 v)) z.2 z.1.f):=by
 have hlow:=h.low;have hgB:B<=g:=(z2.lt g rfl).1;have hne:∀b,b≠g->(w.setCell ⟨g,i * 8+7,none⟩ (.int .i64 v)).heap[b]?=w.heap[b]?:=fun b hb=>bS _ _ _ _ hb
 have hk:=hne k0 (by omega);have k:∀j,(w.setCell ⟨g,i * 8+7,none⟩ (.int .i64 v)).cell? ⟨k0,j,none⟩=w.cell? ⟨k0,j,none⟩:=fun j=>cB (a:=⟨k0,j,none⟩) hk
 have hown:(w.setCell ⟨g,i * 8+7,none⟩ (.int .i64 v)).ownsRow B 125 8 (.slice (some ⟨g,0,none⟩) zs.length cap) (zs.set i (zs[i].1.again v,zs[i].2)).length (aT (zs.set i (zs[i].1.again v,zs[i].2))):=by
  have e:aT (zs.set i (zs[i].1.again v,zs[i].2))=(aT zs).set (i * 8+7) (.int .i64 v):=xz 8 _ (fun _=>rfl) zs i 7 _ _ (by omega) hi rfl;rw [e,List.length_set];exact DL z2 _ (by rw [lO];omega) _
 have c:∀z∈zs.set i (zs[i].1.again v,zs[i].2),ai A 41 (w.setCell ⟨g,i * 8+7,none⟩ (.int .i64 v)) z.2 z.1.f:=fun z hz=>by
  refine ai.keep (fun b hb _=>⟨hb,hne b (fun e=>z3 (e▸hb))⟩) 41 _ _ ?_;rcases List.mem_or_eq_of_mem_set hz with hz|rfl
  .exact z4 z hz
  .exact z4 zs[i] (List.getElem_mem hi)
 obtain ⟨n,c6,hm⟩:=h.told;refine ⟨⟨⟨_,(k 4).trans c4,zs.set i (zs[i].1.again v,zs[i].2),by rw [z1,List.map_set],by simpa using hown,fun g' l=>by cases l;exact z3,c⟩,(k 5).trans h.begun,⟨n,(k 6).trans c6,?_⟩,fun j=>(fB (a:=⟨k0,j,none⟩) hk).trans (h.frozen j),h.avoid,h.low,fun b hb=>by simpa using h.inn b hb⟩,aJ.other (by omega) z3 hgB,hown,c⟩;rcases hm with hm|⟨m,es,d,m1,m2,m3⟩
 .exact .inl hm
 .refine .inr ⟨m,es,d,m1,(hne m fun e=>?_).trans m2,m3⟩;subst e;rcases z2.2 with ⟨h1,-⟩|⟨g',cap',cur,h1,-,hr,-⟩
  .cases h1
  .cases h1;rw [hr] at m2;cases m2
end
structure nh (B:Nat)(w:Wz)(g cap:Nat)(zs:List (LsA×Option Ww)):Prop where
 base:B<=g
 obj:∃cur:Array Wq,w.heap[g]?=some (.cells cur 125 (0,0))/\cur.size=cap * 8
 le:zs.length<=cap
 max:cap<=maxLen
 cells:∀i (hi:i<zs.length) j,j<8->w.cell? ⟨g,i * 8+j,none⟩=(aE (zs[i].1.lst zs[i].2))[j]?
theorem nh.of_owns {B:Nat}{w:Wz}{g cap:Nat}{zs:List (LsA×Option Ww)}(h:w.ownsRow B 125 8 (.slice (some ⟨g,0,none⟩) zs.length cap) zs.length (aT zs)):nh B w g cap zs:=by
 have h2:=h.2;rcases h2 with ⟨h1,-⟩|⟨g',cap',a,h1,hb,hr,h2,h3,h4,-⟩
 .cases h1
 .cases h1;exact ⟨hb,⟨a,hr,h4⟩,h2,h3,fun i hi j b=>rp h i hi j b⟩
theorem nh.owns {B:Nat}{w:Wz}{g cap:Nat}{zs:List (LsA×Option Ww)}(h:nh B w g cap zs):w.ownsRow B 125 8 (.slice (some ⟨g,0,none⟩) zs.length cap) zs.length (aT zs):=by
 obtain ⟨a,hr,hs⟩:=h.obj;refine ⟨lO zs,.inr ⟨g,cap,a,rfl,h.base,hr,h.le,h.max,hs,?_⟩⟩;apply List.ext_getElem?;intro t;by_cases ht:t<zs.length * 8
 .have hq:t / 8<zs.length:=by omega
  have e:t=t / 8 * 8+t % 8:=by omega
  have h1:=h.cells (t / 8) hq (t % 8) (by omega);rw [<-e] at h1;have h2:=ey 8 (fun z:LsA×Option Ww=>(aE (z.1.lst z.2)).toList) (fun _=>rfl) zs (t / 8) (t % 8) hq (by omega);rw [<-e] at h2;show _=(zs.flatMap fun z=>(aE (z.1.lst z.2)).toList)[t]?;rw [h2,List.getElem?_take,if_pos ht,gT,gT,<-h1,cell_of_row w g t a 125 (0,0) hr]
 .rw [List.getElem?_eq_none (by simp;omega),List.getElem?_eq_none (by rw [lO];omega)]
theorem nh.same {B:Nat}{w w':Wz}{g cap:Nat}{zs:List (LsA×Option Ww)}(h:nh B w g cap zs)(e:w'.heap[g]?=w.heap[g]?):nh B w' g cap zs:=
 ⟨h.base,by rw [e];exact h.obj,h.le,h.max,fun i hi j b=>(cB (a:=⟨g,i * 8+j,none⟩) e).trans (h.cells i hi j b)⟩
theorem nh.lt {B:Nat}{w:Wz}{g cap:Nat}{zs:List (LsA×Option Ww)}(h:nh B w g cap zs):g<w.heap.size:=by
 obtain ⟨cur,h,-⟩:=h.obj;exact (eS h).1
theorem iV {w:Wz}{g n j:Nat}{e:Wk}{v:Wq}(h:∃a:Array Wq,w.heap[g]?=some (.cells a e (0,0))/\a.size=n):∃a:Array Wq,(w.setCell ⟨g,j,none⟩ v).heap[g]?=some (.cells a e (0,0))/\a.size=n:=by
 obtain ⟨a,h1,h2⟩:=h;obtain ⟨b,a2⟩:=eS h1;refine ⟨a.setIfInBounds j v,?_,by simpa using h2⟩;show (w.heap.modify g _)[g]?=_;rw [eG (by rw [Array.size_modify];exact b),Array.getElem_modify_self,a2];rfl
theorem nh.frozen {B:Nat}{w:Wz}{g cap:Nat}{zs:List (LsA×Option Ww)}(h:nh B w g cap zs)(j:Nat):w.frozen? ⟨g,j,none⟩=false:=by
 obtain ⟨cur,h,-⟩:=h.obj;simp [World.frozen?,h]
def set8 (w:Wz)(g i:Nat)(l:Lst):Wz:=
 (((((((w.setCell ⟨g,i * 8,none⟩ (.int .i64 l.num)).setCell ⟨g,i * 8+1,none⟩ (.pointer l.root)).setCell ⟨g,i * 8+2,none⟩ (.bool l.vs)).setCell ⟨g,i * 8+3,none⟩ (.string l.p)).setCell ⟨g,i * 8+4,none⟩ (.string l.d)).setCell ⟨g,i * 8+5,none⟩ (.string l.af)).setCell ⟨g,i * 8+6,none⟩ (.int .i64 l.size)).setCell ⟨g,i * 8+7,none⟩ (.int .i64 l.left)
theorem DM {w:Wz}{g i n:Nat}{e:Wk}{l:Lst}(h:∃a:Array Wq,w.heap[g]?=some (.cells a e (0,0))/\a.size=n):∃a:Array Wq,(set8 w g i l).heap[g]?=some (.cells a e (0,0))/\a.size=n:=
 iV (iV (iV (iV (iV (iV (iV (iV h)))))))
theorem DN {w:Wz}{g i t:Nat}{l:Lst}(h:t<i * 8\/i * 8+8<=t):(set8 w g i l).cell? ⟨g,t,none⟩=w.cell? ⟨g,t,none⟩:=by
 unfold set8
 iterate 8 rw [cO _ _ _ _ (aW (by omega))]
theorem aM {w:Wz}{g a b:Nat}{v:Wq}(h:(w.cell? ⟨g,b,none⟩).isSome=true):((w.setCell ⟨g,a,none⟩ v).cell? ⟨g,b,none⟩).isSome=true:=by
 by_cases e:a=b
 .subst e;rw [cS _ _ _ h];rfl
 .rw [cO _ _ _ _ (aW e)];exact h
theorem Bx {w:Wz}{g i:Nat}{l:Lst}(h:∀j,j<8->(w.cell? ⟨g,i * 8+j,none⟩).isSome=true)(j:Nat)(hj:j<8):(set8 w g i l).cell? ⟨g,i * 8+j,none⟩=(aE l)[j]?:=by
 have e0:(set8 w g i l).cell? ⟨g,i * 8,none⟩=(aE l)[0]?:=by
  unfold set8
  iterate 7 rw [cO _ _ _ _ (aW (by omega))]
  exact cS _ _ _ (h 0 (by omega))
 have e1:(set8 w g i l).cell? ⟨g,i * 8+1,none⟩=(aE l)[1]?:=by
  unfold set8
  iterate 6 rw [cO _ _ _ _ (aW (by omega))]
  exact cS _ _ _ (aM (h 1 (by omega)))
 have e2:(set8 w g i l).cell? ⟨g,i * 8+2,none⟩=(aE l)[2]?:=by
  unfold set8
  iterate 5 rw [cO _ _ _ _ (aW (by omega))]
  exact cS _ _ _ (aM (aM (h 2 (by omega))))
 have e3:(set8 w g i l).cell? ⟨g,i * 8+3,none⟩=(aE l)[3]?:=by
  unfold set8
  iterate 4 rw [cO _ _ _ _ (aW (by omega))]
  exact cS _ _ _ (aM (aM (aM (h 3 (by omega)))))
 have e4:(set8 w g i l).cell? ⟨g,i * 8+4,none⟩=(aE l)[4]?:=by
  unfold set8
  iterate 3 rw [cO _ _ _ _ (aW (by omega))]
  exact cS _ _ _ (aM (aM (aM (aM (h 4 (by omega))))))
 have e5:(set8 w g i l).cell? ⟨g,i * 8+5,none⟩=(aE l)[5]?:=by
  unfold set8
  iterate 2 rw [cO _ _ _ _ (aW (by omega))]
  exact cS _ _ _ (aM (aM (aM (aM (aM (h 5 (by omega)))))))
 have e6:(set8 w g i l).cell? ⟨g,i * 8+6,none⟩=(aE l)[6]?:=by
  unfold set8
  iterate 1 rw [cO _ _ _ _ (aW (by omega))]
  exact cS _ _ _ (aM (aM (aM (aM (aM (aM (h 6 (by omega))))))))
 have a:(set8 w g i l).cell? ⟨g,i * 8+7,none⟩=(aE l)[7]?:=by
  unfold set8;exact cS _ _ _ (aM (aM (aM (aM (aM (aM (aM (h 7 (by omega)))))))))
 rcases j with - | - | - | - | - | - | - | - |j
 .exact e0
 .exact e1
 .exact e2
 .exact e3
 .exact e4
 .exact e5
 .exact e6
 .exact a
 .omega
theorem nh.set8 {B:Nat}{w:Wz}{g cap:Nat}{zs:List (LsA×Option Ww)}(h:nh B w g cap zs)(i:Nat)(hi:i<zs.length)(z:LsA×Option Ww):nh B (set8 w g i (z.1.lst z.2)) g cap (zs.set i z):=by
 refine ⟨h.base,DM h.obj,by rw [List.length_set];exact h.le,h.max,fun k hk j b=>?_⟩;have a:k<zs.length:=by simpa using hk
 by_cases c:k=i
 .subst c;rw [Bx (fun j b=>by rw [h.cells k a j b];simp [aE];omega) j b];simp
 .rw [DN (by omega),h.cells k a j b,List.getElem_set_ne (by omega)]
section
variable {P:Wx}
theorem vP (w:Wz)(t e ty:Wk)(z:Wq)(ht:P.underlying t=some (.slice e))(hv:∀w,(zeroValue e).run P w=.ok z w)(h1:∀v∈z.cells.toList,v.oneCell'=true)
  (g o n c:Nat) (a:Array Wq) (T:Wk) (hg:w.heap[g]?=some (.cells a T (0,0))) (hn:0<n) (hfit:o+n * z.cells.size<=a.size):
  ∃b,(Builtin.clear_ #[t] ty #[.slice (some ⟨g,o,none⟩) n c]).run P w=.ok (.tuple #[]) (w.setRow g b)/\b.size=a.size/\b.toList.take o=a.toList.take o:=by
 have d:(Builtin.zeroCells z.cells n).size=n * z.cells.size:=by simp [Builtin.zeroCells]
 have f:∀v∈(Builtin.zeroCells z.cells n).toList,v.oneCell'=true:=fun v hv=>by
  have hv:=Array.mem_toList_iff.1 hv;obtain ⟨k,hk,rfl⟩:=Array.getElem_of_mem hv;have hk2:k<n * z.cells.size:=by rw [<-d];exact hk
  have i:0<z.cells.size:=by
   rcases Nat.eq_zero_or_pos z.cells.size with h|h
   .rw [h] at hk2;omega
   .exact h
  simp only [Builtin.zeroCells,Array.getElem_map,Array.getElem_range];have:k % z.cells.size<z.cells.size:=Nat.mod_lt _ i;rw [getElem!_pos z.cells (k % z.cells.size) this];exact h1 _ (by simp)
 have hst:=run_storeCells_at P g o T (Builtin.zeroCells z.cells n).toList 0 a w hg (by rw [lY,d];omega) f;simp only [Nat.add_zero,lY] at hst;refine ⟨(a.toList.take o++(Builtin.zeroCells z.cells n).toList++a.toList.drop (o+(Builtin.zeroCells z.cells n).size)).toArray,?_,?_,?_⟩
 .obtain ⟨m,rfl⟩:∃m,n=m+1:=⟨n-1,by omega⟩;simp [Builtin.clear_,run_underlying ht,hv,hst]
 .simp [d];omega
 .simp;rw [List.take_append_of_le_length (by simp;omega),List.take_take];simp
end
end
