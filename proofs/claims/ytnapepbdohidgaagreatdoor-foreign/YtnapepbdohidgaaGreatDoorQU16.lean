/- A part. -/
import Derived.Test.YtnapepbdohidgaaGreatDoorQU15
import Derived.Test.YtnapepbdohidgaaGreatDoorChecked
import Derived.ProofKit
import Derived.SizedLaws
import Derived.Deep.Slices
import Derived.ChangeMaps5
import Derived.LaidMore
import Derived.Stop.Joined
import Derived.OpenShut
import Derived.MapKept
import Derived.Carry
set_option maxHeartbeats 4000000
set_option maxRecDepth 100000
open Go renaming World->Wz,Value->Wq,Program->Wx,TypeId->Wk,Addr->Ww
namespace Go.Proofs.Qw
section
open Go.RowKit
theorem j8.more {w W0:Wz}(h:j8 w W0)(o:Obj):j8 w (W0.alloc o):=by
 have hb:Below W0.heap.size W0 (W0.alloc o):=(bR _ _).alloc (lR _) _;exact ⟨h.below.trans (hb.mono h.below.size),lL h.lt hb.size,aj hb h.c0,aj hb h.c1,aj hb h.c2,aj hb h.c3,aj hb h.c4,fun j=>(hb.frozen (p:=⟨w.heap.size+1,j,none⟩) h.lt).trans (h.fz j)⟩
theorem yj {w w1:Wz}(h:Below w.heap.size w w1)(x0 x1 x2 x3 x4:Wq)(o:Obj):Below w.heap.size w ((((((w1.setCell ⟨w.heap.size+1,0,none⟩ x0).setCell ⟨w.heap.size+1,1,none⟩ x1).setCell ⟨w.heap.size+1,2,none⟩ x2).setCell ⟨w.heap.size+1,3,none⟩ x3).setCell ⟨w.heap.size+1,4,none⟩ x4).alloc o):=by
 have hx:w.heap.size<=w.heap.size+1:=by omega
 have h5:=((((h.setCell (p:=⟨w.heap.size+1,0,none⟩) hx x0).setCell (p:=⟨w.heap.size+1,1,none⟩) hx x1).setCell (p:=⟨w.heap.size+1,2,none⟩) hx x2).setCell (p:=⟨w.heap.size+1,3,none⟩) hx x3).setCell (p:=⟨w.heap.size+1,4,none⟩) hx x4;exact h5.alloc h5.size o
theorem yl {w w1:Wz}(h:Below w.heap.size w w1)(y0 y1 y2 x0 x1 x2 x3 x4:Wq):Below w.heap.size w ((((((((w1.setCell ⟨w.heap.size+1+1,0,none⟩ y0).setCell ⟨w.heap.size+1+1,1,none⟩ y1).setCell ⟨w.heap.size+1+1,2,none⟩ y2).setCell ⟨w.heap.size+1,0,none⟩ x0).setCell ⟨w.heap.size+1,1,none⟩ x1).setCell ⟨w.heap.size+1,2,none⟩ x2).setCell ⟨w.heap.size+1,3,none⟩ x3).setCell ⟨w.heap.size+1,4,none⟩ x4):=by
 have hx:w.heap.size<=w.heap.size+1:=by omega
 have hy:w.heap.size<=w.heap.size+1+1:=by omega
 have h3:=((h.setCell (p:=⟨w.heap.size+1+1,0,none⟩) hy y0).setCell (p:=⟨w.heap.size+1+1,1,none⟩) hy y1).setCell (p:=⟨w.heap.size+1+1,2,none⟩) hy y2;exact ((((h3.setCell (p:=⟨w.heap.size+1,0,none⟩) hx x0).setCell (p:=⟨w.heap.size+1,1,none⟩) hx x1).setCell (p:=⟨w.heap.size+1,2,none⟩) hx x2).setCell (p:=⟨w.heap.size+1,3,none⟩) hx x3).setCell (p:=⟨w.heap.size+1,4,none⟩) hx x4
theorem ym {w w1:Wz}(h:Below w.heap.size w w1)(x0 x1 x2 x3 x4:Wq):Below w.heap.size w (((((w1.setCell ⟨w.heap.size+1,0,none⟩ x0).setCell ⟨w.heap.size+1,1,none⟩ x1).setCell ⟨w.heap.size+1,2,none⟩ x2).setCell ⟨w.heap.size+1,3,none⟩ x3).setCell ⟨w.heap.size+1,4,none⟩ x4):=by
 have hx:w.heap.size<=w.heap.size+1:=by omega
 exact ((((h.setCell (p:=⟨w.heap.size+1,0,none⟩) hx x0).setCell (p:=⟨w.heap.size+1,1,none⟩) hx x1).setCell (p:=⟨w.heap.size+1,2,none⟩) hx x2).setCell (p:=⟨w.heap.size+1,3,none⟩) hx x3).setCell (p:=⟨w.heap.size+1,4,none⟩) hx x4
theorem j8.to {w W0 w1:Wz}(h:j8 w W0)(hb:Below W0.heap.size W0 w1):j8 w w1:=
 ⟨h.below.trans (hb.mono h.below.size),lL h.lt hb.size,aj hb h.c0,aj hb h.c1,aj hb h.c2,aj hb h.c3,aj hb h.c4,fun j=>(hb.frozen (p:=⟨w.heap.size+1,j,none⟩) h.lt).trans (h.fz j)⟩
theorem j8.put {w w1:Wz}(h:j8 w w1)(b o:Nat)(v:Wq)(hb:w.heap.size+1<b):j8 w (w1.setCell ⟨b,o,none⟩ v):=by
 have hne:∀j,(w1.setCell ⟨b,o,none⟩ v).cell? ⟨w.heap.size+1,j,none⟩=w1.cell? ⟨w.heap.size+1,j,none⟩:=fun j=>cO w1 ⟨b,o,none⟩ ⟨w.heap.size+1,j,none⟩ v (fun e=>by have:=congrArg Addr.block e;simp only at this;omega)
 exact ⟨h.below.setCell (p:=⟨b,o,none⟩) (by simp only;omega) v,by have:=h.lt;simpa [World.setCell] using this,(hne 0).trans h.c0,(hne 1).trans h.c1,(hne 2).trans h.c2,(hne 3).trans h.c3,(hne 4).trans h.c4,fun j=>fs (h.fz j)⟩
theorem j8.put3 {w w1:Wz}(h:j8 w w1)(x y z:Wq):j8 w (((w1.setCell ⟨w.heap.size+1+1,0,none⟩ x).setCell ⟨w.heap.size+1+1,1,none⟩ y).setCell ⟨w.heap.size+1+1,2,none⟩ z):=
 ((h.put _ 0 x (by omega)).put _ 1 y (by omega)).put _ 2 z (by omega)
theorem sE (w:Wz)(x y z:Wq)(T:Wk)(b:Nat)(hb:w.heap.size=b):bF (w.alloc (.cells #[x,y,z] T)).drew b x y z:=by
 subst hb;have h:=kM w x y z T;exact ⟨h.c0,h.c1,h.c2,h.fz⟩
theorem yn (A:Nat->Prop)(k0:Nat)(st:St)(s:Nat)(o:OpD)(w:Wz)(hk:o.key.size<=maxLen)(S:ax A w k0 st)(hI:Inv st s)(hs:s<2199023255340)(hkind:o.kind=2):
  Calls Yq.prog 33 #[.pointer (some ⟨k0,0,none⟩),cj o] w (dg A w k0 st (dk ⟨(jU st o.key).2,(jU st o.key).1.num,(jU st o.key).1.body⟩)):=by
 obtain ⟨kind,key,body,delim,past,n,src⟩:=o;simp only at hkind hk;subst hkind;have R0:=(Gc w #[.int .i64 2,.string key,.string body,.string delim,.string past,.int .i64 n,.int .i64 src]);have HC:Hid (∀W1,Below w.heap.size w W1->Calls Yq.prog 36 #[.pointer (some ⟨k0,0,none⟩),.string key] W1 fun e w'=>e=.returned (.tuple #[bL (jU st key).1,.int .i64 (jU st key).2])/\Below W1.heap.size W1 w'):=fun W1 hb=>Cx A k0 st s key W1 hk (S.on hb) hI (by omega)
 have HS:Hid (ax A w k0 st):=S;have HRA:Hid (j8 w ((w.alloc (.cells #[.int .i64 2,.string key,.string body,.string delim,.string past,.int .i64 n,.int .i64 src] 31)).alloc (.cells #[.int .i64 0,.int .i64 0,.string ⟨#[]⟩,.slice none 0 0,.string ⟨#[]⟩] 36)).drew):=R0.drew;have HRB:Hid (j8 w (((w.alloc (.cells #[.int .i64 2,.string key,.string body,.string delim,.string past,.int .i64 n,.int .i64 src] 31)).alloc (.cells #[.int .i64 0,.int .i64 0,.string ⟨#[]⟩,.slice none 0 0,.string ⟨#[]⟩] 36)).alloc (.cells #[.int .i64 0,.string ⟨#[]⟩,.bool false] 81)).drew/\bF (((w.alloc (.cells #[.int .i64 2,.string key,.string body,.string delim,.string past,.int .i64 n,.int .i64 src] 31)).alloc (.cells #[.int .i64 0,.int .i64 0,.string ⟨#[]⟩,.slice none 0 0,.string ⟨#[]⟩] 36)).alloc (.cells #[.int .i64 0,.string ⟨#[]⟩,.bool false] 81)).drew (w.heap.size+1+1) (.int .i64 0) (.string ⟨#[]⟩) (.bool false)):=⟨(R0.more _).drew,(sE _ _ _ _ _ _ (by simp))⟩;have hk0:=S.lt;clear R0 S;simp only [cj];generalize jU st key=pr at *;obtain ⟨⟨nm,bd,mk⟩,code⟩:=pr;simp only [bL] at HC;go_enter (Yq.nq Tryz.func33),Tryz.ntmps33;go_wp2_with fail
 go_region_with (first
  |(go_at_call 36;refine (HC.out _ HRA.out.below).mono ?_;rintro e w1 ⟨rfl,hb1⟩;obtain ⟨⟨d0,d1,d2,d3,d4⟩,g0,g1,g2,g3,g4⟩:=HRA.out.on hk0 (dz hb1 (some k0));have HX:Hid (Below w.heap.size w w1):=HRA.out.below.trans (hb1.mono HRA.out.below.size);have hlt:w.heap.size+1<w1.heap.size:=lL HRA.out.lt hb1.size;clear hb1)
  |(go_at_call 36;refine (HC.out _ HRB.out.1.below).mono ?_;rintro e w1 ⟨rfl,hb1⟩;obtain ⟨⟨d0,d1,d2,d3,d4⟩,g0,g1,g2,g3,g4⟩:=HRB.out.1.on hk0 (dz hb1 (some k0));obtain ⟨v0,v1,v2,vf⟩:=HRB.out.2.on hb1;have f0:=vf 0;have f1:=vf 1;have f2:=vf 2;have HX:Hid (Below w.heap.size w w1):=HRB.out.1.below.trans (hb1.mono HRB.out.1.below.size);have hlt:w.heap.size+1<w1.heap.size:=lL HRB.out.1.lt hb1.size;clear hb1))
 .go_wp2;refine bodyPost_ret (v:=dk ⟨code,nm,bd⟩) (by simp [results,Tryz.results33,go_sem,dk,d0,d1,d2,d3,d4,hlt]) rfl ?_;exact aW HS.out (yj HX.out _ _ _ _ _ _)
 all_goals
  go_wp2;refine bodyPost_ret (v:=dk ⟨code,nm,bd⟩) (by simp [results,Tryz.results33,go_sem,dk,d0,d1,d2,d3,d4]) rfl ?_;have hend:=yl HX.out (.int .i64 nm) (.string bd) (.bool mk) (.int .i64 code) (.int .i64 nm) (.string bd) (.slice none 0 0) (.string ⟨#[]⟩);exact aW HS.out hend
theorem uH (A:Nat->Prop)(k0:Nat)(st:St)(s:Nat)(o:OpD)(w:Wz)(hk:o.key.size<=maxLen)(S:ax A w k0 st)(hI:Inv st s)(hs:s<2199023255340)(hkind:o.kind=3):
  Calls Yq.prog 33 #[.pointer (some ⟨k0,0,none⟩),cj o] w (dg A w k0 st (dk ⟨(dQ st o.key o.n).2,0,(dQ st o.key o.n).1.body⟩)):=by
 obtain ⟨kind,key,body,delim,past,n,src⟩:=o;simp only at hkind hk;subst hkind;have R0:=(Gc w #[.int .i64 3,.string key,.string body,.string delim,.string past,.int .i64 n,.int .i64 src]);have HC:Hid (∀W1,Below w.heap.size w W1->Calls Yq.prog 37 #[.pointer (some ⟨k0,0,none⟩),.string key,.int .i64 n] W1 fun e w'=>e=.returned (.tuple #[bL (dQ st key n).1,.int .i64 (dQ st key n).2])/\Below W1.heap.size W1 w'):=fun W1 hb=>AB A k0 st s key n W1 hk (S.on hb) hI (by omega)
 have HS:Hid (ax A w k0 st):=S;have HRA:Hid (j8 w ((w.alloc (.cells #[.int .i64 3,.string key,.string body,.string delim,.string past,.int .i64 n,.int .i64 src] 31)).alloc (.cells #[.int .i64 0,.int .i64 0,.string ⟨#[]⟩,.slice none 0 0,.string ⟨#[]⟩] 36)).drew):=R0.drew;have HRB:Hid (j8 w (((w.alloc (.cells #[.int .i64 3,.string key,.string body,.string delim,.string past,.int .i64 n,.int .i64 src] 31)).alloc (.cells #[.int .i64 0,.int .i64 0,.string ⟨#[]⟩,.slice none 0 0,.string ⟨#[]⟩] 36)).alloc (.cells #[.int .i64 0,.string ⟨#[]⟩,.bool false] 81)).drew/\bF (((w.alloc (.cells #[.int .i64 3,.string key,.string body,.string delim,.string past,.int .i64 n,.int .i64 src] 31)).alloc (.cells #[.int .i64 0,.int .i64 0,.string ⟨#[]⟩,.slice none 0 0,.string ⟨#[]⟩] 36)).alloc (.cells #[.int .i64 0,.string ⟨#[]⟩,.bool false] 81)).drew (w.heap.size+1+1) (.int .i64 0) (.string ⟨#[]⟩) (.bool false)):=⟨(R0.more _).drew,(sE _ _ _ _ _ _ (by simp))⟩;have hk0:=S.lt;clear R0 S;simp only [cj];generalize dQ st key n=pr at *;obtain ⟨⟨nm,bd,mk⟩,code⟩:=pr;simp only [bL] at HC;go_enter (Yq.nq Tryz.func33),Tryz.ntmps33
 go_upto_region 9 with fail
 go_cut [9,10] (fun s9 s10 wx=>s10=.int .i64 code/\∃bv,s9=.pointer (some ⟨bv,0,none⟩)/\bF wx bv (.int .i64 nm) (.string bd) (.bool mk)/\w.heap.size+1<bv/\j8 w wx)
 case first=>
  go_region_with (first
   |(go_at_call 37;refine (HC.out _ HRA.out.below).mono ?_;rintro e w1 ⟨rfl,hb1⟩;have HX:Hid (j8 w w1):=HRA.out.to hb1;have hlt:w.heap.size+1<w1.heap.size:=lL HRA.out.lt hb1.size;clear hb1)
   |(go_at_call 37;refine (HC.out _ HRB.out.1.below).mono ?_;rintro e w1 ⟨rfl,hb1⟩;obtain ⟨v0,v1,v2,vf⟩:=HRB.out.2.on hb1;have f0:=vf 0;have f1:=vf 1;have f2:=vf 2;have HV:Hid (bF w1 (w.heap.size+1+1) (.int .i64 0) (.string ⟨#[]⟩) (.bool false)/\j8 w w1):=⟨⟨v0,v1,v2,vf⟩,HRB.out.1.to hb1⟩;clear hb1))
  all_goals
   go_wp2_with fail
   go_meet
   case rel=>
    first
     |exact ⟨rfl,w.heap.size+1+1,rfl,((HV.out.1.set0 (.int .i64 nm)).set1 (.string bd)).set2 (.bool mk),by omega,HV.out.2.put3 (.int .i64 nm) (.string bd) (.bool mk)⟩
     |exact ⟨rfl,w1.heap.size,rfl,kM w1 (.int .i64 nm) (.string bd) (.bool mk) 81,hlt,HX.out.more _⟩
 case rest=>
 obtain ⟨rfl,bv,rfl,⟨v0,v1,v2,-⟩,hbv,hres⟩:=hcut;have hne:¬bv=w.heap.size+1:=by omega
 have hlt:=hres.lt;obtain ⟨HBE,-,d0,d1,d2,d3,d4,fz⟩:=hres;have g0:=fz 0;have g1:=fz 1;have g2:=fz 2;have g3:=fz 3;have g4:=fz 4;have HX:Hid (Below w.heap.size w wc):=HBE;clear HBE fz;go_wp2;refine bodyPost_ret (v:=dk ⟨code,0,bd⟩) (by simp [results,Tryz.results33,go_sem,dk,d0,d1,d2,d3,d4]) rfl ?_;have hend:=ym HX.out (.int .i64 code) (.int .i64 0) (.string bd) (.slice none 0 0) (.string ⟨#[]⟩);exact aW HS.out hend
theorem kQ (st:St)(o:OpD)(h:o.kind=1):bz st o=((jd st o.key o.body).1,⟨(jd st o.key o.body).2.2,(jd st o.key o.body).2.1,⟨#[]⟩⟩):=by
 unfold bz jd iY;rw [if_pos h];by_cases h1:ba o.key=false
 .simp [h1]
 .by_cases h2:100<o.body.size
  .simp [h1,h2]
  .by_cases h3:200<=st.count\/st.last=9223372036854775807
   .simp [h1,h2,h3]
   .simp [h1,h2,h3]
theorem oY (st:St)(o:OpD)(h:o.kind=2):bz st o=(st,⟨(jU st o.key).2,(jU st o.key).1.num,(jU st o.key).1.body⟩):=by
 unfold bz jU;rw [if_neg (by omega),if_pos h];by_cases h1:ba o.key=false
 .simp [h1,dC]
 .cases h2:(st.f o.key.data.toList).getLast? with
  |none=>simp [h1,dC]
  |some v=>cases h3:v.mark<;>simp [h1,h3,dC]
theorem nP (st:St)(o:OpD)(h:o.kind=3):bz st o=(st,⟨(dQ st o.key o.n).2,0,(dQ st o.key o.n).1.body⟩):=by
 unfold bz dQ;rw [if_neg (by omega),if_neg (by omega),if_pos h];by_cases h1:ba o.key=false
 .simp [h1,dC]
 .cases h2:dO (st.f o.key.data.toList) o.n with
  |none=>simp [h1,dC]
  |some r=>
   cases h4:(st.f o.key.data.toList)[r]? with
   |none=>simp [h1,h4,dC]
   |some v=>cases h3:v.mark<;>simp [h1,h3,h4,dC]
theorem jv (st:St)(o:OpD)(h:o.kind=4):bz st o=((dD st o.key).1,⟨(dD st o.key).2.2,(dD st o.key).2.1,⟨#[]⟩⟩):=by
 unfold bz dD iY;rw [if_neg (by omega),if_neg (by omega),if_neg (by omega),if_pos h];by_cases h1:ba o.key=false
 .simp [h1]
 .by_cases h3:200<=st.count\/st.last=9223372036854775807
  .simp [h1,h3]
  .simp [h1,h3]
theorem lW (st:St)(o:OpD)(h:o.kind=5):bz st o=((dM st o.key o.n).1,⟨(dM st o.key o.n).2,0,⟨#[]⟩⟩):=by
 unfold bz dM;rw [if_neg (by omega),if_neg (by omega),if_neg (by omega),if_neg (by omega),if_pos h];by_cases h1:ba o.key=false
 .simp [h1]
 .cases h2:dO (st.f o.key.data.toList) o.n<;>simp [h1]
theorem yo (A:Nat->Prop)(k0:Nat)(st:St)(s:Nat)(o:OpD)(w:Wz)(hk:o.key.size<=maxLen)(hbd:o.body.size<=maxLen)(S:ax A w k0 st)(hI:Inv st s)(hs:s<2199023255340)(h6:o.kind<6\/12<o.kind):
  Calls Yq.prog 33 #[.pointer (some ⟨k0,0,none⟩),cj o] w (dg A w k0 (bz st o).1 (dk (bz st o).2)):=by
 by_cases h1:o.kind=1
 .rw [kQ st o h1];exact yi A k0 st s o w hk hbd S hI hs h1
 by_cases h2:o.kind=2
 .rw [oY st o h2];exact yn A k0 st s o w hk S hI hs h2
 by_cases h3:o.kind=3
 .rw [nP st o h3];exact uH A k0 st s o w hk S hI hs h3
 by_cases h4:o.kind=4
 .rw [jv st o h4];exact uG A k0 st s o w hk S hI hs h4
 by_cases h5:o.kind=5
 .rw [lW st o h5];exact sC A k0 st s o w hk S hI hs h5
 .have e:bz st o=(st,⟨1,0,⟨#[]⟩⟩):=by unfold bz;simp [h1,h2,h3,h4,h5]
  rw [e];exact sD A k0 st o w S (by omega)
theorem Inv.step {st:St}{s:Nat}(h:Inv st s)(o:OpD):Inv (bz st o).1 (s+1):=by
 by_cases h1:o.kind=1
 .rw [kQ st o h1];unfold jd
  (repeat' split)<;>first|exact h.mono (by omega)|exact h.add _ _ _ (fun e=>by simp_all [iY])
 by_cases h2:o.kind=2
 .rw [oY st o h2];exact h.mono (by omega)
 by_cases h3:o.kind=3
 .rw [nP st o h3];exact h.mono (by omega)
 by_cases h4:o.kind=4
 .rw [jv st o h4];unfold dD
  (repeat' split)<;>first|exact h.mono (by omega)|exact h.add _ _ _ (fun e=>by simp_all [iY])
 by_cases h5:o.kind=5
 .rw [lW st o h5];unfold dM;split
  .exact h.mono (by omega)
  .split
   .exact h.mono (by omega)
   .rename_i r hr;exact h.drop _ _ (List.findIdx?_eq_some_iff_getElem.1 hr).1
 .have e:bz st o=(st,⟨1,0,⟨#[]⟩⟩):=by unfold bz;simp [h1,h2,h3,h4,h5]
  rw [e];exact h.mono (by omega)
def st0:St:=⟨fun _=>[],0,0⟩
theorem inv0:Inv st0 0:=by
 refine ⟨by simp [st0],by simp [st0],by simp [st0],by simp [st0],fun k=>by simp [st0],?_,?_⟩
 .intro k i j _ hj;simp [st0] at hj
 .intro k i hi;simp [st0] at hi
def aJ (o:OpD):List Wq:=[.int .i64 o.kind,.string o.key,.string o.body,.string o.delim,.string o.past,.int .i64 o.n,.int .i64 o.src]
def qp (w:Wz)(b off:Nat)(ops:List OpD):Prop:=
 ∀i (h:i<ops.length),w.cell? ⟨b,off+i * 7,none⟩=some (.int .i64 ops[i].kind)/\w.cell? ⟨b,off+i * 7+1,none⟩=some (.string ops[i].key)/\w.cell? ⟨b,off+i * 7+2,none⟩=some (.string ops[i].body) /\
  w.cell? ⟨b,off+i * 7+3,none⟩=some (.string ops[i].delim)/\w.cell? ⟨b,off+i * 7+4,none⟩=some (.string ops[i].past)/\w.cell? ⟨b,off+i * 7+5,none⟩=some (.int .i64 ops[i].n)/\w.cell? ⟨b,off+i * 7+6,none⟩=some (.int .i64 ops[i].src)
def Sized (ops:List OpD):Prop:=∀o∈ops,o.key.size<=maxLen/\o.body.size<=maxLen
theorem Yq.infoAns:(Yq.prog.info? 36).map (fun i=>(i.zero,i.size,i.bytes))=some (some (.agg #[.int .i64 0,.int .i64 0,.string ⟨#[]⟩,.slice none 0 0,.string ⟨#[]⟩]),5,72):=by kernel_rfl
theorem mq {P:Wx}{ops:Array Oper}{o:Oper}{a:Act}{w:Wz}{K:Act->Wz->Prop}{Q:Exit->Act->Wz->Prop}{E:Prop}
  (hg:o.guard=none) (s x:Operand) (t:Wk) (hop:o.op=Op.call {callee:=Callee.builtin Builtin.append,args:=#[s,x],argTypes:=#[t,t]})
  (base:Nat) (e:Wk) (i:TypeInfo) (size:Nat) (h1:P.underlying t=some (.slice e)) (h2:P.info? e=some i) (h4:i.size=size)
  (g k cap:Nat) (xs:List Wq) (hs:a.eval s=.slice (some ⟨g,0,none⟩) k cap) (hown:w.ownsRow base e size (.slice (some ⟨g,0,none⟩) k cap) k xs) (ad:Ww) (m c:Nat) (news:List Wq) (hx:a.eval x=.slice (some ad) m c) (hn:news.length=m * size)
  (hc:∀j u,news[j]?=some u->w.cell? (ad.add j)=some u) (h1c:∀u∈news,u.oneCell'=true) (b1:k+m<=cap)
  (hK:∀w',w'.ownsRow base e size (.slice (some ⟨g,0,none⟩) (k+m) cap) (k+m) (xs++news)->w.grownBy w' (some g)->K (a.put o.dst (.slice (some ⟨g,0,none⟩) (k+m) cap)) w'):
  if Region.wanted o (yielded ops a.tmps)=true then Oper.wp P o a w K Q else E:=by
 have hw:Region.wanted o (yielded ops a.tmps)=true:=by simp [Region.wanted,hg]
 rw [if_pos hw];obtain ⟨w',hrun,r1,r2⟩:=run_append_fits (P:=P) w base t o.type e i size h1 h2 h4 g k cap xs hown ad m c news hn hc h1c b1;unfold Oper.wp;simp [execOp,hop,resolve,invoke,builtin,hs,hx,hrun,Result.andThen];exact hK w' r1 r2
theorem yp (w:Wz)(x0 x1 x2 x3 x4:Wq)(T:Wk):∀j u,[x0,x1,x2,x3,x4][j]?=some u->(w.alloc (.cells #[x0,x1,x2,x3,x4] T)).cell? ((⟨w.heap.size,0,none⟩:Ww).add j)=some u:=by
 intro j u hj;rw [Addr.add_lit,cA (w:=w) _ _ w.heap.size _ rfl];simpa using hj
theorem gJ (w:Wz)(xs:Array Wq)(T:Wk)(j:Nat):(w.alloc (.cells xs T)).cell? ⟨w.heap.size,j,none⟩=xs[j]?:=cA (w:=w) _ _ w.heap.size j rfl
structure eH (w:Wz)(v:Wq)(ops:List OpD):Prop where
 form:∃a cap,v=.slice a ops.length cap/\(ops≠[]->∃b off,a=some ⟨b,off,none⟩/\qp w b off ops)
 sized:Sized ops
 len:ops.length<=2199023255552
end
section
open Go
open Go.ChangeShapes Go.WideShapes Go.ChangeAt Go.RowKit
theorem GY:ownKnob Tryz.prog.godebug=none:=by kernel_rfl
theorem CM:laidOutB Tryz.prog=true:=by kernel_rfl
theorem wl:Tryz.prog.cellsOf 31=7:=by kernel_rfl
theorem nQ:Tryz.prog.cellsOf 3=1:=by kernel_rfl
theorem fC:Tryz.prog.cellsOf 9=1:=by kernel_rfl
theorem CN:Tryz.prog.bytesOf 31=88:=by kernel_rfl
theorem seven {α:Type}(l:List α)(h:l.length=7):∃c0 c1 c2 c3 c4 c5 c6,l=[c0,c1,c2,c3,c4,c5,c6]:=by
 match l,h with
 | [a,b,c,d,e,f,g],_=>exact ⟨a,b,c,d,e,f,g,rfl⟩
theorem EY {H:Type}{enc:Wk×Wq->H}{W:Wz}{base:Nat}{spare:Nat->Bool}{held:Bool}{fuel:Nat}{cs:List Wq}{x:DataW H×List MemPlace}(h:DataW.trod enc Tryz.prog W base spare held fuel 31 cs=some x):
  ∃o:OpD,cs=aJ o/\o.key.size<=maxLen/\o.body.size<=maxLen:=by
 obtain ⟨xs,n,rfl,_,hl,hxs,hf⟩:=DataW.trod_struct Tryz.underlying31 h;rw [wl] at hl;have hx:∀i,i<7->∃y,xs[i]?=some y:=fun i hi=>⟨xs[i]'(by rw [hxs];exact hi),eL _⟩
 obtain ⟨c0,c1,c2,c3,c4,c5,c6,rfl⟩:=seven cs hl
 .skip
  obtain ⟨y0,e0⟩:=hx 0 (by omega);obtain ⟨y1,e1⟩:=hx 1 (by omega);obtain ⟨y2,e2⟩:=hx 2 (by omega);obtain ⟨y3,e3⟩:=hx 3 (by omega);obtain ⟨y4,e4⟩:=hx 4 (by omega);obtain ⟨y5,e5⟩:=hx 5 (by omega);obtain ⟨y6,e6⟩:=hx 6 (by omega);have t0:=hf 0 _ rfl;have t1:=hf 1 _ rfl;have t2:=hf 2 _ rfl;have t3:=hf 3 _ rfl;have t4:=hf 4 _ rfl;have t5:=hf 5 _ rfl;have t6:=hf 6 _ rfl;rw [e0] at t0;rw [e1] at t1;rw [e2] at t2;rw [e3] at t3;rw [e4] at t4;rw [e5] at t5;rw [e6] at t6;obtain ⟨z0,h0,_,_⟩:=DataW.trod_int Tryz.underlying3 t0;obtain ⟨z1,h1,_,s1⟩:=DataW.trod_string Tryz.underlying9 t1;obtain ⟨z2,h2,_,s2⟩:=DataW.trod_string Tryz.underlying9 t2;obtain ⟨z3,h3,_,s3⟩:=DataW.trod_string Tryz.underlying9 t3;obtain ⟨z4,h4,_,s4⟩:=DataW.trod_string Tryz.underlying9 t4;obtain ⟨z5,h5,_,_⟩:=DataW.trod_int Tryz.underlying3 t5;obtain ⟨z6,h6,_,_⟩:=DataW.trod_int Tryz.underlying3 t6;have k0:c0=.int .i64 z0:=by simpa [nQ] using h0
  have k1:c1=.string z1:=by simpa [fC] using h1
  have k2:c2=.string z2:=by simpa [fC] using h2
  have k3:c3=.string z3:=by simpa [fC] using h3
  have k4:c4=.string z4:=by simpa [fC] using h4
  have k5:c5=.int .i64 z5:=by simpa [nQ] using h5
  have k6:c6=.int .i64 z6:=by simpa [nQ] using h6
  subst k0 k1 k2 k3 k4 k5 k6;exact ⟨⟨z0,z1,z2,z3,z4,z5,z6⟩,rfl,s1,s2⟩
theorem uI {H:Type}{enc:Wk×Wq->H}{W:Wz}{fuel:Nat}{a0:Option Ww}{len cap:Nat}{x:DataW H×List MemPlace}(h:DataW.trod enc Tryz.prog W 0 (fun _=>true) true fuel 22 [.slice a0 len cap]=some x)
  (hz:∀elems spare,x.1=.slice elems spare->(elems.length+spare.length) * 88<=140737488355328):
  (∃ops,eH W (.slice a0 len cap) ops)/\len<=cap/\cap<=maxLen/\cap * 88<=140737488355328:=by
 rcases Go.Deep.open_slice Tryz.underlying22 h with ⟨hcs,_⟩|⟨a,len',cap',m,n,D,Pl,hcs,_,hlc,hcm,hm,hx,hel⟩
 .simp only [List.cons.injEq,Value.slice.injEq,and_true] at hcs;obtain ⟨rfl,rfl,rfl⟩:=hcs;exact ⟨⟨[],⟨none,0,rfl,fun h=>absurd rfl h⟩,fun o ho=>absurd ho List.not_mem_nil,by simp⟩,lR _,by simp [maxLen],by omega⟩
 .simp only [List.cons.injEq,Value.slice.injEq,and_true] at hcs;obtain ⟨rfl,rfl,rfl⟩:=hcs;simp only [if_true] at hm;subst hm;have hb:=hz _ _ (by rw [hx]);simp only [lM,List.length_range] at hb;rw [wl] at hel;have hop:∀i,i<len->∃o:OpD,(∀j,j<7->W.cell? (a.add (i * 7+j))=(aJ o)[j]?)/\o.key.size<=maxLen/\o.body.size<=maxLen:=fun i hi=>by
   obtain ⟨cs',h1,h2⟩:=hel i (by omega);obtain ⟨o,rfl,s1,s2⟩:=EY h2;obtain ⟨_,_,h3⟩:=World.cells?_some h1;refine ⟨o,fun j hj=>?_,s1,s2⟩;rw [<-Go.Deep.add_add];exact h3 j hj
  have hin:Inhabited OpD:=⟨⟨0,⟨#[]⟩,⟨#[]⟩,⟨#[]⟩,⟨#[]⟩,0,0⟩⟩;obtain ⟨f,hf⟩:=Go.Deep.choose_lt (α:=OpD) hop;refine ⟨⟨(List.range len).map f,⟨some a,m,by simp,fun hne=>?_⟩,?_,?_⟩,hlc,hcm,by omega⟩
  .have hlen:0<len:=by
    rcases Nat.eq_zero_or_pos len with h0|h0
    .subst h0;simp at hne
    .exact h0
   obtain ⟨b,off,spot⟩:=a;have hc0:=(hf 0 hlen).1 0 (by omega);have hspot:spot=none:=by
    have:W.cell? ((⟨b,off,spot⟩:Ww).add 0)=some (.int .i64 (f 0).kind):=by simpa [aJ] using hc0
    simpa [Addr.add] using World.cell?_spot this
   subst hspot;refine ⟨b,off,rfl,fun i hi=>?_⟩;simp only [lM,List.length_range] at hi;have h7:∀j,j<7->W.cell? ⟨b,off+i * 7+j,none⟩=(aJ (f i))[j]?:=fun j hj=>by
    rw [<-(hf i hi).1 j hj,Addr.add_lit];congr 2;omega
   have hg:((List.range len).map f)[i]'(by simpa using hi)=f i:=by simp
   rw [hg];exact ⟨h7 0 (by omega),h7 1 (by omega),h7 2 (by omega),h7 3 (by omega),h7 4 (by omega),h7 5 (by omega),h7 6 (by omega)⟩
  .intro o ho;obtain ⟨i,hi,rfl⟩:=List.mem_map.1 ho;exact (hf i (by simpa using hi)).2
  .simp only [lM,List.length_range];omega
theorem CO {H:Type}{enc:Wk×Wq->H}{W:Wz}{fuel:Nat}{a0:Option Ww}{len cap B:Nat}{x:DataW H×List MemPlace}(h:DataW.trod enc Tryz.prog W 0 (fun _=>true) true fuel 22 [.slice a0 len cap]=some x)
  (hz:∀elems spare,x.1=.slice elems spare->(elems.length+spare.length) * 88<=B):len * 88<=B:=by
 rcases Go.Deep.open_slice Tryz.underlying22 h with ⟨hcs,_⟩|⟨a,len',cap',m,n,D,Pl,hcs,_,hlc,hcm,hm,hx,hel⟩
 .simp only [List.cons.injEq,Value.slice.injEq,and_true] at hcs;obtain ⟨rfl,rfl,rfl⟩:=hcs;omega
 .simp only [List.cons.injEq,Value.slice.injEq,and_true] at hcs;obtain ⟨rfl,rfl,rfl⟩:=hcs;simp only [if_true] at hm;subst hm;have hb:=hz _ _ (by rw [hx]);simp only [lM,List.length_range] at hb;omega
end
section
open Go
open Go.ChangeShapes Go.WideShapes Go.ChangeAt Go.RowKit
open Go.Conc Go.ConcX Go.ConcX.Gen
def slB (a:Option Ww)(b:Nat):Prop:=∃x,a=some x/\x.block=b
theorem CP {w:Wz}(h:laidMetH Tryz.prog YtnapepbdohidgaaGreatDoor.Rows.steadyRow.laid w):qo w:=by
 have h1:laidMet Tryz.prog YtnapepbdohidgaaGreatDoor.Rows.steadyRow.laid w:=h;have h2:=lU (lU h1);have e:(YtnapepbdohidgaaGreatDoor.Rows.laid_internal_strconv_uint64pow10:DataW Unit)=Lib.tabData .u64 Lib.pow10Tab:=by kernel_rfl
 rw [e] at h2;exact Lib.tabIs_of_head (P:=Tryz.prog) (g:=1) (t:=249) (e:=57) (n:=20) (by kernel_rfl) (by kernel_rfl) (by kernel_rfl) (by kernel_rfl) (by kernel_rfl) (by kernel_rfl) h2
theorem AC {H:Type}{enc:Wk×Wq->H}{W:Wz}{base:Nat}{v:Wq}{d:DataW H}{p:List MemPlace}(hv:Value.okWide Tryz.prog W .any base 22 v)(h:DataW.Trod enc Tryz.prog W 0 (fun _=>true) true 22 v d p)(hz:∀elems spare,d=.slice elems spare->(elems.length+spare.length) * 88<=140737488351232):
  ∃a len cap ops,v=.slice a len cap/\eH W (.slice a len cap) ops/\(∀b,slB a b->∃c e z,W.heap[b]?=some (.cells c e z))/\len * 88<=140737488351232:=by
 obtain ⟨a,len,cap,rfl⟩:=okWide_slice Tryz.underlying22 hv;obtain ⟨fuel,hf⟩:=h;have hf2:DataW.trod enc Tryz.prog W 0 (fun _=>true) true fuel 22 [.slice a len cap]=some (d,p):=by simpa [Value.cells] using hf
 obtain ⟨⟨ops,hS⟩,-,-,-⟩:=uI hf2 (fun elems spare he=>by have:=hz elems spare he;omega);refine ⟨a,len,cap,ops,rfl,hS,?_,CO hf2 hz⟩;rintro b ⟨x,rfl,rfl⟩;unfold Value.okWide at hv;rw [Tryz.underlying22] at hv;have hv:Cell.okWide Tryz.prog W .any base 22 (.slice (some x) len cap):=hv;unfold Cell.okWide Cell.ok at hv;rw [Tryz.underlying22] at hv;obtain ⟨-,-,-,-,row,cells,hs,-⟩:=hv;unfold World.shape? at hs;split at hs
 .rename_i c e z hh;exact ⟨c,e,z,hh⟩
 .cases hs
theorem CQ {P:Wx}{Post Post':Wq->Wz->Prop}{gs:Array Goroutine}{W:Wz}{sl:Option (Nat×Nat)}{t:Trace}(h:Fin P Post gs W sl t)(hp:∀v w',Post v w'->Post' v w'):Fin P Post' gs W sl t:=by
 obtain ⟨N,last,o,w',t',e1,e2,e3,e4⟩:=h;exact ⟨N,last,o,w',t',e1,e2,e3,e4.mono fun v h=>hp v w' h⟩
theorem EZ {H:Type}{enc:Wk×Wq->H}{os:Os}(started:os.Started){fid:FuncId}{fn:Func}{s:ChangeSpec}{laid:List (String×DataW Unit)}(hfn:Tryz.prog.funcs[fid]?=some fn)
  (wit:∃ (w:Wz) (tape:Tape) (i:Input),w.os=os/\(w.forCall tape i).Shaped Tryz.prog/\i.vars=[]/\Input.okWide Tryz.prog (w.forCall tape i) .any w.heap.size fid i/\((s.pre enc Tryz.prog fn [] false (w.forCall tape i).memory i.args/\laidMetH Tryz.prog laid (w.forCall tape i).memory)/\sizedMet enc Tryz.prog fn (OpenSpec.ofChange s) false (w.forCall tape i).memory i.args)/\({}:Assume).holds Tryz.prog (lone (Frame.enter Tryz.prog fid i.args .normal) [] (w.forCall tape i)))
  (contract:∀ (W:Wz) (base:Nat) (args:Array Wq) (ds gs:List (DataW H)) (before:List MemPlace),W.ShapedOpen Tryz.prog->(∀ (j:Nat) t v,fn.params[j]?=some t->args[j]?=some v->Value.okWide Tryz.prog W .any base t v)->DataW.Whole enc Tryz.prog fn.params.toList s.vars false W args.toList ds gs before->(DataW.weightsEach Tryz.prog (fn.params.toList++s.plain.varTypes Tryz.prog) (ds++gs)).all (·<=reachBytes)=true->laidMetH Tryz.prog laid W->Fin Tryz.prog (fun v W'=>s.post enc Tryz.prog fn false true false false W args v W') #[G (Frame.enter Tryz.prog fid args .normal) []] W none #[]):
  ReturnsInLeavingWide {} Tryz.checked os fid .any (fun w args=>(s.pre enc Tryz.prog fn [] false w args/\laidMetH Tryz.prog laid w)/\sizedMet enc Tryz.prog fn (OpenSpec.ofChange s) false w args) (s.post enc Tryz.prog fn false true false false):=by
 refine returnsInLeavingWide_of_good (C:=Tryz.checked) GY started wit ?_;intro w tape i _ hsh _ hok hpre _;obtain ⟨_,_,_,fn',hfn',_,_,_,_,hval⟩:=hok;have e:fn'=fn:=oJ (hfn'.symm.trans hfn);subst e;obtain ⟨⟨⟨ds,gs,before,hw,-⟩,hx⟩,hz⟩:=hpre;obtain ⟨N,last,o,w',t',e1,e2,e3,e4⟩:=contract (w.forCall tape i) w.heap.size i.args ds gs before hsh hval (DataW.Whole.of_heap (w':=w.forCall tape i) (by rfl) hw) (hz.weights hw) (hx.of_heap (by rfl));exact ⟨N,last,o,w',t',e1,e2,e3,e4.mono fun v hp=>ChangeSpec.post_blind hp⟩
end
section
open Go
open Go.Conc Go.ConcX Go.ConcX.Gen Go.RowKit Go.MapKept
abbrev Told:=List (ByteArray×Int×Int)
def plV (x:Int×Int):Wq:=.agg #[.int .i64 x.1,.int .i64 x.2]
def em (k:ByteArray):Told->Option (Int×Int)
 | []=>none
 |(k',x)::r=>if k=k' then some x else em k r
def lX (k:ByteArray)(x:Int×Int):Told->Told
 | []=>[(k,x)]
 |(k',x')::r=>if k=k' then (k,x)::r else (k',x')::lX k x r
def yP:List MapEntry->Told->Prop
 | [],[]=>True
 |e::es,(k,x)::r=>e.key=.string k/\e.val=plV x/\yP es r
 |_,_=>False
theorem wm (k:ByteArray):∀ (es:List MapEntry)(t:Told)(i:Nat),yP es t ->
  (∃x j,em k t=some x/\j<es.length/\Instr.findNow .string (.string k) es i=some (some (i+j,plV x))/\((es[j]?).map (·.key))=some (.string k)/\∀ (x':Int×Int) (es':List MapEntry),es'=es.modify j (fun e=>{e with key:=.string k,val:=plV x'})->yP es' (lX k x' t)) \/
  (em k t=none/\Instr.findNow .string (.string k) es i=some none/\∀ (x':Int×Int) (n:Nat),yP (es++[⟨.string k,plV x',n⟩]) (lX k x' t)):=by
 intro es;induction es with
 |nil=>
  intro t i h;cases t with
  |nil=>exact .inr ⟨rfl,rfl,fun x' n=>⟨rfl,rfl,trivial⟩⟩
  |cons a r=>exact h.elim
 |cons e es ih=>
  intro t i h;cases t with
  |nil=>exact h.elim
  |cons a r=>
   obtain ⟨k',x⟩:=a;obtain ⟨h1,h2,h3⟩:=h;by_cases hk:k=k'
   .subst hk
    left
    refine ⟨x,0,by simp [em],by simp,?_,by simp [h1],fun x' es' he=>?_⟩
    .simp [Instr.findNow,Instr.sameNow,h1,h2,(bytes_beq k k).2 rfl]
    .subst he;simp [lX,yP,h3]
   .have hs:Instr.findNow .string (.string k) (e::es) i=Instr.findNow .string (.string k) es (i+1):=by
     have hb:(k==k')=false:=by
      cases h:k==k' with
      |true=>exact absurd ((bytes_beq k k').1 h) hk
      |false=>rfl
     simp [Instr.findNow,Instr.sameNow,h1,hb]
    rcases ih r (i+1) h3 with ⟨y,j,a1,a2,a3,a4,a5⟩|⟨a1,a2,a3⟩
    .left
     refine ⟨y,j+1,by simp [em,hk,a1],by simp;omega,?_,by simpa using a4,fun x' es' he=>?_⟩
     .rw [hs,a3,show i+1+j=i+(j+1) by omega]
     .subst he;simp only [lX,hk,if_false,List.modify_succ_cons,yP];exact ⟨h1,h2,a5 x' _ rfl⟩
    .right
     refine ⟨by simp [em,hk,a1],by rw [hs,a2],fun x' n=>?_⟩;simp only [lX,hk,if_false,List.cons_append,yP];exact ⟨h1,h2,a3 x' n⟩
def AD (w:Wz)(mv:Wq)(t:Told)(A:Nat->Prop)(B:Nat):Prop:=
 (mv=.map none/\t=[])\/∃m es clock,mv=.map (some m)/\w.heap[m]?=some (.map es clock)/\yP es.toList t/\¬A m/\B<=m
theorem iA (b:Bool)(k:ByteArray)(w:Wz):(Instr.checkKey b 10000 9 (.string k)).run Yq.prog w=.ok () w:=by
 show (Instr.checkKey b (9999+1) 9 (.string k)).run Yq.prog w=_;rw [Instr.checkKey];simp [go_sem]
theorem E1 (w:Wz):(zeroValue 129).run Yq.prog w=.ok (plV (0,0)) w:=by kernel_rfl
theorem qq {w:Wz}{m:Nat}{o:Obj}(h:w.heap[m]?=some o)(hc:o.isCells=false):Sem.run Yq.prog (getObj m) w=.ok o w:=by
 cases o with
 |cells c e z=>cases hc
 |_=>simp [getObj,Sem.run,h]
theorem AE {w:Wz}{m:Nat}{o o':Obj}(h:w.heap[m]?=some o)(hc:o.isCells=false):Sem.run Yq.prog (setObj m o') w=.ok () (w.putObj m o'):=by
 cases o with
 |cells c e z=>cases hc
 |_=>simp [setObj,Sem.run,h,World.putObj]
theorem kT {w:Wz}{mv:Wq}{t:Told}{A:Nat->Prop}{B:Nat}(h:AD w mv t A B)(k:ByteArray):
  (Instr.lookup 61 mv (.string k) true).run Yq.prog w=.ok (.tuple #[plV ((em k t).getD (0,0)),.bool (em k t).isSome]) w:=by
 have hz:=E1 w;rcases h with ⟨rfl,rfl⟩|⟨m,es,clock,rfl,hm,he,-,-⟩
 .simp [Instr.lookup,go_sem,iA,Instr.findKey,Instr.findNow,em,plV]
 .rcases wm k es.toList t 0 he with ⟨x,j,a1,a2,a3,-⟩|⟨a1,a2,-⟩
  .simp [Instr.lookup,go_sem,iA,Instr.findKey,qq hm rfl,a1,a3]
  .simp [Instr.lookup,go_sem,iA,Instr.findKey,qq hm rfl,a1,a2,plV]
theorem oZ {w:Wz}{m:Nat}{es:Array MapEntry}{clock:Nat}{t:Told}(hm:w.heap[m]?=some (.map es clock))(he:yP es.toList t)(k:ByteArray)(x:Int×Int):
  ∃es' clock',(Instr.mapUpdate 61 (.map (some m)) (.string k) (plV x)).run Yq.prog w=.ok () (w.putObj m (.map es' clock'))/\yP es'.toList (lX k x t):=by
 rcases wm k es.toList t 0 he with ⟨y,j,a1,a2,a3,a4,a5⟩|⟨a1,a2,a3⟩
 .refine ⟨es.modify j fun e=>{e with key:=.string k,val:=plV x},clock,?_,a5 x _ (by simp)⟩;have a4':(es[j]?).map (·.key)=some (.string k):=by simpa using a4
  simp [Instr.mapUpdate,go_sem,iA,Instr.findKey,qq hm rfl,AE hm rfl,a3,a4',Instr.keyThatStays,Instr.sameBits,World.putObj,(bytes_beq k k).2 rfl]
 .refine ⟨es.push ⟨.string k,plV x,clock⟩,clock+1,?_,by simpa using a3 x clock⟩;simp [Instr.mapUpdate,go_sem,iA,Instr.findKey,qq hm rfl,AE hm rfl,a2,World.putObj]
end
section
open Go
open Go.Conc Go.ConcX Go.ConcX.Gen Go.RowKit
structure LsA where
 num:Int
 f:List UInt8->List Ver
 q:Qy
 size:Int
 left:Int
def LsA.lst (x:LsA)(r:Option Ww):Lst:=⟨x.num,r,x.q.vs,x.q.p,x.q.d,x.q.af,x.size,x.left⟩
structure Lg where
 opened:List LsA
 begun:Int
 told:Told
 tm:Int
def aS (zs:List (LsA×Option Ww)):List Wq:=zs.flatMap fun z=>(aD (z.1.lst z.2)).toList
theorem kU (zs:List (LsA×Option Ww)):(aS zs).length=zs.length * 8:=eD 8 _ (fun _=>rfl) zs
theorem uJ (zs:List (LsA×Option Ww))(z:LsA×Option Ww):aS (zs++[z])=aS zs++(aD (z.1.lst z.2)).toList:=by simp [aS]
def wn (A:Nat->Prop)(B:Nat)(w:Wz)(v:Wq)(xs:List LsA):Prop:=
 ∃zs:List (LsA×Option Ww),xs=zs.map (·.1)/\w.ownsRow B 125 8 v zs.length (aS zs)/\(∀g,v.ownBlock=some g->¬A g)/\∀z∈zs,ai A 41 w z.2 z.1.f
structure dh (A:Nat->Prop)(B:Nat)(w:Wz)(k0:Nat)(L:Lg):Prop where
 opened:∃v,w.cell? ⟨k0,4,none⟩=some v/\wn A B w v L.opened
 begun:w.cell? ⟨k0,5,none⟩=some (.int .i64 L.begun)
 told:∃mv,w.cell? ⟨k0,6,none⟩=some mv/\AD w mv L.told A B
 frozen:∀j,w.frozen? ⟨k0,j,none⟩=false
 avoid:¬A k0
 low:k0<B
 inn:∀b,A b->b<w.heap.size
structure aI (A:Nat->Prop)(B k0:Nat)(w w':Wz):Prop where
 os:w'.os=w.os
 size:w.heap.size<=w'.heap.size
 low:∀b,b<B->b<w.heap.size->b≠k0->w'.heap[b]?=w.heap[b]?
 tree:∀b,A b->b<w.heap.size->w'.heap[b]?=w.heap[b]?
 cells:∀j,j<4\/6<j->w'.cell? ⟨k0,j,none⟩=w.cell? ⟨k0,j,none⟩
 fz:∀j,w'.frozen? ⟨k0,j,none⟩=w.frozen? ⟨k0,j,none⟩
section
variable {A:Nat->Prop} {B k0:Nat} {w w' w'':Wz} {L:Lg}
theorem aI.refl:aI A B k0 w w:=⟨rfl,lR _,fun _ _ _ _=>rfl,fun _ _ _=>rfl,fun _ _=>rfl,fun _=>rfl⟩
theorem aI.trans (h:aI A B k0 w w')(k:aI A B k0 w' w''):aI A B k0 w w'':=
 ⟨k.os.trans h.os,lT h.size k.size,fun b h1 h2 h3=>(k.low b h1 (lL h2 h.size) h3).trans (h.low b h1 h2 h3),fun b h1 h2=>(k.tree b h1 (lL h2 h.size)).trans (h.tree b h1 h2),fun j hj=>(k.cells j hj).trans (h.cells j hj),fun j=>(k.fz j).trans (h.fz j)⟩
theorem dh.lt (h:dh A B w k0 L):k0<w.heap.size:=bC w _ h.begun
theorem aI.left (hk:k0<w.heap.size)(h:ak w w'):aI A B k0 w w':=
 ⟨h.os,h.size,fun b _ h2 _=>h.block b h2,fun b _ h2=>h.block b h2,fun j _=>cB (a:=⟨k0,j,none⟩) (h.block k0 hk),fun j=>fB (a:=⟨k0,j,none⟩) (h.block k0 hk)⟩
theorem ak.refl:ak w w:=⟨rfl,lR _,fun _ _=>rfl⟩
theorem ak.trans (h:ak w w')(k:ak w' w''):ak w w'':=⟨k.os.trans h.os,lT h.size k.size,fun b hb=>(k.block b (lL hb h.size)).trans (h.block b hb)⟩
theorem ak.below (h:Below w.heap.size w w'):ak w w':=⟨h.os,h.size,h.block⟩
theorem ak.alloc (h:ak w w')(o:Obj):ak w (w'.alloc o):=⟨h.os,by have:=h.size;simp;omega,fun b hb=>(bA _ _ _ (lL hb h.size)).trans (h.block b hb)⟩
theorem ak.drew (h:ak w w'):ak w w'.drew:=⟨h.os,h.size,h.block⟩
theorem ak.cell (h:ak w w'){b j:Nat}{v:Wq}(hc:w.cell? ⟨b,j,none⟩=some v):w'.cell? ⟨b,j,none⟩=some v:=
 (cB (a:=⟨b,j,none⟩) (h.block b (bC w _ hc))).trans hc
theorem ak.set (h:ak w w'){b:Nat}(hb:w.heap.size<=b)(j:Nat)(v:Wq):ak w (w'.setCell ⟨b,j,none⟩ v):=
 ⟨h.os,by have:=h.size;simp;omega,fun k hk=>(bS _ _ _ _ (by show k≠b;omega)).trans (h.block k hk)⟩
theorem AD.left {mv:Wq}{t:Told}(h:AD w mv t A B)(hl:ak w w'):AD w' mv t A B:=by
 rcases h with h|⟨m,es,clock,h1,h2,h3⟩
 .exact .inl h
 .exact .inr ⟨m,es,clock,h1,(hl.block m (eS h2).1).trans h2,h3⟩
theorem wn.left {v:Wq}{xs:List LsA}(h:wn A B w v xs)(hl:ak w w'):wn A B w' v xs:=by
 obtain ⟨zs,h1,h2,h3,h4⟩:=h;exact ⟨zs,h1,aX h2 fun g _ hg=>hl.block g hg,h3,fun z hz=>ai.keep (fun b hb hlt=>⟨hb,hl.block b hlt⟩) 41 _ _ (h4 z hz)⟩
theorem dh.left (h:dh A B w k0 L)(hl:ak w w'):dh A B w' k0 L:=by
 obtain ⟨v,c4,ho⟩:=h.opened;obtain ⟨mv,c6,hm⟩:=h.told;exact ⟨⟨v,hl.cell c4,ho.left hl⟩,hl.cell h.begun,⟨mv,hl.cell c6,hm.left hl⟩,fun j=>(fB (a:=⟨k0,j,none⟩) (hl.block k0 h.lt)).trans (h.frozen j),h.avoid,h.low,fun b hb=>lL (h.inn b hb) hl.size⟩
theorem putMap {m:Nat}{es es':Array MapEntry}{clock clock':Nat}(_hm:w.heap[m]?=some (.map es clock))(hA:¬A m)(hB:B<=m)(hk:k0<B):aI A B k0 w (w.putObj m (.map es' clock')):=by
 have hne:∀b,b≠m->(w.putObj m (.map es' clock')).heap[b]?=w.heap[b]?:=fun b hb=>pO hb
 exact ⟨rfl,by simp,fun b h1 h2 _=>hne b (by omega),fun b h1 h2=>hne b (fun e=>hA (e▸h1)),fun j _=>cB (a:=⟨k0,j,none⟩) (hne k0 (by omega)),fun j=>fB (a:=⟨k0,j,none⟩) (hne k0 (by omega))⟩
theorem dh.putMap (h:dh A B w k0 L){m:Nat}{es es':Array MapEntry}{clock clock':Nat}(c6:w.cell? ⟨k0,6,none⟩=some (.map (some m)))(hm:w.heap[m]?=some (.map es clock))(hA:¬A m)(hB:B<=m){t:Told}(he:yP es'.toList t):dh A B (w.putObj m (.map es' clock')) k0 {L with told:=t}:=by
 have hne:∀b,b≠m->(w.putObj m (.map es' clock')).heap[b]?=w.heap[b]?:=fun b hb=>pO hb
 have hk:=h.low;have hce:∀j,(w.putObj m (.map es' clock')).cell? ⟨k0,j,none⟩=w.cell? ⟨k0,j,none⟩:=fun j=>cB (a:=⟨k0,j,none⟩) (hne k0 (by omega))
 obtain ⟨v,c4,zs,h1,h2,h3,h4⟩:=h.opened;refine ⟨⟨v,(hce 4).trans c4,zs,h1,?_,h3,fun z hz=>ai.keep (fun b hb hlt=>⟨hb,hne b (fun e=>hA (e▸hb))⟩) 41 _ _ (h4 z hz)⟩,(hce 5).trans h.begun,⟨_,(hce 6).trans c6,.inr ⟨m,es',clock',rfl,World.putObj_heap_same (eS hm).1,he,hA,hB⟩⟩,fun j=>(fB (a:=⟨k0,j,none⟩) (hne k0 (by omega))).trans (h.frozen j),h.avoid,h.low,fun b hb=>by simpa using h.inn b hb⟩;refine ⟨h2.1,?_⟩;rcases h2.2 with h5|⟨g,cap,cur,hv,hg,hr,r⟩
 .exact .inl h5
 .refine .inr ⟨g,cap,cur,hv,hg,(hne g fun e=>?_).trans hr,r⟩;subst e;rw [hr] at hm;cases hm
end
def jw (k0:Nat)(w:Wz)(b:Nat):Prop:=∃v,w.cell? ⟨k0,4,none⟩=some v/\v.ownBlock=some b
structure FrC (k0:Nat)(w w':Wz):Prop where
 size:w.heap.size<=w'.heap.size
 keep:∀b,ce w b->b≠k0->¬jw k0 w b->w'.heap[b]?=w.heap[b]?
 own:∀b,jw k0 w' b->jw k0 w b\/w.heap.size<=b
section
variable {k0:Nat} {w w' w'':Wz}
theorem ce.same {b:Nat}(h:ce w b)(e:w'.heap[b]?=w.heap[b]?):ce w' b:=by
 obtain ⟨o,h1,h2⟩:=h;exact ⟨o,e.trans h1,h2⟩
theorem FrC.refl:FrC k0 w w:=⟨lR _,fun _ _ _ _=>rfl,fun _ h=>.inl h⟩
theorem FrC.trans (h:FrC k0 w w')(k:FrC k0 w' w''):FrC k0 w w'':=by
 refine ⟨lT h.size k.size,fun b hb hk ho=>?_,fun b ho=>?_⟩
 .have e:=h.keep b hb hk ho;refine (k.keep b (hb.same e) hk fun h2=>?_).trans e;rcases h.own b h2 with h3|h3
  .exact ho h3
  .have:=hb.lt;omega
 .rcases k.own b ho with h2|h2
  .exact h.own b h2
  .exact .inr (lT h.size h2)
theorem FrC.same4 (hs:w.heap.size<=w'.heap.size)(h4:w'.cell? ⟨k0,4,none⟩=w.cell? ⟨k0,4,none⟩)(h:∀b,ce w b->b≠k0->¬jw k0 w b->w'.heap[b]?=w.heap[b]?):FrC k0 w w':=
 ⟨hs,h,fun b ho=>.inl (by obtain ⟨v,h1,h2⟩:=ho;exact ⟨v,h4.symm.trans h1,h2⟩)⟩
theorem FrC.left (hk:k0<w.heap.size)(h:ak w w'):FrC k0 w w':=FrC.same4 h.size (cB (a:=⟨k0,4,none⟩) (h.block k0 hk)) fun b hb _ _=>h.block b hb.lt
theorem FrC.set (j:Nat)(v:Wq)(hj:j≠4):FrC k0 w (w.setCell ⟨k0,j,none⟩ v):=
 FrC.same4 (by simp) (cO _ _ _ _ (aV hj)) fun b _ hb _=>bS _ _ _ _ hb
theorem FrC.open {g j:Nat}{v:Wq}(ho:jw k0 w g)(hg:g≠k0):FrC k0 w (w.setCell ⟨g,j,none⟩ v):=
 FrC.same4 (by simp) (cB (a:=⟨k0,4,none⟩) (bS _ _ _ _ (fun e=>hg e.symm))) fun b _ _ h=>bS _ _ _ _ (fun e=>h (by rw [show b=g from e];exact ho))
theorem FrC.fresh {r j:Nat}{v:Wq}{W:Wz}(h:FrC k0 W w)(hr:W.heap.size<=r)(hk:r≠k0):FrC k0 W (w.setCell ⟨r,j,none⟩ v):=by
 refine ⟨by have:=h.size;simpa using this,fun b hb hbk ho=>(bS _ _ _ _ (show b≠r by have:=hb.lt;omega)).trans (h.keep b hb hbk ho),fun b ho=>?_⟩;refine h.own b ?_;obtain ⟨x,h1,h2⟩:=ho;exact ⟨x,(cB (a:=⟨k0,4,none⟩) (bS _ _ _ _ (fun e=>hk e.symm))).symm.trans h1,h2⟩
theorem FrC.keepC (h:dp k0 w w')(h4:w'.cell? ⟨k0,4,none⟩=w.cell? ⟨k0,4,none⟩):FrC k0 w w':=
 FrC.same4 h.1 h4 fun b hb hk _=>by
  obtain ⟨o,h1,h2⟩:=hb;exact (h.2.2 b o h1 h2 hk).trans h1.symm
end
theorem je {P:Wx}{ops:Array Oper}{o:Oper}{a:Act}{w w':Wz}{K:Act->Wz->Prop}{Q:Exit->Act->Wz->Prop}{E:Prop}(hg:o.guard=none)(t:Wk)(x y z:Operand)(hop:o.op=.mapUpdate t x y z)
  (hr:(Instr.mapUpdate t (a.eval x) (a.eval y) (a.eval z)).run P w=.ok () w') (hK:K (a.put o.dst undef) w'):
  if Region.wanted o (yielded ops a.tmps)=true then Oper.wp P o a w K Q else E:=by
 have hw:Region.wanted o (yielded ops a.tmps)=true:=by simp [Region.wanted,hg]
 rw [if_pos hw];unfold Oper.wp;simp [execOp,hop,hr,Result.andThen];exact hK
theorem yq (m:Nat)(w:Wz):(binOp BinOp.eql 61 (.map (some m)) (.map none)).run Yq.prog w=.ok (.bool false) w:=by kernel_rfl
theorem uK (w:Wz):(binOp BinOp.eql 61 (.map none) (.map none)).run Yq.prog w=.ok (.bool true) w:=by kernel_rfl
section
variable {A:Nat->Prop} {B k0:Nat} {L:Lg}
theorem aI.set {w:Wz}(hA:¬A k0){j:Nat}(hj:4<=j/\j<=6)(v:Wq):aI A B k0 w (w.setCell ⟨k0,j,none⟩ v):=
 ⟨rfl,by simp,fun b _ _ h=>bS _ _ _ _ h,fun b hb _=>bS _ _ _ _ (fun e=>hA (by rw [<-show b=k0 from e];exact hb)),fun i hi=>cO _ _ _ _ (aV (by omega)),fun i=>World.frozen?_setCell ..⟩
theorem uL {w:Wz}{v:Wq}{B e size n:Nat}{xs:List Wq}(h:w.ownsRow B e size v n xs){g:Nat}(hg:v.ownBlock=some g):B<=g/\g<w.heap.size:=h.lt g hg
theorem ep {w w':Wz}{base:Nat}{e:Wk}{size:Nat}{v:Wq}{n:Nat}{xs:List Wq}(h:w.ownsRow base e size v n xs)(hb:∀g,v.ownBlock=some g->w'.heap[g]?=w.heap[g]?):w'.ownsRow base e size v n xs:=by
 refine ⟨h.1,?_⟩;rcases h.2 with h2|⟨g,cap,cur,hv,hg,hr,r⟩
 .exact Or.inl h2
 .exact Or.inr ⟨g,cap,cur,hv,hg,(hb g (by rw [hv];rfl)).trans hr,r⟩
theorem dh.setMap {w:Wz}(h:dh A B w k0 L){m:Nat}{es:Array MapEntry}{clock:Nat}{t:Told}(hm:w.heap[m]?=some (.map es clock))(hA:¬A m)(hB:B<=m)(he:yP es.toList t):dh A B (w.setCell ⟨k0,6,none⟩ (.map (some m))) k0 {L with told:=t}:=by
 have hk:=h.low;have hlt:=h.lt;have hne:∀b,b≠k0->(w.setCell ⟨k0,6,none⟩ (.map (some m))).heap[b]?=w.heap[b]?:=fun b hb=>bS _ _ _ _ hb
 have hce:∀j,j≠6->(w.setCell ⟨k0,6,none⟩ (.map (some m))).cell? ⟨k0,j,none⟩=w.cell? ⟨k0,j,none⟩:=fun j hj=>cO _ _ _ _ (aV (by omega))
 obtain ⟨v,c4,zs,h1,h2,h3,h4⟩:=h.opened;obtain ⟨mv,c6,-⟩:=h.told;refine ⟨⟨v,(hce 4 (by omega)).trans c4,zs,h1,ep h2 (fun g hg=>hne g (by have:=(uL h2 hg).1;omega)),h3,fun z hz=>ai.keep (fun b hb hlt=>⟨hb,hne b (fun e=>h.avoid (e▸hb))⟩) 41 _ _ (h4 z hz)⟩,(hce 5 (by omega)).trans h.begun,⟨_,cS _ _ _ (by rw [c6];rfl),.inr ⟨m,es,clock,rfl,(hne m (by omega)).trans hm,he,hA,hB⟩⟩,fun j=>by rw [World.frozen?_setCell];exact h.frozen j,h.avoid,h.low,fun b hb=>by simpa using h.inn b hb⟩
theorem wo {w w':Wz}(h:∀b,b<w.heap.size->b≠k0->w'.heap[b]?=w.heap[b]?)(hs:w.heap.size<=w'.heap.size)(ho:w'.os=w.os):dp k0 w w':=⟨hs,ho,fun b _o hb _ hk=>(h b (eS hb).1 hk).trans hb⟩
theorem AF (w:Wz)(h:dh A B w k0 L)(hB:B<=w.heap.size)(k:ByteArray)(x:Int×Int):
  Calls Yq.prog 70 #[.pointer (some ⟨k0,4,none⟩),.string k,plV x] w fun e w'=>e=.returned (.tuple #[])/\dh A B w' k0 {L with told:=lX k x L.told}/\aI A B k0 w w'/\dp k0 w w'/\∀j,j≠6->w'.cell? ⟨k0,j,none⟩=w.cell? ⟨k0,j,none⟩:=by
 obtain ⟨mv,c6,hm⟩:=h.told;have f6:=h.frozen 6;have hlt:=h.lt;rcases hm with ⟨rfl,ht⟩|⟨m,es,clock,rfl,hm,he,hA,hBm⟩
 .have hb:ak w ((w.alloc (.cells #[.int .i64 x.1,.int .i64 x.2] 129)).alloc (.map #[] 0)):=(ak.refl.alloc _).alloc _;have hnew:((w.alloc (.cells #[.int .i64 x.1,.int .i64 x.2] 129)).alloc (.map #[] 0)).heap[w.heap.size+1]?=some (.map #[] 0):=by
   have:=aN (w.alloc (.cells #[.int .i64 x.1,.int .i64 x.2] 129)) (.map #[] 0)
   rwa [World.size_alloc] at this
  have hAn:¬A (w.heap.size+1):=fun e=>by have:=h.inn _ e;omega
  have h1:=(h.left hb).setMap hnew hAn (by omega) (t:=[]) trivial;have hw:((w.alloc (.cells #[.int .i64 x.1,.int .i64 x.2] 129)).alloc (.map #[] 0)).setCell ⟨k0,6,none⟩ (.map (some (w.heap.size+1)))=((w.setCell ⟨k0,6,none⟩ (.map (some (w.heap.size+1)))).alloc (.cells #[.int .i64 x.1,.int .i64 x.2] 129)).alloc (.map #[] 0):=by
   rw [World.setCell_alloc_past _ _ _ _ (by simp;omega),World.setCell_alloc_past _ _ _ _ hlt]
  rw [hw] at h1;have hd:aI A B k0 w (((w.setCell ⟨k0,6,none⟩ (.map (some (w.heap.size+1)))).alloc (.cells #[.int .i64 x.1,.int .i64 x.2] 129)).alloc (.map #[] 0)):=by
   rw [<-hw];exact (aI.left hlt hb).trans (aI.set h.avoid ⟨by omega,by omega⟩ _)
  obtain ⟨W,hW⟩:∃W,W=((w.setCell ⟨k0,6,none⟩ (.map (some (w.heap.size+1)))).alloc (.cells #[.int .i64 x.1,.int .i64 x.2] 129)).alloc (.map #[] 0):=⟨_,rfl⟩;have hm1:W.drew.heap[w.heap.size+1]?=some (.map #[] 0):=by
   rw [hW,<-hw];exact (bS _ _ _ _ (by show w.heap.size+1≠k0;omega)).trans hnew
  rw [<-hW] at h1 hd;obtain ⟨es',clock',hup,he'⟩:=oZ hm1 (t:=[]) trivial k x;obtain ⟨mv,k6,-⟩:=h1.told;have k6':W.cell? ⟨k0,6,none⟩=some (.map (some (w.heap.size+1))):=by
   rw [hW,<-hw];exact cS _ _ _ (by rw [hb.cell c6];rfl)
  have hLD:ak W W.drew:=ak.refl.drew;have HX:Hid (dh A B (W.drew.putObj (w.heap.size+1) (.map es' clock')) k0 {L with told:=lX k x L.told}/\aI A B k0 w (W.drew.putObj (w.heap.size+1) (.map es' clock'))/\dp k0 w (W.drew.putObj (w.heap.size+1) (.map es' clock'))/\∀j,j≠6->(W.drew.putObj (w.heap.size+1) (.map es' clock')).cell? ⟨k0,j,none⟩=w.cell? ⟨k0,j,none⟩):=by
   have hkc:dp k0 w W:=by
    rw [hW,<-hw];exact wo (fun b h1 h2=>(bS _ _ _ _ h2).trans (hb.block b h1)) (by simp;omega) rfl
   refine ⟨?_,(hd.trans (aI.left h1.lt hLD)).trans (putMap hm1 hAn (by omega) h.low),hkc.trans (dp.trans ⟨lR _,rfl,fun _ _ h _ _=>h⟩ (fw hm1 rfl _)),fun j hj=>?_⟩
   rotate_left
   .have e1:(W.drew.putObj (w.heap.size+1) (.map es' clock')).cell? ⟨k0,j,none⟩=W.drew.cell? ⟨k0,j,none⟩:=cB (a:=⟨k0,j,none⟩) (pO (show k0≠w.heap.size+1 by omega));have e2:W.drew.cell? ⟨k0,j,none⟩=W.cell? ⟨k0,j,none⟩:=rfl;rw [e1,e2,hW,<-hw,cO _ _ _ _ (aV (by omega))];exact cB (a:=⟨k0,j,none⟩) (hb.block k0 hlt)
   have:=(h1.left hLD).putMap (es':=es') (clock':=clock') (hLD.cell k6') hm1 hAn (by omega) (t:=lX k x []) he';rw [ht];exact this
  have hn:=uK;have hmm:=@run_makeMap Yq.prog;clear h h1 hd hm1 he' hb hw hnew k6 hLD k6';subst hW;unfold plV at hup ⊢;go_enter (Yq.nq Tryz.func70),Tryz.ntmps70;go_wp2_with fail
  go_region_law (refine je rfl 61 (.tmp 18) (.tmp 19) (.tmp 20) rfl hup ?_)
  all_goals go_end0
  all_goals exact ⟨rfl,HX.out⟩
 .have hb:ak w (w.alloc (.cells #[.int .i64 x.1,.int .i64 x.2] 129)).drew:=(ak.refl.alloc _).drew;have h1:=h.left hb;obtain ⟨es',clock',hup,he'⟩:=oZ (w:=(w.alloc (.cells #[.int .i64 x.1,.int .i64 x.2] 129)).drew) ((hb.block m (eS hm).1).trans hm) he k x;have HX:Hid (dh A B ((w.alloc (.cells #[.int .i64 x.1,.int .i64 x.2] 129)).drew.putObj m (.map es' clock')) k0 {L with told:=lX k x L.told}/\aI A B k0 w ((w.alloc (.cells #[.int .i64 x.1,.int .i64 x.2] 129)).drew.putObj m (.map es' clock'))/\dp k0 w ((w.alloc (.cells #[.int .i64 x.1,.int .i64 x.2] 129)).drew.putObj m (.map es' clock'))/\∀j,j≠6->((w.alloc (.cells #[.int .i64 x.1,.int .i64 x.2] 129)).drew.putObj m (.map es' clock')).cell? ⟨k0,j,none⟩=w.cell? ⟨k0,j,none⟩):=
   ⟨h1.putMap (hb.cell c6) ((hb.block m (eS hm).1).trans hm) hA hBm he',(aI.left hlt hb).trans (putMap ((hb.block m (eS hm).1).trans hm) hA hBm h.low),(wo (fun b h1 _=>hb.block b h1) hb.size hb.os).trans (fw ((hb.block m (eS hm).1).trans hm) rfl _),fun j _=>(cB (a:=⟨k0,j,none⟩) (pO (by have:=h.low;show k0≠m;omega))).trans (cB (a:=⟨k0,j,none⟩) (hb.block k0 hlt))⟩
  clear h h1 hm he he' hb;unfold plV at hup ⊢;have hn:=yq m;go_enter (Yq.nq Tryz.func70),Tryz.ntmps70;go_wp2_with fail
  go_region_law (refine je rfl 61 (.tmp 18) (.tmp 19) (.tmp 20) rfl hup ?_)
  all_goals go_end0
  all_goals exact ⟨rfl,HX.out⟩
end
theorem uM {l l':Lst}(h:l.size=l'.size)(pn k:Int):jc l pn k=jc l' pn k:=by simp [jc,h]
theorem gK {l l':Lst}(h:l.size=l'.size)(pn:Int):∀ (its:List ItD)(k:Nat),ey l pn k its=ey l' pn k its
 | [],_=>rfl
 |i::r,k=>by rw [ey,ey,uM h,gK h pn r]
def LsA.page (x:LsA)(pn:Int):List ItD:=ey (x.lst none) pn 0 (fK x.q (db x.f x.q.p.data.toList))
def LsA.tok (x:LsA)(pn:Int):ByteArray:=EU (x.lst none) pn (fK x.q (db x.f x.q.p.data.toList)).length
def jA (L:Lg)(f:List UInt8->List Ver)(q:Qy)(size:Int):LsA:=⟨L.begun+1,f,q,size,10⟩
def gu (L:Lg)(f:List UInt8->List Ver)(q:Qy)(size:Int):Lg×List ItD×ByteArray×Int:=
 if size<1\/20<size then (L,[],⟨#[]⟩,7)
 else if (jA L f q size).tok 1=⟨#[]⟩ then (L,(jA L f q size).page 1,⟨#[]⟩,0)
 else if 3<=L.opened.length then (L,[],⟨#[]⟩,8)
 else (⟨L.opened++[jA L f q size],L.begun+1,lX ((jA L f q size).tok 1) (L.begun+1,2) L.told,L.tm⟩,(jA L f q size).page 1,(jA L f q size).tok 1,0)
def bc (A:Nat->Prop)(B k0:Nat)(w:Wz)(L':Lg)(its:List ItD)(sv:Wq)(w':Wz):Prop:=
 ∃A':Nat->Prop,(∀b,A b->A' b)/\(∀b,A' b->A b\/w.heap.size<=b)/\dh A' B w' k0 L'/\aI A B k0 w w'/\bD A' w' sv its.length (ay its)/\FrC k0 w w'
theorem sF (n:Int)(r:Option Ww)(vs:Bool)(p d af:ByteArray)(s:Int)(w:Wz):(Instr.build 125 #[(0,.int .i64 n),(1,.agg #[.pointer r]),(2,.agg #[.bool vs,.string p,.string d,.string af]),(3,.int .i64 s),(4,.int .i64 10)]).run Yq.prog w=.ok (.agg #[.int .i64 n,.pointer r,.bool vs,.string p,.string d,.string af,.int .i64 s,.int .i64 10]) w:=by kernel_rfl
theorem nR (a b:Int)(w:Wz):(Instr.build 129 #[(0,.int .i64 a),(1,.int .i64 b)]).run Yq.prog w=.ok (.agg #[.int .i64 a,.int .i64 b]) w:=by kernel_rfl
theorem eQ (w:Wz):(Instr.build 88 #[]).run Yq.prog w=.ok (.agg #[.slice none 0 0,.string ⟨#[]⟩]) w:=by kernel_rfl
section
variable {A:Nat->Prop} {B k0:Nat} {L:Lg}
theorem bc.same {w w':Wz}(h:dh A B w k0 L)(hl:ak w w'):bc A B k0 w L [] (.slice none 0 0) w':=
 ⟨A,fun _ h=>h,fun _ h=>.inl h,h.left hl,aI.left h.lt hl,⟨none,0,rfl,fun _=>rfl,fun h=>absurd rfl h⟩,FrC.left h.lt hl⟩
theorem dh.more {w w2:Wz}(h:dh A B w k0 L)(hl:ak w w2){A':Nat->Prop}(h1:∀b,A b->A' b)(h2:∀b,A' b->A b\/w.heap.size<=b)(h3:∀b,A' b->b<w2.heap.size):dh A' B w2 k0 L:=by
 have hlt:=h.lt;have hno:∀g,g<w.heap.size->¬A g->¬A' g:=fun g hg ha hx=>by
  rcases h2 g hx with h|h
  .exact ha h
  .omega
 obtain ⟨v,c4,zs,z1,z2,z3,z4⟩:=h.opened;obtain ⟨mv,c6,hm⟩:=h.told;refine ⟨⟨v,hl.cell c4,zs,z1,aX z2 fun g _ hg=>hl.block g hg,fun g hg=>hno g (z2.lt g hg).2 (z3 g hg),fun z hz=>ai.keep (fun b hb hlt=>⟨h1 b hb,hl.block b hlt⟩) 41 _ _ (z4 z hz)⟩,hl.cell h.begun,⟨mv,hl.cell c6,?_⟩,fun j=>(fB (a:=⟨k0,j,none⟩) (hl.block k0 hlt)).trans (h.frozen j),hno k0 hlt h.avoid,h.low,h3⟩;rcases hm with hm|⟨m,es,clock,m1,m2,m3,m4,m5⟩
 .exact .inl hm
 .have hml:=(eS m2).1;exact .inr ⟨m,es,clock,m1,(hl.block m hml).trans m2,m3,hno m hml m4,m5⟩
theorem kV {w:Wz}{base e:Nat}{sv:Wq}{n:Nat}{xs:List Wq}(h:w.ownsRow base e 3 sv n xs){A':Nat->Prop}(hA:∀g,sv.ownBlock=some g->A' g):bD A' w sv n xs:=by
 rcases h.2 with ⟨rfl,rfl⟩|⟨g,cap,cur,rfl,hb,hr,r⟩
 .have:xs=[]:=by have:=h.1;simpa using this
  exact ⟨none,0,rfl,fun _=>rfl,fun hx=>absurd this hx⟩
 .refine ⟨some ⟨g,0,none⟩,cap,rfl,fun h=>(by cases h),fun _=>⟨g,rfl,hA g rfl,(eS hr).1,fun j hj=>?_⟩⟩;have:=h.cells (g:=g) rfl j xs[j] (eL hj);rw [Addr.add_lit,zA] at this;rw [this,eL hj]
theorem bc.page {w w1 w2:Wz}(h:dh A B w k0 L)(hl:ak w w2){base:Nat}{sv:Wq}{pg:List ItD}(hrow:w1.ownsRow base 41 3 sv pg.length (ay pg))(hb:w.heap.size<=base)(hk:∀g,base<=g->g<w1.heap.size->w2.heap[g]?=w1.heap[g]?):bc A B k0 w L pg sv w2:=by
 have hr2:=aX hrow hk;refine ⟨fun b=>A b\/sv.ownBlock=some b,fun _ h=>.inl h,fun b hx=>?_,h.more hl (fun _ h=>.inl h) (fun b hx=>?_) (fun b hx=>?_),aI.left h.lt hl,kV hr2 fun g hg=>.inr hg,FrC.left h.lt hl⟩
 .rcases hx with hx|hx
  .exact .inl hx
  .exact .inr (by have:=(hr2.lt b hx).1;omega)
 .rcases hx with hx|hx
  .exact .inl hx
  .exact .inr (by have:=(hr2.lt b hx).1;omega)
 .rcases hx with hx|hx
  .exact lL (h.inn b hx) hl.size
  .exact (hr2.lt b hx).2
end
section
variable {P:Wx}
theorem jx (w:Wz)(base:Nat)(t ty e:Wk)(i:TypeInfo)(z:Wq)(size bytes:Nat)(ht:P.underlying t=some (.slice e))(hi:P.info? e=some i)(hz:i.zero=some z)(hsize:i.size=size)(hby:i.bytes=bytes)(hzs:z.cells.size=size)(hsz:0<size)
  (v:Wq) (n:Nat) (xs:List Wq) (hown:w.ownsRow base e size v n xs) (a:Ww) (m c:Nat) (news:List Wq) (hl:news.length=m * size) (hnews:∀j u,news[j]?=some u->w.cell? (a.add j)=some u) (h1:∀u∈news,u.oneCell'=true)
  (h63:n+m<=maxLen) (hbytes:(n+m) * bytes<=140737488355328) (hbase:base<=w.heap.size):
  ∃v' w',(Builtin.append_ #[t,t] ty #[v,.slice (some a) m c]).run P w=.ok v' w'/\w'.ownsRow base e size v' (n+m) (xs++news)/\w.grownBy w' v.ownBlock/\∀g,v'.ownBlock=some g->v.ownBlock=some g\/w.heap.size<=g:=by
 obtain ⟨v',w',hr,ho,hg,-⟩:=run_append_own (P:=P) w base t ty e i z size bytes ht hi hz hsize hby hzs hsz v n xs hown a m c news hl hnews h1 h63 hbytes hbase;refine ⟨v',w',hr,ho,hg,fun g hg2=>?_⟩;rcases hown.2 with ⟨rfl,rfl⟩|⟨g0,cap,cur,rfl,hb0,hrow,hcap⟩
 .obtain ⟨v2,w2,hr2,ho2,-⟩:=run_append_own (P:=P) w w.heap.size t ty e i z size bytes ht hi hz hsize hby hzs hsz (.slice none 0 0) 0 xs ⟨hown.1,.inl ⟨rfl,rfl⟩⟩ a m c news hl hnews h1 h63 hbytes (lR _);rw [hr] at hr2;cases hr2;exact .inr (ho2.lt g hg2).1
 .by_cases hf:n+m<=cap
  .obtain ⟨w2,hr2,-⟩:=run_append_fits (P:=P) w base t ty e i size ht hi hsize g0 n cap xs hown a m c news hl hnews h1 hf;rw [hr] at hr2;cases hr2;exact .inl hg2
  .obtain ⟨v2,w2,hr2,ho2,-⟩:=run_append_arg_grows (P:=P) w t ty e i z size bytes ht hi hz hsize hby hzs hsz ⟨g0,0,none⟩ n cap xs hown.1 (fun j u hj=>hown.cells (g:=g0) rfl j u hj) a m c news hl hnews (by omega) h63 hbytes;rw [hr] at hr2;cases hr2;exact .inr (ho2.lt g hg2).1
theorem cF {ops:Array Oper}{o:Oper}{a:Act}{w:Wz}{K:Act->Wz->Prop}{Q:Exit->Act->Wz->Prop}{E:Prop}
  (hg:o.guard=none) (s x:Operand) (t:Wk) (hop:o.op=Op.call {callee:=Callee.builtin Builtin.append,args:=#[s,x],argTypes:=#[t,t]})
  (base:Nat) (e:Wk) (i:TypeInfo) (z:Wq) (size bytes:Nat) (ht:P.underlying t=some (.slice e)) (hi:P.info? e=some i) (hz:i.zero=some z) (hsize:i.size=size) (hby:i.bytes=bytes) (hzs:z.cells.size=size) (hsz:0<size)
  (v:Wq) (n:Nat) (xs:List Wq) (hs:a.eval s=v) (hown:w.ownsRow base e size v n xs)
  (ad:Ww) (m c:Nat) (news:List Wq) (hx:a.eval x=.slice (some ad) m c) (hl:news.length=m * size) (hnews:∀j u,news[j]?=some u->w.cell? (ad.add j)=some u) (h1:∀u∈news,u.oneCell'=true)
  (h63:n+m<=maxLen) (hbytes:(n+m) * bytes<=140737488355328) (hbase:base<=w.heap.size)
  (h:∀v' w',w'.ownsRow base e size v' (n+m) (xs++news)->w.grownBy w' v.ownBlock->(∀g,v'.ownBlock=some g->v.ownBlock=some g\/w.heap.size<=g)->K (a.put o.dst v') w'):
  if Region.wanted o (yielded ops a.tmps)=true then Oper.wp P o a w K Q else E:=by
 obtain ⟨v',w',hr,h2,h3,h4⟩:=jx (P:=P) w base t o.type e i z size bytes ht hi hz hsize hby hzs hsz v n xs hown ad m c news hl hnews h1 h63 hbytes hbase;exact dH hg s x t t hop v _ hs hx hr (h v' w' h2 h3 h4)
end
theorem Yq.infoLst:(Yq.prog.info? 125).map (fun i=>(i.zero,i.size,i.bytes))=some (some (.agg #[.int .i64 0,.pointer none,.bool false,.string ⟨#[]⟩,.string ⟨#[]⟩,.string ⟨#[]⟩,.int .i64 0,.int .i64 0]),8,88):=by kernel_rfl
theorem one8 (l:Lst):∀u∈(aD l).toList,u.oneCell'=true:=by
 intro u hu;simp [aD] at hu;rcases hu with rfl|rfl|rfl|rfl|rfl|rfl|rfl|rfl<;>rfl
section
variable {A:Nat->Prop} {B k0:Nat} {L:Lg}
theorem dh.push {W w3:Wz}(h:dh A B W k0 L){v v':Wq}{zs:List (LsA×Option Ww)}{x:LsA}{root:Option Ww}{n:Int}(c4:W.cell? ⟨k0,4,none⟩=some v)(z1:L.opened=zs.map (·.1))(z2:W.ownsRow B 125 8 v zs.length (aS zs))(z3:∀g,v.ownBlock=some g->¬A g)(z4:∀z∈zs,ai A 41 W z.2 z.1.f)
  (ho:w3.ownsRow B 125 8 v' (zs.length+1) (aS zs++(aD (x.lst root)).toList)) (hg:W.grownBy w3 v.ownBlock) (hvb:∀g,v'.ownBlock=some g->v.ownBlock=some g\/W.heap.size<=g) (hN:ai A 41 W root x.f):
  dh A B ((w3.setCell ⟨k0,4,none⟩ v').setCell ⟨k0,5,none⟩ (.int .i64 n)) k0 ⟨L.opened++[x],n,L.told,L.tm⟩/\aI A B k0 W ((w3.setCell ⟨k0,4,none⟩ v').setCell ⟨k0,5,none⟩ (.int .i64 n)):=by
 have hk:=h.low;have hlt:=h.lt;obtain ⟨mv,c6,hm⟩:=h.told;have hvk:∀g,v.ownBlock=some g->B<=g:=fun g hg=>(z2.lt g hg).1
 have hne4:some k0≠v.ownBlock:=fun e=>by have:=hvk k0 e.symm;omega
 have hbk:W.heap[k0]?=w3.heap[k0]?:=(hg.block k0 hlt hne4).symm;have hset:∀b,b≠k0->((w3.setCell ⟨k0,4,none⟩ v').setCell ⟨k0,5,none⟩ (.int .i64 n)).heap[b]?=w3.heap[b]?:=fun b hb=>by
  rw [bS _ _ _ _ hb,bS _ _ _ _ hb]
 have hA3:∀b,A b->((w3.setCell ⟨k0,4,none⟩ v').setCell ⟨k0,5,none⟩ (.int .i64 n)).heap[b]?=W.heap[b]?:=fun b hb=>
  (hset b (fun e=>h.avoid (e▸hb))).trans (hg.block b (h.inn b hb) (fun e=>z3 b e.symm hb))
 have hc3:∀j,w3.cell? ⟨k0,j,none⟩=W.cell? ⟨k0,j,none⟩:=fun j=>cB (a:=⟨k0,j,none⟩) hbk.symm
 have hcj:∀j,j≠4->j≠5->((w3.setCell ⟨k0,4,none⟩ v').setCell ⟨k0,5,none⟩ (.int .i64 n)).cell? ⟨k0,j,none⟩=W.cell? ⟨k0,j,none⟩:=fun j h4 h5=>by
  rw [cO _ _ _ _ (aV fun e=>h5 e.symm),cO _ _ _ _ (aV fun e=>h4 e.symm),hc3]
 have hfz:∀j,((w3.setCell ⟨k0,4,none⟩ v').setCell ⟨k0,5,none⟩ (.int .i64 n)).frozen? ⟨k0,j,none⟩=W.frozen? ⟨k0,j,none⟩:=fun j=>by
  rw [World.frozen?_setCell,World.frozen?_setCell];exact fB (a:=⟨k0,j,none⟩) hbk.symm
 have hsz:W.heap.size<=((w3.setCell ⟨k0,4,none⟩ v').setCell ⟨k0,5,none⟩ (.int .i64 n)).heap.size:=by have:=hg.size;simpa using this
 refine ⟨⟨⟨v',?_,zs++[(x,root)],by simp [z1],?_,fun g hg2=>?_,fun z hz=>?_⟩,?_,⟨mv,(hcj 6 (by omega) (by omega)).trans c6,?_⟩,fun j=>(hfz j).trans (h.frozen j),h.avoid,h.low,fun b hb=>lL (h.inn b hb) hsz⟩,⟨hg.os,hsz,fun b h1 h2 h3=>(hset b h3).trans (hg.block b h2 (fun e=>by have:=hvk b e.symm;omega)),fun b hb _=>hA3 b hb,fun j hj=>hcj j (by omega) (by omega),hfz⟩⟩
 .rw [cO _ _ _ _ (aV (by omega))];exact cS _ _ _ (by rw [hc3,c4];rfl)
 .rw [uJ,lP,lS];exact ep ho fun g hg2=>hset g (by have:=(ho.lt g hg2).1;omega)
 .rcases hvb g hg2 with h1|h1
  .exact z3 g h1
  .exact fun ha=>by have:=h.inn g ha;omega
 .rcases List.mem_append.1 hz with hz|hz
  .exact ai.keep (fun b hb _=>⟨hb,hA3 b hb⟩) 41 _ _ (z4 z hz)
  .simp at hz;subst hz;exact ai.keep (fun b hb _=>⟨hb,hA3 b hb⟩) 41 _ _ hN
 .refine cS _ _ _ ?_;rw [cO _ _ _ _ (aV (by omega)),hc3,h.begun];rfl
 .rcases hm with hm|⟨m,es,clock,m1,m2,m3,m4,m5⟩
  .exact .inl hm
  .refine .inr ⟨m,es,clock,m1,?_,m3,m4,m5⟩;rw [hset m (by omega),hg.block m (eS m2).1 (fun e=>?_)]
   .exact m2
   .rcases z2.2 with ⟨rfl,-⟩|⟨g,cap,cur,rfl,hb,hr,-⟩
    .cases e
    .cases e;rw [hr] at m2;cases m2
theorem dh.other {w:Wz}(h:dh A B w k0 L){b j:Nat}{x:Wq}(hb:b≠k0)(hA:¬A b)(hcl:ce w b)(hv:∀v g,w.cell? ⟨k0,4,none⟩=some v->v.ownBlock=some g->g≠b):dh A B (w.setCell ⟨b,j,none⟩ x) k0 L:=by
 have hne:∀g,g≠b->(w.setCell ⟨b,j,none⟩ x).heap[g]?=w.heap[g]?:=fun g hg=>bS _ _ _ _ hg
 have hk:=hne k0 (fun e=>hb e.symm);have hce:∀i,(w.setCell ⟨b,j,none⟩ x).cell? ⟨k0,i,none⟩=w.cell? ⟨k0,i,none⟩:=fun i=>cB (a:=⟨k0,i,none⟩) hk
 obtain ⟨v,c4,zs,z1,z2,z3,z4⟩:=h.opened;obtain ⟨mv,c6,hm⟩:=h.told;refine ⟨⟨v,(hce 4).trans c4,zs,z1,ep z2 fun g hg=>hne g (hv v g c4 hg),z3,fun z hz=>ai.keep (fun g hg _=>⟨hg,hne g (fun e=>hA (e▸hg))⟩) 41 _ _ (z4 z hz)⟩,(hce 5).trans h.begun,⟨mv,(hce 6).trans c6,?_⟩,fun i=>(fB (a:=⟨k0,i,none⟩) hk).trans (h.frozen i),h.avoid,h.low,fun g hg=>by simpa using h.inn g hg⟩;rcases hm with hm|⟨m,es,clock,m1,m2,m3⟩
 .exact .inl hm
 .refine .inr ⟨m,es,clock,m1,(hne m fun e=>?_).trans m2,m3⟩;subst e;obtain ⟨o,h1,h2⟩:=hcl;rw [m2] at h1;cases h1;cases h2
theorem aI.other {w:Wz}{b j:Nat}{x:Wq}(hb:b≠k0)(hA:¬A b)(hB:B<=b):aI A B k0 w (w.setCell ⟨b,j,none⟩ x):=by
 have hne:∀g,g≠b->(w.setCell ⟨b,j,none⟩ x).heap[g]?=w.heap[g]?:=fun g hg=>bS _ _ _ _ hg
 have hk:=hne k0 (fun e=>hb e.symm);exact ⟨rfl,by simp,fun g h1 _ _=>hne g (by omega),fun g h1 _=>hne g (fun e=>hA (e▸h1)),fun i _=>cB (a:=⟨k0,i,none⟩) hk,fun i=>fB (a:=⟨k0,i,none⟩) hk⟩
theorem aI.mono {A':Nat->Prop}{w w':Wz}(h:aI A' B k0 w w')(hA:∀b,A b->A' b):aI A B k0 w w':=⟨h.os,h.size,h.low,fun b hb=>h.tree b (hA b hb),h.cells,h.fz⟩
theorem GH (W:Wz)(xs:List Wq)(T:Wk):∀j u,xs[j]?=some u->(W.alloc (.cells xs.toArray T)).drew.cell? ((⟨W.heap.size,0,none⟩:Ww).add j)=some u:=by
 intro j u hj;rw [Addr.add_lit,zA];have:(W.alloc (.cells xs.toArray T)).cell? ⟨W.heap.size,j,none⟩=xs.toArray[j]?:=cA (w:=W) _ _ W.heap.size _ rfl;show (W.alloc (.cells xs.toArray T)).cell? ⟨W.heap.size,j,none⟩=some u;rw [this];simpa using hj
end
section
variable {A:Nat->Prop} {B k0:Nat} {L:Lg}
theorem dp.cell {t:Nat}{W W':Wz}(h:dp t W W'){b j:Nat}{v:Wq}(hc:W.cell? ⟨b,j,none⟩=some v)(hb:b≠t):W'.cell? ⟨b,j,none⟩=some v:=by
 obtain ⟨o,h1,h2⟩:=ce.of_cell hc;exact (cB (a:=⟨b,j,none⟩) ((h.2.2 b o h1 h2 hb).trans h1.symm)).trans hc
theorem dp.frozen {t:Nat}{W W':Wz}(h:dp t W W'){b j:Nat}{v:Wq}(hc:W.cell? ⟨b,j,none⟩=some v)(hb:b≠t):W'.frozen? ⟨b,j,none⟩=W.frozen? ⟨b,j,none⟩:=by
 obtain ⟨o,h1,h2⟩:=ce.of_cell hc;exact fB (a:=⟨b,j,none⟩) ((h.2.2 b o h1 h2 hb).trans h1.symm)
theorem ff {w3:Wz}{v' v'':Wq}{b j:Nat}{v:Wq}(hc:w3.cell? ⟨b,j,none⟩=some v)(hb:b≠k0):((w3.setCell ⟨k0,4,none⟩ v').setCell ⟨k0,5,none⟩ v'').cell? ⟨b,j,none⟩=some v:=by
 have e:((w3.setCell ⟨k0,4,none⟩ v').setCell ⟨k0,5,none⟩ v'').heap[b]?=w3.heap[b]?:=by rw [bS _ _ _ _ hb,bS _ _ _ _ hb]
 exact (cB (a:=⟨b,j,none⟩) e).trans hc
theorem E2 {w V w1 w3:Wz}(h:dh A B w k0 L)(hB:B<=w.heap.size)(hLV:ak w V)(hVs:V.heap.size=w.heap.size+4)(hl1:ak V w1){sv v4 v':Wq}{pg:List ItD}(hrow:w1.ownsRow V.heap.size 41 3 sv pg.length (ay pg)){zs:List (LsA×Option Ww)}(c4:w.cell? ⟨k0,4,none⟩=some v4)
    (z1:L.opened=zs.map (·.1)) (z2:w.ownsRow B 125 8 v4 zs.length (aS zs)) (z3:∀g,v4.ownBlock=some g->¬A g) (z4:∀z∈zs,ai A 41 w z.2 z.1.f) {root:Option Ww} {x:LsA} (hN:ai A 41 w root x.f) (o o':Obj) (ho3:w3.ownsRow B 125 8 v' (zs.length+1) (aS zs++(aD (x.lst root)).toList)) (hg3:((w1.alloc o).alloc o').drew.grownBy w3 v4.ownBlock) (hvb:∀g,v'.ownBlock=some g->v4.ownBlock=some g\/((w1.alloc o).alloc o').drew.heap.size<=g) (n:Int) (tk:ByteArray) (pl:Int×Int) {y:Wq} (hbox:w1.cell? ⟨w.heap.size+1+1,0,none⟩=some y):
    Calls Yq.prog 70 #[.pointer (some ⟨k0,4,none⟩),.string tk,plV pl] ((w3.setCell ⟨k0,4,none⟩ v').setCell ⟨k0,5,none⟩ (.int .i64 n)) fun e w6=>e=.returned (.tuple #[])/\dp k0 ((w3.setCell ⟨k0,4,none⟩ v').setCell ⟨k0,5,none⟩ (.int .i64 n)) w6 /\
      ∀y0 y1,bc A B k0 w ⟨L.opened++[x],n,lX tk pl L.told,L.tm⟩ pg sv ((w6.setCell ⟨w.heap.size+1+1,0,none⟩ y0).setCell ⟨w.heap.size+1+1,1,none⟩ y1):=by
  obtain ⟨W2,hW2⟩:∃W2,W2=((w1.alloc o).alloc o').drew:=⟨_,rfl⟩;rw [<-hW2] at hg3 hvb;have hL12:ak w1 W2:=by rw [hW2];exact ((ak.refl.alloc o).alloc o').drew
  have hLw:ak w W2:=(hLV.trans hl1).trans hL12;have hsz2:W2.heap.size=w1.heap.size+2:=by rw [hW2];simp
  have hlow:=h.low;have hlt:=h.lt;have hs1:=hl1.size;obtain ⟨A',hA'⟩:∃A':Nat->Prop,A'=fun b=>A b\/sv.ownBlock=some b:=⟨_,rfl⟩
  have a1:∀b,A b->A' b:=fun b hb=>by rw [hA'];exact .inl hb
  have a2:∀b,A' b->A b\/w.heap.size+4<=b/\b<w1.heap.size:=fun b hb=>by
    rw [hA'] at hb;rcases hb with hb|hb
    . exact .inl hb
    . have:=hrow.lt b hb;exact .inr (by omega)
  have h2:dh A' B W2 k0 L:=h.more hLw a1 (fun b hb=>(a2 b hb).imp id (by omega)) (fun b hb=>by
    rcases a2 b hb with h1|h1
    . have:=h.inn b h1;have:=hLw.size;omega
    . omega)
  have c4':=hLw.cell c4;have z2':W2.ownsRow B 125 8 v4 zs.length (aS zs):=aX z2 fun g _ hg=>hLw.block g hg
  have z3':∀g,v4.ownBlock=some g->¬A' g:=fun g hg ha=>by
    rcases a2 g ha with h1|h1
    . exact z3 g hg h1
    . have:=(z2.lt g hg).2;omega
  obtain ⟨h5,hd5⟩:=h2.push (x:=x) (root:=root) (n:=n) c4' z1 z2' z3' (fun z hz=>ai.keep (fun b hb hb2=>⟨a1 b hb,hLw.block b hb2⟩) 41 _ _ (z4 z hz)) ho3 hg3 hvb (ai.keep (fun b hb hb2=>⟨a1 b hb,hLw.block b hb2⟩) 41 _ _ hN);have hs3:=hg3.size;obtain ⟨W5,hW5⟩:∃W5,W5=(w3.setCell ⟨k0,4,none⟩ v').setCell ⟨k0,5,none⟩ (.int .i64 n):=⟨_,rfl⟩;have hs5:W5.heap.size=w3.heap.size:=by rw [hW5];simp
  have k4:W5.cell? ⟨k0,4,none⟩=some v':=by
    have hbk:w3.heap[k0]?=W2.heap[k0]?:=hg3.block k0 (by have:=hLw.size;omega) (fun e=>by have:=(z2.lt k0 e.symm).1;omega);rw [hW5,cO _ _ _ _ (aV (by omega))];exact cS _ _ _ (by rw [cB (a:=⟨k0,4,none⟩) hbk,c4'];rfl)
  rw [<-hW5] at h5 hd5 ⊢;refine (AF W5 h5 (by omega) tk pl).mono ?_;rintro e w6 ⟨rfl,h6,hd6,hk6,hj6⟩;refine ⟨rfl,hk6,fun y0 y1=>?_⟩;have hnA:¬A' (w.heap.size+1+1):=fun ha=>by
    rcases a2 _ ha with h1|h1
    . have:=h.inn _ h1;omega
    . omega
  have hv6:∀v g,w6.cell? ⟨k0,4,none⟩=some v->v.ownBlock=some g->g≠w.heap.size+1+1:=fun v g hv hg e=>by
    rw [hj6 4 (by omega),k4] at hv;cases hv;rcases hvb g hg with h1|h1
    . have:=(z2.lt g h1).2;omega
    . omega
  have hc6:ce w6 (w.heap.size+1+1):=by
    refine ce.of_cell (hk6.cell (j:=0) (v:=y) ?_ (by omega));rw [hW5];refine ff ?_ (by omega);have e:w3.heap[w.heap.size+1+1]?=w1.heap[w.heap.size+1+1]?:=(hg3.block _ (by omega) (fun e=>by have:=(z2.lt _ e.symm).2;omega)).trans (hL12.block _ (bC w1 _ hbox));exact (cB (a:=⟨w.heap.size+1+1,0,none⟩) e).trans hbox
  have h7:=h6.other (j:=0) (x:=y0) (show w.heap.size+1+1≠k0 by omega) hnA hc6 hv6;have hk7:(w6.setCell ⟨w.heap.size+1+1,0,none⟩ y0).cell? ⟨k0,4,none⟩=w6.cell? ⟨k0,4,none⟩:=cB (a:=⟨k0,4,none⟩) (bS _ _ _ _ (show k0≠w.heap.size+1+1 by omega));have hc7:ce (w6.setCell ⟨w.heap.size+1+1,0,none⟩ y0) (w.heap.size+1+1):=by
    obtain ⟨ob,e1,e2⟩:=hc6;cases ob with
    |cells xs e z=>
      obtain ⟨g1,g2⟩:=eS e1;refine ⟨.cells (xs.setIfInBounds 0 y0) e z,?_,rfl⟩;show (w6.heap.modify (w.heap.size+1+1) _)[w.heap.size+1+1]?=_;rw [eG (by rw [Array.size_modify];exact g1),Array.getElem_modify_self,g2];rfl
    |_=>cases e2
  have h8:=h7.other (j:=1) (x:=y1) (show w.heap.size+1+1≠k0 by omega) hnA hc7 (fun v g hv hg=>hv6 v g (by rw [<-hk7];exact hv) hg);have hdw:aI A' B k0 W2 ((w6.setCell ⟨w.heap.size+1+1,0,none⟩ y0).setCell ⟨w.heap.size+1+1,1,none⟩ y1):=((hd5.trans hd6).trans (aI.other (by omega) hnA (by omega))).trans (aI.other (by omega) hnA (by omega));refine ⟨A',a1,fun b hb=>(a2 b hb).imp id (by omega),h8,(aI.left hlt hLw).trans (hdw.mono a1),?_,?_⟩
  rotate_left
  . have q25 : FrC k0 W2 W5 := ⟨by omega, fun b hb hk ho => by
        have e1:W5.heap[b]?=w3.heap[b]?:=by rw [hW5,bS _ _ _ _ hk,bS _ _ _ _ hk]
        exact e1.trans (hg3.block b hb.lt (fun e=>ho ⟨v4,c4',e.symm⟩)),fun b ho=>by
        obtain ⟨x,h1,h2⟩:=ho;rw [k4] at h1;cases h1;rcases hvb b h2 with h3|h3
        . exact .inl ⟨v4,c4',h3⟩
        . exact .inr h3⟩
    have q6:FrC k0 w w6:=((FrC.left hlt hLw).trans q25).trans (FrC.keepC hk6 (hj6 4 (by omega)));exact (q6.fresh (by omega) (by omega)).fresh (by omega) (by omega)
  refine kV (ep hrow fun g hg=>?_) (fun g hg=>by rw [hA'];exact .inr hg);have hg1:=(hrow.lt g hg).2;exact (hdw.tree g (by rw [hA'];exact .inr hg) (by omega)).trans (hL12.block g hg1)
end
theorem qr {w:Wz}{B:Nat}{g cap:Nat}{zs:List (LsA×Option Ww)}(h:w.ownsRow B 125 8 (.slice (some ⟨g,0,none⟩) zs.length cap) zs.length (aS zs))(i:Nat)(hi:i<zs.length)(j:Nat)(hj:j<8):w.cell? ⟨g,i * 8+j,none⟩=(aD (zs[i].1.lst zs[i].2))[j]?:=by
 have e:=dV 8 (fun z:LsA×Option Ww=>(aD (z.1.lst z.2)).toList) (fun _=>rfl) zs i j hi hj;have hx:(aD (zs[i].1.lst zs[i].2))[j]?=some ((aD (zs[i].1.lst zs[i].2))[j]'(by simp [aD];omega)):=eG _;have:=h.cells (g:=g) rfl (i * 8+j) _ (e.trans (by rw [gT];exact hx));rw [Addr.add_lit,zA] at this;rw [this,hx]
theorem kW {w:Wz}{B:Nat}{g cap:Nat}{zs:List (LsA×Option Ww)}(h:w.ownsRow B 125 8 (.slice (some ⟨g,0,none⟩) zs.length cap) zs.length (aS zs))(i:Nat)(hi:i<zs.length):
  w.cell? ⟨g,i * 8,none⟩=some (.int .i64 zs[i].1.num)/\w.cell? ⟨g,i * 8+1,none⟩=some (.pointer zs[i].2)/\w.cell? ⟨g,i * 8+2,none⟩=some (.bool zs[i].1.q.vs)/\w.cell? ⟨g,i * 8+3,none⟩=some (.string zs[i].1.q.p)/\w.cell? ⟨g,i * 8+4,none⟩=some (.string zs[i].1.q.d)/\w.cell? ⟨g,i * 8+5,none⟩=some (.string zs[i].1.q.af)/\w.cell? ⟨g,i * 8+6,none⟩=some (.int .i64 zs[i].1.size)/\w.cell? ⟨g,i * 8+7,none⟩=some (.int .i64 zs[i].1.left):=
 ⟨qr h i hi 0 (by omega),qr h i hi 1 (by omega),qr h i hi 2 (by omega),qr h i hi 3 (by omega),qr h i hi 4 (by omega),qr h i hi 5 (by omega),qr h i hi 6 (by omega),qr h i hi 7 (by omega)⟩
theorem CR (l:Lst)(bx:Nat)(n:Int)(w:Wz)(c0:w.cell? ⟨bx,0,none⟩=some (.int .i64 n)):Calls Yq.prog 72 #[lV l,.pointer (some ⟨bx,0,none⟩)] w fun e w'=>e=.returned (.bool (l.num==n))/\Below w.heap.size w w':=by
 have hlt:=bC w _ c0;simp only at hlt;unfold lV aD;go_enter (Yq.nq Tryz.func72),Tryz.ntmps72;go_wp2_with fail
 go_ret;exact ⟨rfl,(bR _ _).alloc (lR _) _⟩
def kX (n:Int)(xs:List LsA):Option Nat:=xs.findIdx? (fun x=>x.num==n)
theorem ws (B:Nat)(va:Option Ww)(vc:Nat)(zs:List (LsA×Option Ww))(bx:Nat)(n:Int)(w:Wz)(hz:w.ownsRow B 125 8 (.slice va zs.length vc) zs.length (aS zs))(hl:zs.length<=3)(c0:w.cell? ⟨bx,0,none⟩=some (.int .i64 n)):
  Calls Yq.prog 71 #[.slice va zs.length vc,.func (.func 72) #[] #[.pointer (some ⟨bx,0,none⟩)]] w fun e w'=>e=.returned (.int .i64 (((kX n (zs.map (·.1))).map fun (i:Nat)=>(i:Int)).getD (-1)))/\Below w.heap.size w w':=by
 have HZ:Hid (w.ownsRow B 125 8 (.slice va zs.length vc) zs.length (aS zs)):=hz;have HC:Hid (w.cell? ⟨bx,0,none⟩=some (.int .i64 n)):=c0;obtain ⟨R,hR⟩:∃R:Int,R=((kX n (zs.map (·.1))).map fun (i:Nat)=>(i:Int)).getD (-1):=⟨_,rfl⟩;have HR:Hid (R=((kX n (zs.map (·.1))).map fun (i:Nat)=>(i:Int)).getD (-1)):=hR;rw [<-hR];clear hz hR c0;go_enter (Yq.nq Tryz.func71),Tryz.ntmps71;go_wp2_with fail
 go_loopw [5,8] (fun _ s8 wr=>∃i:Nat,i<=zs.length/\s8=.int .i64 i/\(∀j (hj:j<zs.length),j<i->(zs[j].1.num==n)=false)/\Below w.heap.size w wr) (fun _ s8 _=>zs.length-(intOf s8).toNat)
 case atStart=>exact ⟨0,Nat.zero_le _,rfl,fun _ _ h=>absurd h (by omega),bR _ _⟩
 case round=>
  obtain ⟨i,hi,rfl,hno,hb⟩:=hrel;by_cases hlt:i<zs.length
  .obtain ⟨g,cap,he⟩:∃g cap,Value.slice va zs.length vc=.slice (some ⟨g,0,none⟩) zs.length cap:=by
    rcases HZ.out.2 with ⟨h1,h2⟩|⟨g,cap,cur,h1,-⟩
    .omega
    .exact ⟨g,cap,h1⟩
   cases he;obtain ⟨q0,q1,q2,q3,q4,q5,q6,q7⟩:=kW HZ.out i hlt;replace q0:=aj hb q0;replace q1:=aj hb q1;replace q2:=aj hb q2;replace q3:=aj hb q3;replace q4:=aj hb q4;replace q5:=aj hb q5;replace q6:=aj hb q6;replace q7:=aj hb q7;have HF:=CR (zs[i].1.lst zs[i].2) bx n wr (aj hb HC.out);have HNO:Hid ((∀j (hj:j<zs.length),j<i->(zs[j].1.num==n)=false)/\Below w.heap.size w wr):=⟨hno,hb⟩;clear hno hb;simp only [lV,aD,LsA.lst] at HF;cases hb2:(zs[i].1.num==n) with
   |true=>
    rw [hb2] at HF;have HE:Hid (R=(i:Int)):=by
     show R=(i:Int);have:kX n (zs.map (·.1))=some i:=by
      unfold kX;rw [List.findIdx?_eq_some_iff_getElem];refine ⟨by simpa using hlt,by simpa using hb2,fun j hj=>?_⟩;have:=HNO.out.1 j (by omega) hj;simpa using this
     rw [HR.out,this];rfl
    go_wp2_with (go_at_call 72;refine HF.mono ?_;clear HF;rintro e w1 ⟨rfl,hb1⟩)
    go_ret;exact ⟨by rw [HE.out];rfl,HNO.out.2.trans (hb1.mono HNO.out.2.size)⟩
   |false=>
    rw [hb2] at HF;go_wp2_with (go_at_call 72;refine HF.mono ?_;clear HF;rintro e w1 ⟨rfl,hb1⟩)
    refine ⟨⟨i+1,by omega,by go_num,fun j hj hji=>?_,HNO.out.2.trans (hb1.mono HNO.out.2.size)⟩,by simp [intOf];omega⟩;by_cases hj2:j=i
    .subst hj2;exact hb2
    .exact HNO.out.1 j hj (by omega)
  .have:i=zs.length:=by omega
   subst this;go_wp2_with fail
   go_ret;refine ⟨?_,hb⟩;have:kX n (zs.map (·.1))=none:=by
    unfold kX;rw [List.findIdx?_eq_none_iff];intro x hx;obtain ⟨z,hz,rfl⟩:=List.mem_map.1 hx;obtain ⟨j,hj,rfl⟩:=gM hz;exact hno j hj hj
   rw [HR.out,this];rfl
def LsA.again (x:LsA)(v:Int):LsA:={x with left:=v}
def fM (L:Lg)(tok:ByteArray):Lg×List ItD×ByteArray×Int:=
 match em tok L.told with
 |none=>(L,[],⟨#[]⟩,9)
 |some (n,pg)=>
  match kX n L.opened with
  |none=>(L,[],⟨#[]⟩,10)
  |some i=>
   match L.opened[i]? with
   |none=>(L,[],⟨#[]⟩,10)
   |some x=>(⟨L.opened.set i (x.again 10),L.begun,if x.tok pg=⟨#[]⟩ then L.told else lX (x.tok pg) (n,pg+1) L.told,L.tm⟩,x.page pg,x.tok pg,0)
theorem wu {α:Type}(m:Nat)(f:α->List Wq)(hf:∀a,(f a).length=m):∀ (l:List α)(i j:Nat)(a:α)(v:Wq)(_:j<m)(hi:i<l.length),f a=(f l[i]).set j v->(l.set i a).flatMap f=(l.flatMap f).set (i * m+j) v
 | [],i,j,a,v,hj,hi,h=>by simp at hi
 |b::l,0,j,a,v,hj,hi,h=>by
  simp only [List.getElem_cons_zero] at h;simp only [List.set_cons_zero,List.flatMap_cons,Nat.zero_mul,zA];rw [h,List.set_append_left _ _ (by rw [hf];exact hj)]
 |b::l,i+1,j,a,v,hj,hi,h=>by
  simp only [List.getElem_cons_succ] at h;simp only [List.set_cons_succ,List.flatMap_cons];rw [wu m f hf l i j a v hj (by simpa using hi) h,List.set_append_right _ _ (by rw [hf,Nat.add_mul];omega),hf];congr 2;rw [Nat.add_mul];omega
theorem CS {w:Wz}{B:Nat}{e:Wk}{size g n cap:Nat}{xs:List Wq}(h:w.ownsRow B e size (.slice (some ⟨g,0,none⟩) n cap) n xs)(j:Nat)(_hj:j<xs.length)(v:Wq):(w.setCell ⟨g,j,none⟩ v).ownsRow B e size (.slice (some ⟨g,0,none⟩) n cap) n (xs.set j v):=by
 refine ⟨by rw [List.length_set];exact h.1,?_⟩;rcases h.2 with ⟨h1,-⟩|⟨g',cap',cur,h1,hb,hr,h2,h3,h4,h5⟩
 .cases h1
 .cases h1;obtain ⟨a1,a2⟩:=eS hr;refine .inr ⟨g,cap,cur.setIfInBounds j v,rfl,hb,?_,h2,h3,by simpa using h4,?_⟩
  .show (w.heap.modify g _)[g]?=_;rw [eG (by rw [Array.size_modify];exact a1),Array.getElem_modify_self,a2];rfl
  .rw [Array.toList_setIfInBounds,List.take_set,h5]
section
variable {A:Nat->Prop} {B k0:Nat} {L:Lg}
theorem dh.setLeft {w:Wz}(h:dh A B w k0 L){g cap:Nat}{zs:List (LsA×Option Ww)}(c4:w.cell? ⟨k0,4,none⟩=some (.slice (some ⟨g,0,none⟩) zs.length cap))(z1:L.opened=zs.map (·.1))(z2:w.ownsRow B 125 8 (.slice (some ⟨g,0,none⟩) zs.length cap) zs.length (aS zs))(z3:¬A g)(z4:∀z∈zs,ai A 41 w z.2 z.1.f)(i:Nat)(hi:i<zs.length)(v:Int):
  dh A B (w.setCell ⟨g,i * 8+7,none⟩ (.int .i64 v)) k0 {L with opened:=L.opened.set i (zs[i].1.again v)}/\aI A B k0 w (w.setCell ⟨g,i * 8+7,none⟩ (.int .i64 v)) /\
   (w.setCell ⟨g,i * 8+7,none⟩ (.int .i64 v)).ownsRow B 125 8 (.slice (some ⟨g,0,none⟩) zs.length cap) (zs.set i (zs[i].1.again v,zs[i].2)).length (aS (zs.set i (zs[i].1.again v,zs[i].2)))/\(∀z∈zs.set i (zs[i].1.again v,zs[i].2),ai A 41 (w.setCell ⟨g,i * 8+7,none⟩ (.int .i64 v)) z.2 z.1.f):=by
 have hlow:=h.low;have hgB:B<=g:=(z2.lt g rfl).1;have hne:∀b,b≠g->(w.setCell ⟨g,i * 8+7,none⟩ (.int .i64 v)).heap[b]?=w.heap[b]?:=fun b hb=>bS _ _ _ _ hb
 have hk:=hne k0 (by omega);have hce:∀j,(w.setCell ⟨g,i * 8+7,none⟩ (.int .i64 v)).cell? ⟨k0,j,none⟩=w.cell? ⟨k0,j,none⟩:=fun j=>cB (a:=⟨k0,j,none⟩) hk
 have hown:(w.setCell ⟨g,i * 8+7,none⟩ (.int .i64 v)).ownsRow B 125 8 (.slice (some ⟨g,0,none⟩) zs.length cap) (zs.set i (zs[i].1.again v,zs[i].2)).length (aS (zs.set i (zs[i].1.again v,zs[i].2))):=by
  have e:aS (zs.set i (zs[i].1.again v,zs[i].2))=(aS zs).set (i * 8+7) (.int .i64 v):=wu 8 _ (fun _=>rfl) zs i 7 _ _ (by omega) hi rfl;rw [e,List.length_set];exact CS z2 _ (by rw [kU];omega) _
 have hnodes:∀z∈zs.set i (zs[i].1.again v,zs[i].2),ai A 41 (w.setCell ⟨g,i * 8+7,none⟩ (.int .i64 v)) z.2 z.1.f:=fun z hz=>by
  refine ai.keep (fun b hb _=>⟨hb,hne b (fun e=>z3 (e▸hb))⟩) 41 _ _ ?_;rcases List.mem_or_eq_of_mem_set hz with hz|rfl
  .exact z4 z hz
  .exact z4 zs[i] (List.getElem_mem hi)
 obtain ⟨mv,c6,hm⟩:=h.told;refine ⟨⟨⟨_,(hce 4).trans c4,zs.set i (zs[i].1.again v,zs[i].2),by rw [z1,List.map_set],by simpa using hown,fun g' hg'=>by cases hg';exact z3,hnodes⟩,(hce 5).trans h.begun,⟨mv,(hce 6).trans c6,?_⟩,fun j=>(fB (a:=⟨k0,j,none⟩) hk).trans (h.frozen j),h.avoid,h.low,fun b hb=>by simpa using h.inn b hb⟩,aI.other (by omega) z3 hgB,hown,hnodes⟩;rcases hm with hm|⟨m,es,clock,m1,m2,m3⟩
 .exact .inl hm
 .refine .inr ⟨m,es,clock,m1,(hne m fun e=>?_).trans m2,m3⟩;subst e;rcases z2.2 with ⟨h1,-⟩|⟨g',cap',cur,h1,-,hr,-⟩
  .cases h1
  .cases h1;rw [hr] at m2;cases m2
end
structure mH (B:Nat)(w:Wz)(g cap:Nat)(zs:List (LsA×Option Ww)):Prop where
 base:B<=g
 obj:∃cur:Array Wq,w.heap[g]?=some (.cells cur 125 (0,0))/\cur.size=cap * 8
 le:zs.length<=cap
 max:cap<=maxLen
 cells:∀i (hi:i<zs.length) j,j<8->w.cell? ⟨g,i * 8+j,none⟩=(aD (zs[i].1.lst zs[i].2))[j]?
theorem mH.of_owns {B:Nat}{w:Wz}{g cap:Nat}{zs:List (LsA×Option Ww)}(h:w.ownsRow B 125 8 (.slice (some ⟨g,0,none⟩) zs.length cap) zs.length (aS zs)):mH B w g cap zs:=by
 have h2:=h.2;rcases h2 with ⟨h1,-⟩|⟨g',cap',cur,h1,hb,hr,h2,h3,h4,-⟩
 .cases h1
 .cases h1;exact ⟨hb,⟨cur,hr,h4⟩,h2,h3,fun i hi j hj=>qr h i hi j hj⟩
theorem mH.owns {B:Nat}{w:Wz}{g cap:Nat}{zs:List (LsA×Option Ww)}(h:mH B w g cap zs):w.ownsRow B 125 8 (.slice (some ⟨g,0,none⟩) zs.length cap) zs.length (aS zs):=by
 obtain ⟨cur,hr,hs⟩:=h.obj;refine ⟨kU zs,.inr ⟨g,cap,cur,rfl,h.base,hr,h.le,h.max,hs,?_⟩⟩;apply List.ext_getElem?;intro t;by_cases ht:t<zs.length * 8
 .have hq:t / 8<zs.length:=by omega
  have e:t=t / 8 * 8+t % 8:=by omega
  have h1:=h.cells (t / 8) hq (t % 8) (by omega);rw [<-e] at h1;have h2:=dV 8 (fun z:LsA×Option Ww=>(aD (z.1.lst z.2)).toList) (fun _=>rfl) zs (t / 8) (t % 8) hq (by omega);rw [<-e] at h2;show _=(zs.flatMap fun z=>(aD (z.1.lst z.2)).toList)[t]?;rw [h2,List.getElem?_take,if_pos ht,gT,gT,<-h1,cell_of_row w g t cur 125 (0,0) hr]
 .rw [List.getElem?_eq_none (by simp;omega),List.getElem?_eq_none (by rw [kU];omega)]
theorem mH.same {B:Nat}{w w':Wz}{g cap:Nat}{zs:List (LsA×Option Ww)}(h:mH B w g cap zs)(e:w'.heap[g]?=w.heap[g]?):mH B w' g cap zs:=
 ⟨h.base,by rw [e];exact h.obj,h.le,h.max,fun i hi j hj=>(cB (a:=⟨g,i * 8+j,none⟩) e).trans (h.cells i hi j hj)⟩
theorem mH.lt {B:Nat}{w:Wz}{g cap:Nat}{zs:List (LsA×Option Ww)}(h:mH B w g cap zs):g<w.heap.size:=by
 obtain ⟨cur,h,-⟩:=h.obj;exact (eS h).1
theorem iB {w:Wz}{g n j:Nat}{e:Wk}{v:Wq}(h:∃cur:Array Wq,w.heap[g]?=some (.cells cur e (0,0))/\cur.size=n):∃cur:Array Wq,(w.setCell ⟨g,j,none⟩ v).heap[g]?=some (.cells cur e (0,0))/\cur.size=n:=by
 obtain ⟨cur,h1,h2⟩:=h;obtain ⟨a1,a2⟩:=eS h1;refine ⟨cur.setIfInBounds j v,?_,by simpa using h2⟩;show (w.heap.modify g _)[g]?=_;rw [eG (by rw [Array.size_modify];exact a1),Array.getElem_modify_self,a2];rfl
theorem mH.frozen {B:Nat}{w:Wz}{g cap:Nat}{zs:List (LsA×Option Ww)}(h:mH B w g cap zs)(j:Nat):w.frozen? ⟨g,j,none⟩=false:=by
 obtain ⟨cur,h,-⟩:=h.obj;simp [World.frozen?,h]
def set8 (w:Wz)(g i:Nat)(l:Lst):Wz:=
 (((((((w.setCell ⟨g,i * 8,none⟩ (.int .i64 l.num)).setCell ⟨g,i * 8+1,none⟩ (.pointer l.root)).setCell ⟨g,i * 8+2,none⟩ (.bool l.vs)).setCell ⟨g,i * 8+3,none⟩ (.string l.p)).setCell ⟨g,i * 8+4,none⟩ (.string l.d)).setCell ⟨g,i * 8+5,none⟩ (.string l.af)).setCell ⟨g,i * 8+6,none⟩ (.int .i64 l.size)).setCell ⟨g,i * 8+7,none⟩ (.int .i64 l.left)
theorem CT {w:Wz}{g i n:Nat}{e:Wk}{l:Lst}(h:∃cur:Array Wq,w.heap[g]?=some (.cells cur e (0,0))/\cur.size=n):∃cur:Array Wq,(set8 w g i l).heap[g]?=some (.cells cur e (0,0))/\cur.size=n:=
 iB (iB (iB (iB (iB (iB (iB (iB h)))))))
theorem CU {w:Wz}{g i t:Nat}{l:Lst}(h:t<i * 8\/i * 8+8<=t):(set8 w g i l).cell? ⟨g,t,none⟩=w.cell? ⟨g,t,none⟩:=by
 unfold set8
 iterate 8 rw [cO _ _ _ _ (aV (by omega))]
theorem aM {w:Wz}{g a b:Nat}{v:Wq}(h:(w.cell? ⟨g,b,none⟩).isSome=true):((w.setCell ⟨g,a,none⟩ v).cell? ⟨g,b,none⟩).isSome=true:=by
 by_cases e:a=b
 .subst e;rw [cS _ _ _ h];rfl
 .rw [cO _ _ _ _ (aV e)];exact h
theorem AG {w:Wz}{g i:Nat}{l:Lst}(h:∀j,j<8->(w.cell? ⟨g,i * 8+j,none⟩).isSome=true)(j:Nat)(hj:j<8):(set8 w g i l).cell? ⟨g,i * 8+j,none⟩=(aD l)[j]?:=by
 have e0:(set8 w g i l).cell? ⟨g,i * 8,none⟩=(aD l)[0]?:=by
  unfold set8
  iterate 7 rw [cO _ _ _ _ (aV (by omega))]
  exact cS _ _ _ (h 0 (by omega))
 have e1:(set8 w g i l).cell? ⟨g,i * 8+1,none⟩=(aD l)[1]?:=by
  unfold set8
  iterate 6 rw [cO _ _ _ _ (aV (by omega))]
  exact cS _ _ _ (aM (h 1 (by omega)))
 have e2:(set8 w g i l).cell? ⟨g,i * 8+2,none⟩=(aD l)[2]?:=by
  unfold set8
  iterate 5 rw [cO _ _ _ _ (aV (by omega))]
  exact cS _ _ _ (aM (aM (h 2 (by omega))))
 have e3:(set8 w g i l).cell? ⟨g,i * 8+3,none⟩=(aD l)[3]?:=by
  unfold set8
  iterate 4 rw [cO _ _ _ _ (aV (by omega))]
  exact cS _ _ _ (aM (aM (aM (h 3 (by omega)))))
 have e4:(set8 w g i l).cell? ⟨g,i * 8+4,none⟩=(aD l)[4]?:=by
  unfold set8
  iterate 3 rw [cO _ _ _ _ (aV (by omega))]
  exact cS _ _ _ (aM (aM (aM (aM (h 4 (by omega))))))
 have e5:(set8 w g i l).cell? ⟨g,i * 8+5,none⟩=(aD l)[5]?:=by
  unfold set8
  iterate 2 rw [cO _ _ _ _ (aV (by omega))]
  exact cS _ _ _ (aM (aM (aM (aM (aM (h 5 (by omega)))))))
 have e6:(set8 w g i l).cell? ⟨g,i * 8+6,none⟩=(aD l)[6]?:=by
  unfold set8
  iterate 1 rw [cO _ _ _ _ (aV (by omega))]
  exact cS _ _ _ (aM (aM (aM (aM (aM (aM (h 6 (by omega))))))))
 have e7:(set8 w g i l).cell? ⟨g,i * 8+7,none⟩=(aD l)[7]?:=by
  unfold set8;exact cS _ _ _ (aM (aM (aM (aM (aM (aM (aM (h 7 (by omega)))))))))
 rcases j with - | - | - | - | - | - | - | - |j
 .exact e0
 .exact e1
 .exact e2
 .exact e3
 .exact e4
 .exact e5
 .exact e6
 .exact e7
 .omega
theorem mH.set8 {B:Nat}{w:Wz}{g cap:Nat}{zs:List (LsA×Option Ww)}(h:mH B w g cap zs)(i:Nat)(hi:i<zs.length)(z:LsA×Option Ww):mH B (set8 w g i (z.1.lst z.2)) g cap (zs.set i z):=by
 refine ⟨h.base,CT h.obj,by rw [List.length_set];exact h.le,h.max,fun k hk j hj=>?_⟩;have hk':k<zs.length:=by simpa using hk
 by_cases hki:k=i
 .subst hki;rw [AG (fun j hj=>by rw [h.cells k hk' j hj];simp [aD];omega) j hj];simp
 .rw [CU (by omega),h.cells k hk' j hj,List.getElem_set_ne (by omega)]
section
variable {P:Wx}
theorem uN (w:Wz)(t e ty:Wk)(z:Wq)(ht:P.underlying t=some (.slice e))(hv:∀w,(zeroValue e).run P w=.ok z w)(h1:∀v∈z.cells.toList,v.oneCell'=true)
  (g o n c:Nat) (cur:Array Wq) (T:Wk) (hg:w.heap[g]?=some (.cells cur T (0,0))) (hn:0<n) (hfit:o+n * z.cells.size<=cur.size):
  ∃cur',(Builtin.clear_ #[t] ty #[.slice (some ⟨g,o,none⟩) n c]).run P w=.ok (.tuple #[]) (w.setRow g cur')/\cur'.size=cur.size/\cur'.toList.take o=cur.toList.take o:=by
 have hzs:(Builtin.zeroCells z.cells n).size=n * z.cells.size:=by simp [Builtin.zeroCells]
 have hone:∀v∈(Builtin.zeroCells z.cells n).toList,v.oneCell'=true:=fun v hv=>by
  have hv:=Array.mem_toList_iff.1 hv;obtain ⟨k,hk,rfl⟩:=Array.getElem_of_mem hv;have hk2:k<n * z.cells.size:=by rw [<-hzs];exact hk
  have hz0:0<z.cells.size:=by
   rcases Nat.eq_zero_or_pos z.cells.size with h|h
   .rw [h] at hk2;omega
   .exact h
  simp only [Builtin.zeroCells,Array.getElem_map,Array.getElem_range];have:k % z.cells.size<z.cells.size:=Nat.mod_lt _ hz0;rw [getElem!_pos z.cells (k % z.cells.size) this];exact h1 _ (by simp)
 have hst:=run_storeCells_at P g o T (Builtin.zeroCells z.cells n).toList 0 cur w hg (by rw [lY,hzs];omega) hone;simp only [Nat.add_zero,lY] at hst;refine ⟨(cur.toList.take o++(Builtin.zeroCells z.cells n).toList++cur.toList.drop (o+(Builtin.zeroCells z.cells n).size)).toArray,?_,?_,?_⟩
 .obtain ⟨m,rfl⟩:∃m,n=m+1:=⟨n-1,by omega⟩;simp [Builtin.clear_,run_underlying ht,hv,hst]
 .simp [hzs];omega
 .simp;rw [List.take_append_of_le_length (by simp;omega),List.take_take];simp
end
end
