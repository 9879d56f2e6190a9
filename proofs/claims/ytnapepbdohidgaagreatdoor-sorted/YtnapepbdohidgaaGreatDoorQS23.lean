/- A part. -/
import Derived.Test.YtnapepbdohidgaaGreatDoorQS22
import Derived.Test.YtnapepbdohidgaaGreatDoorChecked
import Derived.ProofKit
import Derived.SizedLaws
import Derived.Deep.Slices
import Derived.ChangeMaps5
import Derived.LaidMore
import Derived.Stop.Joined
import Derived.OpenShut
import Derived.MapKept
set_option maxHeartbeats 4000000
set_option maxRecDepth 100000
open Go renaming World->Wz,Value->Wq,TypeId->Wk,Addr->Ww
namespace Go.Proofs.Qw
section
open Go.RowKit
theorem jP.more {w W0:Wz}(h:jP w W0)(o:Obj):jP w (W0.alloc o):=by
 have hb:Below W0.heap.size W0 (W0.alloc o):=(bR _ _).alloc (lR _) _;exact ⟨h.below.trans (hb.mono h.below.size),lL h.lt hb.size,ak hb h.c0,ak hb h.c1,ak hb h.c2,ak hb h.c3,ak hb h.c4,fun j=>(hb.frozen (p:=⟨w.heap.size+1,j,none⟩) h.lt).trans (h.fz j)⟩
theorem xl {w w1:Wz}(h:Below w.heap.size w w1)(x0 x1 x2 x3 x4:Wq)(o:Obj):Below w.heap.size w ((((((w1.setCell ⟨w.heap.size+1,0,none⟩ x0).setCell ⟨w.heap.size+1,1,none⟩ x1).setCell ⟨w.heap.size+1,2,none⟩ x2).setCell ⟨w.heap.size+1,3,none⟩ x3).setCell ⟨w.heap.size+1,4,none⟩ x4).alloc o):=by
 have hx:w.heap.size<=w.heap.size+1:=by omega
 have h5:=((((h.setCell (p:=⟨w.heap.size+1,0,none⟩) hx x0).setCell (p:=⟨w.heap.size+1,1,none⟩) hx x1).setCell (p:=⟨w.heap.size+1,2,none⟩) hx x2).setCell (p:=⟨w.heap.size+1,3,none⟩) hx x3).setCell (p:=⟨w.heap.size+1,4,none⟩) hx x4;exact h5.alloc h5.size o
theorem xm {w w1:Wz}(h:Below w.heap.size w w1)(y0 y1 y2 x0 x1 x2 x3 x4:Wq):Below w.heap.size w ((((((((w1.setCell ⟨w.heap.size+1+1,0,none⟩ y0).setCell ⟨w.heap.size+1+1,1,none⟩ y1).setCell ⟨w.heap.size+1+1,2,none⟩ y2).setCell ⟨w.heap.size+1,0,none⟩ x0).setCell ⟨w.heap.size+1,1,none⟩ x1).setCell ⟨w.heap.size+1,2,none⟩ x2).setCell ⟨w.heap.size+1,3,none⟩ x3).setCell ⟨w.heap.size+1,4,none⟩ x4):=by
 have hx:w.heap.size<=w.heap.size+1:=by omega
 have hy:w.heap.size<=w.heap.size+1+1:=by omega
 have h3:=((h.setCell (p:=⟨w.heap.size+1+1,0,none⟩) hy y0).setCell (p:=⟨w.heap.size+1+1,1,none⟩) hy y1).setCell (p:=⟨w.heap.size+1+1,2,none⟩) hy y2;exact ((((h3.setCell (p:=⟨w.heap.size+1,0,none⟩) hx x0).setCell (p:=⟨w.heap.size+1,1,none⟩) hx x1).setCell (p:=⟨w.heap.size+1,2,none⟩) hx x2).setCell (p:=⟨w.heap.size+1,3,none⟩) hx x3).setCell (p:=⟨w.heap.size+1,4,none⟩) hx x4
theorem xn {w w1:Wz}(h:Below w.heap.size w w1)(x0 x1 x2 x3 x4:Wq):Below w.heap.size w (((((w1.setCell ⟨w.heap.size+1,0,none⟩ x0).setCell ⟨w.heap.size+1,1,none⟩ x1).setCell ⟨w.heap.size+1,2,none⟩ x2).setCell ⟨w.heap.size+1,3,none⟩ x3).setCell ⟨w.heap.size+1,4,none⟩ x4):=by
 have hx:w.heap.size<=w.heap.size+1:=by omega
 exact ((((h.setCell (p:=⟨w.heap.size+1,0,none⟩) hx x0).setCell (p:=⟨w.heap.size+1,1,none⟩) hx x1).setCell (p:=⟨w.heap.size+1,2,none⟩) hx x2).setCell (p:=⟨w.heap.size+1,3,none⟩) hx x3).setCell (p:=⟨w.heap.size+1,4,none⟩) hx x4
theorem jP.to {w W0 w1:Wz}(h:jP w W0)(hb:Below W0.heap.size W0 w1):jP w w1:=
 ⟨h.below.trans (hb.mono h.below.size),lL h.lt hb.size,ak hb h.c0,ak hb h.c1,ak hb h.c2,ak hb h.c3,ak hb h.c4,fun j=>(hb.frozen (p:=⟨w.heap.size+1,j,none⟩) h.lt).trans (h.fz j)⟩
theorem jP.put {w w1:Wz}(h:jP w w1)(b o:Nat)(v:Wq)(hb:w.heap.size+1<b):jP w (w1.setCell ⟨b,o,none⟩ v):=by
 have hne:∀j,(w1.setCell ⟨b,o,none⟩ v).cell? ⟨w.heap.size+1,j,none⟩=w1.cell? ⟨w.heap.size+1,j,none⟩:=fun j=>cO w1 ⟨b,o,none⟩ ⟨w.heap.size+1,j,none⟩ v (fun e=>by have:=congrArg Addr.block e;simp only at this;omega)
 exact ⟨h.below.setCell (p:=⟨b,o,none⟩) (by simp only;omega) v,by have:=h.lt;simpa [World.setCell] using this,(hne 0).trans h.c0,(hne 1).trans h.c1,(hne 2).trans h.c2,(hne 3).trans h.c3,(hne 4).trans h.c4,fun j=>fs (h.fz j)⟩
theorem jP.put3 {w w1:Wz}(h:jP w w1)(x y z:Wq):jP w (((w1.setCell ⟨w.heap.size+1+1,0,none⟩ x).setCell ⟨w.heap.size+1+1,1,none⟩ y).setCell ⟨w.heap.size+1+1,2,none⟩ z):=
 ((h.put _ 0 x (by omega)).put _ 1 y (by omega)).put _ 2 z (by omega)
theorem rQ (w:Wz)(x y z:Wq)(T:Wk)(b:Nat)(hb:w.heap.size=b):bL (w.alloc (.cells #[x,y,z] T)).drew b x y z:=by
 subst hb;have h:=kn w x y z T;exact ⟨h.c0,h.c1,h.c2,h.fz⟩
theorem xo (A:Nat->Prop)(k0:Nat)(st:St)(s:Nat)(o:OpD)(w:Wz)(hk:o.key.size<=maxLen)(S:az A w k0 st)(hI:Inv st s)(hs:s<2199023255552)(hkind:o.kind=2):
  Calls Yq.prog 33 #[.pointer (some ⟨k0,0,none⟩),cP o] w (dh A w k0 st (dk ⟨(jG st o.key).2,(jG st o.key).1.num,(jG st o.key).1.body⟩)):=by
 obtain ⟨kind,key,body,delim,past,n,src⟩:=o;simp only at hkind hk;subst hkind;have R0:=(E9 w #[.int .i64 2,.string key,.string body,.string delim,.string past,.int .i64 n,.int .i64 src]);have HC:Hid (∀W1,Below w.heap.size w W1->Calls Yq.prog 36 #[.pointer (some ⟨k0,0,none⟩),.string key] W1 fun e w'=>e=.returned (.tuple #[bV (jG st key).1,.int .i64 (jG st key).2])/\Below W1.heap.size W1 w'):=fun W1 hb=>BI A k0 st s key W1 hk (S.on hb) hI (by omega)
 have HS:Hid (az A w k0 st):=S;have HRA:Hid (jP w ((w.alloc (.cells #[.int .i64 2,.string key,.string body,.string delim,.string past,.int .i64 n,.int .i64 src] 31)).alloc (.cells #[.int .i64 0,.int .i64 0,.string ⟨#[]⟩,.slice none 0 0,.string ⟨#[]⟩] 36)).drew):=R0.drew;have HRB:Hid (jP w (((w.alloc (.cells #[.int .i64 2,.string key,.string body,.string delim,.string past,.int .i64 n,.int .i64 src] 31)).alloc (.cells #[.int .i64 0,.int .i64 0,.string ⟨#[]⟩,.slice none 0 0,.string ⟨#[]⟩] 36)).alloc (.cells #[.int .i64 0,.string ⟨#[]⟩,.bool false] 81)).drew/\bL (((w.alloc (.cells #[.int .i64 2,.string key,.string body,.string delim,.string past,.int .i64 n,.int .i64 src] 31)).alloc (.cells #[.int .i64 0,.int .i64 0,.string ⟨#[]⟩,.slice none 0 0,.string ⟨#[]⟩] 36)).alloc (.cells #[.int .i64 0,.string ⟨#[]⟩,.bool false] 81)).drew (w.heap.size+1+1) (.int .i64 0) (.string ⟨#[]⟩) (.bool false)):=⟨(R0.more _).drew,(rQ _ _ _ _ _ _ (by simp))⟩;have hk0:=S.lt;clear R0 S;simp only [cP];generalize jG st key=pr at *;obtain ⟨⟨nm,bd,mk⟩,code⟩:=pr;simp only [bV] at HC;go_enter (Yq.nq Tryz.func33),Tryz.ntmps33;go_wp2_with fail
 go_region_with (first
  |(go_at_call 36;refine (HC.out _ HRA.out.below).mono ?_;rintro e w1 ⟨rfl,hb1⟩;obtain ⟨⟨d0,d1,d2,d3,d4⟩,g0,g1,g2,g3,g4⟩:=HRA.out.on hk0 (dA hb1 (some k0));have HX:Hid (Below w.heap.size w w1):=HRA.out.below.trans (hb1.mono HRA.out.below.size);have hlt:w.heap.size+1<w1.heap.size:=lL HRA.out.lt hb1.size;clear hb1)
  |(go_at_call 36;refine (HC.out _ HRB.out.1.below).mono ?_;rintro e w1 ⟨rfl,hb1⟩;obtain ⟨⟨d0,d1,d2,d3,d4⟩,g0,g1,g2,g3,g4⟩:=HRB.out.1.on hk0 (dA hb1 (some k0));obtain ⟨v0,v1,v2,vf⟩:=HRB.out.2.on hb1;have f0:=vf 0;have f1:=vf 1;have f2:=vf 2;have HX:Hid (Below w.heap.size w w1):=HRB.out.1.below.trans (hb1.mono HRB.out.1.below.size);have hlt:w.heap.size+1<w1.heap.size:=lL HRB.out.1.lt hb1.size;clear hb1))
 .go_wp2;refine bodyPost_ret (v:=dk ⟨code,nm,bd⟩) (by simp [results,Tryz.results33,go_sem,dk,d0,d1,d2,d3,d4,hlt]) rfl ?_;exact ba HS.out (xl HX.out _ _ _ _ _ _)
 all_goals
  go_wp2;refine bodyPost_ret (v:=dk ⟨code,nm,bd⟩) (by simp [results,Tryz.results33,go_sem,dk,d0,d1,d2,d3,d4]) rfl ?_;have hend:=xm HX.out (.int .i64 nm) (.string bd) (.bool mk) (.int .i64 code) (.int .i64 nm) (.string bd) (.slice none 0 0) (.string ⟨#[]⟩);exact ba HS.out hend
theorem uf (A:Nat->Prop)(k0:Nat)(st:St)(s:Nat)(o:OpD)(w:Wz)(hk:o.key.size<=maxLen)(S:az A w k0 st)(hI:Inv st s)(hs:s<2199023255552)(hkind:o.kind=3):
  Calls Yq.prog 33 #[.pointer (some ⟨k0,0,none⟩),cP o] w (dh A w k0 st (dk ⟨(dR st o.key o.n).2,0,(dR st o.key o.n).1.body⟩)):=by
 obtain ⟨kind,key,body,delim,past,n,src⟩:=o;simp only at hkind hk;subst hkind;have R0:=(E9 w #[.int .i64 3,.string key,.string body,.string delim,.string past,.int .i64 n,.int .i64 src]);have HC:Hid (∀W1,Below w.heap.size w W1->Calls Yq.prog 37 #[.pointer (some ⟨k0,0,none⟩),.string key,.int .i64 n] W1 fun e w'=>e=.returned (.tuple #[bV (dR st key n).1,.int .i64 (dR st key n).2])/\Below W1.heap.size W1 w'):=fun W1 hb=>zK A k0 st s key n W1 hk (S.on hb) hI (by omega)
 have HS:Hid (az A w k0 st):=S;have HRA:Hid (jP w ((w.alloc (.cells #[.int .i64 3,.string key,.string body,.string delim,.string past,.int .i64 n,.int .i64 src] 31)).alloc (.cells #[.int .i64 0,.int .i64 0,.string ⟨#[]⟩,.slice none 0 0,.string ⟨#[]⟩] 36)).drew):=R0.drew;have HRB:Hid (jP w (((w.alloc (.cells #[.int .i64 3,.string key,.string body,.string delim,.string past,.int .i64 n,.int .i64 src] 31)).alloc (.cells #[.int .i64 0,.int .i64 0,.string ⟨#[]⟩,.slice none 0 0,.string ⟨#[]⟩] 36)).alloc (.cells #[.int .i64 0,.string ⟨#[]⟩,.bool false] 81)).drew/\bL (((w.alloc (.cells #[.int .i64 3,.string key,.string body,.string delim,.string past,.int .i64 n,.int .i64 src] 31)).alloc (.cells #[.int .i64 0,.int .i64 0,.string ⟨#[]⟩,.slice none 0 0,.string ⟨#[]⟩] 36)).alloc (.cells #[.int .i64 0,.string ⟨#[]⟩,.bool false] 81)).drew (w.heap.size+1+1) (.int .i64 0) (.string ⟨#[]⟩) (.bool false)):=⟨(R0.more _).drew,(rQ _ _ _ _ _ _ (by simp))⟩;have hk0:=S.lt;clear R0 S;simp only [cP];generalize dR st key n=pr at *;obtain ⟨⟨nm,bd,mk⟩,code⟩:=pr;simp only [bV] at HC;go_enter (Yq.nq Tryz.func33),Tryz.ntmps33
 go_upto_region 9 with fail
 go_cut [9,10] (fun s9 s10 wx=>s10=.int .i64 code/\∃bv,s9=.pointer (some ⟨bv,0,none⟩)/\bL wx bv (.int .i64 nm) (.string bd) (.bool mk)/\w.heap.size+1<bv/\jP w wx)
 case first=>
  go_region_with (first
   |(go_at_call 37;refine (HC.out _ HRA.out.below).mono ?_;rintro e w1 ⟨rfl,hb1⟩;have HX:Hid (jP w w1):=HRA.out.to hb1;have hlt:w.heap.size+1<w1.heap.size:=lL HRA.out.lt hb1.size;clear hb1)
   |(go_at_call 37;refine (HC.out _ HRB.out.1.below).mono ?_;rintro e w1 ⟨rfl,hb1⟩;obtain ⟨v0,v1,v2,vf⟩:=HRB.out.2.on hb1;have f0:=vf 0;have f1:=vf 1;have f2:=vf 2;have HV:Hid (bL w1 (w.heap.size+1+1) (.int .i64 0) (.string ⟨#[]⟩) (.bool false)/\jP w w1):=⟨⟨v0,v1,v2,vf⟩,HRB.out.1.to hb1⟩;clear hb1))
  all_goals
   go_wp2_with fail
   go_meet
   case rel=>
    first
     |exact ⟨rfl,w.heap.size+1+1,rfl,((HV.out.1.set0 (.int .i64 nm)).set1 (.string bd)).set2 (.bool mk),by omega,HV.out.2.put3 (.int .i64 nm) (.string bd) (.bool mk)⟩
     |exact ⟨rfl,w1.heap.size,rfl,kn w1 (.int .i64 nm) (.string bd) (.bool mk) 81,hlt,HX.out.more _⟩
 case rest=>
 obtain ⟨rfl,bv,rfl,⟨v0,v1,v2,-⟩,hbv,hres⟩:=hcut;have hne:¬bv=w.heap.size+1:=by omega
 have hlt:=hres.lt;obtain ⟨HBE,-,d0,d1,d2,d3,d4,fz⟩:=hres;have g0:=fz 0;have g1:=fz 1;have g2:=fz 2;have g3:=fz 3;have g4:=fz 4;have HX:Hid (Below w.heap.size w wc):=HBE;clear HBE fz;go_wp2;refine bodyPost_ret (v:=dk ⟨code,0,bd⟩) (by simp [results,Tryz.results33,go_sem,dk,d0,d1,d2,d3,d4]) rfl ?_;have hend:=xn HX.out (.int .i64 code) (.int .i64 0) (.string bd) (.slice none 0 0) (.string ⟨#[]⟩);exact ba HS.out hend
theorem oF (st:St)(o:OpD)(h:o.kind=1):aL st o=((oC st o.key o.body).1,⟨(oC st o.key o.body).2.2,(oC st o.key o.body).2.1,⟨#[]⟩⟩):=by
 unfold aL oC nd;rw [if_pos h];by_cases h1:aY o.key=false
 .simp [h1]
 .by_cases h2:100<o.body.size
  .simp [h1,h2]
  .by_cases h3:200<=st.count
   .simp [h1,h2,h3]
   .simp [h1,h2,h3]
theorem oG (st:St)(o:OpD)(h:o.kind=2):aL st o=(st,⟨(jG st o.key).2,(jG st o.key).1.num,(jG st o.key).1.body⟩):=by
 unfold aL jG;rw [if_neg (by omega),if_pos h];by_cases h1:aY o.key=false
 .simp [h1,dE]
 .cases h2:(st.f o.key.data.toList).getLast? with
  |none=>simp [h1,dE]
  |some v=>cases h3:v.mark<;>simp [h1,h3,dE]
theorem nt (st:St)(o:OpD)(h:o.kind=3):aL st o=(st,⟨(dR st o.key o.n).2,0,(dR st o.key o.n).1.body⟩):=by
 unfold aL dR;rw [if_neg (by omega),if_neg (by omega),if_pos h];by_cases h1:aY o.key=false
 .simp [h1,dE]
 .cases h2:dP (st.f o.key.data.toList) o.n with
  |none=>simp [h1,dE]
  |some r=>
   cases h4:(st.f o.key.data.toList)[r]? with
   |none=>simp [h1,h4,dE]
   |some v=>cases h3:v.mark<;>simp [h1,h3,h4,dE]
theorem nu (st:St)(o:OpD)(h:o.kind=4):aL st o=((gG st o.key).1,⟨(gG st o.key).2.2,(gG st o.key).2.1,⟨#[]⟩⟩):=by
 unfold aL gG nd;rw [if_neg (by omega),if_neg (by omega),if_neg (by omega),if_pos h];by_cases h1:aY o.key=false
 .simp [h1]
 .by_cases h3:200<=st.count
  .simp [h1,h3]
  .simp [h1,h3]
theorem lm (st:St)(o:OpD)(h:o.kind=5):aL st o=((dN st o.key o.n).1,⟨(dN st o.key o.n).2,0,⟨#[]⟩⟩):=by
 unfold aL dN;rw [if_neg (by omega),if_neg (by omega),if_neg (by omega),if_neg (by omega),if_pos h];by_cases h1:aY o.key=false
 .simp [h1]
 .cases h2:dP (st.f o.key.data.toList) o.n<;>simp [h1]
theorem xq (A:Nat->Prop)(k0:Nat)(st:St)(s:Nat)(o:OpD)(w:Wz)(hk:o.key.size<=maxLen)(hbd:o.body.size<=maxLen)(S:az A w k0 st)(hI:Inv st s)(hs:s<2199023255552)(h6:o.kind<6\/12<o.kind):
  Calls Yq.prog 33 #[.pointer (some ⟨k0,0,none⟩),cP o] w (dh A w k0 (aL st o).1 (dk (aL st o).2)):=by
 by_cases h1:o.kind=1
 .rw [oF st o h1];exact xj A k0 st s o w hk hbd S hI hs h1
 by_cases h2:o.kind=2
 .rw [oG st o h2];exact xo A k0 st s o w hk S hI hs h2
 by_cases h3:o.kind=3
 .rw [nt st o h3];exact uf A k0 st s o w hk S hI hs h3
 by_cases h4:o.kind=4
 .rw [nu st o h4];exact ue A k0 st s o w hk S hI hs h4
 by_cases h5:o.kind=5
 .rw [lm st o h5];exact rO A k0 st s o w hk S hI hs h5
 .have e:aL st o=(st,⟨1,0,⟨#[]⟩⟩):=by unfold aL;simp [h1,h2,h3,h4,h5]
  rw [e];exact rP A k0 st o w S (by omega)
theorem Inv.step {st:St}{s:Nat}(h:Inv st s)(o:OpD):Inv (aL st o).1 (s+1):=by
 by_cases h1:o.kind=1
 .rw [oF st o h1];unfold oC
  (repeat' split)<;>first|exact h.mono (by omega)|exact h.add _ _ _
 by_cases h2:o.kind=2
 .rw [oG st o h2];exact h.mono (by omega)
 by_cases h3:o.kind=3
 .rw [nt st o h3];exact h.mono (by omega)
 by_cases h4:o.kind=4
 .rw [nu st o h4];unfold gG
  (repeat' split)<;>first|exact h.mono (by omega)|exact h.add _ _ _
 by_cases h5:o.kind=5
 .rw [lm st o h5];unfold dN;split
  .exact h.mono (by omega)
  .split
   .exact h.mono (by omega)
   .rename_i r hr;exact h.drop _ _ (List.findIdx?_eq_some_iff_getElem.1 hr).1
 .have e:aL st o=(st,⟨1,0,⟨#[]⟩⟩):=by unfold aL;simp [h1,h2,h3,h4,h5]
  rw [e];exact h.mono (by omega)
def st0:St:=⟨fun _=>[],0,0⟩
def je (st:St):List OpD->List Ev
 | []=>[]
 |o::r=>(aL st o).2::je (aL st o).1 r
theorem inv0:Inv st0 0:=by
 refine ⟨by simp [st0],by simp [st0],by simp [st0],by simp [st0],?_,?_⟩
 .intro k i j _ hj;simp [st0] at hj
 .intro k i hi;simp [st0] at hi
def aK (o:OpD):List Wq:=[.int .i64 o.kind,.string o.key,.string o.body,.string o.delim,.string o.past,.int .i64 o.n,.int .i64 o.src]
def pU (w:Wz)(b off:Nat)(ops:List OpD):Prop:=
 ∀i (h:i<ops.length),w.cell? ⟨b,off+i * 7,none⟩=some (.int .i64 ops[i].kind)/\w.cell? ⟨b,off+i * 7+1,none⟩=some (.string ops[i].key)/\w.cell? ⟨b,off+i * 7+2,none⟩=some (.string ops[i].body) /\
  w.cell? ⟨b,off+i * 7+3,none⟩=some (.string ops[i].delim)/\w.cell? ⟨b,off+i * 7+4,none⟩=some (.string ops[i].past)/\w.cell? ⟨b,off+i * 7+5,none⟩=some (.int .i64 ops[i].n)/\w.cell? ⟨b,off+i * 7+6,none⟩=some (.int .i64 ops[i].src)
def Sized (ops:List OpD):Prop:=∀o∈ops,o.key.size<=maxLen/\o.body.size<=maxLen
theorem Yq.infoAns:(Yq.prog.info? 36).map (fun i=>(i.zero,i.size,i.bytes))=some (some (.agg #[.int .i64 0,.int .i64 0,.string ⟨#[]⟩,.slice none 0 0,.string ⟨#[]⟩]),5,72):=by kernel_rfl
theorem lI {P:Program}{ops:Array Oper}{o:Oper}{a:Act}{w:Wz}{K:Act->Wz->Prop}{Q:Exit->Act->Wz->Prop}{E:Prop}
  (hg:o.guard=none) (s x:Operand) (t:Wk) (hop:o.op=Op.call {callee:=Callee.builtin Builtin.append,args:=#[s,x],argTypes:=#[t,t]})
  (base:Nat) (e:Wk) (i:TypeInfo) (size:Nat) (h1:P.underlying t=some (.slice e)) (h2:P.info? e=some i) (h4:i.size=size)
  (g k cap:Nat) (xs:List Wq) (hs:a.eval s=.slice (some ⟨g,0,none⟩) k cap) (hown:w.ownsRow base e size (.slice (some ⟨g,0,none⟩) k cap) k xs) (ad:Ww) (m c:Nat) (news:List Wq) (hx:a.eval x=.slice (some ad) m c) (hn:news.length=m * size)
  (hc:∀j u,news[j]?=some u->w.cell? (ad.add j)=some u) (h1c:∀u∈news,u.oneCell'=true) (b1:k+m<=cap)
  (hK:∀w',w'.ownsRow base e size (.slice (some ⟨g,0,none⟩) (k+m) cap) (k+m) (xs++news)->w.grownBy w' (some g)->K (a.put o.dst (.slice (some ⟨g,0,none⟩) (k+m) cap)) w'):
  if Region.wanted o (yielded ops a.tmps)=true then Oper.wp P o a w K Q else E:=by
 have hw:Region.wanted o (yielded ops a.tmps)=true:=by simp [Region.wanted,hg]
 rw [if_pos hw];obtain ⟨w',hrun,r1,r2⟩:=run_append_fits (P:=P) w base t o.type e i size h1 h2 h4 g k cap xs hown ad m c news hn hc h1c b1;unfold Oper.wp;simp [execOp,hop,resolve,invoke,builtin,hs,hx,hrun,Result.andThen];exact hK w' r1 r2
theorem xr (w:Wz)(x0 x1 x2 x3 x4:Wq)(T:Wk):∀j u,[x0,x1,x2,x3,x4][j]?=some u->(w.alloc (.cells #[x0,x1,x2,x3,x4] T)).cell? ((⟨w.heap.size,0,none⟩:Ww).add j)=some u:=by
 intro j u hj;rw [Addr.add_lit,cA (w:=w) _ _ w.heap.size _ rfl];simpa using hj
theorem pV (w:Wz)(xs:Array Wq)(T:Wk)(j:Nat):(w.alloc (.cells xs T)).cell? ⟨w.heap.size,j,none⟩=xs[j]?:=cA (w:=w) _ _ w.heap.size j rfl
structure dZ (w:Wz)(v:Wq)(ops:List OpD):Prop where
 form:∃a cap,v=.slice a ops.length cap/\(ops≠[]->∃b off,a=some ⟨b,off,none⟩/\pU w b off ops)
 sized:Sized ops
 len:ops.length<=2199023255552
end
section
open Go
open Go.ChangeShapes Go.WideShapes Go.ChangeAt Go.RowKit
theorem FV:ownKnob Tryz.prog.godebug=none:=by kernel_rfl
theorem BX:laidOutB Tryz.prog=true:=by kernel_rfl
theorem vq:Tryz.prog.cellsOf 31=7:=by kernel_rfl
theorem nv:Tryz.prog.cellsOf 3=1:=by kernel_rfl
theorem fm:Tryz.prog.cellsOf 9=1:=by kernel_rfl
theorem BY:Tryz.prog.bytesOf 31=88:=by kernel_rfl
theorem seven {α:Type}(l:List α)(h:l.length=7):∃c0 c1 c2 c3 c4 c5 c6,l=[c0,c1,c2,c3,c4,c5,c6]:=by
 match l,h with
 | [a,b,c,d,e,f,g],_=>exact ⟨a,b,c,d,e,f,g,rfl⟩
theorem Ea {H:Type}{enc:Wk×Wq->H}{W:Wz}{base:Nat}{spare:Nat->Bool}{held:Bool}{fuel:Nat}{cs:List Wq}{x:DataW H×List MemPlace}(h:DataW.trod enc Tryz.prog W base spare held fuel 31 cs=some x):
  ∃o:OpD,cs=aK o/\o.key.size<=maxLen/\o.body.size<=maxLen:=by
 obtain ⟨xs,n,rfl,_,hl,hxs,hf⟩:=DataW.trod_struct Tryz.underlying31 h;rw [vq] at hl;have hx:∀i,i<7->∃y,xs[i]?=some y:=fun i hi=>⟨xs[i]'(by rw [hxs];exact hi),eL _⟩
 obtain ⟨c0,c1,c2,c3,c4,c5,c6,rfl⟩:=seven cs hl
 .skip
  obtain ⟨y0,e0⟩:=hx 0 (by omega);obtain ⟨y1,e1⟩:=hx 1 (by omega);obtain ⟨y2,e2⟩:=hx 2 (by omega);obtain ⟨y3,e3⟩:=hx 3 (by omega);obtain ⟨y4,e4⟩:=hx 4 (by omega);obtain ⟨y5,e5⟩:=hx 5 (by omega);obtain ⟨y6,e6⟩:=hx 6 (by omega);have t0:=hf 0 _ rfl;have t1:=hf 1 _ rfl;have t2:=hf 2 _ rfl;have t3:=hf 3 _ rfl;have t4:=hf 4 _ rfl;have t5:=hf 5 _ rfl;have t6:=hf 6 _ rfl;rw [e0] at t0;rw [e1] at t1;rw [e2] at t2;rw [e3] at t3;rw [e4] at t4;rw [e5] at t5;rw [e6] at t6;obtain ⟨z0,h0,_,_⟩:=DataW.trod_int Tryz.underlying3 t0;obtain ⟨z1,h1,_,s1⟩:=DataW.trod_string Tryz.underlying9 t1;obtain ⟨z2,h2,_,s2⟩:=DataW.trod_string Tryz.underlying9 t2;obtain ⟨z3,h3,_,s3⟩:=DataW.trod_string Tryz.underlying9 t3;obtain ⟨z4,h4,_,s4⟩:=DataW.trod_string Tryz.underlying9 t4;obtain ⟨z5,h5,_,_⟩:=DataW.trod_int Tryz.underlying3 t5;obtain ⟨z6,h6,_,_⟩:=DataW.trod_int Tryz.underlying3 t6;have k0:c0=.int .i64 z0:=by simpa [nv] using h0
  have k1:c1=.string z1:=by simpa [fm] using h1
  have k2:c2=.string z2:=by simpa [fm] using h2
  have k3:c3=.string z3:=by simpa [fm] using h3
  have k4:c4=.string z4:=by simpa [fm] using h4
  have k5:c5=.int .i64 z5:=by simpa [nv] using h5
  have k6:c6=.int .i64 z6:=by simpa [nv] using h6
  subst k0 k1 k2 k3 k4 k5 k6;exact ⟨⟨z0,z1,z2,z3,z4,z5,z6⟩,rfl,s1,s2⟩
theorem ug {H:Type}{enc:Wk×Wq->H}{W:Wz}{fuel:Nat}{a0:Option Ww}{len cap:Nat}{x:DataW H×List MemPlace}(h:DataW.trod enc Tryz.prog W 0 (fun _=>true) true fuel 22 [.slice a0 len cap]=some x)
  (hz:∀elems spare,x.1=.slice elems spare->(elems.length+spare.length) * 88<=140737488355328):
  (∃ops,dZ W (.slice a0 len cap) ops)/\len<=cap/\cap<=maxLen/\cap * 88<=140737488355328:=by
 rcases Go.Deep.open_slice Tryz.underlying22 h with ⟨hcs,_⟩|⟨a,len',cap',m,n,D,Pl,hcs,_,hlc,hcm,hm,hx,hel⟩
 .simp only [List.cons.injEq,Value.slice.injEq,and_true] at hcs;obtain ⟨rfl,rfl,rfl⟩:=hcs;exact ⟨⟨[],⟨none,0,rfl,fun h=>absurd rfl h⟩,fun o ho=>absurd ho List.not_mem_nil,by simp⟩,lR _,by simp [maxLen],by omega⟩
 .simp only [List.cons.injEq,Value.slice.injEq,and_true] at hcs;obtain ⟨rfl,rfl,rfl⟩:=hcs;simp only [if_true] at hm;subst hm;have hb:=hz _ _ (by rw [hx]);simp only [lM,List.length_range] at hb;rw [vq] at hel;have hop:∀i,i<len->∃o:OpD,(∀j,j<7->W.cell? (a.add (i * 7+j))=(aK o)[j]?)/\o.key.size<=maxLen/\o.body.size<=maxLen:=fun i hi=>by
   obtain ⟨cs',h1,h2⟩:=hel i (by omega);obtain ⟨o,rfl,s1,s2⟩:=Ea h2;obtain ⟨_,_,h3⟩:=World.cells?_some h1;refine ⟨o,fun j hj=>?_,s1,s2⟩;rw [<-Go.Deep.add_add];exact h3 j hj
  have hin:Inhabited OpD:=⟨⟨0,⟨#[]⟩,⟨#[]⟩,⟨#[]⟩,⟨#[]⟩,0,0⟩⟩;obtain ⟨f,hf⟩:=Go.Deep.choose_lt (α:=OpD) hop;refine ⟨⟨(List.range len).map f,⟨some a,m,by simp,fun hne=>?_⟩,?_,?_⟩,hlc,hcm,by omega⟩
  .have hlen:0<len:=by
    rcases Nat.eq_zero_or_pos len with h0|h0
    .subst h0;simp at hne
    .exact h0
   obtain ⟨b,off,spot⟩:=a;have hc0:=(hf 0 hlen).1 0 (by omega);have hspot:spot=none:=by
    have:W.cell? ((⟨b,off,spot⟩:Ww).add 0)=some (.int .i64 (f 0).kind):=by simpa [aK] using hc0
    simpa [Addr.add] using World.cell?_spot this
   subst hspot;refine ⟨b,off,rfl,fun i hi=>?_⟩;simp only [lM,List.length_range] at hi;have h7:∀j,j<7->W.cell? ⟨b,off+i * 7+j,none⟩=(aK (f i))[j]?:=fun j hj=>by
    rw [<-(hf i hi).1 j hj,Addr.add_lit];congr 2;omega
   have hg:((List.range len).map f)[i]'(by simpa using hi)=f i:=by simp
   rw [hg];exact ⟨h7 0 (by omega),h7 1 (by omega),h7 2 (by omega),h7 3 (by omega),h7 4 (by omega),h7 5 (by omega),h7 6 (by omega)⟩
  .intro o ho;obtain ⟨i,hi,rfl⟩:=List.mem_map.1 ho;exact (hf i (by simpa using hi)).2
  .simp only [lM,List.length_range];omega
theorem BZ {H:Type}{enc:Wk×Wq->H}{W:Wz}{fuel:Nat}{a0:Option Ww}{len cap B:Nat}{x:DataW H×List MemPlace}(h:DataW.trod enc Tryz.prog W 0 (fun _=>true) true fuel 22 [.slice a0 len cap]=some x)
  (hz:∀elems spare,x.1=.slice elems spare->(elems.length+spare.length) * 88<=B):len * 88<=B:=by
 rcases Go.Deep.open_slice Tryz.underlying22 h with ⟨hcs,_⟩|⟨a,len',cap',m,n,D,Pl,hcs,_,hlc,hcm,hm,hx,hel⟩
 .simp only [List.cons.injEq,Value.slice.injEq,and_true] at hcs;obtain ⟨rfl,rfl,rfl⟩:=hcs;omega
 .simp only [List.cons.injEq,Value.slice.injEq,and_true] at hcs;obtain ⟨rfl,rfl,rfl⟩:=hcs;simp only [if_true] at hm;subst hm;have hb:=hz _ _ (by rw [hx]);simp only [lM,List.length_range] at hb;omega
end
section
open Go
open Go.ChangeShapes Go.WideShapes Go.ChangeAt Go.RowKit
open Go.Conc Go.ConcX Go.ConcX.Gen
def slB (a:Option Ww)(b:Nat):Prop:=∃x,a=some x/\x.block=b
theorem B3 {c:Int}(wc:(Lit.int .i64 c).wf=true):-9223372036854775808<=c/\c<=9223372036854775807:=by
 have h1:IntKind.i64.min=-9223372036854775808:=rfl;have h2:IntKind.i64.max=9223372036854775807:=rfl;simp only [Lit.wf,bT,decide_eq_true_eq] at wc;omega
theorem B4 {w:Wz}(h:laidMetH Tryz.prog YtnapepbdohidgaaGreatDoor.Rows.steadyRow.laid w):pT w:=by
 have h1:laidMet Tryz.prog YtnapepbdohidgaaGreatDoor.Rows.steadyRow.laid w:=h;have h2:=ll (ll h1);have e:(YtnapepbdohidgaaGreatDoor.Rows.laid_internal_strconv_uint64pow10:DataW Unit)=Lib.tabData .u64 Lib.pow10Tab:=by kernel_rfl
 rw [e] at h2;exact Lib.tabIs_of_head (P:=Tryz.prog) (g:=1) (t:=249) (e:=57) (n:=20) (by kernel_rfl) (by kernel_rfl) (by kernel_rfl) (by kernel_rfl) (by kernel_rfl) (by kernel_rfl) h2
theorem zL {H:Type}{enc:Wk×Wq->H}{W:Wz}{base:Nat}{v:Wq}{d:DataW H}{p:List MemPlace}(hv:Value.okWide Tryz.prog W .any base 22 v)(h:DataW.Trod enc Tryz.prog W 0 (fun _=>true) true 22 v d p)(hz:∀elems spare,d=.slice elems spare->(elems.length+spare.length) * 88<=140737488351232):
  ∃a len cap ops,v=.slice a len cap/\dZ W (.slice a len cap) ops/\(∀b,slB a b->∃c e z,W.heap[b]?=some (.cells c e z))/\len * 88<=140737488351232:=by
 obtain ⟨a,len,cap,rfl⟩:=okWide_slice Tryz.underlying22 hv;obtain ⟨fuel,hf⟩:=h;have hf2:DataW.trod enc Tryz.prog W 0 (fun _=>true) true fuel 22 [.slice a len cap]=some (d,p):=by simpa [Value.cells] using hf
 obtain ⟨⟨ops,hS⟩,-,-,-⟩:=ug hf2 (fun elems spare he=>by have:=hz elems spare he;omega);refine ⟨a,len,cap,ops,rfl,hS,?_,BZ hf2 hz⟩;rintro b ⟨x,rfl,rfl⟩;unfold Value.okWide at hv;rw [Tryz.underlying22] at hv;have hv:Cell.okWide Tryz.prog W .any base 22 (.slice (some x) len cap):=hv;unfold Cell.okWide Cell.ok at hv;rw [Tryz.underlying22] at hv;obtain ⟨-,-,-,-,row,cells,hs,-⟩:=hv;unfold World.shape? at hs;split at hs
 .rename_i c e z hh;exact ⟨c,e,z,hh⟩
 .cases hs
theorem B5 {P:Program}{Post Post':Wq->Wz->Prop}{gs:Array Goroutine}{W:Wz}{sl:Option (Nat×Nat)}{t:Trace}(h:Fin P Post gs W sl t)(hp:∀v w',Post v w'->Post' v w'):Fin P Post' gs W sl t:=by
 obtain ⟨N,last,o,w',t',e1,e2,e3,e4⟩:=h;exact ⟨N,last,o,w',t',e1,e2,e3,e4.mono fun v h=>hp v w' h⟩
theorem Eb {H:Type}{enc:Wk×Wq->H}{os:Os}(started:os.Started){fid:FuncId}{fn:Func}{s:ChangeSpec}{laid:List (String×DataW Unit)}(hfn:Tryz.prog.funcs[fid]?=some fn)
  (wit:∃ (w:Wz) (tape:Tape) (i:Input),w.os=os/\(w.forCall tape i).Shaped Tryz.prog/\i.vars=[]/\Input.okWide Tryz.prog (w.forCall tape i) .any w.heap.size fid i/\((s.pre enc Tryz.prog fn [] false (w.forCall tape i).memory i.args/\laidMetH Tryz.prog laid (w.forCall tape i).memory)/\sizedMet enc Tryz.prog fn (OpenSpec.ofChange s) false (w.forCall tape i).memory i.args)/\({}:Assume).holds Tryz.prog (lone (Frame.enter Tryz.prog fid i.args .normal) [] (w.forCall tape i)))
  (contract:∀ (W:Wz) (base:Nat) (args:Array Wq) (ds gs:List (DataW H)) (before:List MemPlace),W.ShapedOpen Tryz.prog->(∀ (j:Nat) t v,fn.params[j]?=some t->args[j]?=some v->Value.okWide Tryz.prog W .any base t v)->DataW.Whole enc Tryz.prog fn.params.toList s.vars false W args.toList ds gs before->(DataW.weightsEach Tryz.prog (fn.params.toList++s.plain.varTypes Tryz.prog) (ds++gs)).all (·<=reachBytes)=true->laidMetH Tryz.prog laid W->Fin Tryz.prog (fun v W'=>s.post enc Tryz.prog fn false true false false W args v W') #[G (Frame.enter Tryz.prog fid args .normal) []] W none #[]):
  ReturnsInLeavingWide {} Tryz.checked os fid .any (fun w args=>(s.pre enc Tryz.prog fn [] false w args/\laidMetH Tryz.prog laid w)/\sizedMet enc Tryz.prog fn (OpenSpec.ofChange s) false w args) (s.post enc Tryz.prog fn false true false false):=by
 refine returnsInLeavingWide_of_good (C:=Tryz.checked) FV started wit ?_;intro w tape i _ hsh _ hok hpre _;obtain ⟨_,_,_,fn',hfn',_,_,_,_,hval⟩:=hok;have e:fn'=fn:=oJ (hfn'.symm.trans hfn);subst e;obtain ⟨⟨⟨ds,gs,before,hw,-⟩,hx⟩,hz⟩:=hpre;obtain ⟨N,last,o,w',t',e1,e2,e3,e4⟩:=contract (w.forCall tape i) w.heap.size i.args ds gs before hsh hval (DataW.Whole.of_heap (w':=w.forCall tape i) (by rfl) hw) (hz.weights hw) (hx.of_heap (by rfl));exact ⟨N,last,o,w',t',e1,e2,e3,e4.mono fun v hp=>ChangeSpec.post_blind hp⟩
end
section
open Go
open Go.Conc Go.ConcX Go.ConcX.Gen Go.RowKit Go.MapKept
abbrev Told:=List (ByteArray×Int×Int)
def plV (x:Int×Int):Wq:=.agg #[.int .i64 x.1,.int .i64 x.2]
def ec (k:ByteArray):Told->Option (Int×Int)
 | []=>none
 |(k',x)::r=>if k=k' then some x else ec k r
def ln (k:ByteArray)(x:Int×Int):Told->Told
 | []=>[(k,x)]
 |(k',x')::r=>if k=k' then (k,x)::r else (k',x')::ln k x r
def ya:List MapEntry->Told->Prop
 | [],[]=>True
 |e::es,(k,x)::r=>e.key=.string k/\e.val=plV x/\ya es r
 |_,_=>False
theorem vr (k:ByteArray):∀ (es:List MapEntry)(t:Told)(i:Nat),ya es t ->
  (∃x j,ec k t=some x/\j<es.length/\Instr.findNow .string (.string k) es i=some (some (i+j,plV x))/\((es[j]?).map (·.key))=some (.string k)/\∀ (x':Int×Int) (es':List MapEntry),es'=es.modify j (fun e=>{e with key:=.string k,val:=plV x'})->ya es' (ln k x' t)) \/
  (ec k t=none/\Instr.findNow .string (.string k) es i=some none/\∀ (x':Int×Int) (n:Nat),ya (es++[⟨.string k,plV x',n⟩]) (ln k x' t)):=by
 intro es;induction es with
 |nil=>
  intro t i h;cases t with
  |nil=>exact .inr ⟨rfl,rfl,fun x' n=>⟨rfl,rfl,trivial⟩⟩
  |cons a r=>exact h.elim
 |cons e es ih=>
  intro t i h;cases t with
  |nil=>exact h.elim
  |cons a r=>
   obtain ⟨k',x⟩:=a;obtain ⟨h1,h2,h3⟩:=h;by_cases hk:k=k'
   .subst hk
    left
    refine ⟨x,0,by simp [ec],by simp,?_,by simp [h1],fun x' es' he=>?_⟩
    .simp [Instr.findNow,Instr.sameNow,h1,h2,(bytes_beq k k).2 rfl]
    .subst he;simp [ln,ya,h3]
   .have hs:Instr.findNow .string (.string k) (e::es) i=Instr.findNow .string (.string k) es (i+1):=by
     have hb:(k==k')=false:=by
      cases h:k==k' with
      |true=>exact absurd ((bytes_beq k k').1 h) hk
      |false=>rfl
     simp [Instr.findNow,Instr.sameNow,h1,hb]
    rcases ih r (i+1) h3 with ⟨y,j,a1,a2,a3,a4,a5⟩|⟨a1,a2,a3⟩
    .left
     refine ⟨y,j+1,by simp [ec,hk,a1],by simp;omega,?_,by simpa using a4,fun x' es' he=>?_⟩
     .rw [hs,a3,show i+1+j=i+(j+1) by omega]
     .subst he;simp only [ln,hk,if_false,List.modify_succ_cons,ya];exact ⟨h1,h2,a5 x' _ rfl⟩
    .right
     refine ⟨by simp [ec,hk,a1],by rw [hs,a2],fun x' n=>?_⟩;simp only [ln,hk,if_false,List.cons_append,ya];exact ⟨h1,h2,a3 x' n⟩
def zM (w:Wz)(mv:Wq)(t:Told)(A:Nat->Prop)(B:Nat):Prop:=
 (mv=.map none/\t=[])\/∃m es clock,mv=.map (some m)/\w.heap[m]?=some (.map es clock)/\ya es.toList t/\¬A m/\B<=m
theorem ig (b:Bool)(k:ByteArray)(w:Wz):(Instr.checkKey b 10000 9 (.string k)).run Yq.prog w=.ok () w:=by
 show (Instr.checkKey b (9999+1) 9 (.string k)).run Yq.prog w=_;rw [Instr.checkKey];simp [go_sem]
theorem Ec (w:Wz):(zeroValue 129).run Yq.prog w=.ok (plV (0,0)) w:=by kernel_rfl
theorem pW {w:Wz}{m:Nat}{o:Obj}(h:w.heap[m]?=some o)(hc:o.isCells=false):Sem.run Yq.prog (getObj m) w=.ok o w:=by
 cases o with
 |cells c e z=>cases hc
 |_=>simp [getObj,Sem.run,h]
theorem zN {w:Wz}{m:Nat}{o o':Obj}(h:w.heap[m]?=some o)(hc:o.isCells=false):Sem.run Yq.prog (setObj m o') w=.ok () (w.putObj m o'):=by
 cases o with
 |cells c e z=>cases hc
 |_=>simp [setObj,Sem.run,h,World.putObj]
theorem kw {w:Wz}{mv:Wq}{t:Told}{A:Nat->Prop}{B:Nat}(h:zM w mv t A B)(k:ByteArray):
  (Instr.lookup 61 mv (.string k) true).run Yq.prog w=.ok (.tuple #[plV ((ec k t).getD (0,0)),.bool (ec k t).isSome]) w:=by
 have hz:=Ec w;rcases h with ⟨rfl,rfl⟩|⟨m,es,clock,rfl,hm,he,-,-⟩
 .simp [Instr.lookup,go_sem,ig,Instr.findKey,Instr.findNow,ec,plV]
 .rcases vr k es.toList t 0 he with ⟨x,j,a1,a2,a3,-⟩|⟨a1,a2,-⟩
  .simp [Instr.lookup,go_sem,ig,Instr.findKey,pW hm rfl,a1,a3]
  .simp [Instr.lookup,go_sem,ig,Instr.findKey,pW hm rfl,a1,a2,plV]
theorem oH {w:Wz}{m:Nat}{es:Array MapEntry}{clock:Nat}{t:Told}(hm:w.heap[m]?=some (.map es clock))(he:ya es.toList t)(k:ByteArray)(x:Int×Int):
  ∃es' clock',(Instr.mapUpdate 61 (.map (some m)) (.string k) (plV x)).run Yq.prog w=.ok () (w.putObj m (.map es' clock'))/\ya es'.toList (ln k x t):=by
 rcases vr k es.toList t 0 he with ⟨y,j,a1,a2,a3,a4,a5⟩|⟨a1,a2,a3⟩
 .refine ⟨es.modify j fun e=>{e with key:=.string k,val:=plV x},clock,?_,a5 x _ (by simp)⟩;have a4':(es[j]?).map (·.key)=some (.string k):=by simpa using a4
  simp [Instr.mapUpdate,go_sem,ig,Instr.findKey,pW hm rfl,zN hm rfl,a3,a4',Instr.keyThatStays,Instr.sameBits,World.putObj,(bytes_beq k k).2 rfl]
 .refine ⟨es.push ⟨.string k,plV x,clock⟩,clock+1,?_,by simpa using a3 x clock⟩;simp [Instr.mapUpdate,go_sem,ig,Instr.findKey,pW hm rfl,zN hm rfl,a2,World.putObj]
end
section
open Go
open Go.Conc Go.ConcX Go.ConcX.Gen Go.RowKit
structure LsA where
 num:Int
 f:List UInt8->List Ver
 q:Qy
 size:Int
 left:Int
def LsA.lst (x:LsA)(r:Option Ww):Lst:=⟨x.num,r,x.q.vs,x.q.p,x.q.d,x.q.af,x.size,x.left⟩
structure Lg where
 opened:List LsA
 begun:Int
 told:Told
 tm:Int
def aV (zs:List (LsA×Option Ww)):List Wq:=zs.flatMap fun z=>(aE (z.1.lst z.2)).toList
theorem kx (zs:List (LsA×Option Ww)):(aV zs).length=zs.length * 8:=ew 8 _ (fun _=>rfl) zs
theorem uh (zs:List (LsA×Option Ww))(z:LsA×Option Ww):aV (zs++[z])=aV zs++(aE (z.1.lst z.2)).toList:=by simp [aV]
def vt (A:Nat->Prop)(B:Nat)(w:Wz)(v:Wq)(xs:List LsA):Prop:=
 ∃zs:List (LsA×Option Ww),xs=zs.map (·.1)/\w.ownsRow B 125 8 v zs.length (aV zs)/\(∀g,v.ownBlock=some g->¬A g)/\∀z∈zs,ai A 41 w z.2 z.1.f
structure di (A:Nat->Prop)(B:Nat)(w:Wz)(k0:Nat)(L:Lg):Prop where
 opened:∃v,w.cell? ⟨k0,4,none⟩=some v/\vt A B w v L.opened
 begun:w.cell? ⟨k0,5,none⟩=some (.int .i64 L.begun)
 told:∃mv,w.cell? ⟨k0,6,none⟩=some mv/\zM w mv L.told A B
 frozen:∀j,w.frozen? ⟨k0,j,none⟩=false
 avoid:¬A k0
 low:k0<B
 inn:∀b,A b->b<w.heap.size
structure aI (A:Nat->Prop)(B k0:Nat)(w w':Wz):Prop where
 os:w'.os=w.os
 size:w.heap.size<=w'.heap.size
 low:∀b,b<B->b<w.heap.size->b≠k0->w'.heap[b]?=w.heap[b]?
 tree:∀b,A b->b<w.heap.size->w'.heap[b]?=w.heap[b]?
 cells:∀j,j<4\/6<j->w'.cell? ⟨k0,j,none⟩=w.cell? ⟨k0,j,none⟩
 fz:∀j,w'.frozen? ⟨k0,j,none⟩=w.frozen? ⟨k0,j,none⟩
section
variable {A:Nat->Prop} {B k0:Nat} {w w' w'':Wz} {L:Lg}
theorem aI.refl:aI A B k0 w w:=⟨rfl,lR _,fun _ _ _ _=>rfl,fun _ _ _=>rfl,fun _ _=>rfl,fun _=>rfl⟩
theorem aI.trans (h:aI A B k0 w w')(k:aI A B k0 w' w''):aI A B k0 w w'':=
 ⟨k.os.trans h.os,lT h.size k.size,fun b h1 h2 h3=>(k.low b h1 (lL h2 h.size) h3).trans (h.low b h1 h2 h3),fun b h1 h2=>(k.tree b h1 (lL h2 h.size)).trans (h.tree b h1 h2),fun j hj=>(k.cells j hj).trans (h.cells j hj),fun j=>(k.fz j).trans (h.fz j)⟩
theorem di.lt (h:di A B w k0 L):k0<w.heap.size:=bC w _ h.begun
theorem aI.left (hk:k0<w.heap.size)(h:aj w w'):aI A B k0 w w':=
 ⟨h.os,h.size,fun b _ h2 _=>h.block b h2,fun b _ h2=>h.block b h2,fun j _=>cB (a:=⟨k0,j,none⟩) (h.block k0 hk),fun j=>fB (a:=⟨k0,j,none⟩) (h.block k0 hk)⟩
theorem aj.refl:aj w w:=⟨rfl,lR _,fun _ _=>rfl⟩
theorem aj.trans (h:aj w w')(k:aj w' w''):aj w w'':=⟨k.os.trans h.os,lT h.size k.size,fun b hb=>(k.block b (lL hb h.size)).trans (h.block b hb)⟩
theorem aj.below (h:Below w.heap.size w w'):aj w w':=⟨h.os,h.size,h.block⟩
theorem aj.alloc (h:aj w w')(o:Obj):aj w (w'.alloc o):=⟨h.os,by have:=h.size;simp;omega,fun b hb=>(bA _ _ _ (lL hb h.size)).trans (h.block b hb)⟩
theorem aj.drew (h:aj w w'):aj w w'.drew:=⟨h.os,h.size,h.block⟩
theorem aj.cell (h:aj w w'){b j:Nat}{v:Wq}(hc:w.cell? ⟨b,j,none⟩=some v):w'.cell? ⟨b,j,none⟩=some v:=
 (cB (a:=⟨b,j,none⟩) (h.block b (bC w _ hc))).trans hc
theorem aj.set (h:aj w w'){b:Nat}(hb:w.heap.size<=b)(j:Nat)(v:Wq):aj w (w'.setCell ⟨b,j,none⟩ v):=
 ⟨h.os,by have:=h.size;simp;omega,fun k hk=>(bS _ _ _ _ (by show k≠b;omega)).trans (h.block k hk)⟩
theorem zM.left {mv:Wq}{t:Told}(h:zM w mv t A B)(hl:aj w w'):zM w' mv t A B:=by
 rcases h with h|⟨m,es,clock,h1,h2,h3⟩
 .exact .inl h
 .exact .inr ⟨m,es,clock,h1,(hl.block m (eS h2).1).trans h2,h3⟩
theorem vt.left {v:Wq}{xs:List LsA}(h:vt A B w v xs)(hl:aj w w'):vt A B w' v xs:=by
 obtain ⟨zs,h1,h2,h3,h4⟩:=h;exact ⟨zs,h1,bc h2 fun g _ hg=>hl.block g hg,h3,fun z hz=>ai.keep (fun b hb hlt=>⟨hb,hl.block b hlt⟩) 41 _ _ (h4 z hz)⟩
theorem di.left (h:di A B w k0 L)(hl:aj w w'):di A B w' k0 L:=by
 obtain ⟨v,c4,ho⟩:=h.opened;obtain ⟨mv,c6,hm⟩:=h.told;exact ⟨⟨v,hl.cell c4,ho.left hl⟩,hl.cell h.begun,⟨mv,hl.cell c6,hm.left hl⟩,fun j=>(fB (a:=⟨k0,j,none⟩) (hl.block k0 h.lt)).trans (h.frozen j),h.avoid,h.low,fun b hb=>lL (h.inn b hb) hl.size⟩
theorem putMap {m:Nat}{es es':Array MapEntry}{clock clock':Nat}(_hm:w.heap[m]?=some (.map es clock))(hA:¬A m)(hB:B<=m)(hk:k0<B):aI A B k0 w (w.putObj m (.map es' clock')):=by
 have hne:∀b,b≠m->(w.putObj m (.map es' clock')).heap[b]?=w.heap[b]?:=fun b hb=>pO hb
 exact ⟨rfl,by simp,fun b h1 h2 _=>hne b (by omega),fun b h1 h2=>hne b (fun e=>hA (e▸h1)),fun j _=>cB (a:=⟨k0,j,none⟩) (hne k0 (by omega)),fun j=>fB (a:=⟨k0,j,none⟩) (hne k0 (by omega))⟩
theorem di.putMap (h:di A B w k0 L){m:Nat}{es es':Array MapEntry}{clock clock':Nat}(c6:w.cell? ⟨k0,6,none⟩=some (.map (some m)))(hm:w.heap[m]?=some (.map es clock))(hA:¬A m)(hB:B<=m){t:Told}(he:ya es'.toList t):di A B (w.putObj m (.map es' clock')) k0 {L with told:=t}:=by
 have hne:∀b,b≠m->(w.putObj m (.map es' clock')).heap[b]?=w.heap[b]?:=fun b hb=>pO hb
 have hk:=h.low;have hce:∀j,(w.putObj m (.map es' clock')).cell? ⟨k0,j,none⟩=w.cell? ⟨k0,j,none⟩:=fun j=>cB (a:=⟨k0,j,none⟩) (hne k0 (by omega))
 obtain ⟨v,c4,zs,h1,h2,h3,h4⟩:=h.opened;refine ⟨⟨v,(hce 4).trans c4,zs,h1,?_,h3,fun z hz=>ai.keep (fun b hb hlt=>⟨hb,hne b (fun e=>hA (e▸hb))⟩) 41 _ _ (h4 z hz)⟩,(hce 5).trans h.begun,⟨_,(hce 6).trans c6,.inr ⟨m,es',clock',rfl,World.putObj_heap_same (eS hm).1,he,hA,hB⟩⟩,fun j=>(fB (a:=⟨k0,j,none⟩) (hne k0 (by omega))).trans (h.frozen j),h.avoid,h.low,fun b hb=>by simpa using h.inn b hb⟩;refine ⟨h2.1,?_⟩;rcases h2.2 with h5|⟨g,cap,cur,hv,hg,hr,r⟩
 .exact .inl h5
 .refine .inr ⟨g,cap,cur,hv,hg,(hne g fun e=>?_).trans hr,r⟩;subst e;rw [hr] at hm;cases hm
end
def jf (k0:Nat)(w:Wz)(b:Nat):Prop:=∃v,w.cell? ⟨k0,4,none⟩=some v/\v.ownBlock=some b
structure FrC (k0:Nat)(w w':Wz):Prop where
 size:w.heap.size<=w'.heap.size
 keep:∀b,cn w b->b≠k0->¬jf k0 w b->w'.heap[b]?=w.heap[b]?
 own:∀b,jf k0 w' b->jf k0 w b\/w.heap.size<=b
section
variable {k0:Nat} {w w' w'':Wz}
theorem cn.same {b:Nat}(h:cn w b)(e:w'.heap[b]?=w.heap[b]?):cn w' b:=by
 obtain ⟨o,h1,h2⟩:=h;exact ⟨o,e.trans h1,h2⟩
theorem FrC.refl:FrC k0 w w:=⟨lR _,fun _ _ _ _=>rfl,fun _ h=>.inl h⟩
theorem FrC.trans (h:FrC k0 w w')(k:FrC k0 w' w''):FrC k0 w w'':=by
 refine ⟨lT h.size k.size,fun b hb hk ho=>?_,fun b ho=>?_⟩
 .have e:=h.keep b hb hk ho;refine (k.keep b (hb.same e) hk fun h2=>?_).trans e;rcases h.own b h2 with h3|h3
  .exact ho h3
  .have:=hb.lt;omega
 .rcases k.own b ho with h2|h2
  .exact h.own b h2
  .exact .inr (lT h.size h2)
theorem FrC.same4 (hs:w.heap.size<=w'.heap.size)(h4:w'.cell? ⟨k0,4,none⟩=w.cell? ⟨k0,4,none⟩)(h:∀b,cn w b->b≠k0->¬jf k0 w b->w'.heap[b]?=w.heap[b]?):FrC k0 w w':=
 ⟨hs,h,fun b ho=>.inl (by obtain ⟨v,h1,h2⟩:=ho;exact ⟨v,h4.symm.trans h1,h2⟩)⟩
theorem FrC.left (hk:k0<w.heap.size)(h:aj w w'):FrC k0 w w':=FrC.same4 h.size (cB (a:=⟨k0,4,none⟩) (h.block k0 hk)) fun b hb _ _=>h.block b hb.lt
theorem FrC.set (j:Nat)(v:Wq)(hj:j≠4):FrC k0 w (w.setCell ⟨k0,j,none⟩ v):=
 FrC.same4 (by simp) (cO _ _ _ _ (bE hj)) fun b _ hb _=>bS _ _ _ _ hb
theorem FrC.open {g j:Nat}{v:Wq}(ho:jf k0 w g)(hg:g≠k0):FrC k0 w (w.setCell ⟨g,j,none⟩ v):=
 FrC.same4 (by simp) (cB (a:=⟨k0,4,none⟩) (bS _ _ _ _ (fun e=>hg e.symm))) fun b _ _ h=>bS _ _ _ _ (fun e=>h (by rw [show b=g from e];exact ho))
theorem FrC.fresh {r j:Nat}{v:Wq}{W:Wz}(h:FrC k0 W w)(hr:W.heap.size<=r)(hk:r≠k0):FrC k0 W (w.setCell ⟨r,j,none⟩ v):=by
 refine ⟨by have:=h.size;simpa using this,fun b hb hbk ho=>(bS _ _ _ _ (show b≠r by have:=hb.lt;omega)).trans (h.keep b hb hbk ho),fun b ho=>?_⟩;refine h.own b ?_;obtain ⟨x,h1,h2⟩:=ho;exact ⟨x,(cB (a:=⟨k0,4,none⟩) (bS _ _ _ _ (fun e=>hk e.symm))).symm.trans h1,h2⟩
theorem FrC.keepC (h:dq k0 w w')(h4:w'.cell? ⟨k0,4,none⟩=w.cell? ⟨k0,4,none⟩):FrC k0 w w':=
 FrC.same4 h.1 h4 fun b hb hk _=>by
  obtain ⟨o,h1,h2⟩:=hb;exact (h.2.2 b o h1 h2 hk).trans h1.symm
end
theorem iO {P:Program}{ops:Array Oper}{o:Oper}{a:Act}{w w':Wz}{K:Act->Wz->Prop}{Q:Exit->Act->Wz->Prop}{E:Prop}(hg:o.guard=none)(t:Wk)(x y z:Operand)(hop:o.op=.mapUpdate t x y z)
  (hr:(Instr.mapUpdate t (a.eval x) (a.eval y) (a.eval z)).run P w=.ok () w') (hK:K (a.put o.dst undef) w'):
  if Region.wanted o (yielded ops a.tmps)=true then Oper.wp P o a w K Q else E:=by
 have hw:Region.wanted o (yielded ops a.tmps)=true:=by simp [Region.wanted,hg]
 rw [if_pos hw];unfold Oper.wp;simp [execOp,hop,hr,Result.andThen];exact hK
end
