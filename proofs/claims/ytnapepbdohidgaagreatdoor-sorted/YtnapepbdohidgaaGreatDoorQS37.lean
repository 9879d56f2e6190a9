/- A part. -/
import Derived.Test.YtnapepbdohidgaaGreatDoorQS27
set_option maxHeartbeats 16000000
set_option maxRecDepth 100000
open Go renaming World->Wz
namespace Go.Proofs.Qw
section
open Go
open Go.Conc Go.ConcX Go.ConcX.Gen Go.RowKit
section
variable {A:Nat->Prop} {B k0:Nat} {w:Wz} {st:St} {L:Lg}
theorem sj (kd:Int)(vs:Bool)(hkd:kd=7/\vs=true)(Qok:Qy->Prop)(hQ:∀q,Qok q->gp q/\gq q)(h:aW A B w k0 st L)(hB:B<=w.heap.size)(hop:L.opened.length<=3)(key body delim past:ByteArray)(n src:Int)(hq:Qok ⟨vs,key,delim,past⟩)(hsum:fV (bI st.f key.data.toList)<=1000)(hp:key.size<=maxLen)(hbg:0<=L.begun/\L.begun<2199023255552)(G:Wz->Prop)(hGg:∀w',G w'->cM w')(hG:∀w',aI A B k0 w w'->G w')(hT:jK G (L.begun+1) 2):
  Calls Yq.prog 33 #[.pointer (some ⟨k0,0,none⟩),cP ⟨kd,key,body,delim,past,n,src⟩] w fun e w'=>bh A B k0 w st (d7 L st.f ⟨vs,key,delim,past⟩ n).1 ⟨(d7 L st.f ⟨vs,key,delim,past⟩ n).2.2.2,0,⟨#[]⟩,(d7 L st.f ⟨vs,key,delim,past⟩ n).2.1,(d7 L st.f ⟨vs,key,delim,past⟩ n).2.2.1⟩ e w'\/Stop Qok e w':=by
 obtain ⟨R,hR⟩:∃R,R=d7 L st.f ⟨vs,key,delim,past⟩ n:=⟨_,rfl⟩;obtain ⟨o,ho⟩:∃o:OpD,o=⟨kd,key,body,delim,past,n,src⟩:=⟨_,rfl⟩;obtain ⟨p,cp,hN⟩:=h.store.tree;have HST:Hid (∀W,aj (cI w o) W->Calls Yq.prog 41 #[.pointer (some ⟨k0,0,none⟩)] W fun e w'=>∃v,e=.returned v/\(v=.agg #[.pointer p]/\aj (cI w o) w'/\aj W w')):=fun W hl=>by
  refine (vz k0 p W (((aJ o).trans hl).cell cp)).mono ?_;rintro e w' ⟨rfl,rfl⟩;exact ⟨_,rfl,rfl,hl.alloc _,aj.refl.alloc _⟩
 have HQY:Hid (∀W,aj (cI w o) W->Calls Yq.prog 42 #[cP ⟨kd,key,body,delim,past,n,src⟩] W fun e w'=>∃v,e=.returned v/\(v=.agg #[.bool vs,.string key,.string delim,.string past]/\aj (cI w o) w'/\aj W w')):=fun W hl=>by
  refine (vA ⟨kd,key,body,delim,past,n,src⟩ W).mono ?_;rintro e w' ⟨rfl,hb⟩;have hv:((OpD.mk kd key body delim past n src).kind==7)=vs:=by rcases hkd with ⟨rfl,rfl⟩;rfl
  exact ⟨_,rfl,by rw [hv];rfl,hl.trans (.below hb),.below hb⟩
 have HNX:Hid (∀W,aj (cI w o) W->Calls Yq.prog 40 #[.pointer (some ⟨k0,4,none⟩),.agg #[.pointer p],.agg #[.bool vs,.string key,.string delim,.string past],.int .i64 n] W fun e w'=>(∃v,e=.returned v/\∃so sn sc,v=.tuple #[.agg #[.slice so sn sc,.string R.2.2.1],.int .i64 R.2.2.2]/\aQ A B k0 W R.1 R.2.1 (.slice so sn sc) w')\/∃ch,e=.panicked ch/\Stop Qok (.panicked ch) w'):=fun W hl=>by
  have hl':=(aJ o).trans hl;have hd:=h.left hl';have hs:=hl'.size;have hN':ai A 41 W p st.f:=by
   obtain ⟨p',cp',hN'⟩:=hd.store.tree;rw [hl'.cell cp] at cp';cases cp';exact hN'
  refine (vB Qok hQ W hd.ls (by omega) p st.f ⟨vs,key,delim,past⟩ n hN' hq hsum hp hbg hop G hGg (fun w' hl2=>hG w' (aI.left h.ls.lt (hl'.trans hl2))) hT).mono ?_;rw [<-hR];rintro e w' (⟨sv,rfl,hp⟩|hst)
  .obtain ⟨A',a1,a2,a3,a4,⟨so,sc,rfl,a6⟩,a7⟩:=hp;exact .inl ⟨_,rfl,so,_,sc,rfl,A',a1,a2,a3,a4,⟨so,sc,rfl,a6⟩,a7⟩
  .obtain ⟨a,b,r,rfl,hst⟩:=hst;exact .inr ⟨_,rfl,a,b,r,rfl,hst⟩
 rw [<-hR];have HEN:Hid (∀ (f:Nat) (args:Array Value) (wx:Wz),(f=40\/f=41\/f=42)->(callFunc f args).run Yq.prog wx=.ok (.enter f args) wx):=fun f args wx hf=>by rcases hf with rfl|rfl|rfl<;>go_simp
 have HOC:Hid (∀W,aj (cI w o) W->(W.cell? ⟨w.heap.size,0,none⟩=some (.int .i64 kd)/\W.cell? ⟨w.heap.size,1,none⟩=some (.string key)/\W.cell? ⟨w.heap.size,2,none⟩=some (.string body)/\W.cell? ⟨w.heap.size,3,none⟩=some (.string delim)/\W.cell? ⟨w.heap.size,4,none⟩=some (.string past)/\W.cell? ⟨w.heap.size,5,none⟩=some (.int .i64 n)/\W.cell? ⟨w.heap.size,6,none⟩=some (.int .i64 src))/\w.heap.size+2<=W.heap.size):=fun W hl=>by
  have e:W.heap[w.heap.size]?=some (.cells #[.int .i64 kd,.string key,.string body,.string delim,.string past,.int .i64 n,.int .i64 src] 31):=by
   rw [hl.block _ (by rw [aO];omega)];subst ho;rw [cI,bA _ _ _ (by simp),aN]
  have hs:=hl.size;rw [aO] at hs;refine ⟨⟨?_,?_,?_,?_,?_,?_,?_⟩,hs⟩<;>simp [World.cell?,e]
 have HBX:Hid (∀W w2 bb,aj (cI w o) W->∀ {its:List ItD} {sv:Value} {L':Lg},aQ A B k0 W L' its sv w2->w.heap.size+2<=bb->W.heap[bb]?=some (.cells #[.slice none 0 0,.string ⟨#[]⟩] 88)->w2.cell? ⟨bb,0,none⟩=some (.slice none 0 0)/\w2.cell? ⟨bb,1,none⟩=some (.string ⟨#[]⟩)/\w2.frozen? ⟨bb,0,none⟩=false/\w2.frozen? ⟨bb,1,none⟩=false):=fun W w2 bb hl its sv L' hp hbb hbx=>by
  obtain ⟨A',-,-,-,-,-,hf⟩:=hp;have hlt:=h.ls.lt;have e:w2.heap[bb]?=some (.cells #[.slice none 0 0,.string ⟨#[]⟩] 88):=by
   rw [hf.keep bb ⟨_,hbx,rfl⟩ (by omega) ?_]
   .exact hbx
   .rintro ⟨v,h1,h2⟩;obtain ⟨v4,c4,zs,z1,z2,-⟩:=h.ls.opened;rw [((aJ o).trans hl).cell c4] at h1;cases h1;have:=(z2.lt bb h2).2;omega
  exact ⟨by simp [World.cell?,e],by simp [World.cell?,e],by simp [World.frozen?,e],by simp [World.frozen?,e]⟩
 have HB2:Hid (∀w1,aj ((cI w o).alloc (.cells #[.slice none 0 0,.string ⟨#[]⟩] 88)).drew w1->w1.heap[w.heap.size+1+1]?=some (.cells #[.slice none 0 0,.string ⟨#[]⟩] 88)):=fun w1 hb=>by
  have:=aN (cI w o) (.cells #[.slice none 0 0,.string ⟨#[]⟩] 88);rw [aO] at this;exact (hb.block _ (by simp [aO])).trans this
 have HB4:Hid (∀ (W w':Wz),aj (W.alloc (.cells #[.slice none 0 0,.string ⟨#[]⟩] 88)) w'->w'.heap[W.heap.size]?=some (.cells #[.slice none 0 0,.string ⟨#[]⟩] 88)):=fun W w' hl=>(hl.block _ (by simp)).trans (aN W _)
 have HB6:Hid (∀ (W w':Wz) (bb:Nat),aj W w'->W.heap[bb]?=some (.cells #[.slice none 0 0,.string ⟨#[]⟩] 88)->w'.heap[bb]?=some (.cells #[.slice none 0 0,.string ⟨#[]⟩] 88)):=fun W w' bb hl hx=>(hl.block _ (eS hx).1).trans hx
 have HB5:Hid (∀W w2,aj (cI w o) W->∀ {sv:Value},aQ A B k0 W R.1 R.2.1 sv w2->_):=fun W w2 hl sv hp=>box5 (pZ h.ls hl hp)
 have HTM:Hid (R.1.tm=L.tm):=by rw [hR];exact zY _ _ _ _
 have HLA:Hid (∀W w2 so sn sc,aj (cI w o) W->aQ A B k0 W R.1 R.2.1 (.slice so sn sc) w2->∀x0 x1 x2 x3 x4 O,bh A B k0 w st R.1 ⟨R.2.2.2,0,⟨#[]⟩,R.2.1,R.2.2.1⟩ (.returned (il ⟨R.2.2.2,0,⟨#[]⟩,R.2.1,R.2.2.1⟩ (.slice so sn sc))) (put5 (w2.alloc O) (w.heap.size+1) x0 x1 x2 x3 x4)):=fun W w2 so sn sc hl hp x0 x1 x2 x3 x4 O=>p8 h hB hl (hp.alloc O) _ rfl HTM.out x0 x1 x2 x3 x4
 have HLB:Hid (∀W w2 so sn sc,aj (cI w o) W->aQ A B k0 W R.1 R.2.1 (.slice so sn sc) w2->∀bb,w.heap.size+2<=bb->W.heap[bb]?=some (.cells #[.slice none 0 0,.string ⟨#[]⟩] 88)->∀y0 y1 x0 x1 x2 x3 x4,bh A B k0 w st R.1 ⟨R.2.2.2,0,⟨#[]⟩,R.2.1,R.2.2.1⟩ (.returned (il ⟨R.2.2.2,0,⟨#[]⟩,R.2.1,R.2.2.1⟩ (.slice so sn sc))) (put5 ((w2.setCell ⟨bb,0,none⟩ y0).setCell ⟨bb,1,none⟩ y1) (w.heap.size+1) x0 x1 x2 x3 x4)):=fun W w2 so sn sc hl hp bb h1 h2 y0 y1 x0 x1 x2 x3 x4=>nB h hB hl hp _ rfl HTM.out bb h1 (eS h2).1 ⟨_,h2,rfl⟩ y0 y1 x0 x1 x2 x3 x4
 have hb3:=kE;have hlt0:=h.ls.lt;clear hR hN cp h hsum hp hq hbg hT hG hGg hQ hop hB;subst ho;unfold cI at HST HQY HNX HOC HBX HB2 HB5 HLA HLB;unfold cP at HQY ⊢;rcases hkd with ⟨rfl,rfl⟩;go_enter (Yq.nq Tryz.func33),Tryz.ntmps33;go_wp2_with fail
 go_region_law (first
  |(refine bj rfl 41 #[.tmp 103] #[59] rfl #[.pointer (some ⟨k0,0,none⟩)] (by first|(simp [Act.eval];done)|(simp [Act.eval,Act.put];done)|go_simp) (HEN.out _ _ _ (Or.inr (Or.inl rfl))) _ (HST.out _ aj.refl.drew) ?_;rintro v w1 ⟨rfl,h1,hb1⟩;obtain ⟨⟨c0,c1,c2,c3,c4,c5,c6⟩,hs1⟩:=HOC.out _ h1;clear hb1;have e0:=an c0;have e1:=an c1;have e2:=an c2;have e3:=an c3;have e4:=an c4;have e5:=an c5;have e6:=an c6)
  |(refine bj rfl 41 #[.tmp 103] #[59] rfl #[.pointer (some ⟨k0,0,none⟩)] (by first|(simp [Act.eval];done)|(simp [Act.eval,Act.put];done)|go_simp) (HEN.out _ _ _ (Or.inr (Or.inl rfl))) _ (HST.out _ (aj.refl.alloc _).drew) ?_;rintro v w1 ⟨rfl,h1,hb1⟩;obtain ⟨⟨c0,c1,c2,c3,c4,c5,c6⟩,hs1⟩:=HOC.out _ h1;have hx:=HB2.out _ hb1;clear hb1)
  |(refine bj rfl 42 #[.tmp 105] #[31] rfl _ (by first|(simp [Act.eval];done)|go_simp) (HEN.out _ _ _ (Or.inr (Or.inr rfl))) _ (HQY.out w1 h1) ?_;rintro v w2 ⟨rfl,h2,hb2⟩;obtain ⟨⟨d0,d1,d2,d3,d4,d5,d6⟩,hs2⟩:=HOC.out _ h2;have f5:=an d5;try (replace hx:=HB6.out _ _ _ hb2 hx);clear hb2 d0 d1 d2 d3 d4 d6)
  |(refine bj rfl 42 #[.tmp 105] #[31] rfl _ (by first|(simp [Act.eval];done)|go_simp) (HEN.out _ _ _ (Or.inr (Or.inr rfl))) _ (HQY.out (w1.alloc _) (h1.alloc _)) ?_;rintro v w2 ⟨rfl,h2,hb2⟩;obtain ⟨⟨d0,d1,d2,d3,d4,d5,d6⟩,hs2⟩:=HOC.out _ h2;have hx:=HB4.out _ _ hb2;clear hb2 d0 d1 d2 d3 d4 d6)
  |(refine bX rfl 40 #[.tmp 100,.tmp 104,.tmp 106,.tmp 108] #[63,56,93,3] rfl _ (by first|(simp [Act.eval];done)|go_simp) (HEN.out _ _ _ (Or.inl rfl)) _ (fun ch w'=>Stop Qok (.panicked ch) w') (HNX.out w2 h2) (fun ch w' hs=>⟨rfl,Or.inr hs⟩) ?_;rintro v w3 ⟨so,sn,sc,rfl,hpost⟩;obtain ⟨v0,v1,o0,o1⟩:=HBX.out _ w3 _ h2 hpost (by omega) hx;obtain ⟨⟨t0,t1,t2,t3,t4⟩,u0,u1,u2,u3,u4⟩:=HB5.out _ w3 h2 hpost;have HFA:=HLB.out _ w3 so sn sc h2 hpost _ (by omega) hx;have hne1:w.heap.size+1≠w1.heap.size:=(by omega);have hne2:w1.heap.size≠w.heap.size+1:=hne1.symm;clear hpost hx)
  |(refine bX rfl 40 #[.tmp 100,.tmp 104,.tmp 106,.tmp 108] #[63,56,93,3] rfl _ (by first|(simp [Act.eval];done)|go_simp) (HEN.out _ _ _ (Or.inl rfl)) _ (fun ch w'=>Stop Qok (.panicked ch) w') (HNX.out w2 h2) (fun ch w' hs=>⟨rfl,Or.inr hs⟩) ?_;rintro v w3 ⟨so,sn,sc,rfl,hpost⟩;obtain ⟨⟨t0,t1,t2,t3,t4⟩,u0,u1,u2,u3,u4⟩:=HB5.out _ w3 h2 hpost;have HFA:=HLA.out _ w3 so sn sc h2 hpost;have q0:=an t0;have q1:=an t1;have q2:=an t2;have q3:=an t3;have q4:=an t4;have p0:=aA t0 u0;have p1:=aA t1 u1;have p2:=aA t2 u2;have p3:=aA t3 u3;have p4:=aA t4 u4;clear hpost)
  |(refine bX rfl 40 #[.tmp 100,.tmp 104,.tmp 106,.tmp 108] #[63,56,93,3] rfl _ (by first|(simp [Act.eval];done)|(simp [Act.eval,Act.put];done)|go_simp) (HEN.out _ _ _ (Or.inl rfl)) _ (fun ch w'=>Stop Qok (.panicked ch) w') (HNX.out (w2.alloc _) (h2.alloc _)) (fun ch w' hs=>⟨rfl,Or.inr hs⟩) ?_;rintro v w3 ⟨so,sn,sc,rfl,hpost⟩;obtain ⟨v0,v1,o0,o1⟩:=HBX.out _ w3 w2.heap.size (h2.alloc _) hpost hs2 (aN w2 _);obtain ⟨⟨t0,t1,t2,t3,t4⟩,u0,u1,u2,u3,u4⟩:=HB5.out _ w3 (h2.alloc _) hpost;have HFA:=HLB.out _ w3 so sn sc (h2.alloc _) hpost w2.heap.size hs2 (aN w2 _);have hne1:w.heap.size+1≠w2.heap.size:=(by omega);have hne2:w2.heap.size≠w.heap.size+1:=hne1.symm;clear hpost))
 all_goals go_wp2
 all_goals clear HST HQY HNX HOC HBX HB2 HB4 HB5 HB6 HLA HLB HEN
 all_goals
  refine bodyPost_ret (v:=il ⟨R.2.2.2,0,⟨#[]⟩,R.2.1,R.2.2.1⟩ (.slice so sn sc)) ?_ rfl (.inl ?_)
  .clear HFA;first
    |simp [results,Tryz.results33,go_sem,il,q0,q1,q2,q3,q4]
    |simp [results,Tryz.results33,go_sem,il,t0,t1,t2,t3,t4]
  .unfold put5 at HFA;refine HFA ..
end
end
