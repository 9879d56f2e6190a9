/- A part. -/
import Derived.Test.YtnapepbdohidgaaGreatDoorQU18
set_option maxHeartbeats 16000000
set_option maxRecDepth 100000
open Go renaming World->Wz
namespace Go.Proofs.Qw
section
open Go
open Go.Conc Go.ConcX Go.ConcX.Gen Go.RowKit
section
variable {A:Nat->Prop} {B k0:Nat} {w:Wz} {st:St} {L:Lg}
theorem te (kd:Int)(vs:Bool)(hkd:kd=6/\vs=false)(Qok:Qy->Prop)(hQ:∀q,Qok q->gH q/\gI q)(h:aH A B w k0 st L)(hB:B<=w.heap.size)(hop:L.opened.length<=3)(key body delim past:ByteArray)(n src:Int)(hq:Qok ⟨vs,key,delim,past⟩)(hsum:gm (db st.f key.data.toList)<=1000)(hp:key.size<=maxLen)(hbg:0<=L.begun/\L.begun<2199023255552)(G:Wz->Prop)(hGg:∀w',G w'->cI w')(hG:∀w',aI A B k0 w w'->G w')(hT:jY G (L.begun+1) 2):
  Calls Yq.prog 33 #[.pointer (some ⟨k0,0,none⟩),cj ⟨kd,key,body,delim,past,n,src⟩] w fun e w'=>bg A B k0 w st (gu L st.f ⟨vs,key,delim,past⟩ n).1 ⟨(gu L st.f ⟨vs,key,delim,past⟩ n).2.2.2,0,⟨#[]⟩,(gu L st.f ⟨vs,key,delim,past⟩ n).2.1,(gu L st.f ⟨vs,key,delim,past⟩ n).2.2.1⟩ e w'\/Stop Qok e w':=by
 obtain ⟨R,hR⟩:∃R,R=gu L st.f ⟨vs,key,delim,past⟩ n:=⟨_,rfl⟩;obtain ⟨o,ho⟩:∃o:OpD,o=⟨kd,key,body,delim,past,n,src⟩:=⟨_,rfl⟩;obtain ⟨p,cp,hN⟩:=h.store.tree;have HST:Hid (∀W,ak (cx w o) W->Calls Yq.prog 41 #[.pointer (some ⟨k0,0,none⟩)] W fun e w'=>∃v,e=.returned v/\(v=.agg #[.pointer p]/\ak (cx w o) w'/\ak W w')):=fun W hl=>by
  refine (wv k0 p W (((aK o).trans hl).cell cp)).mono ?_;rintro e w' ⟨rfl,rfl⟩;exact ⟨_,rfl,rfl,hl.alloc _,ak.refl.alloc _⟩
 have HQY:Hid (∀W,ak (cx w o) W->Calls Yq.prog 42 #[cj ⟨kd,key,body,delim,past,n,src⟩] W fun e w'=>∃v,e=.returned v/\(v=.agg #[.bool vs,.string key,.string delim,.string past]/\ak (cx w o) w'/\ak W w')):=fun W hl=>by
  refine (ww ⟨kd,key,body,delim,past,n,src⟩ W).mono ?_;rintro e w' ⟨rfl,hb⟩;have hv:((OpD.mk kd key body delim past n src).kind==7)=vs:=by rcases hkd with ⟨rfl,rfl⟩;rfl
  exact ⟨_,rfl,by rw [hv];rfl,hl.trans (.below hb),.below hb⟩
 have HNX:Hid (∀W,ak (cx w o) W->Calls Yq.prog 40 #[.pointer (some ⟨k0,4,none⟩),.agg #[.pointer p],.agg #[.bool vs,.string key,.string delim,.string past],.int .i64 n] W fun e w'=>(∃v,e=.returned v/\∃so sn sc,v=.tuple #[.agg #[.slice so sn sc,.string R.2.2.1],.int .i64 R.2.2.2]/\bc A B k0 W R.1 R.2.1 (.slice so sn sc) w')\/∃ch,e=.panicked ch/\Stop Qok (.panicked ch) w'):=fun W hl=>by
  have hl':=(aK o).trans hl;have hd:=h.left hl';have hs:=hl'.size;have hN':ai A 41 W p st.f:=by
   obtain ⟨p',cp',hN'⟩:=hd.store.tree;rw [hl'.cell cp] at cp';cases cp';exact hN'
  refine (wA Qok hQ W hd.ls (by omega) p st.f ⟨vs,key,delim,past⟩ n hN' hq hsum hp hbg hop G hGg (fun w' hl2=>hG w' (aI.left h.ls.lt (hl'.trans hl2))) hT).mono ?_;rw [<-hR];rintro e w' (⟨sv,rfl,hp⟩|hst)
  .obtain ⟨A',a1,a2,a3,a4,⟨so,sc,rfl,a6⟩,a7⟩:=hp;exact .inl ⟨_,rfl,so,_,sc,rfl,A',a1,a2,a3,a4,⟨so,sc,rfl,a6⟩,a7⟩
  .obtain ⟨a,b,r,rfl,hst⟩:=hst;exact .inr ⟨_,rfl,a,b,r,rfl,hst⟩
 rw [<-hR];have HEN:Hid (∀ (f:Nat) (args:Array Value) (wx:Wz),(f=40\/f=41\/f=42)->(callFunc f args).run Yq.prog wx=.ok (.enter f args) wx):=fun f args wx hf=>by rcases hf with rfl|rfl|rfl<;>go_simp
 have HOC:Hid (∀W,ak (cx w o) W->(W.cell? ⟨w.heap.size,0,none⟩=some (.int .i64 kd)/\W.cell? ⟨w.heap.size,1,none⟩=some (.string key)/\W.cell? ⟨w.heap.size,2,none⟩=some (.string body)/\W.cell? ⟨w.heap.size,3,none⟩=some (.string delim)/\W.cell? ⟨w.heap.size,4,none⟩=some (.string past)/\W.cell? ⟨w.heap.size,5,none⟩=some (.int .i64 n)/\W.cell? ⟨w.heap.size,6,none⟩=some (.int .i64 src))/\w.heap.size+2<=W.heap.size):=fun W hl=>by
  have e:W.heap[w.heap.size]?=some (.cells #[.int .i64 kd,.string key,.string body,.string delim,.string past,.int .i64 n,.int .i64 src] 31):=by
   rw [hl.block _ (by rw [aL];omega)];subst ho;rw [cx,bA _ _ _ (by simp),aN]
  have hs:=hl.size;rw [aL] at hs;refine ⟨⟨?_,?_,?_,?_,?_,?_,?_⟩,hs⟩<;>simp [World.cell?,e]
 have HPG:=AR h hB o R (by rw [hR];exact AP _ _ _ _);have HBX:Hid _:=HPG.bx;have HB2:Hid (∀w1,ak ((cx w o).alloc (.cells #[.slice none 0 0,.string ⟨#[]⟩] 88)).drew w1->w1.heap[w.heap.size+1+1]?=some (.cells #[.slice none 0 0,.string ⟨#[]⟩] 88)):=fun w1 hb=>by
  have:=aN (cx w o) (.cells #[.slice none 0 0,.string ⟨#[]⟩] 88);rw [aL] at this;exact (hb.block _ (by simp [aL])).trans this
 have HB4:Hid (∀ (W w':Wz),ak (W.alloc (.cells #[.slice none 0 0,.string ⟨#[]⟩] 88)) w'->w'.heap[W.heap.size]?=some (.cells #[.slice none 0 0,.string ⟨#[]⟩] 88)):=fun W w' hl=>(hl.block _ (by simp)).trans (aN W _)
 have HB6:Hid (∀ (W w':Wz) (bb:Nat),ak W w'->W.heap[bb]?=some (.cells #[.slice none 0 0,.string ⟨#[]⟩] 88)->w'.heap[bb]?=some (.cells #[.slice none 0 0,.string ⟨#[]⟩] 88)):=fun W w' bb hl hx=>(hl.block _ (eS hx).1).trans hx
 have HB5:Hid _:=HPG.b5;have HLA:Hid _:=HPG.la;have HLB:Hid _:=HPG.lb;have hb3:=lh;have hlt0:=h.ls.lt;clear HPG hR hN cp h hsum hp hq hbg hT hG hGg hQ hop hB;subst ho;unfold cx at HST HQY HNX HOC HBX HB2 HB5 HLA HLB;unfold cj at HQY ⊢;rcases hkd with ⟨rfl,rfl⟩;go_enter (Yq.nq Tryz.func33),Tryz.ntmps33;go_wp2_with fail
 go_region_law (first
  |(refine aY rfl 41 #[.tmp 103] #[59] rfl #[.pointer (some ⟨k0,0,none⟩)] (by first|(simp [Act.eval];done)|(simp [Act.eval,Act.put];done)|go_simp) (HEN.out _ _ _ (Or.inr (Or.inl rfl))) _ (HST.out _ ak.refl.drew) ?_;rintro v w1 ⟨rfl,h1,hb1⟩;obtain ⟨⟨c0,c1,c2,c3,c4,c5,c6⟩,hs1⟩:=HOC.out _ h1;clear hb1;have e0:=an c0;have e1:=an c1;have e2:=an c2;have e3:=an c3;have e4:=an c4;have e5:=an c5;have e6:=an c6)
  |(refine aY rfl 41 #[.tmp 103] #[59] rfl #[.pointer (some ⟨k0,0,none⟩)] (by first|(simp [Act.eval];done)|(simp [Act.eval,Act.put];done)|go_simp) (HEN.out _ _ _ (Or.inr (Or.inl rfl))) _ (HST.out _ (ak.refl.alloc _).drew) ?_;rintro v w1 ⟨rfl,h1,hb1⟩;obtain ⟨⟨c0,c1,c2,c3,c4,c5,c6⟩,hs1⟩:=HOC.out _ h1;have hx:=HB2.out _ hb1;clear hb1)
  |(refine aY rfl 42 #[.tmp 105] #[31] rfl _ (by first|(simp [Act.eval];done)|go_simp) (HEN.out _ _ _ (Or.inr (Or.inr rfl))) _ (HQY.out w1 h1) ?_;rintro v w2 ⟨rfl,h2,hb2⟩;obtain ⟨⟨d0,d1,d2,d3,d4,d5,d6⟩,hs2⟩:=HOC.out _ h2;have f5:=an d5;try (replace hx:=HB6.out _ _ _ hb2 hx);clear hb2 d0 d1 d2 d3 d4 d6)
  |(refine aY rfl 42 #[.tmp 105] #[31] rfl _ (by first|(simp [Act.eval];done)|go_simp) (HEN.out _ _ _ (Or.inr (Or.inr rfl))) _ (HQY.out (w1.alloc _) (h1.alloc _)) ?_;rintro v w2 ⟨rfl,h2,hb2⟩;obtain ⟨⟨d0,d1,d2,d3,d4,d5,d6⟩,hs2⟩:=HOC.out _ h2;have hx:=HB4.out _ _ hb2;clear hb2 d0 d1 d2 d3 d4 d6)
  |(refine bO rfl 40 #[.tmp 100,.tmp 104,.tmp 106,.tmp 108] #[63,56,93,3] rfl _ (by first|(simp [Act.eval];done)|go_simp) (HEN.out _ _ _ (Or.inl rfl)) _ (fun ch w'=>Stop Qok (.panicked ch) w') (HNX.out w2 h2) (fun ch w' hs=>⟨rfl,Or.inr hs⟩) ?_;rintro v w3 ⟨so,sn,sc,rfl,hpost⟩;obtain ⟨v0,v1,o0,o1⟩:=HBX.out _ w3 _ h2 hpost (by omega) hx;obtain ⟨⟨t0,t1,t2,t3,t4⟩,u0,u1,u2,u3,u4⟩:=HB5.out _ w3 h2 hpost;have HFA:=HLB.out _ w3 so sn sc h2 hpost _ (by omega) hx;have hne1:w.heap.size+1≠w1.heap.size:=(by omega);have hne2:w1.heap.size≠w.heap.size+1:=hne1.symm;clear hpost hx)
  |(refine bO rfl 40 #[.tmp 100,.tmp 104,.tmp 106,.tmp 108] #[63,56,93,3] rfl _ (by first|(simp [Act.eval];done)|go_simp) (HEN.out _ _ _ (Or.inl rfl)) _ (fun ch w'=>Stop Qok (.panicked ch) w') (HNX.out w2 h2) (fun ch w' hs=>⟨rfl,Or.inr hs⟩) ?_;rintro v w3 ⟨so,sn,sc,rfl,hpost⟩;obtain ⟨⟨t0,t1,t2,t3,t4⟩,u0,u1,u2,u3,u4⟩:=HB5.out _ w3 h2 hpost;have HFA:=HLA.out _ w3 so sn sc h2 hpost;have q0:=an t0;have q1:=an t1;have q2:=an t2;have q3:=an t3;have q4:=an t4;have p0:=aq t0 u0;have p1:=aq t1 u1;have p2:=aq t2 u2;have p3:=aq t3 u3;have p4:=aq t4 u4;clear hpost)
  |(refine bO rfl 40 #[.tmp 100,.tmp 104,.tmp 106,.tmp 108] #[63,56,93,3] rfl _ (by first|(simp [Act.eval];done)|(simp [Act.eval,Act.put];done)|go_simp) (HEN.out _ _ _ (Or.inl rfl)) _ (fun ch w'=>Stop Qok (.panicked ch) w') (HNX.out (w2.alloc _) (h2.alloc _)) (fun ch w' hs=>⟨rfl,Or.inr hs⟩) ?_;rintro v w3 ⟨so,sn,sc,rfl,hpost⟩;obtain ⟨v0,v1,o0,o1⟩:=HBX.out _ w3 w2.heap.size (h2.alloc _) hpost hs2 (aN w2 _);obtain ⟨⟨t0,t1,t2,t3,t4⟩,u0,u1,u2,u3,u4⟩:=HB5.out _ w3 (h2.alloc _) hpost;have HFA:=HLB.out _ w3 so sn sc (h2.alloc _) hpost w2.heap.size hs2 (aN w2 _);have hne1:w.heap.size+1≠w2.heap.size:=(by omega);have hne2:w2.heap.size≠w.heap.size+1:=hne1.symm;clear hpost))
 all_goals go_wp2
 all_goals clear HST HQY HNX HOC HBX HB2 HB4 HB5 HB6 HLA HLB HEN
 all_goals
  refine bodyPost_ret (v:=iS ⟨R.2.2.2,0,⟨#[]⟩,R.2.1,R.2.2.1⟩ (.slice so sn sc)) ?_ rfl (.inl ?_)
  .clear HFA;first
    |simp [results,Tryz.results33,go_sem,iS,q0,q1,q2,q3,q4]
    |simp [results,Tryz.results33,go_sem,iS,t0,t1,t2,t3,t4]
  .unfold put5 at HFA;refine HFA ..
end
end
