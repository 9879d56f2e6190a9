/- A part. -/
import Derived.Test.YtnapepbdohidgaaGreatDoorQT15
set_option maxHeartbeats 16000000
set_option maxRecDepth 100000
open Go renaming World->Wz
namespace Go.Proofs.Qw
open Tryz
section
open Go.Conc Go.ConcX Go.ConcX.Gen Go.RowKit
section
variable {A:Nat->Prop} {B k0:Nat} {w:Wz} {st:St} {L:Lg}
theorem un (kd:Int)(t:Bool)(P:kd=6/\t=false)(Qok:Qy->Prop)(hQ:∀q,Qok q->ii q/\ij q)(h:aI A B w k0 st L)(Z:B<=w.heap.size)(N:L.opened.length<=3)(key body c i:ByteArray)(n src:Int)(hq:Qok ⟨t,key,c,i⟩)(D:gt (cu st.f key.data.toList)<=1000)(hp:key.size<=maxLen)(hbg:0<=L.begun/\L.begun<2199023255552)(G:Wz->Prop)(O:∀w',G w'->cU w')(hG:∀w',aJ A B k0 w w'->G w')(X:kE G (L.begun+1) 2):
  Calls Yq.prog 33 #[.pointer (some ⟨k0,0,none⟩),cE ⟨kd,key,body,c,i,n,src⟩] w fun e w'=>bi A B k0 w st (eP L st.f ⟨t,key,c,i⟩ n).1 ⟨(eP L st.f ⟨t,key,c,i⟩ n).2.2.2,0,⟨#[]⟩,(eP L st.f ⟨t,key,c,i⟩ n).2.1,(eP L st.f ⟨t,key,c,i⟩ n).2.2.1⟩ e w'\/Stop Qok e w':=by
 obtain ⟨R,Q⟩:∃R,R=eP L st.f ⟨t,key,c,i⟩ n:=⟨_,rfl⟩;obtain ⟨o,ho⟩:∃o:OpD,o=⟨kd,key,body,c,i,n,src⟩:=⟨_,rfl⟩;obtain ⟨p,cp,hN⟩:=h.store.tree;have x:Hid (∀W,am (cI w o) W->Calls Yq.prog 41 #[.pointer (some ⟨k0,0,none⟩)] W fun e w'=>∃v,e=.returned v/\(v=.agg #[.pointer p]/\am (cI w o) w'/\am W w')):=fun W hl=>by
  refine (xA k0 p W (((aK o).trans hl).cell cp)).mono ?_;rintro e w' ⟨rfl,rfl⟩;exact ⟨_,rfl,rfl,hl.alloc _,am.refl.alloc _⟩
 have l:Hid (∀W,am (cI w o) W->Calls Yq.prog 42 #[cE ⟨kd,key,body,c,i,n,src⟩] W fun e w'=>∃v,e=.returned v/\(v=.agg #[.bool t,.string key,.string c,.string i]/\am (cI w o) w'/\am W w')):=fun W hl=>by
  refine (xB ⟨kd,key,body,c,i,n,src⟩ W).mono ?_;rintro e w' ⟨rfl,hb⟩;have hv:((OpD.mk kd key body c i n src).kind==7)=t:=by rcases P with ⟨rfl,rfl⟩;rfl
  exact ⟨_,rfl,by rw [hv];rfl,hl.trans (.below hb),.below hb⟩
 have u:Hid (∀W,am (cI w o) W->Calls Yq.prog 40 #[.pointer (some ⟨k0,4,none⟩),.agg #[.pointer p],.agg #[.bool t,.string key,.string c,.string i],.int .i64 n] W fun e w'=>(∃v,e=.returned v/\∃so z sc,v=.tuple #[.agg #[.slice so z sc,.string R.2.2.1],.int .i64 R.2.2.2]/\ba A B k0 W R.1 R.2.1 (.slice so z sc) w')\/∃ch,e=.panicked ch/\Stop Qok (.panicked ch) w'):=fun W hl=>by
  have hl':=(aK o).trans hl;have hd:=h.left hl';have hs:=hl'.size;have E:ai A 41 W p st.f:=by
   obtain ⟨p',M,E⟩:=hd.store.tree;rw [hl'.cell cp] at M;cases M;exact E
  refine (xD Qok hQ W hd.ls (by omega) p st.f ⟨t,key,c,i⟩ n E hq D hp hbg N G O (fun w' V=>hG w' (aJ.left h.ls.lt (hl'.trans V))) X).mono ?_;rw [<-Q];rintro e w' (⟨sv,rfl,hp⟩|hst)
  .obtain ⟨A',a1,a2,a3,a4,⟨so,sc,rfl,a6⟩,a7⟩:=hp;exact .inl ⟨_,rfl,so,_,sc,rfl,A',a1,a2,a3,a4,⟨so,sc,rfl,a6⟩,a7⟩
  .obtain ⟨a,b,r,rfl,hst⟩:=hst;exact .inr ⟨_,rfl,a,b,r,rfl,hst⟩
 rw [<-Q];have j:Hid (∀ (f:Nat) (args:Array Value) (U:Wz),(f=40\/f=41\/f=42)->(callFunc f args).run Yq.prog U=.ok (.enter f args) U):=fun f args U hf=>by rcases hf with rfl|rfl|rfl<;>go_simp
 have k:Hid (∀W,am (cI w o) W->(W.cell? ⟨w.heap.size,0,none⟩=some (.int .i64 kd)/\W.cell? ⟨w.heap.size,1,none⟩=some (.string key)/\W.cell? ⟨w.heap.size,2,none⟩=some (.string body)/\W.cell? ⟨w.heap.size,3,none⟩=some (.string c)/\W.cell? ⟨w.heap.size,4,none⟩=some (.string i)/\W.cell? ⟨w.heap.size,5,none⟩=some (.int .i64 n)/\W.cell? ⟨w.heap.size,6,none⟩=some (.int .i64 src))/\w.heap.size+2<=W.heap.size):=fun W hl=>by
  have e:W.heap[w.heap.size]?=some (.cells #[.int .i64 kd,.string key,.string body,.string c,.string i,.int .i64 n,.int .i64 src] 31):=by
   rw [hl.block _ (by rw [aL];omega)];subst ho;rw [cI,bA _ _ _ (by simp),aN]
  have hs:=hl.size;rw [aL] at hs;refine ⟨⟨?_,?_,?_,?_,?_,?_,?_⟩,hs⟩<;>simp [World.cell?,e]
 have HPG:=BH h Z o R (by rw [Q];exact mf _ _ _ _);have y:Hid _:=HPG.bx;have H:Hid (∀w1,am ((cI w o).alloc (.cells #[.slice none 0 0,.string ⟨#[]⟩] 88)).drew w1->w1.heap[w.heap.size+1+1]?=some (.cells #[.slice none 0 0,.string ⟨#[]⟩] 88)):=fun w1 hb=>by
  have:=aN (cI w o) (.cells #[.slice none 0 0,.string ⟨#[]⟩] 88);rw [aL] at this;exact (hb.block _ (by simp [aL])).trans this
 have J:Hid (∀ (W w':Wz),am (W.alloc (.cells #[.slice none 0 0,.string ⟨#[]⟩] 88)) w'->w'.heap[W.heap.size]?=some (.cells #[.slice none 0 0,.string ⟨#[]⟩] 88)):=fun W w' hl=>(hl.block _ (by simp)).trans (aN W _)
 have I:Hid (∀ (W w':Wz) (bb:Nat),am W w'->W.heap[bb]?=some (.cells #[.slice none 0 0,.string ⟨#[]⟩] 88)->w'.heap[bb]?=some (.cells #[.slice none 0 0,.string ⟨#[]⟩] 88)):=fun W w' bb hl hx=>(hl.block _ (eS hx).1).trans hx
 have m:Hid _:=HPG.b5;have F:Hid _:=HPG.la;have C:Hid _:=HPG.lb;have hb3:=me;have hlt0:=h.ls.lt;clear HPG Q hN cp h D hp hq hbg X hG O hQ N Z;subst ho;unfold cI at x l u k y H m F C;unfold cE at l ⊢;rcases P with ⟨rfl,rfl⟩;go_enter (Yq.nq func33),ntmps33;go_wp2_with fail
 go_region_law (first
  |(refine bj rfl 41 #[.tmp 103] #[59] rfl #[.pointer (some ⟨k0,0,none⟩)] (by first|(simp [Act.eval];done)|(simp [Act.eval,Act.put];done)|go_simp) (j.out _ _ _ (Or.inr (Or.inl rfl))) _ (x.out _ am.refl.drew) ?_;rintro v w1 ⟨rfl,h1,hb1⟩;obtain ⟨⟨c0,c1,c2,c3,c4,c5,c6⟩,hs1⟩:=k.out _ h1;clear hb1;have e0:=ak c0;have e1:=ak c1;have e2:=ak c2;have e3:=ak c3;have e4:=ak c4;have e5:=ak c5;have e6:=ak c6)
  |(refine bj rfl 41 #[.tmp 103] #[59] rfl #[.pointer (some ⟨k0,0,none⟩)] (by first|(simp [Act.eval];done)|(simp [Act.eval,Act.put];done)|go_simp) (j.out _ _ _ (Or.inr (Or.inl rfl))) _ (x.out _ (am.refl.alloc _).drew) ?_;rintro v w1 ⟨rfl,h1,hb1⟩;obtain ⟨⟨c0,c1,c2,c3,c4,c5,c6⟩,hs1⟩:=k.out _ h1;have hx:=H.out _ hb1;clear hb1)
  |(refine bj rfl 42 #[.tmp 105] #[31] rfl _ (by first|(simp [Act.eval];done)|go_simp) (j.out _ _ _ (Or.inr (Or.inr rfl))) _ (l.out w1 h1) ?_;rintro v w2 ⟨rfl,h2,hb2⟩;obtain ⟨⟨d0,d1,d2,d3,T,Y,S⟩,hs2⟩:=k.out _ h2;have f5:=ak Y;try (replace hx:=I.out _ _ _ hb2 hx);clear hb2 d0 d1 d2 d3 T S)
  |(refine bj rfl 42 #[.tmp 105] #[31] rfl _ (by first|(simp [Act.eval];done)|go_simp) (j.out _ _ _ (Or.inr (Or.inr rfl))) _ (l.out (w1.alloc _) (h1.alloc _)) ?_;rintro v w2 ⟨rfl,h2,hb2⟩;obtain ⟨⟨d0,d1,d2,d3,T,Y,S⟩,hs2⟩:=k.out _ h2;have hx:=J.out _ _ hb2;clear hb2 d0 d1 d2 d3 T S)
  |(refine bW rfl 40 #[.tmp 100,.tmp 104,.tmp 106,.tmp 108] #[63,56,93,3] rfl _ (by first|(simp [Act.eval];done)|go_simp) (j.out _ _ _ (Or.inl rfl)) _ (fun ch w'=>Stop Qok (.panicked ch) w') (u.out w2 h2) (fun ch w' hs=>⟨rfl,Or.inr hs⟩) ?_;rintro v w3 ⟨so,z,sc,rfl,d⟩;obtain ⟨v0,v1,o0,o1⟩:=y.out _ w3 _ h2 d (by omega) hx;obtain ⟨⟨t0,t1,t2,t3,t4⟩,u0,u1,u2,u3,u4⟩:=m.out _ w3 h2 d;have HFA:=C.out _ w3 so z sc h2 d _ (by omega) hx;have s:w.heap.size+1≠w1.heap.size:=(by omega);have K:w1.heap.size≠w.heap.size+1:=s.symm;clear d hx)
  |(refine bW rfl 40 #[.tmp 100,.tmp 104,.tmp 106,.tmp 108] #[63,56,93,3] rfl _ (by first|(simp [Act.eval];done)|go_simp) (j.out _ _ _ (Or.inl rfl)) _ (fun ch w'=>Stop Qok (.panicked ch) w') (u.out w2 h2) (fun ch w' hs=>⟨rfl,Or.inr hs⟩) ?_;rintro v w3 ⟨so,z,sc,rfl,d⟩;obtain ⟨⟨t0,t1,t2,t3,t4⟩,u0,u1,u2,u3,u4⟩:=m.out _ w3 h2 d;have HFA:=F.out _ w3 so z sc h2 d;have q0:=ak t0;have q1:=ak t1;have q2:=ak t2;have q3:=ak t3;have q4:=ak t4;have p0:=aq t0 u0;have p1:=aq t1 u1;have p2:=aq t2 u2;have p3:=aq t3 u3;have p4:=aq t4 u4;clear d)
  |(refine bW rfl 40 #[.tmp 100,.tmp 104,.tmp 106,.tmp 108] #[63,56,93,3] rfl _ (by first|(simp [Act.eval];done)|(simp [Act.eval,Act.put];done)|go_simp) (j.out _ _ _ (Or.inl rfl)) _ (fun ch w'=>Stop Qok (.panicked ch) w') (u.out (w2.alloc _) (h2.alloc _)) (fun ch w' hs=>⟨rfl,Or.inr hs⟩) ?_;rintro v w3 ⟨so,z,sc,rfl,d⟩;obtain ⟨v0,v1,o0,o1⟩:=y.out _ w3 w2.heap.size (h2.alloc _) d hs2 (aN w2 _);obtain ⟨⟨t0,t1,t2,t3,t4⟩,u0,u1,u2,u3,u4⟩:=m.out _ w3 (h2.alloc _) d;have HFA:=C.out _ w3 so z sc (h2.alloc _) d w2.heap.size hs2 (aN w2 _);have s:w.heap.size+1≠w2.heap.size:=(by omega);have K:w2.heap.size≠w.heap.size+1:=s.symm;clear d))
 all_goals go_wp2
 all_goals clear x l u k y H J m I F C j
 all_goals
  refine bodyPost_ret (v:=ji ⟨R.2.2.2,0,⟨#[]⟩,R.2.1,R.2.2.1⟩ (.slice so z sc)) ?_ rfl (.inl ?_)
  .clear HFA;first
    |simp [results,results33,go_sem,ji,q0,q1,q2,q3,q4]
    |simp [results,results33,go_sem,ji,t0,t1,t2,t3,t4]
  .unfold put5 at HFA;refine HFA ..
end
end
