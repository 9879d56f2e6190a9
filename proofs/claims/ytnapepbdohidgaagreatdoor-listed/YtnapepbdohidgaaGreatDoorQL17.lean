/- A part. -/
import Derived.Test.YtnapepbdohidgaaGreatDoorQL15
set_option maxHeartbeats 16000000
set_option maxRecDepth 100000
open Go renaming World->Wj
namespace Go.Proofs.Qw
open Tryz
section
open Go.Conc Go.ConcX Go.ConcX.Gen Go.RowKit
section
variable {A:Nat->Prop} {B k0:Nat} {w:Wj} {st:St} {L:Lg}
theorem sI (kd:Int)(s:Bool)(hkd:kd=6/\s=false)(Qok:Qy->Prop)(hQ:∀q,Qok q->jl q/\jm q)(h:cK A B w k0 st L)(hB:B<=w.heap.size)(P:L.opened.length<=3)(key body c i:ByteArray)(n k:Int)(hq:Qok ⟨s,key,c,i⟩)(F:fI (cD st.f key.data.toList)<=1000)(hp:key.size<=maxLen)(hbg:0<=L.begun/\L.begun<2199023255552)(G:Wj->Prop)(Q:∀w',G w'->dJ w')(Y:∀w',cf A B k0 w w'->G w')(hT:qo G (L.begun+1) 2):
  Calls Yq.prog 33 #[.pointer (some ⟨k0,0,none⟩),bh ⟨kd,key,body,c,i,n,k⟩] w fun e w'=>dv A B k0 w st (ez L st.f ⟨s,key,c,i⟩ n).1 ⟨(ez L st.f ⟨s,key,c,i⟩ n).2.2.2,0,⟨#[]⟩,(ez L st.f ⟨s,key,c,i⟩ n).2.1,(ez L st.f ⟨s,key,c,i⟩ n).2.2.1⟩ e w'\/Stop Qok e w':=by
 obtain ⟨R,S⟩:∃R,R=ez L st.f ⟨s,key,c,i⟩ n:=⟨_,rfl⟩;obtain ⟨o,ho⟩:∃o:OpD,o=⟨kd,key,body,c,i,n,k⟩:=⟨_,rfl⟩;obtain ⟨p,V,hN⟩:=h.store.tree;have HST:Hid (∀W,au (gR w o) W->Calls Yq.prog 41 #[.pointer (some ⟨k0,0,none⟩)] W fun e w'=>∃v,e=.returned v/\(v=.agg #[.pointer p]/\au (gR w o) w'/\au W w')):=fun W hl=>by
  refine (wi k0 p W (((dk o).trans hl).cell V)).mono ?_;rintro e w' ⟨rfl,rfl⟩;exact ⟨_,rfl,rfl,hl.alloc _,au.refl.alloc _⟩
 have y:Hid (∀W,au (gR w o) W->Calls Yq.prog 42 #[bh ⟨kd,key,body,c,i,n,k⟩] W fun e w'=>∃v,e=.returned v/\(v=.agg #[.bool s,.string key,.string c,.string i]/\au (gR w o) w'/\au W w')):=fun W hl=>by
  refine (wj ⟨kd,key,body,c,i,n,k⟩ W).mono ?_;rintro e w' ⟨rfl,hb⟩;have hv:((OpD.mk kd key body c i n k).kind==7)=s:=by rcases hkd with ⟨rfl,rfl⟩;rfl
  exact ⟨_,rfl,by rw [hv];rfl,hl.trans (.below hb),.below hb⟩
 have t:Hid (∀W,au (gR w o) W->Calls Yq.prog 40 #[.pointer (some ⟨k0,4,none⟩),.agg #[.pointer p],.agg #[.bool s,.string key,.string c,.string i],.int .i64 n] W fun e w'=>(∃v,e=.returned v/\∃m D sc,v=.tuple #[.agg #[.slice m D sc,.string R.2.2.1],.int .i64 R.2.2.2]/\cQ A B k0 W R.1 R.2.1 (.slice m D sc) w')\/∃ch,e=.panicked ch/\Stop Qok (.panicked ch) w'):=fun W hl=>by
  have hl':=(dk o).trans hl;have hd:=h.left hl';have hs:=hl'.size;have I:ak A 41 W p st.f:=by
   obtain ⟨p',K,I⟩:=hd.store.tree;rw [hl'.cell V] at K;cases K;exact I
  refine (wk Qok hQ W hd.ls (by omega) p st.f ⟨s,key,c,i⟩ n I hq F hp hbg P G Q (fun w' X=>Y w' (cf.left h.ls.lt (hl'.trans X))) hT).mono ?_;rw [<-S];rintro e w' (⟨sv,rfl,hp⟩|hst)
  .obtain ⟨A',a1,a2,a3,a4,⟨m,sc,rfl,a6⟩,a7⟩:=hp;exact .inl ⟨_,rfl,m,_,sc,rfl,A',a1,a2,a3,a4,⟨m,sc,rfl,a6⟩,a7⟩
  .obtain ⟨a,b,r,rfl,hst⟩:=hst;exact .inr ⟨_,rfl,a,b,r,rfl,hst⟩
 rw [<-S];have j:Hid (∀ (f:Nat) (args:Array Value) (U:Wj),(f=40\/f=41\/f=42)->(callFunc f args).run Yq.prog U=.ok (.enter f args) U):=fun f args U hf=>by rcases hf with rfl|rfl|rfl<;>go_simp
 have l:Hid (∀W,au (gR w o) W->(W.cell? ⟨w.heap.size,0,none⟩=some (.int .i64 kd)/\W.cell? ⟨w.heap.size,1,none⟩=some (.string key)/\W.cell? ⟨w.heap.size,2,none⟩=some (.string body)/\W.cell? ⟨w.heap.size,3,none⟩=some (.string c)/\W.cell? ⟨w.heap.size,4,none⟩=some (.string i)/\W.cell? ⟨w.heap.size,5,none⟩=some (.int .i64 n)/\W.cell? ⟨w.heap.size,6,none⟩=some (.int .i64 k))/\w.heap.size+2<=W.heap.size):=fun W hl=>by
  have e:W.heap[w.heap.size]?=some (.cells #[.int .i64 kd,.string key,.string body,.string c,.string i,.int .i64 n,.int .i64 k] 31):=by
   rw [hl.block _ (by rw [ce];omega)];subst ho;rw [gR,bA _ _ _ (by simp),aN]
  have hs:=hl.size;rw [ce] at hs;refine ⟨⟨?_,?_,?_,?_,?_,?_,?_⟩,hs⟩<;>simp [World.cell?,e]
 have HPG:=Ef h hB o R (by rw [S];exact AO _ _ _ _);have C:Hid _:=HPG.bx;have J:Hid (∀w1,au ((gR w o).alloc (.cells #[.slice none 0 0,.string ⟨#[]⟩] 88)).drew w1->w1.heap[w.heap.size+1+1]?=some (.cells #[.slice none 0 0,.string ⟨#[]⟩] 88)):=fun w1 hb=>by
  have:=aN (gR w o) (.cells #[.slice none 0 0,.string ⟨#[]⟩] 88);rw [ce] at this;exact (hb.block _ (by simp [ce])).trans this
 have N:Hid (∀ (W w':Wj),au (W.alloc (.cells #[.slice none 0 0,.string ⟨#[]⟩] 88)) w'->w'.heap[W.heap.size]?=some (.cells #[.slice none 0 0,.string ⟨#[]⟩] 88)):=fun W w' hl=>(hl.block _ (by simp)).trans (aN W _)
 have M:Hid (∀ (W w':Wj) (bb:Nat),au W w'->W.heap[bb]?=some (.cells #[.slice none 0 0,.string ⟨#[]⟩] 88)->w'.heap[bb]?=some (.cells #[.slice none 0 0,.string ⟨#[]⟩] 88)):=fun W w' bb hl hx=>(hl.block _ (eS hx).1).trans hx
 have x:Hid _:=HPG.b5;have H:Hid _:=HPG.la;have z:Hid _:=HPG.lb;have hb3:=oX;have hlt0:=h.ls.lt;clear HPG S hN V h F hp hq hbg hT Y Q hQ P hB;subst ho;unfold gR at HST y t l C J x H z;unfold bh at y ⊢;rcases hkd with ⟨rfl,rfl⟩;go_enter (Yq.nq func33),ntmps33;go_wp2_with fail
 go_region_law (first
  |(refine dK rfl 41 #[.tmp 103] #[59] rfl #[.pointer (some ⟨k0,0,none⟩)] (by first|(simp [Act.eval];done)|(simp [Act.eval,Act.put];done)|go_simp) (j.out _ _ _ (Or.inr (Or.inl rfl))) _ (HST.out _ au.refl.drew) ?_;rintro v w1 ⟨rfl,h1,E⟩;obtain ⟨⟨c0,c1,c2,c3,c4,c5,c6⟩,hs1⟩:=l.out _ h1;clear E;have e0:=aw c0;have e1:=aw c1;have e2:=aw c2;have e3:=aw c3;have e4:=aw c4;have e5:=aw c5;have e6:=aw c6)
  |(refine dK rfl 41 #[.tmp 103] #[59] rfl #[.pointer (some ⟨k0,0,none⟩)] (by first|(simp [Act.eval];done)|(simp [Act.eval,Act.put];done)|go_simp) (j.out _ _ _ (Or.inr (Or.inl rfl))) _ (HST.out _ (au.refl.alloc _).drew) ?_;rintro v w1 ⟨rfl,h1,E⟩;obtain ⟨⟨c0,c1,c2,c3,c4,c5,c6⟩,hs1⟩:=l.out _ h1;have hx:=J.out _ E;clear E)
  |(refine dK rfl 42 #[.tmp 105] #[31] rfl _ (by first|(simp [Act.eval];done)|go_simp) (j.out _ _ _ (Or.inr (Or.inr rfl))) _ (y.out w1 h1) ?_;rintro v w2 ⟨rfl,h2,hb2⟩;obtain ⟨⟨d0,d1,d2,d3,d4,Z,T⟩,hs2⟩:=l.out _ h2;have f5:=aw Z;try (replace hx:=M.out _ _ _ hb2 hx);clear hb2 d0 d1 d2 d3 d4 T)
  |(refine dK rfl 42 #[.tmp 105] #[31] rfl _ (by first|(simp [Act.eval];done)|go_simp) (j.out _ _ _ (Or.inr (Or.inr rfl))) _ (y.out (w1.alloc _) (h1.alloc _)) ?_;rintro v w2 ⟨rfl,h2,hb2⟩;obtain ⟨⟨d0,d1,d2,d3,d4,Z,T⟩,hs2⟩:=l.out _ h2;have hx:=N.out _ _ hb2;clear hb2 d0 d1 d2 d3 d4 T)
  |(refine ee rfl 40 #[.tmp 100,.tmp 104,.tmp 106,.tmp 108] #[63,56,93,3] rfl _ (by first|(simp [Act.eval];done)|go_simp) (j.out _ _ _ (Or.inl rfl)) _ (fun ch w'=>Stop Qok (.panicked ch) w') (t.out w2 h2) (fun ch w' hs=>⟨rfl,Or.inr hs⟩) ?_;rintro v w3 ⟨m,D,sc,rfl,d⟩;obtain ⟨v0,v1,o0,o1⟩:=C.out _ w3 _ h2 d (by omega) hx;obtain ⟨⟨t0,t1,t2,t3,t4⟩,u0,u1,u2,u3,u4⟩:=x.out _ w3 h2 d;have HFA:=z.out _ w3 m D sc h2 d _ (by omega) hx;have u:w.heap.size+1≠w1.heap.size:=(by omega);have O:w1.heap.size≠w.heap.size+1:=u.symm;clear d hx)
  |(refine ee rfl 40 #[.tmp 100,.tmp 104,.tmp 106,.tmp 108] #[63,56,93,3] rfl _ (by first|(simp [Act.eval];done)|go_simp) (j.out _ _ _ (Or.inl rfl)) _ (fun ch w'=>Stop Qok (.panicked ch) w') (t.out w2 h2) (fun ch w' hs=>⟨rfl,Or.inr hs⟩) ?_;rintro v w3 ⟨m,D,sc,rfl,d⟩;obtain ⟨⟨t0,t1,t2,t3,t4⟩,u0,u1,u2,u3,u4⟩:=x.out _ w3 h2 d;have HFA:=H.out _ w3 m D sc h2 d;have q0:=aw t0;have q1:=aw t1;have q2:=aw t2;have q3:=aw t3;have q4:=aw t4;have p0:=aX t0 u0;have p1:=aX t1 u1;have p2:=aX t2 u2;have p3:=aX t3 u3;have p4:=aX t4 u4;clear d)
  |(refine ee rfl 40 #[.tmp 100,.tmp 104,.tmp 106,.tmp 108] #[63,56,93,3] rfl _ (by first|(simp [Act.eval];done)|(simp [Act.eval,Act.put];done)|go_simp) (j.out _ _ _ (Or.inl rfl)) _ (fun ch w'=>Stop Qok (.panicked ch) w') (t.out (w2.alloc _) (h2.alloc _)) (fun ch w' hs=>⟨rfl,Or.inr hs⟩) ?_;rintro v w3 ⟨m,D,sc,rfl,d⟩;obtain ⟨v0,v1,o0,o1⟩:=C.out _ w3 w2.heap.size (h2.alloc _) d hs2 (aN w2 _);obtain ⟨⟨t0,t1,t2,t3,t4⟩,u0,u1,u2,u3,u4⟩:=x.out _ w3 (h2.alloc _) d;have HFA:=z.out _ w3 m D sc (h2.alloc _) d w2.heap.size hs2 (aN w2 _);have u:w.heap.size+1≠w2.heap.size:=(by omega);have O:w2.heap.size≠w.heap.size+1:=u.symm;clear d))
 all_goals go_wp2
 all_goals clear HST y t l C J N x M H z j
 all_goals
  refine bodyPost_ret (v:=qH ⟨R.2.2.2,0,⟨#[]⟩,R.2.1,R.2.2.1⟩ (.slice m D sc)) ?_ rfl (.inl ?_)
  .clear HFA;first
    |simp [results,results33,go_sem,qH,q0,q1,q2,q3,q4]
    |simp [results,results33,go_sem,qH,t0,t1,t2,t3,t4]
  .unfold put5 at HFA;refine HFA ..
end
end
