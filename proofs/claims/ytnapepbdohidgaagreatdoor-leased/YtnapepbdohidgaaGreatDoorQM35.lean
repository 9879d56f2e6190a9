/- Part of a proof. -/
import Derived.Test.YtnapepbdohidgaaGreatDoorQM34
import Derived.Test.YtnapepbdohidgaaGreatDoorQM29
import Derived.Test.YtnapepbdohidgaaGreatDoorQM26
import Derived.Test.YtnapepbdohidgaaGreatDoorQM27
import Derived.Deep.RegionLaw
namespace Go.Proofs.YtnapepbdohidgaaGreatDoorQ
open Go
open Go.Conc Go.ConcX Go.ConcX.Gen Go.RowKit
theorem step_call1 {P : Program} {ops : Array Oper} {o : Oper} {a : Act} {w : World} {K : Act→World→Prop} {Q : Exit→Act→World→Prop} {E : Prop}
    (hg : o.guard=none) (f : FuncId) (xs : Array Operand) (ts : Array TypeId) (hop : o.op=Op.call { callee:=Callee.value (.func f),args:=xs,argTypes:=ts })
    (args : Array Value) (hx : xs.map a.eval=args) (henter : (callFunc f args).run P w=.ok (.enter f args) w)
    (R : Value→World→Prop) (hC : Calls P f args w fun e w'=>∃ v,e=.returned v∧R v w') (hK : ∀ v w',R v w'→K (a.put o.dst v) w') :
    if Region.wanted o (yielded ops a.tmps)=true then Oper.wp P o a w K Q else E:=by
  have hw : Region.wanted o (yielded ops a.tmps)=true:=by simp [Region.wanted,hg]
  rw [if_pos hw]
  subst hx
  unfold Oper.wp
  have e : (execOp a.eval o).run P w=.ok (.enter f (xs.map a.eval)) w:=by
    have e1 : execOp a.eval o=(do let d ←resolve a.eval { callee:=Callee.value (.func f),args:=xs,argTypes:=ts } o.type; invoke d.target d.args):=by simp only [execOp,hop]
    rw [e1]
    simpa [resolve,Deferred.ofValue,Act.eval,invoke] using henter
  rw [e,Oper.upon_enter]
  refine hC.mono ?_
  rintro e w' ⟨v,rfl,hr⟩
  exact hK v w' hr
theorem cell_alloc_ne {w : World} {b j : Nat} {v : Value} (h : w.cell? ⟨b,j,none⟩=some v) (O : Obj) : (w.alloc O).cell? ⟨b,j,none⟩=some v:=by
  exact (LeftL.refl.alloc O).cell h
theorem frozen_alloc_ne {w : World} {b j : Nat} {v : Value} {f : Bool} (h : w.cell? ⟨b,j,none⟩=some v) (hf : w.frozen? ⟨b,j,none⟩=f) (O : Obj) : (w.alloc O).frozen? ⟨b,j,none⟩=f:=by
  have hlt : b < w.heap.size:=by
    rcases Nat.lt_or_ge b w.heap.size with h1 | h1
    · exact h1
    · simp [World.cell?,Array.getElem?_eq_none h1] at h
  have e:=(LeftL.refl.alloc O (w:=w)).block b hlt
  rw [←hf]
  simp only [World.frozen?,e]
theorem LsPost.alloc {A : Nat→Prop} {B k0 : Nat} {w w' : World} {L' : Lg} {its : List ItD} {sv : Value} (h : LsPost A B k0 w L' its sv w') (O : Obj) : LsPost A B k0 w L' its sv (w'.alloc O):=by
  obtain ⟨A',a1,a2,a3,a4,a5,a6⟩:=h
  have hl : LeftL w' (w'.alloc O):=LeftL.refl.alloc O
  have hlt:=a3.lt
  exact ⟨A',a1,a2,a3.left hl,a4.trans (DeskR.left hlt hl),RowAt.keep a5 fun b hb hlt=>⟨hb,hl.block b hlt⟩,a6.trans (FrC.left hlt hl)⟩
section
variable {A : Nat→Prop} {B k0 : Nat} {w : World} {st : St} {L : Lg}
set_option maxHeartbeats 8000000 in
set_option maxRecDepth 100000 in
theorem answer_next (Qok : Qy→Prop) (hQ : ∀ q,Qok q→CmnOk q∧SkyOk q) (h : DeskAt A B w k0 st L) (hB : B≤w.heap.size) (hop : L.opened.length≤3) (o : OpD) (hk : o.kind=8) (g0 cp : Nat) (toks : List ByteArray) (hn : toks.length≤2199023255552) (c8 : w.cell? ⟨k0,8,none⟩=some (.slice (some ⟨g0,0,none⟩) toks.length cp)) (ht : ∀ s (hs : s < toks.length),w.cell? ⟨g0,s * 5+4,none⟩=some (.string toks[s]))
    (hinv : ∀ x∈L.opened,Qok x.q∧sumV (fromL x.f x.q.p.data.toList)≤1000∧x.q.p.size≤maxLen) (hpg : ∀ tok n pg,tFind tok L.told=some (n,pg)→0≤pg∧pg < 2199023255552) (G : World→Prop) (hG : ∀ w',G w') (hT : ∀ tok n pg,tFind tok L.told=some (n,pg)→(numAt n L.opened).isSome=true→TokOk G n (pg+1)) :
    Calls Tryq.prog 33 #[.pointer (some ⟨k0,0,none⟩),opVal o] w fun e w'=>AnsPost A B k0 w st (nextR L (tokenR toks o.src o.body)).1 ⟨(nextR L (tokenR toks o.src o.body)).2.2.2,0,⟨#[]⟩,(nextR L (tokenR toks o.src o.body)).2.1,(nextR L (tokenR toks o.src o.body)).2.2.1⟩ e w'∨Stop Qok e w':=by
  obtain ⟨tk,htk⟩ : ∃ tk,tk=tokenR toks o.src o.body:=⟨_,rfl⟩
  obtain ⟨R,hR⟩ : ∃ R,R=nextR L tk:=⟨_,rfl⟩
  have HTK : Hid (∀ W,LeftL (ansW w o) W→Calls Tryq.prog 44 #[.pointer (some ⟨k0,0,none⟩),opVal o] W fun e w'=>∃ v,e=.returned v∧(v=.string tk∧Below W.heap.size W w')):=fun W hl=>by
    have hlw:=(ansW_left o).trans hl
    refine (token_ok k0 g0 cp toks o W hn (hlw.cell c8) (fun s hs=>hlw.cell (ht s hs))).mono ?_
    rintro e w' ⟨rfl,hb⟩
    exact ⟨_,rfl,by rw [htk],hb⟩
  have HNX : Hid (∀ W,LeftL (ansW w o) W→Calls Tryq.prog 43 #[.pointer (some ⟨k0,4,none⟩),.string tk] W fun e w'=>(∃ v,e=.returned v∧∃ so sn sc,v=.tuple #[.agg #[.slice so sn sc,.string R.2.2.1],.int .i64 R.2.2.2]∧LsPost A B k0 W R.1 R.2.1 (.slice so sn sc) w')∨∃ ch,e=.panicked ch∧Stop Qok (.panicked ch) w'):=fun W hl=>by
    have hd:=h.left ((ansW_left o).trans hl)
    have hs:=((ansW_left o).trans hl).size
    refine (next_ok Qok hQ W hd.ls (by omega) tk hop hinv (hpg tk) G (fun _ _=>hG _) (hT tk)).mono ?_
    rw [←hR]
    rintro e w' (⟨sv,rfl,hp⟩ | hst)
    · obtain ⟨A',a1,a2,a3,a4,⟨so,sc,rfl,a6⟩,a7⟩:=hp
      exact .inl ⟨_,rfl,so,_,sc,rfl,A',a1,a2,a3,a4,⟨so,sc,rfl,a6⟩,a7⟩
    · obtain ⟨a,b,r,rfl,hst⟩:=hst
      exact .inr ⟨_,rfl,a,b,r,rfl,hst⟩
  rw [←htk,←hR]
  have HEN : Hid (∀ (f : Nat) (args : Array Value) (wx : World),(f=43∨f=44)→(callFunc f args).run Tryq.prog wx=.ok (.enter f args) wx):=fun f args wx hf=>by rcases hf with rfl | rfl <;> go_simp
  have HD : Hid (DeskAt A B w k0 st L):=h
  have HBX : Hid (∀ W w2 bb,LeftL (ansW w o) W→∀ {its : List ItD} {sv : Value} {L' : Lg},LsPost A B k0 W L' its sv w2→w.heap.size+2≤bb→W.heap[bb]?=some (.cells #[.slice none 0 0,.string ⟨#[]⟩] 88)→w2.cell? ⟨bb,0,none⟩=some (.slice none 0 0)∧w2.cell? ⟨bb,1,none⟩=some (.string ⟨#[]⟩)∧w2.frozen? ⟨bb,0,none⟩=false∧w2.frozen? ⟨bb,1,none⟩=false):=fun W w2 bb hl its sv L' hp hbb hbx=>by
    obtain ⟨A',-,-,-,-,-,hf⟩:=hp
    have hlt:=h.ls.lt
    have e : w2.heap[bb]?=some (.cells #[.slice none 0 0,.string ⟨#[]⟩] 88):=by
      rw [hf.keep bb ⟨_,hbx,rfl⟩ (by omega) ?_]
      · exact hbx
      · rintro ⟨v,h1,h2⟩
        obtain ⟨v4,c4,zs,z1,z2,-⟩:=h.ls.opened
        rw [((ansW_left o).trans hl).cell c4] at h1
        cases h1
        have:=(z2.lt bb h2).2
        omega
    exact ⟨by simp [World.cell?,e],by simp [World.cell?,e],by simp [World.frozen?,e],by simp [World.frozen?,e]⟩
  have HB2 : Hid (∀ w1,Below ((ansW w o).alloc (.cells #[.slice none 0 0,.string ⟨#[]⟩] 88)).drew.heap.size ((ansW w o).alloc (.cells #[.slice none 0 0,.string ⟨#[]⟩] 88)).drew w1→w1.heap[w.heap.size+1+1]?=some (.cells #[.slice none 0 0,.string ⟨#[]⟩] 88)):=fun w1 hb=>by
    have:=World.alloc_heap_new (ansW w o) (.cells #[.slice none 0 0,.string ⟨#[]⟩] 88)
    rw [ansW_size] at this
    exact (hb.block _ (by simp [ansW_size])).trans this
  have HB3 : Hid (∀ w1,Below (ansW w o).drew.heap.size (ansW w o).drew w1→w.heap.size+2≤w1.heap.size):=fun w1 hb=>by
    have:=hb.size
    have e : (ansW w o).drew.heap.size=w.heap.size+2:=ansW_size o
    omega
  have HB5 : Hid (∀ W w2,LeftL (ansW w o) W→∀ {sv : Value},LsPost A B k0 W R.1 R.2.1 sv w2→_):=fun W w2 hl sv hp=>box5 (page_box h.ls hl hp)
  have HLA : Hid (∀ W w2 so sn sc,LeftL (ansW w o) W→LsPost A B k0 W R.1 R.2.1 (.slice so sn sc) w2→∀ x0 x1 x2 x3 x4 O,AnsPost A B k0 w st R.1 ⟨R.2.2.2,0,⟨#[]⟩,R.2.1,R.2.2.1⟩ (.returned (ansV ⟨R.2.2.2,0,⟨#[]⟩,R.2.1,R.2.2.1⟩ (.slice so sn sc))) (put5 (w2.alloc O) (w.heap.size+1) x0 x1 x2 x3 x4)):=fun W w2 so sn sc hl hp x0 x1 x2 x3 x4 O=>page_fin h hB hl (hp.alloc O) _ rfl x0 x1 x2 x3 x4
  have HLB : Hid (∀ W w2 so sn sc,LeftL (ansW w o) W→LsPost A B k0 W R.1 R.2.1 (.slice so sn sc) w2→∀ bb,w.heap.size+2≤bb→W.heap[bb]?=some (.cells #[.slice none 0 0,.string ⟨#[]⟩] 88)→∀ y0 y1 x0 x1 x2 x3 x4,AnsPost A B k0 w st R.1 ⟨R.2.2.2,0,⟨#[]⟩,R.2.1,R.2.2.1⟩ (.returned (ansV ⟨R.2.2.2,0,⟨#[]⟩,R.2.1,R.2.2.1⟩ (.slice so sn sc))) (put5 ((w2.setCell ⟨bb,0,none⟩ y0).setCell ⟨bb,1,none⟩ y1) (w.heap.size+1) x0 x1 x2 x3 x4)):=fun W w2 so sn sc hl hp bb h1 h2 y0 y1 x0 x1 x2 x3 x4=>page_fin2 h hB hl hp _ rfl bb h1 (Array.getElem?_eq_some_iff.1 h2).1 ⟨_,h2,rfl⟩ y0 y1 x0 x1 x2 x3 x4
  have hb3:=build_ans3
  clear htk hR
  obtain ⟨kind,key,body,delim,past,n,src⟩:=o
  simp only at hk
  subst hk
  unfold ansW at HTK HNX HBX HB2 HB3 HB5 HLA HLB
  clear h c8 ht hinv hpg hT hG hQ
  unfold opVal at HTK ⊢
  go_enter Tryq.func33,Tryz.ntmps33
  go_wp2_with fail
  go_region_law (first
    | (refine step_call1 rfl 44 #[.tmp 124,.tmp 125] #[77,31] rfl #[.pointer (some ⟨k0,0,none⟩),.agg #[.int .i64 8,.string key,.string body,.string delim,.string past,.int .i64 n,.int .i64 src]] (by simp [Act.eval]) (HEN.out _ _ _ (Or.inr rfl)) _ (HTK.out _ (by first | exact LeftL.refl.drew | exact (LeftL.refl.alloc _).drew)) ?_; rintro v w1 ⟨rfl,hb1⟩)
    | (refine step_call2 rfl 43 #[.tmp 123,.tmp 126] #[63,9] rfl #[.pointer (some ⟨k0,4,none⟩),.string tk] (by simp [Act.eval]) (HEN.out _ _ _ (Or.inl rfl)) _ (fun ch w'=>Stop Qok (.panicked ch) w') (HNX.out _ (LeftL.refl.drew.trans (.below hb1))) (fun ch w' hs=>⟨rfl,Or.inr hs⟩) ?_; rintro v w2 ⟨so,sn,sc,rfl,hpost⟩; obtain ⟨⟨t0,t1,t2,t3,t4⟩,u0,u1,u2,u3,u4⟩:=HB5.out _ w2 (LeftL.refl.drew.trans (.below hb1)) hpost; have HFA:=HLA.out _ w2 so sn sc (LeftL.refl.drew.trans (.below hb1)) hpost; have q0:=cell_alloc_ne t0; have q1:=cell_alloc_ne t1; have q2:=cell_alloc_ne t2; have q3:=cell_alloc_ne t3; have q4:=cell_alloc_ne t4; have p0:=frozen_alloc_ne t0 u0; have p1:=frozen_alloc_ne t1 u1; have p2:=frozen_alloc_ne t2 u2; have p3:=frozen_alloc_ne t3 u3; have p4:=frozen_alloc_ne t4 u4; clear hpost hb1)
    | (refine step_call2 rfl 43 #[.tmp 123,.tmp 126] #[63,9] rfl #[.pointer (some ⟨k0,4,none⟩),.string tk] (by simp [Act.eval]) (HEN.out _ _ _ (Or.inl rfl)) _ (fun ch w'=>Stop Qok (.panicked ch) w') (HNX.out _ ((LeftL.refl.alloc _).drew.trans (.below hb1))) (fun ch w' hs=>⟨rfl,Or.inr hs⟩) ?_; rintro v w2 ⟨so,sn,sc,rfl,hpost⟩; obtain ⟨v0,v1,o0,o1⟩:=HBX.out w1 w2 (w.heap.size+1+1) ((LeftL.refl.alloc _).drew.trans (.below hb1)) hpost (by omega) (HB2.out _ hb1); obtain ⟨⟨t0,t1,t2,t3,t4⟩,u0,u1,u2,u3,u4⟩:=HB5.out _ w2 ((LeftL.refl.alloc _).drew.trans (.below hb1)) hpost; have HFA:=HLB.out _ w2 so sn sc ((LeftL.refl.alloc _).drew.trans (.below hb1)) hpost (w.heap.size+1+1) (by omega) (HB2.out _ hb1); clear hpost hb1)
    | (refine step_call2 rfl 43 #[.tmp 123,.tmp 126] #[63,9] rfl #[.pointer (some ⟨k0,4,none⟩),.string tk] (by simp [Act.eval]) (HEN.out _ _ _ (Or.inl rfl)) _ (fun ch w'=>Stop Qok (.panicked ch) w') (HNX.out _ ((LeftL.refl.drew.trans (.below hb1)).alloc _)) (fun ch w' hs=>⟨rfl,Or.inr hs⟩) ?_; rintro v w2 ⟨so,sn,sc,rfl,hpost⟩; obtain ⟨v0,v1,o0,o1⟩:=HBX.out _ w2 w1.heap.size ((LeftL.refl.drew.trans (.below hb1)).alloc _) hpost (HB3.out _ hb1) (World.alloc_heap_new w1 _); obtain ⟨⟨t0,t1,t2,t3,t4⟩,u0,u1,u2,u3,u4⟩:=HB5.out _ w2 ((LeftL.refl.drew.trans (.below hb1)).alloc _) hpost; have HFA:=HLB.out _ w2 so sn sc ((LeftL.refl.drew.trans (.below hb1)).alloc _) hpost w1.heap.size (HB3.out _ hb1) (World.alloc_heap_new w1 _); have hne1 : w.heap.size+1≠w1.heap.size:=(by have:=HB3.out _ hb1; omega); have hne2 : w1.heap.size≠w.heap.size+1:=hne1.symm; clear hpost hb1))
  all_goals
    go_wp2
  all_goals clear HTK HNX HBX HB2 HB3 HB5 HLA HLB HEN HD
  all_goals
    refine bodyPost_ret (v:=ansV ⟨R.2.2.2,0,⟨#[]⟩,R.2.1,R.2.2.1⟩ (.slice so sn sc)) ?_ rfl (.inl ?_)
    · clear HFA
      first
        | simp [results,Tryz.results33,go_sem,ansV,q0,q1,q2,q3,q4]
        | simp [results,Tryz.results33,go_sem,ansV,t0,t1,t2,t3,t4]
        | simp [results,Tryz.results33,go_sem,ansV,t0,t1,t2,t3,t4]
    · unfold put5 at HFA
      refine HFA ..
end
section
variable {A : Nat→Prop} {B k0 : Nat} {w w' : World} {st st' : St} {L : Lg}
theorem LsAt.grown (h : LsAt A B w k0 L) (hg : GrownT w w' k0) (hf : ∀ j,w'.frozen? ⟨k0,j,none⟩=false) {A' : Nat→Prop} (h1 : ∀ b,A b→A' b) (h2 : ∀ b,A' b→A b∨w.heap.size≤b) (h3 : ∀ b,A' b→b < w'.heap.size) : LsAt A' B w' k0 L:=by
  have hlt:=h.lt
  have hlow:=h.low
  have hne : ∀ b,b < w.heap.size→b≠k0→w'.heap[b]?=w.heap[b]?:=fun b hb hk=>hg.g.block b hb (fun e=>hk (Option.some.inj e))
  have hno : ∀ g,g < w.heap.size→¬A g→¬A' g:=fun g hg ha hx=>by
    rcases h2 g hx with h | h
    · exact ha h
    · omega
  obtain ⟨v,c4,zs,z1,z2,z3,z4⟩:=h.opened
  obtain ⟨mv,c6,hm⟩:=h.told
  refine ⟨⟨v,(hg.t 4 (by omega)).trans c4,zs,z1,owns_same z2 fun g h1 hg=>hne g hg (by omega),fun g hg=>hno g (z2.lt g hg).2 (z3 g hg),fun z hz=>NodeAt.keep (fun b hb hlt=>⟨h1 b hb,hne b hlt (fun e=>h.avoid (e ▸ hb))⟩) 41 _ _ (z4 z hz)⟩,(hg.t 5 (by omega)).trans h.begun,⟨mv,(hg.t 6 (by omega)).trans c6,?_⟩,hf,hno k0 hlt h.avoid,h.low,h3⟩
  rcases hm with hm | ⟨m,es,clock,m1,m2,m3,m4,m5⟩
  · exact .inl hm
  · have hml:=(Array.getElem?_eq_some_iff.1 m2).1
    exact .inr ⟨m,es,clock,m1,(hne m hml (by omega)).trans m2,m3,hno m hml m4,m5⟩
theorem old_post (h : DeskAt A B w k0 st L) {r : St×AnsD} {e : Ending} (hp : StepPost A w k0 r.1 (ansVal r.2) e w') : AnsPost A B k0 w r.1 L ⟨r.2.code,r.2.ver,r.2.body,[],⟨#[]⟩⟩ e w':=by
  obtain ⟨rfl,hS,hg⟩:=hp
  have hlt:=h.ls.lt
  have hsz:=hg.g.size
  have hA1 : ∀ b,A b→Grow A w b∧b < w'.heap.size:=fun b hb=>⟨.inl ⟨hb,h.ls.inn b hb⟩,by have:=h.ls.inn b hb; omega⟩
  have hA2 : ∀ b,(Grow A w b∧b < w'.heap.size)→A b∨w.heap.size≤b:=fun b hb=>hb.1.imp (·.1) id
  have hne : ∀ b,b < w.heap.size→b≠k0→w'.heap[b]?=w.heap[b]?:=fun b hb hk=>hg.g.block b hb (fun e=>hk (Option.some.inj e))
  obtain ⟨n,c3⟩:=h.time
  obtain ⟨p,c0,hN⟩:=hS.tree
  refine ⟨.slice none 0 0,rfl,fun b=>Grow A w b∧b < w'.heap.size,hA1,hA2,⟨⟨fun b hb=>hS.avoid b hb.1,⟨p,c0,NodeAt.keep (fun b hb hlt=>⟨⟨hb,hlt⟩,rfl⟩) 41 _ _ hN⟩,hS.count,hS.last,hS.frozen⟩,h.ls.grown hg hS.frozen hA1 hA2 (fun b hb=>hb.2),n,(hg.t 3 (by omega)).trans c3⟩,⟨hg.g.os,hsz,fun b _ h2 h3=>hne b h2 h3,fun b hb h2=>hne b h2 (fun e=>h.ls.avoid (e ▸ hb)),fun j hj=>hg.t j (by omega),fun j=>(hS.frozen j).trans (h.store.frozen j).symm⟩,none,0,rfl,fun _=>rfl,fun hx=>absurd rfl hx⟩
theorem answer_few (h : DeskAt A B w k0 st L) (s : Nat) (o : OpD) (hk : o.key.size≤maxLen) (hbd : o.body.size≤maxLen) (hI : Inv st s) (hs : s < 2199023255552) (h6 : o.kind=1∨o.kind=4) :
    Calls Tryq.prog 33 #[.pointer (some ⟨k0,0,none⟩),opVal o] w (AnsPost A B k0 w (stepSt st o).1 L ⟨(stepSt st o).2.code,(stepSt st o).2.ver,(stepSt st o).2.body,[],⟨#[]⟩⟩):=by
  have h1 : Calls Tryq.prog 33 #[.pointer (some ⟨k0,0,none⟩),opVal o] w (StepPost A w k0 (stepSt st o).1 (ansVal (stepSt st o).2)):=by
    rcases h6 with h1 | h4
    · rw [stepSt_put st o h1]; exact answer_put A k0 st s o w hk hbd h.store hI hs h1
    · rw [stepSt_drop st o h4]; exact answer_drop A k0 st s o w hk h.store hI hs h4
  exact h1.mono fun _ _ hp=>old_post h hp
end
section
variable {A : Nat→Prop} {B k0 : Nat} {w : World} {st : St} {L : Lg}
set_option maxHeartbeats 2000000 in
set_option maxRecDepth 100000 in
theorem answer_stats (h : DeskAt A B w k0 st L) (hB : B≤w.heap.size) (hop : L.opened.length≤3) (o : OpD) (hk : o.kind=10) :
    Calls Tryq.prog 33 #[.pointer (some ⟨k0,0,none⟩),opVal o] w (AnsPost A B k0 w st L ⟨0,st.count,⟨#[]⟩,L.opened.map leaseI,⟨#[]⟩⟩):=by
  have hd0 : DeskAt A B (ansW w o).drew k0 st L:=h.left ((ansW_left o).drew)
  have HT:=leases_ok (ansW w o).drew hd0.ls hop
  have HN:=count_ok k0 st.count (ansW w o).drew hd0.store.count
  obtain ⟨its,hits⟩ : ∃ its,its=L.opened.map leaseI:=⟨_,rfl⟩
  rw [←hits] at HT ⊢
  have hLd : LeftL (ansW w o) (ansW w o).drew:=LeftL.refl.drew
  have hkw : k0 < (ansW w o).heap.size:=by have:=h.ls.lt; rw [ansW_size]; omega
  have HB : Hid (∀ w1,Below (ansW w o).drew.heap.size (ansW w o).drew w1→_):=fun w1 hb=>box5 (ansW_box o h.ls (FrC.left hkw (hLd.trans (.below hb))))
  have HF : Hid (∀ w1 so sn sc x0 x1 x2 x3 x4,Below (ansW w o).drew.heap.size (ansW w o).drew w1→w1.ownsRow (ansW w o).drew.heap.size 41 3 (.slice so sn sc) its.length (itCells its)→AnsPost A B k0 w st L ⟨0,st.count,⟨#[]⟩,its,⟨#[]⟩⟩ (.returned (ansV ⟨0,st.count,⟨#[]⟩,its,⟨#[]⟩⟩ (.slice so sn sc))) (put5 w1 (w.heap.size+1) x0 x1 x2 x3 x4)):=fun w1 so sn sc x0 x1 x2 x3 x4 hb hrow=>by
    have hl : LeftL (ansW w o) w1:=hLd.trans (.below hb)
    obtain ⟨A',a1,a2,a3,a4,a5,a6⟩:=LsPost.page (h.ls.left (ansW_left o)) hl hrow (Nat.le_refl _) (fun _ _ _=>rfl)
    have d1:=(h.left (ansW_left o)).step a4 a1 a3
    obtain ⟨e1,e2,e3,e4⟩:=ans_fin (A':=A') (sv:=.slice so sn sc) (its:=its) (r:=w.heap.size+1) (ansW_left o) h.ls.lt hB (by omega) (by rw [ansW_size]; omega) ⟨_,ansW_row o,rfl⟩ a1 a2 h.ls.inn d1 a4.weak a6 (ansW_open o h.ls) a5 x0 x1 x2 x3 x4
    exact ⟨_,rfl,A',a1,e1,e2,e3,e4⟩
  have hb1:=build_ans2
  clear hits hd0 hLd hkw
  obtain ⟨kind,key,body,delim,past,n,src⟩:=o
  simp only at hk
  subst hk
  unfold ansW at HT HF HB HN
  clear h
  unfold opVal
  go_enter Tryq.func33,Tryz.ntmps33
  go_wp2_with fail
  go_region_with (first
    | (go_at_call 46; refine HN.mono ?_; rintro e w1 ⟨rfl,rfl⟩)
    | (go_at_call 47; refine HT.mono ?_; rintro e w1 ⟨sv,rfl,hrow,hb⟩; obtain ⟨so,sc,rfl,-⟩:=owns_form hrow; obtain ⟨⟨b0,b1,b2,b3,b4⟩,f0,f1,f2,f3,f4⟩:=HB.out w1 hb))
  all_goals
    go_wp2
    exact bodyPost_ret (v:=ansV ⟨0,st.count,⟨#[]⟩,its,⟨#[]⟩⟩ (.slice so its.length sc)) (by simp [results,Tryz.results33,go_sem,ansV,b0,b1,b2,b3,b4]) rfl (HF.out w1 _ _ _ _ _ _ _ _ hb hrow)
end
def pgAns (R : Lg×List ItD×ByteArray×Int) : AnsL:=⟨R.2.2.2,0,⟨#[]⟩,R.2.1,R.2.2.1⟩
def stepA (st : St) (L : Lg) (toks : List ByteArray) (o : OpD) : St×Lg×AnsL:=
  if o.kind=6 then (st,(begR L st.f ⟨false,o.key,o.delim,o.past⟩ o.n).1,pgAns (begR L st.f ⟨false,o.key,o.delim,o.past⟩ o.n))
  else if o.kind=8 then (st,(nextR L (tokenR toks o.src o.body)).1,pgAns (nextR L (tokenR toks o.src o.body)))
  else if o.kind=9 then (st,(tickR L o.n).1,⟨(tickR L o.n).2,0,⟨#[]⟩,[],⟨#[]⟩⟩)
  else if o.kind=10 then (st,L,⟨0,st.count,⟨#[]⟩,L.opened.map leaseI,⟨#[]⟩⟩)
  else ((stepSt st o).1,L,⟨(stepSt st o).2.code,(stepSt st o).2.ver,(stepSt st o).2.body,[],⟨#[]⟩⟩)
structure KindOk (Qok : Qy→Prop) (o : OpD) : Prop where
  k7 : o.kind≠7
  k11 : o.kind≠11
  k12 : o.kind≠12
  q : o.kind=6→Qok ⟨false,o.key,o.delim,o.past⟩
structure InvL (Qok : Qy→Prop) (L : Lg) (s : Nat) : Prop where
  len : L.opened.length≤3
  left : ∀ x∈L.opened,0≤x.left∧x.left≤10
  ok : ∀ x∈L.opened,Qok x.q∧sumV (fromL x.f x.q.p.data.toList)≤1000∧x.q.p.size≤maxLen
  begun : 0≤L.begun∧L.begun≤s
  told : ∀ tok n pg,tFind tok L.told=some (n,pg)→(0≤n∧n≤s)∧0≤pg∧pg≤s+1
theorem tFind_tPut (k k' : ByteArray) (x : Int×Int) (t : Told) : tFind k (tPut k' x t)=if k=k' then some x else tFind k t:=by
  induction t with
  | nil=>simp [tPut,tFind]
  | cons a r ih=>
    obtain ⟨a1,a2⟩:=a
    by_cases h : k'=a1
    · subst h
      simp only [tPut,if_true,tFind]
      by_cases h2 : k=k' <;> simp [h2]
    · simp only [tPut,if_neg h,tFind,ih]
      by_cases h2 : k=a1
      · subst h2
        rw [if_pos rfl,if_neg (fun e=>h e.symm),if_pos rfl]
      · rw [if_neg h2,if_neg h2]
theorem InvT.sum {st : St} (h : InvT st) (p : List UInt8) : sumV (fromL st.f p)≤1000:=by
  have h2:=tot_sub p 41 st.f
  have h3 : sumV (fromL st.f p)=tot (41 - p.length) fun k=>st.f (p++k):=sumV_walk _ _ _ _
  have:=h.cnt
  have:=h.le
  omega
section
variable {Qok : Qy→Prop} {L : Lg} {s : Nat} {st : St}
theorem InvL.mono (h : InvL Qok L s) {s' : Nat} (hs : s≤s') : InvL Qok L s':=
  ⟨h.len,h.left,h.ok,⟨h.begun.1,by have:=h.begun.2; omega⟩,fun tok n pg e=>by have:=h.told tok n pg e; omega⟩
theorem InvL.beg (h : InvL Qok L s) (hT : InvT st) (q : Qy) (n : Int) (hq : Qok q) (hp : q.p.size≤maxLen) : InvL Qok (begR L st.f q n).1 (s+1):=by
  have hb:=h.begun
  unfold begR
  split
  · exact h.mono (by omega)
  · split
    · exact h.mono (by omega)
    · split
      · exact h.mono (by omega)
      · refine ⟨by simp only [List.length_append,List.length_singleton]; omega,fun x hx=>?_,fun x hx=>?_,⟨by simp only; omega,by simp only; omega⟩,fun tok n' pg e=>?_⟩
        · rcases List.mem_append.1 hx with hx | hx
          · exact h.left x hx
          · simp only [List.mem_singleton] at hx
            subst hx
            exact ⟨by simp [newL],by simp [newL]⟩
        · rcases List.mem_append.1 hx with hx | hx
          · exact h.ok x hx
          · simp only [List.mem_singleton] at hx
            subst hx
            exact ⟨hq,hT.sum _,hp⟩
        · simp only [tFind_tPut] at e
          split at e
          · cases e; omega
          · have:=h.told tok n' pg e; omega
theorem InvL.next (h : InvL Qok L s) (tok : ByteArray) : InvL Qok (nextR L tok).1 (s+1):=by
  unfold nextR
  split
  · exact h.mono (by omega)
  · rename_i n pg e1
    split
    · exact h.mono (by omega)
    · split
      · exact h.mono (by omega)
      · rename_i i e2 x e3
        have hx : x∈L.opened:=List.mem_of_getElem? e3
        have hb:=h.begun
        refine ⟨by simpa using h.len,fun y hy=>?_,fun y hy=>?_,⟨hb.1,by simp only; omega⟩,fun tok' n' pg' e=>?_⟩
        · rcases List.mem_or_eq_of_mem_set hy with hy | rfl
          · exact h.left y hy
          · exact ⟨by simp [LsA.again],by simp [LsA.again]⟩
        · rcases List.mem_or_eq_of_mem_set hy with hy | rfl
          · exact h.ok y hy
          · exact h.ok x hx
        · simp only at e
          split at e
          · have:=h.told tok' n' pg' e; omega
          · rw [tFind_tPut] at e
            split at e
            · cases e
              have:=h.told tok n pg e1; omega
            · have:=h.told tok' n' pg' e; omega
theorem InvL.tick (h : InvL Qok L s) (u : Int) : InvL Qok (tickR L u).1 (s+1):=by
  unfold tickR
  split
  · exact h.mono (by omega)
  · rename_i hu
    have hb:=h.begun
    refine ⟨?_,fun y hy=>?_,fun y hy=>?_,⟨hb.1,by simp only [passR]; omega⟩,fun tok n pg e=>by have:=h.told tok n pg e; omega⟩
    · have:=List.length_filter_le (fun x : LsA=>!decide (x.left≤0)) (L.opened.map fun x=>x.again (x.left - u))
      rw [List.length_map] at this
      exact Nat.le_trans this h.len
    · simp only [passR,List.mem_filter,List.mem_map] at hy
      obtain ⟨⟨x,hx,rfl⟩,hy⟩:=hy
      have:=h.left x hx
      have hy' : ¬(x.left - u≤0):=fun e=>by simp [LsA.again,e] at hy
      show 0≤x.left - u∧x.left - u≤10
      omega
    · simp only [passR,List.mem_filter,List.mem_map] at hy
      obtain ⟨⟨x,hx,rfl⟩,hy⟩:=hy
      exact h.ok x hx
theorem InvL.step (h : InvL Qok L s) (hT : InvT st) (toks : List ByteArray) (o : OpD) (hk : KindOk Qok o) (hp : o.key.size≤maxLen) : InvL Qok (stepA st L toks o).2.1 (s+1):=by
  unfold stepA
  split
  · rename_i h6; exact h.beg hT _ _ (hk.q h6) hp
  · split
    · exact h.next _
    · split
      · exact h.tick _
      · split
        · exact h.mono (by omega)
        · exact h.mono (by omega)
theorem InvT.stepA (hT : InvT st) (toks : List ByteArray) (o : OpD) : InvT (stepA st L toks o).1:=by
  unfold Go.Proofs.YtnapepbdohidgaaGreatDoorQ.stepA
  repeat' split
  all_goals first | exact hT | exact hT.step o
theorem Inv.stepA (hI : Inv st s) (toks : List ByteArray) (o : OpD) : Inv (stepA st L toks o).1 (s+1):=by
  have hm : Inv st (s+1):=⟨hI.last0,by have:=hI.lastS; omega,by have:=hI.countL; omega,by have:=hI.countU; omega,hI.sorted,hI.bounds⟩
  unfold Go.Proofs.YtnapepbdohidgaaGreatDoorQ.stepA
  repeat' split
  all_goals first | exact hm | exact hI.step o
end
def AnsAll (Qok : Qy→Prop) (K : OpD→Prop) (N : Nat) : Prop:=
  ∀ {A : Nat→Prop} {B k0 : Nat} {w : World} {st : St} {L : Lg} (_ : DeskAt A B w k0 st L) (_ : B≤w.heap.size) (o : OpD) (_ : K o) (_ : KindOk Qok o) (_ : o.key.size≤maxLen) (_ : o.body.size≤maxLen) {s : Nat} (_ : Inv st s) (_ : InvT st) (_ : InvL Qok L s) (_ : s < N)
    (g0 cp : Nat) (toks : List ByteArray) (_ : toks.length=s) (_ : w.cell? ⟨k0,8,none⟩=some (.slice (some ⟨g0,0,none⟩) s cp)) (_ : ∀ i (hi : i < toks.length),w.cell? ⟨g0,i * 5+4,none⟩=some (.string toks[i])),
    Calls Tryq.prog 33 #[.pointer (some ⟨k0,0,none⟩),opVal o] w fun e w'=>AnsPost A B k0 w (stepA st L toks o).1 (stepA st L toks o).2.1 (stepA st L toks o).2.2 e w'∨Stop Qok e w'
end Go.Proofs.YtnapepbdohidgaaGreatDoorQ
namespace Go.Proofs.YtnapepbdohidgaaGreatDoorQ
open Go.RowKit
def st0 : St:=⟨fun _=>[],0,0⟩
theorem inv0 : Inv st0 0:=by
  refine ⟨by simp [st0],by simp [st0],by simp [st0],by simp [st0],?_,?_⟩
  · intro k i j _ hj; simp [st0] at hj
  · intro k i hi; simp [st0] at hi
def opCells (o : OpD) : List Value:=[.int .i64 o.kind,.string o.key,.string o.body,.string o.delim,.string o.past,.int .i64 o.n,.int .i64 o.src]
def ScriptAt (w : World) (b off : Nat) (ops : List OpD) : Prop:=
  ∀ i (h : i < ops.length),w.cell? ⟨b,off+i * 7,none⟩=some (.int .i64 ops[i].kind)∧w.cell? ⟨b,off+i * 7+1,none⟩=some (.string ops[i].key)∧w.cell? ⟨b,off+i * 7+2,none⟩=some (.string ops[i].body) ∧
    w.cell? ⟨b,off+i * 7+3,none⟩=some (.string ops[i].delim)∧w.cell? ⟨b,off+i * 7+4,none⟩=some (.string ops[i].past)∧w.cell? ⟨b,off+i * 7+5,none⟩=some (.int .i64 ops[i].n)∧w.cell? ⟨b,off+i * 7+6,none⟩=some (.int .i64 ops[i].src)
def Sized (ops : List OpD) : Prop:=∀ o∈ops,o.key.size≤maxLen∧o.body.size≤maxLen
theorem Tryq.infoAns : (Tryq.prog.info? 36).map (fun i=>(i.zero,i.size,i.bytes))=some (some (.agg #[.int .i64 0,.int .i64 0,.string ⟨#[]⟩,.slice none 0 0,.string ⟨#[]⟩]),5,72):=by kernel_rfl
end Go.Proofs.YtnapepbdohidgaaGreatDoorQ
namespace Go.Proofs.YtnapepbdohidgaaGreatDoorQ
open Go
open Go.Conc Go.ConcX Go.ConcX.Gen Go.RowKit
structure Dk where
  st : St
  L : Lg
  al : List AnsL
def Dk.toks (d : Dk) : List ByteArray:=d.al.map (·.tok)
def stepD (d : Dk) (o : OpD) : Dk:=⟨(stepA d.st d.L d.toks o).1,(stepA d.st d.L d.toks o).2.1,d.al++[(stepA d.st d.L d.toks o).2.2]⟩
def dk0 : Dk:=⟨st0,⟨[],0,[]⟩,[]⟩
def runD (ops : List OpD) : Dk:=ops.foldl stepD dk0
theorem runD_snoc (a : List OpD) (o : OpD) : runD (a++[o])=stepD (runD a) o:=by simp [runD]
structure InvD (Qok : Qy→Prop) (d : Dk) (s : Nat) : Prop where
  i : Inv d.st s
  t : InvT d.st
  l : InvL Qok d.L s
  n : d.al.length=s
theorem invD0 (Qok : Qy→Prop) : InvD Qok dk0 0:=⟨inv0,invT0,⟨by simp [dk0],by simp [dk0],by simp [dk0],by simp [dk0],by simp [dk0,tFind]⟩,rfl⟩
theorem InvD.step {Qok : Qy→Prop} {d : Dk} {s : Nat} (h : InvD Qok d s) (o : OpD) (hk : KindOk Qok o) (hp : o.key.size≤maxLen) : InvD Qok (stepD d o) (s+1):=
  ⟨h.i.stepA _ o,h.t.stepA _ o,h.l.step h.t _ o hk hp,by simp [stepD,h.n]⟩
theorem invD_fold {Qok : Qy→Prop} (ops : List OpD) : ∀ (d : Dk) (s : Nat),(∀ o∈ops,KindOk Qok o∧o.key.size≤maxLen)→InvD Qok d s→InvD Qok (ops.foldl stepD d) (s+ops.length):=by
  induction ops with
  | nil=>intro d s _ h; exact h
  | cons o r ih=>
    intro d s hk h
    have:=ih (stepD d o) (s+1) (fun x hx=>hk x (by simp [hx])) (h.step o (hk o (by simp)).1 (hk o (by simp)).2)
    rw [List.foldl_cons,List.length_cons,show s+(r.length+1)=s+1+r.length by omega]
    exact this
theorem invD_run {Qok : Qy→Prop} (ops : List OpD) (hk : ∀ o∈ops,KindOk Qok o∧o.key.size≤maxLen) : InvD Qok (runD ops) ops.length:=by
  have:=invD_fold ops dk0 0 hk (invD0 Qok)
  rwa [Nat.zero_add] at this
def aCells (zs : List (AnsL×Value)) : List Value:=zs.flatMap fun z=>[.int .i64 z.1.code,.int .i64 z.1.ver,.string z.1.body,z.2,.string z.1.tok]
theorem aCells_len (zs : List (AnsL×Value)) : (aCells zs).length=zs.length * 5:=flat_len 5 _ (fun _=>rfl) zs
theorem aCells_snoc (zs : List (AnsL×Value)) (z : AnsL×Value) : aCells (zs++[z])=aCells zs++[.int .i64 z.1.code,.int .i64 z.1.ver,.string z.1.body,z.2,.string z.1.tok]:=by simp [aCells]
theorem aCells_at : ∀ (zs : List (AnsL×Value)) (i : Nat) (hi : i < zs.length),(aCells zs)[i * 5]?=some (.int .i64 zs[i].1.code)∧(aCells zs)[i * 5+1]?=some (.int .i64 zs[i].1.ver)∧(aCells zs)[i * 5+2]?=some (.string zs[i].1.body)∧(aCells zs)[i * 5+3]?=some zs[i].2∧(aCells zs)[i * 5+4]?=some (.string zs[i].1.tok)
  | [],i,hi=>by simp at hi
  | z :: zs,0,hi=>by simp [aCells]
  | z :: zs,i+1,hi=>by
    have ih:=aCells_at zs i (by simpa using hi)
    have e : aCells (z :: zs)=[.int .i64 z.1.code,.int .i64 z.1.ver,.string z.1.body,z.2,.string z.1.tok]++aCells zs:=by simp [aCells]
    have hh : ∀ j,(aCells (z :: zs))[(i+1) * 5+j]?=(aCells zs)[i * 5+j]?:=fun j=>by
      rw [e,List.getElem?_append_right (by simp; omega)]
      congr 1
      simp
      omega
    simp only [List.getElem_cons_succ]
    exact ⟨(hh 0).trans ih.1,(hh 1).trans ih.2.1,(hh 2).trans ih.2.2.1,(hh 3).trans ih.2.2.2.1,(hh 4).trans ih.2.2.2.2⟩
def RowsAt (A : Nat→Prop) (w : World) (zs : List (AnsL×Value)) : Prop:=∀ z∈zs,RowAt A w z.2 z.1.items.length (itCells z.1.items)
def RunPost (ops : List OpD) (w : World) (e : Ending) (w' : World) : Prop:=
  ∃ (A : Nat→Prop) (zs : List (AnsL×Value)),e=.returned (.slice (some ⟨w.heap.size,0,none⟩) ops.length ops.length)∧zs.map (·.1)=(runD ops).al∧w'.ownsRow w.heap.size 36 5 (.slice (some ⟨w.heap.size,0,none⟩) ops.length ops.length) ops.length (aCells zs)∧RowsAt A w' zs∧(∀ b,A b→w.heap.size < b)∧LeftL w w'
section
variable {A : Nat→Prop} {B k0 : Nat} {w w' : World} {st : St} {L : Lg}
theorem DeskAt.apart {g0 : Nat} (h : DeskAt A B w k0 st L) (hsz : w.heap.size≤w'.heap.size) (hne : ∀ b,b < w.heap.size→b≠k0→b≠g0→w'.heap[b]?=w.heap[b]?) (hA : ¬A g0) (hgB : g0 < B) (hc : ∀ j,j < 7→w'.cell? ⟨k0,j,none⟩=w.cell? ⟨k0,j,none⟩) (hf : ∀ j,w'.frozen? ⟨k0,j,none⟩=w.frozen? ⟨k0,j,none⟩) : DeskAt A B w' k0 st L:=by
  have hAk:=h.ls.avoid
  have hlow:=h.ls.low
  have hN : ∀ n p f,NodeAt A n w p f→NodeAt A n w' p f:=fun n p f hn=>NodeAt.keep (fun b hb hlt=>⟨hb,hne b hlt (fun e=>hAk (e ▸ hb)) (fun e=>hA (e ▸ hb))⟩) n p f hn
  obtain ⟨n,c3⟩:=h.time
  obtain ⟨p,c0,hp⟩:=h.store.tree
  obtain ⟨v,c4,zs,z1,z2,z3,z4⟩:=h.ls.opened
  obtain ⟨mv,c6,hm⟩:=h.ls.told
  refine ⟨⟨h.store.avoid,⟨p,(hc 0 (by omega)).trans c0,hN _ _ _ hp⟩,(hc 1 (by omega)).trans h.store.count,(hc 2 (by omega)).trans h.store.last,fun j=>(hf j).trans (h.store.frozen j)⟩,⟨⟨v,(hc 4 (by omega)).trans c4,zs,z1,owns_same z2 fun g h1 hg=>hne g hg (by omega) (by omega),z3,fun z hz=>hN _ _ _ (z4 z hz)⟩,(hc 5 (by omega)).trans h.ls.begun,⟨mv,(hc 6 (by omega)).trans c6,?_⟩,fun j=>(hf j).trans (h.ls.frozen j),h.ls.avoid,h.ls.low,fun b hb=>by have:=h.ls.inn b hb; omega⟩,n,(hc 3 (by omega)).trans c3⟩
  rcases hm with hm | ⟨m,es,clock,m1,m2,m3,m4,m5⟩
  · exact .inl hm
  · have hml:=(Array.getElem?_eq_some_iff.1 m2).1
    exact .inr ⟨m,es,clock,m1,(hne m hml (by omega) (by omega)).trans m2,m3,m4,m5⟩
theorem desk_zero {c7 c8 : Value} {T : TypeId} : DeskAt (fun _=>False) (w.heap.size+1) (w.alloc (.cells #[.pointer none,.int .i64 0,.int .i64 0,.int .u64 0,.slice none 0 0,.int .i64 0,.map none,c7,c8] T)) w.heap.size st0 ⟨[],0,[]⟩:=by
  have hd : ∀ j,(w.alloc (.cells #[.pointer none,.int .i64 0,.int .i64 0,.int .u64 0,.slice none 0 0,.int .i64 0,.map none,c7,c8] T)).cell? ⟨w.heap.size,j,none⟩=(#[.pointer none,.int .i64 0,.int .i64 0,.int .u64 0,.slice none 0 0,.int .i64 0,.map none,c7,c8] : Array Value)[j]?:=fun j=>World.cell?_alloc_at (w:=w) _ _ w.heap.size j rfl
  have hf : ∀ j,(w.alloc (.cells #[.pointer none,.int .i64 0,.int .i64 0,.int .u64 0,.slice none 0 0,.int .i64 0,.map none,c7,c8] T)).frozen? ⟨w.heap.size,j,none⟩=false:=fun j=>World.frozen?_alloc_at (w:=w) _ _ w.heap.size j rfl
  refine ⟨⟨fun _ h=>h.elim,⟨none,hd 0,NodeAt.nil (fun _=>rfl)⟩,hd 1,hd 2,hf⟩,⟨⟨_,hd 4,[],rfl,⟨by simp [zCells],.inl ⟨rfl,rfl⟩⟩,fun g h=>by simp [Value.ownBlock] at h,fun z hz=>by simp at hz⟩,hd 5,⟨_,hd 6,.inl ⟨rfl,rfl⟩⟩,hf,fun h=>h,by omega,fun _ h=>h.elim⟩,0,hd 3⟩
theorem toks_at {zs : List (AnsL×Value)} {al : List AnsL} (hz : zs.map (·.1)=al) {base n cap g : Nat} {T : TypeId} (h : w.ownsRow base T 5 (.slice (some ⟨g,0,none⟩) n cap) n (aCells zs)) : ∀ i (hi : i < (al.map (·.tok)).length),w.cell? ⟨g,i * 5+4,none⟩=some (.string (al.map (·.tok))[i]):=by
  subst hz
  intro i hi
  have hi' : i < zs.length:=by simpa using hi
  have:=(aCells_at zs i hi').2.2.2.2
  rw [h.cellAt _ (by have:=h.1; rw [aCells_len] at this; omega)]
  simpa using this
end
def qAll : Qy:=⟨false,⟨#[]⟩,⟨#[]⟩,⟨#[]⟩⟩
theorem itoa_digit (n : Nat) (h : n < 10) : Lib.itoa (n : Int)=[UInt8.ofNat (48+n)]:=by
  rw [itoa_nat,Lib.decDigits,dif_pos h]
theorem tokOf_ne (n pg : Int) : tokOf n pg≠⟨#[]⟩:=by
  intro h
  have:=congrArg (fun b=>b.data.size) h
  simp [tokOf] at this
theorem tok12 : tokOf 1 2=⟨#[49,46,50]⟩:=by
  rw [tokOf,show (1 : Int)=((1 : Nat) : Int) from rfl,show (2 : Int)=((2 : Nat) : Int) from rfl,itoa_digit 1 (by omega),itoa_digit 2 (by omega)]
  rfl
theorem tok13 : tokOf 1 3=⟨#[49,46,51]⟩:=by
  rw [tokOf,show (1 : Int)=((1 : Nat) : Int) from rfl,show (3 : Int)=((3 : Nat) : Int) from rfl,itoa_digit 1 (by omega),itoa_digit 3 (by omega)]
  rfl
theorem tok12_13 : tokOf 1 2≠tokOf 1 3:=by rw [tok12,tok13]; decide
theorem items_fold (l : List (List UInt8×List Ver)) (h : ∀ x∈l,wantB qAll x.1 x.2=true) : ∀ s,(l.foldl (itemStep qAll) s).1=s.1++l.map fun x=>⟨1,⟨x.1.toArray⟩,(lastV x.2).num⟩:=by
  induction l with
  | nil=>intro s; simp
  | cons a r ih=>
    intro s
    rw [List.foldl_cons,ih (fun x hx=>h x (by simp [hx]))]
    have e : itemStep qAll s a=(s.1++[⟨1,⟨a.1.toArray⟩,(lastV a.2).num⟩],s.2):=by
      have e2 : commonOf qAll a.1=none:=rfl
      rw [itemStep,if_pos (h a (by simp)),e2]
      rfl
    rw [e]
    simp
theorem items_plain (l : List (List UInt8×List Ver)) (h : ∀ x∈l,wantB qAll x.1 x.2=true) : itemsOf qAll l=l.map fun x=>⟨1,⟨x.1.toArray⟩,(lastV x.2).num⟩:=by
  rw [itemsOf,itemsSt,items_fold l h,List.nil_append]
theorem want_cons (b : UInt8) (k : List UInt8) (v : Ver) (hv : v.mark=false) : wantB qAll (b :: k) [v]=true:=by
  have e : (⟨(b :: k).toArray⟩ : ByteArray).toList=b :: k:=by rw [ByteArray.toList_eq]
  have e0 : (⟨#[]⟩ : ByteArray).toList=[]:=by rw [ByteArray.toList_eq]
  simp [wantB,pastB,qAll,e,e0,lastV,hv,Op.bytesLess]
theorem walk_one (n : Nat) (f : List UInt8→List Ver) (bs : List UInt8) (v : Ver) (h0 : f []=[v]) (hno : ∀ c k,f (c :: k)=[]) : walkL (n+1) f bs=[(bs,[v])]:=by
  rw [walkL_kids n f bs [] .nil (fun c _ k=>hno c k),h0]
  rfl
theorem walk_row (n : Nat) (f : List UInt8→List Ver) (bs : List UInt8) (ks : List (UInt8×Ver)) (hs : ks.Pairwise fun a b=>a.1 < b.1) (h0 : f []=[]) (h1 : ∀ x∈ks,f [x.1]=[x.2]∧∀ c k,f (x.1 :: c :: k)=[]) (hno : ∀ c,(∀ v,(c,v) ∉ ks)→∀ k,f (c :: k)=[]) : walkL (n+2) f bs=ks.map fun x=>(bs++[x.1],[x.2]):=by
  rw [walkL_kids (n+1) f bs (ks.map fun x=>(x.1,none)) (by rw [List.pairwise_map]; exact hs) (fun c hc k=>hno c (fun v hv=>hc none (List.mem_map.2 ⟨_,hv,rfl⟩)) k),h0]
  simp only [List.isEmpty_nil,if_true,List.nil_append,List.flatMap_map]
  have : ∀ l : List (UInt8×Ver),(∀ x∈l,f [x.1]=[x.2]∧∀ c k,f (x.1 :: c :: k)=[])→(l.flatMap fun x=>walkL (n+1) (fun k=>f (x.1 :: k)) (bs++[x.1]))=l.map fun x=>(bs++[x.1],[x.2]):=by
    intro l
    induction l with
    | nil=>intro _; rfl
    | cons a r ih=>
      intro h
      obtain ⟨h1,h2⟩:=h a (by simp)
      rw [List.flatMap_cons,ih (fun x hx=>h x (by simp [hx])),walk_one n (fun k=>f (a.1 :: k)) (bs++[a.1]) a.2 h1 h2]
      rfl
  exact this ks h1
theorem walk_at (n : Nat) (f : List UInt8→List Ver) (bs : List UInt8) (b : UInt8) (h0 : f []=[]) (hno : ∀ c,c≠b→∀ k,f (c :: k)=[]) : walkL (n+1) f bs=walkL n (fun k=>f (b :: k)) (bs++[b]):=by
  rw [walkL_kids n f bs [(b,none)] (by simp) (fun c hc k=>hno c (fun e=>hc none (by simp [e])) k),h0]
  simp
def sB : ByteArray:=⟨#[98]⟩
def sA : ByteArray:=⟨#[97]⟩
def noB : ByteArray:=⟨#[]⟩
def pagOps : List OpD:=[⟨1,sB,⟨#[120]⟩,noB,noB,0,0⟩,⟨1,sA,⟨#[121]⟩,noB,noB,0,0⟩,⟨6,noB,noB,noB,noB,1,0⟩,⟨4,sB,noB,noB,noB,0,0⟩,⟨8,noB,noB,noB,noB,0,2⟩,⟨8,noB,⟨#[110,111,110,101]⟩,noB,noB,0,-1⟩]
theorem begR_one (L : Lg) (f : List UInt8→List Ver) (hlen : 1 < (itemsOf qAll (fromL f [])).length) : begR L f qAll 1=if 3≤L.opened.length then (L,[],⟨#[]⟩,8) else (⟨L.opened++[⟨L.begun+1,f,qAll,1,10⟩],L.begun+1,tPut (tokOf (L.begun+1) 2) (L.begun+1,2) L.told⟩,(⟨L.begun+1,f,qAll,1,10⟩ : LsA).page 1,tokOf (L.begun+1) 2,0):=by
  have e : (newL L f qAll 1).tok 1=tokOf (L.begun+1) 2:=by
    have h1 : IntKind.i64.wrap (1 * 1)=1:=by decide
    have h2 : IntKind.i64.wrap (1+1)=2:=by decide
    have hq : qAll.p.data.toList=[]:=rfl
    simp only [LsA.tok,pTok,LsA.lst,newL,h1,h2,hq]
    rw [if_pos (by omega)]
  unfold begR
  rw [if_neg (by omega),e,if_neg (tokOf_ne _ _)]
  rfl
theorem tok_next (x : LsA) (hq : x.q=qAll) (hs : x.size=1) (pg : Int) (h : 0≤pg∧pg < 100) : x.tok pg=if pg < (itemsOf qAll (fromL x.f [])).length then tokOf x.num (pg+1) else ⟨#[]⟩:=by
  have h1 : IntKind.i64.wrap (pg * 1)=pg:=by rw [Int.mul_one]; exact wrap_small _ (by omega) (by omega)
  have h2 : IntKind.i64.wrap (pg+1)=pg+1:=wrap_small _ (by omega) (by omega)
  have hq' : qAll.p.data.toList=[]:=rfl
  simp only [LsA.tok,pTok,LsA.lst,hq,hs,h1,h2,hq']
end Go.Proofs.YtnapepbdohidgaaGreatDoorQ
