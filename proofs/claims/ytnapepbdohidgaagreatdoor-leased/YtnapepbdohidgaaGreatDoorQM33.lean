/- Part of a proof. -/
import Derived.Test.YtnapepbdohidgaaGreatDoorQM28
namespace Go.Proofs.YtnapepbdohidgaaGreatDoorQ
open Go
open Go.Conc Go.ConcX Go.ConcX.Gen Go.RowKit
section
variable {A : Nat→Prop} {B k0 : Nat} {L : Lg}
set_option maxHeartbeats 4000000 in
set_option maxRecDepth 100000 in
theorem begin_new (Qok : Qy→Prop) (hQ : ∀ q,Qok q→CmnOk q∧SkyOk q) (w : World) (h : LsAt A B w k0 L) (hB : B≤w.heap.size) (root : Option Addr) (f : List UInt8→List Ver) (q : Qy) (size : Int) (hN : NodeAt A 41 w root f) (hq : Qok q) (hsum : sumV (fromL f q.p.data.toList)≤1000) (hp : q.p.size≤maxLen) (hbg : 0≤L.begun∧L.begun < 2199023255552) (hop : L.opened.length≤3) (G : World→Prop) (hG : ∀ w',LeftL w w'→G w') (hT : TokOk G (L.begun+1) 2) (hsz : ¬(size < 1∨20 < size)) (htk0 : (newL L f q size).tok 1≠⟨#[]⟩) (h3 : ¬3≤L.opened.length) :
    Calls Tryq.prog 40 #[.pointer (some ⟨k0,4,none⟩),sV root,qV q.vs q.p q.d q.af,.int .i64 size] w fun e w'=>
      (∃ sv,e=.returned (.tuple #[.agg #[sv,.string (begR L f q size).2.2.1],.int .i64 (begR L f q size).2.2.2])∧LsPost A B k0 w (begR L f q size).1 (begR L f q size).2.1 sv w')∨Stop Qok e w':=by
  have c5:=h.begun
  obtain ⟨v4,c4,zs,z1,z2,z3,z4⟩:=h.opened
  obtain ⟨va4,vc4,rfl,-⟩:=owns_form z2
  have hlz : L.opened.length=zs.length:=by rw [z1]; simp
  have hlt:=h.lt
  have HL : Hid (LsAt A B w k0 L):=h
  obtain ⟨vs,p,d,af⟩:=q
  unfold sV qV
  have h1 : ¬size < 1:=by omega
  have h2 : ¬20 < size:=by omega
  have hbl:=build_lst
  have hbp:=build_page
  have hwb : wrap64 (L.begun+1)=L.begun+1:=by unfold wrap64; omega
  have hk1 : k0 < w.heap.size+1:=by omega
  have hk2 : k0 < w.heap.size+1+1:=by omega
  have hk3 : k0 < w.heap.size+1+1+1:=by omega
  obtain ⟨V,hV⟩ : ∃ V,V=((((w.alloc (.cells #[.pointer root] 56)).alloc (.cells #[.bool vs,.string p,.string d,.string af] 93)).alloc (.cells #[.slice none 0 0,.string ⟨#[]⟩] 88)).alloc (.cells #[.int .i64 (L.begun+1),.pointer root,.bool vs,.string p,.string d,.string af,.int .i64 size,.int .i64 10] 125)).drew:=⟨_,rfl⟩
  have hLV : LeftL w V:=by rw [hV]; exact ((((LeftL.refl.alloc _).alloc _).alloc _).alloc _).drew
  have hVs : V.heap.size=w.heap.size+4:=by rw [hV]; simp
  have hpre : PreL Qok ((newL L f ⟨vs,p,d,af⟩ size).lst root) f V:=⟨.of (NodeAt.keep (A':=fun _=>True) (fun b _ hlt=>⟨trivial,hLV.block b hlt⟩) 41 root f hN),hq,hsum,hp⟩
  have HP0:=page_ok Qok hQ ((newL L f ⟨vs,p,d,af⟩ size).lst root) 1 f V hpre G (fun w' hl=>hG w' (hLV.trans hl)) (fun _=>hT)
  obtain ⟨tk,htk⟩ : ∃ tk,tk=(newL L f ⟨vs,p,d,af⟩ size).tok 1:=⟨_,rfl⟩
  obtain ⟨pg,hpg⟩ : ∃ pg,pg=(newL L f ⟨vs,p,d,af⟩ size).page 1:=⟨_,rfl⟩
  have HP : Calls Tryq.prog 69 #[.agg #[.int .i64 (L.begun+1),.pointer root,.bool vs,.string p,.string d,.string af,.int .i64 size,.int .i64 10],.int .i64 1] V fun e w'=>(∃ so sn sc,e=.returned (.agg #[.slice so sn sc,.string tk])∧w'.ownsRow V.heap.size 41 3 (.slice so sn sc) pg.length (itCells pg)∧LeftL V w')∨Stop Qok e w':=by
    refine HP0.mono ?_
    rintro e w' (⟨sv,rfl,h3,h4⟩ | h)
    · left
      rw [htk,hpg]
      rw [pageOf_size (l:=(newL L f ⟨vs,p,d,af⟩ size).lst root) (l':=(newL L f ⟨vs,p,d,af⟩ size).lst none) rfl] at h3
      obtain ⟨so,sn,sc,rfl⟩ : ∃ so sn sc,sv=.slice so sn sc:=by
        rcases h3.2 with ⟨rfl,-⟩ | ⟨g,cap,cur,rfl,-⟩
        · exact ⟨_,_,_,rfl⟩
        · exact ⟨_,_,_,rfl⟩
      exact ⟨so,sn,sc,rfl,h3,h4⟩
    · exact .inr h
  clear HP0
  have HF : Hid (∀ w1,LeftL V w1→((w1.cell? ⟨w.heap.size+1+1+1,0,none⟩=some (.int .i64 (L.begun+1))∧w1.cell? ⟨w.heap.size+1+1+1,1,none⟩=some (.pointer root)∧w1.cell? ⟨w.heap.size+1+1+1,2,none⟩=some (.bool vs)∧w1.cell? ⟨w.heap.size+1+1+1,3,none⟩=some (.string p)∧w1.cell? ⟨w.heap.size+1+1+1,4,none⟩=some (.string d)∧w1.cell? ⟨w.heap.size+1+1+1,5,none⟩=some (.string af)∧w1.cell? ⟨w.heap.size+1+1+1,6,none⟩=some (.int .i64 size)∧w1.cell? ⟨w.heap.size+1+1+1,7,none⟩=some (.int .i64 10)) ∧
      (w1.cell? ⟨w.heap.size+1+1,0,none⟩=some (.slice none 0 0)∧w1.cell? ⟨w.heap.size+1+1,1,none⟩=some (.string ⟨#[]⟩)∧w1.frozen? ⟨w.heap.size+1+1,0,none⟩=false∧w1.frozen? ⟨w.heap.size+1+1,1,none⟩=false) ∧
      (w1.cell? ⟨k0,4,none⟩=some (.slice va4 zs.length vc4)∧w1.cell? ⟨k0,5,none⟩=some (.int .i64 L.begun)∧w1.frozen? ⟨k0,4,none⟩=false∧w1.frozen? ⟨k0,5,none⟩=false)∧(w.heap.size+1+1 < w1.heap.size∧w.heap.size+1+1+1 < w1.heap.size∧k0 < w1.heap.size))):=fun w1 hl=>by
    have r3 : V.heap[w.heap.size+3]?=some (.cells #[.int .i64 (L.begun+1),.pointer root,.bool vs,.string p,.string d,.string af,.int .i64 size,.int .i64 10] 125):=by
      rw [hV]
      simp only [World.drew,World.alloc,Array.getElem?_push,Array.size_push]
      repeat rw [if_neg (by omega)]
      simp
    have r2 : V.heap[w.heap.size+2]?=some (.cells #[.slice none 0 0,.string ⟨#[]⟩] 88):=by
      rw [hV]
      simp only [World.drew,World.alloc,Array.getElem?_push,Array.size_push]
      repeat rw [if_neg (by omega)]
      simp
    have e3:=(hl.block _ (by omega)).trans r3
    have e2:=(hl.block _ (by omega)).trans r2
    have hfz : ∀ j,w1.frozen? ⟨k0,j,none⟩=false:=fun j=>(World.frozen?_of_block (a:=⟨k0,j,none⟩) ((hLV.trans hl).block k0 hlt)).trans (HL.out.frozen j)
    have:=hl.size
    refine ⟨⟨?_,?_,?_,?_,?_,?_,?_,?_⟩,⟨?_,?_,?_,?_⟩,⟨(hLV.trans hl).cell c4,(hLV.trans hl).cell c5,hfz 4,hfz 5⟩,by omega,by omega,by omega⟩
    all_goals simp [World.cell?,World.frozen?,e3,e2]
  have HX : Hid (LeftL w V∧NodeAt A 41 w root f∧V.heap.size=w.heap.size+4):=⟨hLV,hN,hVs⟩
  have HZ : Hid (L.opened=zs.map (·.1)∧w.ownsRow B 125 8 (.slice va4 zs.length vc4) zs.length (zCells zs)∧(∀ g,(Value.slice va4 zs.length vc4).ownBlock=some g→¬A g)∧∀ z∈zs,NodeAt A 41 w z.2 z.1.f):=⟨z1,z2,z3,z4⟩
  have HB : Hid (begR L f ⟨vs,p,d,af⟩ size=(if tk=⟨#[]⟩ then (L,pg,⟨#[]⟩,0) else if 3≤L.opened.length then (L,[],⟨#[]⟩,8) else (⟨L.opened++[newL L f ⟨vs,p,d,af⟩ size],L.begun+1,tPut tk (L.begun+1,2) L.told⟩,pg,tk,0))):=by
    show begR L f ⟨vs,p,d,af⟩ size=_
    rw [begR,if_neg hsz,←htk,←hpg]
  generalize begR L f ⟨vs,p,d,af⟩ size=R at *
  have HV : Hid (V=((((w.alloc (.cells #[.pointer root] 56)).alloc (.cells #[.bool vs,.string p,.string d,.string af] 93)).alloc (.cells #[.slice none 0 0,.string ⟨#[]⟩] 88)).alloc (.cells #[.int .i64 (L.begun+1),.pointer root,.bool vs,.string p,.string d,.string af,.int .i64 size,.int .i64 10] 125)).drew):=hV
  rw [←htk] at htk0
  replace htk:=htk0
  clear hV hLV hVs hpre hpg hN z1 z2 z3 z4 hG hT hq hsum hp h hQ
  have hne' : ¬tk.toList=[]:=fun hx=>by
    have : (tk == (⟨#[]⟩ : ByteArray))=true:=by rw [beq_toListBytes]; simpa using hx
    exact htk ((MapKept.bytes_beq _ _).1 this)
  have hne : (tk.toList == [])=false:=by simpa using hne'
  have hR : R=(⟨L.opened++[newL L f ⟨vs,p,d,af⟩ size],L.begun+1,tPut tk (L.begun+1,2) L.told⟩,pg,tk,0):=by rw [HB.out,if_neg htk,if_neg h3]
  subst hR
  have h3i : ¬(3 : Int)≤(zs.length : Int):=by omega
  obtain ⟨i0,hi0,hz0,hz1,hz2⟩:=info_parts Tryq.infoLst
  have hbq:=build_place
  obtain ⟨cL,hcL⟩ : ∃ cL : Array Value,cL=#[.int .i64 (L.begun+1),.pointer root,.bool vs,.string p,.string d,.string af,.int .i64 size,.int .i64 10]:=⟨_,rfl⟩
  have HOW : Hid (∀ w1,LeftL V w1→∀ o o' : Obj,((w1.alloc o).alloc o').drew.ownsRow B 125 8 (.slice va4 zs.length vc4) zs.length (zCells zs)∧B≤((w1.alloc o).alloc o').drew.heap.size):=fun w1 hl o o'=>by
    have h5 : LeftL w ((w1.alloc o).alloc o').drew:=(((HX.out.1.trans hl).alloc o).alloc o').drew
    exact ⟨owns_same HZ.out.2.1 fun g _ hg=>h5.block g hg,Nat.le_trans hB h5.size⟩
  have HNW : Hid (∀ (w1 : World) (o : Obj),∀ j u,[Value.int .i64 (L.begun+1),.pointer root,.bool vs,.string p,.string d,.string af,.int .i64 size,.int .i64 10][j]?=some u→((w1.alloc o).alloc (.cells #[.int .i64 (L.begun+1),.pointer root,.bool vs,.string p,.string d,.string af,.int .i64 size,.int .i64 10] 125)).drew.cell? ((⟨w1.heap.size+1,0,none⟩ : Addr).add j)=some u):=fun w1 o j u hj=>by
    have:=newsA (w1.alloc o) _ 125 j u hj
    rwa [World.size_alloc] at this
  have HF3 : Hid (∀ w1,LeftL V w1→∀ so sn sc w3,((w1.alloc (.cells #[.slice so sn sc,.string tk] 88)).alloc (.cells #[.int .i64 (L.begun+1),.pointer root,.bool vs,.string p,.string d,.string af,.int .i64 size,.int .i64 10] 125)).drew.grownBy w3 (Value.slice va4 zs.length vc4).ownBlock →
      ((w3.cell? ⟨k0,4,none⟩=some (.slice va4 zs.length vc4)∧w3.cell? ⟨k0,5,none⟩=some (.int .i64 L.begun)∧w3.frozen? ⟨k0,4,none⟩=false∧w3.frozen? ⟨k0,5,none⟩=false) ∧
       (w3.cell? ⟨w1.heap.size,0,none⟩=some (.slice so sn sc)∧w3.cell? ⟨w1.heap.size,1,none⟩=some (.string tk)∧w3.cell? ⟨w.heap.size+1+1+1,0,none⟩=some (.int .i64 (L.begun+1))) ∧
       (w3.cell? ⟨w.heap.size+1+1,0,none⟩=some (.slice none 0 0)∧w3.cell? ⟨w.heap.size+1+1,1,none⟩=some (.string ⟨#[]⟩)∧w3.frozen? ⟨w.heap.size+1+1,0,none⟩=false∧w3.frozen? ⟨w.heap.size+1+1,1,none⟩=false) ∧
       w.heap.size+1+1 < w3.heap.size∧w.heap.size+1+1+1 < w3.heap.size∧w1.heap.size < w3.heap.size∧k0 < w3.heap.size)):=fun w1 hl1 so sn sc w3 hg3=>by
    obtain ⟨⟨q0,q1,q2,q3,q4,q5,q6,q7⟩,⟨s0,s1,z0,z1⟩,⟨m4,m5,n4,n5⟩,y2,y3,yk⟩:=HF.out w1 hl1
    have hLa : LeftL w1 ((w1.alloc (.cells #[.slice so sn sc,.string tk] 88)).alloc (.cells #[.int .i64 (L.begun+1),.pointer root,.bool vs,.string p,.string d,.string af,.int .i64 size,.int .i64 10] 125)).drew:=((LeftL.refl.alloc _).alloc _).drew
    have hsz : ((w1.alloc (.cells #[.slice so sn sc,.string tk] 88)).alloc (.cells #[.int .i64 (L.begun+1),.pointer root,.bool vs,.string p,.string d,.string af,.int .i64 size,.int .i64 10] 125)).drew.heap.size=w1.heap.size+2:=by simp
    have hvb : ∀ b,w.heap.size≤b→some b≠(Value.slice va4 zs.length vc4).ownBlock:=fun b hb e=>by have:=(HZ.out.2.1.lt b e.symm).2; omega
    have hvk : some k0≠(Value.slice va4 zs.length vc4).ownBlock:=fun e=>by have:=(HZ.out.2.1.lt k0 e.symm).1; have:=HL.out.low; omega
    have bk : w3.heap[k0]?=w1.heap[k0]?:=(hg3.block k0 (by omega) hvk).trans (hLa.block k0 yk)
    have b2 : w3.heap[w.heap.size+1+1]?=w1.heap[w.heap.size+1+1]?:=(hg3.block _ (by omega) (hvb _ (by omega))).trans (hLa.block _ y2)
    have b3 : w3.heap[w.heap.size+1+1+1]?=w1.heap[w.heap.size+1+1+1]?:=(hg3.block _ (by omega) (hvb _ (by omega))).trans (hLa.block _ y3)
    have b1 : w3.heap[w1.heap.size]?=some (.cells #[.slice so sn sc,.string tk] 88):=by
      rw [hg3.block _ (by omega) (hvb _ (by omega))]
      show ((w1.alloc (.cells #[.slice so sn sc,.string tk] 88)).alloc _).heap[w1.heap.size]?=_
      rw [Below.heap_alloc _ _ _ (by simp)]
      exact World.alloc_heap_new _ _
    have:=hg3.size
    have hce : ∀ {b : Nat},w3.heap[b]?=w1.heap[b]?→∀ j,w3.cell? ⟨b,j,none⟩=w1.cell? ⟨b,j,none⟩:=fun h j=>World.cell?_of_block (a:=⟨_,j,none⟩) h
    have hfe : ∀ {b : Nat},w3.heap[b]?=w1.heap[b]?→∀ j,w3.frozen? ⟨b,j,none⟩=w1.frozen? ⟨b,j,none⟩:=fun h j=>World.frozen?_of_block (a:=⟨_,j,none⟩) h
    refine ⟨⟨(hce bk 4).trans m4,(hce bk 5).trans m5,(hfe bk 4).trans n4,(hfe bk 5).trans n5⟩,⟨by simp [World.cell?,b1],by simp [World.cell?,b1],(hce b3 0).trans q0⟩,⟨(hce b2 0).trans s0,(hce b2 1).trans s1,(hfe b2 0).trans z0,(hfe b2 1).trans z1⟩,by omega,by omega,by omega,by omega⟩
  have HKP : Hid (∀ w1,LeftL V w1→∀ so sn sc,w1.ownsRow V.heap.size 41 3 (.slice so sn sc) pg.length (itCells pg)→∀ w3 v',w3.ownsRow B 125 8 v' (zs.length+1) (zCells zs++[.int .i64 (L.begun+1),.pointer root,.bool vs,.string p,.string d,.string af,.int .i64 size,.int .i64 10])→((w1.alloc (.cells #[.slice so sn sc,.string tk] 88)).alloc (.cells #[.int .i64 (L.begun+1),.pointer root,.bool vs,.string p,.string d,.string af,.int .i64 size,.int .i64 10] 125)).drew.grownBy w3 (Value.slice va4 zs.length vc4).ownBlock →
      (∀ g,v'.ownBlock=some g→(Value.slice va4 zs.length vc4).ownBlock=some g∨((w1.alloc (.cells #[.slice so sn sc,.string tk] 88)).alloc (.cells #[.int .i64 (L.begun+1),.pointer root,.bool vs,.string p,.string d,.string af,.int .i64 size,.int .i64 10] 125)).drew.heap.size≤g)→w1.cell? ⟨w.heap.size+1+1,0,none⟩=some (.slice none 0 0) →
      Calls Tryq.prog 70 #[.pointer (some ⟨k0,4,none⟩),.string tk,.agg #[.int .i64 (L.begun+1),.int .i64 2]] ((w3.setCell ⟨k0,4,none⟩ v').setCell ⟨k0,5,none⟩ (.int .i64 (L.begun+1))) fun e w6=>e=.returned (.tuple #[])∧KeepC k0 ((w3.setCell ⟨k0,4,none⟩ v').setCell ⟨k0,5,none⟩ (.int .i64 (L.begun+1))) w6 ∧
        ∀ y0 y1,LsPost A B k0 w ⟨L.opened++[newL L f ⟨vs,p,d,af⟩ size],L.begun+1,tPut tk (L.begun+1,2) L.told⟩ pg (.slice so sn sc) ((w6.setCell ⟨w.heap.size+1+1,0,none⟩ y0).setCell ⟨w.heap.size+1+1,1,none⟩ y1)):=
    fun w1 hl1 so sn sc hrow w3 v' ho3 hg3 hvb hbox=>beg_fin HL.out hB HX.out.1 HX.out.2.2 hl1 hrow c4 HZ.out.1 HZ.out.2.1 HZ.out.2.2.1 HZ.out.2.2.2 (x:=newL L f ⟨vs,p,d,af⟩ size) HX.out.2.1 _ _ ho3 hg3 hvb (L.begun+1) tk (L.begun+1,2) hbox
  go_enter Tryq.func40,Tryz.ntmps40
  go_wp2_with fail
  go_region
  rw [←HV.out]
  obtain ⟨⟨a0,a1,a2,a3,a4,a5,a6,a7⟩,-⟩:=HF.out V LeftL.refl
  go_wp2_with (go_at_call 69; refine HP.mono ?_; clear HP; rintro e w1 (⟨so,sn,sc,rfl,hrow,hl1⟩ | ⟨x,y,r,rfl,hst⟩); rotate_left; exact ⟨rfl,Or.inr ⟨x,y,r,rfl,hst⟩⟩; obtain ⟨⟨q0,q1,q2,q3,q4,q5,q6,q7⟩,⟨s0,s1,z0,z1⟩,⟨m4,m5,n4,n5⟩,y2,y3,yk⟩:=HF.out w1 hl1)
  have yk1 : k0 < w1.heap.size+1:=by omega
  have y31 : w.heap.size+1+1+1 < w1.heap.size+1:=by omega
  go_region_law (refine step_append_own2 rfl (.tmp 47) (.tmp 49) 60 rfl B 125 i0 _ 8 88 Tryq.underlying60 hi0 hz0 hz1 hz2 rfl (by decide) (.slice va4 zs.length vc4) zs.length (zCells zs) (by simp [Act.eval]) (HOW.out w1 hl1 _ _).1 ⟨w1.heap.size+1,0,none⟩ 1 1 [.int .i64 (L.begun+1),.pointer root,.bool vs,.string p,.string d,.string af,.int .i64 size,.int .i64 10] (by simp [Act.eval]) rfl (HNW.out _ _) (one8 ((newL L f ⟨vs,p,d,af⟩ size).lst root)) (by simp only [maxLen]; omega) (by omega) (HOW.out w1 hl1 _ _).2 ?_; intro v' w3 ho3 hg3 hvb; obtain ⟨va',vc',rfl,-⟩:=owns_form ho3; obtain ⟨⟨b4,b5,g4,g5⟩,⟨b0,b1,b2⟩,⟨t0,t1,u0,u1⟩,x2,x3,x4,xk⟩:=HF3.out w1 hl1 so sn sc w3 hg3; have HW3 : Hid (_∧_∧_):=And.intro ho3 (And.intro hg3 hvb); clear ho3 hg3 hvb)
  all_goals
    have HK:=(HKP.out w1 hl1 so sn sc hrow w3 _ HW3.out.1 HW3.out.2.1 HW3.out.2.2 s0)
    clear HKP
    go_wp2_with (go_at_call 70; refine HK.mono ?_; clear HK; rintro e w6 ⟨rfl,hk6,hfin⟩; have p0:=hk6.cell (set2_cell b0 (by omega)) (by omega); have p1:=hk6.cell (set2_cell b1 (by omega)) (by omega); have r0:=hk6.cell (set2_cell t0 (by omega)) (by omega); have r1:=hk6.cell (set2_cell t1 (by omega)) (by omega); have e0 : w6.frozen? ⟨w.heap.size+1+1,0,none⟩=false:=(by rw [hk6.frozen (set2_cell t0 (by omega)) (by omega),World.frozen?_setCell,World.frozen?_setCell]; exact u0); have e1 : w6.frozen? ⟨w.heap.size+1+1,1,none⟩=false:=(by rw [hk6.frozen (set2_cell t1 (by omega)) (by omega),World.frozen?_setCell,World.frozen?_setCell]; exact u1))
    exact bodyPost_ret (v:=.tuple #[.agg #[.slice so sn sc,.string tk],.int .i64 0]) (by simp [results,Tryz.results40,go_sem,r0,r1]) rfl (.inl ⟨_,rfl,hfin _ _⟩)
end
end Go.Proofs.YtnapepbdohidgaaGreatDoorQ
