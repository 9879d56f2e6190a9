/- Part of a proof. -/
import Derived.Test.YtnapepbdohidgaaGreatDoorQM28
import Derived.Test.YtnapepbdohidgaaGreatDoorQM26
import Derived.Test.YtnapepbdohidgaaGreatDoorQM24
namespace Go.Proofs.YtnapepbdohidgaaGreatDoorQ
open Go
open Go.Conc Go.ConcX Go.ConcX.Gen Go.RowKit
set_option maxHeartbeats 1000000 in
set_option maxRecDepth 100000 in
theorem isOver_ok (l : Lst) (w : World) : Calls Tryq.prog 100 #[lV l] w fun e w'=>e=.returned (.bool (decide (l.left≤0)))∧Below w.heap.size w w':=by
  unfold lV lCells
  go_enter Tryq.func100,Tryz.ntmps100
  go_wp2_with fail
  go_ret
  exact ⟨rfl,(Below.refl _ _).alloc (Nat.le_refl _) _⟩
set_option maxHeartbeats 2000000 in
set_option maxRecDepth 100000 in
theorem index100 (B : Nat) (va : Option Addr) (vc : Nat) (zs : List (LsA×Option Addr)) (w : World) (hz : w.ownsRow B 125 8 (.slice va zs.length vc) zs.length (zCells zs)) (hl : zs.length≤3) :
    Calls Tryq.prog 71 #[.slice va zs.length vc,.func (.func 100) #[] #[]] w fun e w'=>e=.returned (.int .i64 (((zs.findIdx? overZ).map fun (i : Nat)=>(i : Int)).getD (-1)))∧Below w.heap.size w w':=by
  have HZ : Hid (w.ownsRow B 125 8 (.slice va zs.length vc) zs.length (zCells zs)):=hz
  obtain ⟨R,hR⟩ : ∃ R : Int,R=((zs.findIdx? overZ).map fun (i : Nat)=>(i : Int)).getD (-1):=⟨_,rfl⟩
  have HR : Hid (R=((zs.findIdx? overZ).map fun (i : Nat)=>(i : Int)).getD (-1)):=hR
  rw [←hR]
  clear hz hR
  go_enter Tryq.func71,Tryz.ntmps71
  go_wp2_with fail
  go_loopw [5,8] (fun _ s8 wr=>∃ i : Nat,i≤zs.length∧s8=.int .i64 i∧(∀ j (hj : j < zs.length),j < i→overZ zs[j]=false)∧Below w.heap.size w wr) (fun _ s8 _=>zs.length - (intOf s8).toNat)
  case atStart=>exact ⟨0,Nat.zero_le _,rfl,fun _ _ h=>absurd h (by omega),Below.refl _ _⟩
  case round=>
    obtain ⟨i,hi,rfl,hno,hb⟩:=hrel
    by_cases hlt : i < zs.length
    · obtain ⟨g,cap,he⟩ : ∃ g cap,Value.slice va zs.length vc=.slice (some ⟨g,0,none⟩) zs.length cap:=by
        rcases HZ.out.2 with ⟨h1,h2⟩ | ⟨g,cap,cur,h1,-⟩
        · omega
        · exact ⟨g,cap,h1⟩
      cases he
      obtain ⟨q0,q1,q2,q3,q4,q5,q6,q7⟩:=zCells8 HZ.out i hlt
      replace q0:=cellOn hb q0
      replace q1:=cellOn hb q1
      replace q2:=cellOn hb q2
      replace q3:=cellOn hb q3
      replace q4:=cellOn hb q4
      replace q5:=cellOn hb q5
      replace q6:=cellOn hb q6
      replace q7:=cellOn hb q7
      have HF : Calls Tryq.prog 100 #[.agg #[.int .i64 zs[i].1.num,.pointer zs[i].2,.bool zs[i].1.q.vs,.string zs[i].1.q.p,.string zs[i].1.q.d,.string zs[i].1.q.af,.int .i64 zs[i].1.size,.int .i64 zs[i].1.left]] wr fun e w'=>e=.returned (.bool (overZ zs[i]))∧Below wr.heap.size wr w':=isOver_ok (zs[i].1.lst zs[i].2) wr
      have HNO : Hid ((∀ j (hj : j < zs.length),j < i→overZ zs[j]=false)∧Below w.heap.size w wr):=⟨hno,hb⟩
      clear hno hb
      cases hb2 : overZ zs[i] with
      | true=>
        rw [hb2] at HF
        have HE : Hid (R=(i : Int)):=by
          show R=(i : Int)
          have : zs.findIdx? overZ=some i:=by
            rw [List.findIdx?_eq_some_iff_getElem]
            refine ⟨hlt,hb2,fun j hj=>?_⟩
            have:=HNO.out.1 j (by omega) hj
            simp [this]
          rw [HR.out,this]
          rfl
        go_wp2_with (go_at_call 100; refine HF.mono ?_; clear HF; rintro e w1 ⟨rfl,hb1⟩)
        go_ret
        exact ⟨by rw [HE.out]; rfl,HNO.out.2.trans (hb1.mono HNO.out.2.size)⟩
      | false=>
        rw [hb2] at HF
        go_wp2_with (go_at_call 100; refine HF.mono ?_; clear HF; rintro e w1 ⟨rfl,hb1⟩)
        refine ⟨⟨i+1,by omega,by go_num,fun j hj hji=>?_,HNO.out.2.trans (hb1.mono HNO.out.2.size)⟩,by simp [intOf]; omega⟩
        by_cases hj2 : j=i
        · subst hj2; exact hb2
        · exact HNO.out.1 j hj (by omega)
    · have : i=zs.length:=by omega
      subst this
      go_wp2_with fail
      go_ret
      refine ⟨?_,hb⟩
      have : zs.findIdx? overZ=none:=by
        rw [List.findIdx?_eq_none_iff]
        intro z hz
        obtain ⟨j,hj,rfl⟩:=List.getElem_of_mem hz
        exact hno j hj hj
      rw [HR.out,this]
      rfl
theorem filter_take {zs : List (LsA×Option Addr)} {j : Nat} (hj : j < zs.length) : (zs.take (j+1)).filter keepZ=(zs.take j).filter keepZ++(if keepZ zs[j] then [zs[j]] else []):=by
  rw [List.take_succ_eq_append_getElem hj,List.filter_append]
  congr 1
  by_cases h : keepZ zs[j]=true
  · simp [h]
  · simp [h]
set_option maxHeartbeats 1500000 in
set_option maxRecDepth 100000 in
theorem delete_ok (B : Nat) (va : Option Addr) (vc : Nat) (zs : List (LsA×Option Addr)) (w : World) (hz : w.ownsRow B 125 8 (.slice va zs.length vc) zs.length (zCells zs)) (hl : zs.length≤3) :
    Calls Tryq.prog 99 #[.slice va zs.length vc,.func (.func 100) #[] #[]] w fun e w'=>∃ v',e=.returned v'∧w'.ownsRow B 125 8 v' (zs.filter keepZ).length (zCells (zs.filter keepZ))∧(∀ g,v'.ownBlock=some g→(Value.slice va zs.length vc).ownBlock=some g)∧LeftB (Value.slice va zs.length vc).ownBlock w w':=by
  have HIX:=index100 B va vc zs w hz hl
  cases hp : zs.findIdx? overZ with
  | none=>
    rw [hp] at HIX
    simp only [Option.map_none,Option.getD_none] at HIX
    have hall : zs.filter keepZ=zs:=by
      rw [List.filter_eq_self]
      intro z hz
      have:=List.findIdx?_eq_none_iff.1 hp z hz
      simp [keepZ,this]
    rw [hall]
    have HZ : Hid (w.ownsRow B 125 8 (.slice va zs.length vc) zs.length (zCells zs)):=hz
    clear hz hall hp
    go_enter Tryq.func99,Tryz.ntmps99
    go_wp2_with (go_at_call 71; refine HIX.mono ?_; clear HIX; rintro e w1 ⟨rfl,hb1⟩)
    go_ret
    exact ⟨_,rfl,owns_same HZ.out fun g _ hg=>hb1.block g hg,fun _ h=>h,.below hb1⟩
  | some p=>
    rw [hp] at HIX
    simp only [Option.map_some,Option.getD_some] at HIX
    obtain ⟨hp1,hp2,hp3⟩:=List.findIdx?_eq_some_iff_getElem.1 hp
    obtain ⟨g,cap,he⟩ : ∃ g cap,Value.slice va zs.length vc=.slice (some ⟨g,0,none⟩) zs.length cap:=by
      rcases hz.2 with ⟨h1,h2⟩ | ⟨g,cap,cur,h1,-⟩
      · omega
      · exact ⟨g,cap,h1⟩
    cases he
    have hR0:=RowZ.of_owns hz
    have HS : Hid (RowZ B w g vc zs∧(zs.take (p+1)).filter keepZ=zs.take p):=by
      refine ⟨hR0,?_⟩
      rw [filter_take hp1]
      have e1 : (zs.take p).filter keepZ=zs.take p:=by
        rw [List.filter_eq_self]
        intro z hz
        obtain ⟨j,hj,rfl⟩:=List.getElem_of_mem hz
        have hj' : j < p:=by simp at hj; omega
        have:=hp3 j hj'
        rw [List.getElem_take]
        simpa [keepZ] using this
      rw [e1]
      simp [keepZ,hp2]
    have hpI : ((p : Int) == -1)=false:=by simp
    have hpI2 : ¬((p : Int)=-1):=by omega
    have hvc : zs.length≤vc:=hR0.le
    clear hz hp hp2 hp3 hR0
    go_enter Tryq.func99,Tryz.ntmps99
    go_wp2_with (go_at_call 71; refine HIX.mono ?_; clear HIX; rintro e w1 ⟨rfl,hb1⟩)
    go_loopw [5,6,7] (fun s5 s6 _ wr=>∃ (i j : Nat) (ys : List (LsA×Option Addr)),s5=.int .i64 i∧s6=.int .i64 j∧j≤zs.length∧i < j∧ys.length=zs.length∧ys.take i=(zs.take j).filter keepZ∧ys.drop j=zs.drop j∧RowZ B wr g vc ys∧LeftB (some g) w wr) (fun _ s6 _ _=>zs.length - (intOf s6).toNat)
    case atStart=>exact ⟨p,p+1,zs,rfl,by go_num,hp1,by omega,rfl,HS.out.2.symm,rfl,HS.out.1.same (hb1.block g HS.out.1.lt),.below hb1⟩
    case round=>
      obtain ⟨i,j,ys,rfl,rfl,hj,hij,hys,htk,hdr,hrow,hleft⟩:=hrel
      by_cases hlt : j < zs.length
      · have hjy : j < ys.length:=by omega
        have hiy : i < ys.length:=by omega
        have eyj : ys[j]=zs[j]:=by
          have h1 : (ys.drop j)[0]?=(zs.drop j)[0]?:=by rw [hdr]
          rw [List.getElem?_drop,List.getElem?_drop,Nat.add_zero,List.getElem?_eq_getElem hjy,List.getElem?_eq_getElem hlt] at h1
          exact Option.some.inj h1
        have hc:=hrow.cells j hjy
        rw [eyj] at hc
        have q0:=hc 0 (by omega)
        have q1:=hc 1 (by omega)
        have q2:=hc 2 (by omega)
        have q3:=hc 3 (by omega)
        have q4:=hc 4 (by omega)
        have q5:=hc 5 (by omega)
        have q6:=hc 6 (by omega)
        have q7:=hc 7 (by omega)
        simp only [lCells,LsA.lst,List.getElem?_toArray,List.getElem?_cons_zero,List.getElem?_cons_succ,Nat.add_zero] at q0 q1 q2 q3 q4 q5 q6 q7
        obtain ⟨W,hW⟩ : ∃ W,W=wr.alloc (.cells #[.int .i64 zs[j].1.num,.pointer zs[j].2,.bool zs[j].1.q.vs,.string zs[j].1.q.p,.string zs[j].1.q.d,.string zs[j].1.q.af,.int .i64 zs[j].1.size,.int .i64 zs[j].1.left] 125):=⟨_,rfl⟩
        have HF : Calls Tryq.prog 100 #[.agg #[.int .i64 zs[j].1.num,.pointer zs[j].2,.bool zs[j].1.q.vs,.string zs[j].1.q.p,.string zs[j].1.q.d,.string zs[j].1.q.af,.int .i64 zs[j].1.size,.int .i64 zs[j].1.left]] W fun e w'=>e=.returned (.bool (overZ zs[j]))∧Below W.heap.size W w':=isOver_ok (zs[j].1.lst zs[j].2) W
        have hgl:=hrow.lt
        have HI : Hid (ys.length=zs.length∧ys.take i=(zs.take j).filter keepZ∧ys.drop j=zs.drop j∧RowZ B wr g vc ys∧LeftB (some g) w wr):=⟨hys,htk,hdr,hrow,hleft⟩
        have HB : Hid (∀ w2,Below W.heap.size W w2→LeftB (some g) w w2∧RowZ B w2 g vc ys ∧
            (w2.cell? ⟨wr.heap.size,0,none⟩=some (.int .i64 zs[j].1.num)∧w2.cell? ⟨wr.heap.size,1,none⟩=some (.pointer zs[j].2)∧w2.cell? ⟨wr.heap.size,2,none⟩=some (.bool zs[j].1.q.vs)∧w2.cell? ⟨wr.heap.size,3,none⟩=some (.string zs[j].1.q.p)∧w2.cell? ⟨wr.heap.size,4,none⟩=some (.string zs[j].1.q.d)∧w2.cell? ⟨wr.heap.size,5,none⟩=some (.string zs[j].1.q.af)∧w2.cell? ⟨wr.heap.size,6,none⟩=some (.int .i64 zs[j].1.size)∧w2.cell? ⟨wr.heap.size,7,none⟩=some (.int .i64 zs[j].1.left))):=fun w2 hb2=>by
          have hbw : Below wr.heap.size wr W:=by rw [hW]; exact (Below.refl _ _).alloc (Nat.le_refl _) _
          have e : w2.heap[wr.heap.size]?=some (.cells #[.int .i64 zs[j].1.num,.pointer zs[j].2,.bool zs[j].1.q.vs,.string zs[j].1.q.p,.string zs[j].1.q.d,.string zs[j].1.q.af,.int .i64 zs[j].1.size,.int .i64 zs[j].1.left] 125):=by
            rw [hb2.block _ (by rw [hW]; simp),hW]
            exact World.alloc_heap_new _ _
          refine ⟨hleft.trans ((LeftB.below hbw).trans (.below hb2)),hrow.same ((hb2.block g (by have:=hbw.size; omega)).trans (hbw.block g hgl)),?_⟩
          refine ⟨?_,?_,?_,?_,?_,?_,?_,?_⟩ <;> simp [World.cell?,e]
        clear hys htk hdr hrow hleft hc eyj
        cases hov : overZ zs[j] with
        | true=>
          rw [hov] at HF
          rw [hW] at HF
          go_wp2_with (go_at_call 100; refine HF.mono ?_; clear HF; rintro e w2 ⟨rfl,hb2⟩)
          obtain ⟨h1,h2,-⟩:=HB.out w2 (by rw [hW]; exact hb2)
          obtain ⟨k1,k2,k3,-,-⟩:=HI.out
          refine ⟨⟨i,j+1,ys,rfl,by go_num,by omega,by omega,k1,?_,?_,h2,h1⟩,by simp [intOf]; omega⟩
          · rw [filter_take hlt,k2]
            simp [keepZ,hov]
          · have:=congrArg (List.drop 1) k3
            rwa [List.drop_drop,List.drop_drop] at this
        | false=>
          rw [hov] at HF
          rw [hW] at HF
          go_wp2_with (go_at_call 100; refine HF.mono ?_; clear HF; rintro e w2 ⟨rfl,hb2⟩; obtain ⟨hl2,hr2,b0,b1,b2,b3,b4,b5,b6,b7⟩:=HB.out w2 (by rw [hW]; exact hb2); have hc:=hr2.cells i hiy; have p0:=hc 0 (by omega); have p1:=hc 1 (by omega); have p2:=hc 2 (by omega); have p3:=hc 3 (by omega); have p4:=hc 4 (by omega); have p5:=hc 5 (by omega); have p6:=hc 6 (by omega); have p7:=hc 7 (by omega); simp only [lCells,LsA.lst,List.getElem?_toArray,List.getElem?_cons_zero,List.getElem?_cons_succ,Nat.add_zero] at p0 p1 p2 p3 p4 p5 p6 p7; have f0:=hr2.frozen (i * 8); have f1:=hr2.frozen (i * 8+1); have f2:=hr2.frozen (i * 8+2); have f3:=hr2.frozen (i * 8+3); have f4:=hr2.frozen (i * 8+4); have f5:=hr2.frozen (i * 8+5); have f6:=hr2.frozen (i * 8+6); have f7:=hr2.frozen (i * 8+7); have HE : Hid (_∧_):=And.intro hl2 hr2; clear hl2 hr2 hc)
          obtain ⟨k1,k2,k3,-,-⟩:=HI.out
          refine ⟨⟨i+1,j+1,ys.set i zs[j],by go_num,by go_num,by omega,by omega,by simp [k1],?_,?_,HE.out.2.set8 i hiy zs[j],?_⟩,by simp [intOf]; omega⟩
          · rw [filter_take hlt,←k2,List.take_succ_eq_append_getElem (by simpa using hiy),List.getElem_set_self]
            have : (ys.set i zs[j]).take i=ys.take i:=by rw [List.take_set]; exact List.set_eq_of_length_le (by simp; omega)
            rw [this]
            simp [keepZ,hov]
          · rw [List.drop_set_of_lt (by omega)]
            have:=congrArg (List.drop 1) k3
            rwa [List.drop_drop,List.drop_drop] at this
          · exact HE.out.1.trans (LeftB.set8 (l:=zs[j].1.lst zs[j].2))
      · have : j=zs.length:=by omega
        subst this
        obtain ⟨cur,hcur,hcs⟩:=hrow.obj
        obtain ⟨cur',hcl0,hs',ht'⟩:=clear_ls wr g (i * 8) (zs.length - i) cur hcur (by omega) (by omega)
        have HEN : Hid (RowZ B (wr.setRow g cur') g vc (zs.filter keepZ)∧(zs.filter keepZ).length=i∧LeftB (some g) w (wr.setRow g cur')):=by
          have hr:=hrow.cut hcur hs' ht' (by omega)
          rw [htk,List.take_of_length_le (Nat.le_refl _)] at hr
          refine ⟨hr,?_,hleft.trans (LeftB.setRow hcur)⟩
          have:=congrArg List.length htk
          rw [List.take_of_length_le (Nat.le_refl zs.length),List.length_take] at this
          omega
        clear hrow hleft htk hdr hys hcur hs' ht'
        go_wp2_with fail
        go_ret
        obtain ⟨e1,e2,e3⟩:=HEN.out
        have e4:=e1.owns
        rw [e2] at e4 ⊢
        exact ⟨_,rfl,e4,fun _ h=>h,e3⟩
def passR (L : Lg) (u : Int) : Lg:={ L with opened:=(L.opened.map fun x=>x.again (x.left - u)).filter fun x=>!decide (x.left≤0) }
section
variable {A : Nat→Prop} {B k0 : Nat} {L : Lg}
theorem LsAt.reopen {w w' : World} (h : LsAt A B w k0 L) {v v' : Value} {zs ys : List (LsA×Option Addr)} (c4 : w.cell? ⟨k0,4,none⟩=some v) (z2 : w.ownsRow B 125 8 v zs.length (zCells zs)) (z3 : ∀ g,v.ownBlock=some g→¬A g) (ho : w'.ownsRow B 125 8 v' ys.length (zCells ys)) (hvb : ∀ g,v'.ownBlock=some g→v.ownBlock=some g) (hl : LeftB v.ownBlock w w') (hy : ∀ z∈ys,NodeAt A 41 w z.2 z.1.f) :
    LsAt A B (w'.setCell ⟨k0,4,none⟩ v') k0 { L with opened:=ys.map (·.1) }∧DeskR A B k0 w (w'.setCell ⟨k0,4,none⟩ v')∧FrC k0 w (w'.setCell ⟨k0,4,none⟩ v'):=by
  have hk:=h.low
  have hlt:=h.lt
  obtain ⟨mv,c6,hm⟩:=h.told
  have hvk : ∀ g,v.ownBlock=some g→B≤g:=fun g hg=>(z2.lt g hg).1
  have hbk : w'.heap[k0]?=w.heap[k0]?:=hl.block k0 hlt (fun e=>by have:=hvk k0 e; omega)
  have hset : ∀ b,b≠k0→(w'.setCell ⟨k0,4,none⟩ v').heap[b]?=w'.heap[b]?:=fun b hb=>Below.heap_setCell _ _ _ _ hb
  have hA3 : ∀ b,A b→(w'.setCell ⟨k0,4,none⟩ v').heap[b]?=w.heap[b]?:=fun b hb=>(hset b (fun e=>h.avoid (e ▸ hb))).trans (hl.block b (h.inn b hb) (fun e=>z3 b e hb))
  have hc3 : ∀ j,w'.cell? ⟨k0,j,none⟩=w.cell? ⟨k0,j,none⟩:=fun j=>World.cell?_of_block (a:=⟨k0,j,none⟩) hbk
  have hcj : ∀ j,j≠4→(w'.setCell ⟨k0,4,none⟩ v').cell? ⟨k0,j,none⟩=w.cell? ⟨k0,j,none⟩:=fun j h4=>by
    rw [World.cell?_setCell_other _ _ _ _ (addr_ne fun e=>h4 e.symm),hc3]
  have hfz : ∀ j,(w'.setCell ⟨k0,4,none⟩ v').frozen? ⟨k0,j,none⟩=w.frozen? ⟨k0,j,none⟩:=fun j=>by
    rw [World.frozen?_setCell]
    exact World.frozen?_of_block (a:=⟨k0,j,none⟩) hbk
  have hsz : w.heap.size≤(w'.setCell ⟨k0,4,none⟩ v').heap.size:=by have:=hl.size; simpa using this
  refine ⟨⟨⟨v',?_,ys,rfl,owns_at ho fun g hg=>hset g (by have:=(ho.lt g hg).1; omega),fun g hg=>z3 g (hvb g hg),fun z hz=>NodeAt.keep (fun b hb _=>⟨hb,hA3 b hb⟩) 41 _ _ (hy z hz)⟩,(hcj 5 (by omega)).trans h.begun,⟨mv,(hcj 6 (by omega)).trans c6,?_⟩,fun j=>(hfz j).trans (h.frozen j),h.avoid,h.low,fun b hb=>Nat.lt_of_lt_of_le (h.inn b hb) hsz⟩,⟨hl.os,hsz,fun b h1 h2 h3=>(hset b h3).trans (hl.block b h2 (fun e=>by have:=hvk b e; omega)),fun b hb _=>hA3 b hb,fun j hj=>hcj j (by omega),hfz⟩,?_⟩
  rotate_right
  · refine ⟨hsz,fun b hb hbk ho=>(hset b hbk).trans (hl.block b hb.lt (fun e=>ho ⟨v,c4,e⟩)),fun b ho=>?_⟩
    obtain ⟨x,h1,h2⟩:=ho
    rw [World.cell?_setCell_same' _ _ _ (by rw [hc3,c4]; rfl)] at h1
    cases h1
    exact .inl ⟨v,c4,hvb b h2⟩
  · exact World.cell?_setCell_same' _ _ _ (by rw [hc3,c4]; rfl)
  · rcases hm with hm | ⟨m,es,clock,m1,m2,m3,m4,m5⟩
    · exact .inl hm
    · refine .inr ⟨m,es,clock,m1,?_,m3,m4,m5⟩
      rw [hset m (by omega),hl.block m (Array.getElem?_eq_some_iff.1 m2).1 (fun e=>?_)]
      · exact m2
      · rcases z2.2 with ⟨rfl,-⟩ | ⟨g,cap,cur,rfl,hb,hr,-⟩
        · cases e
        · cases e
          rw [hr] at m2
          cases m2
def decZ (u : Int) (z : LsA×Option Addr) : LsA×Option Addr:=(z.1.again (z.1.left - u),z.2)
set_option maxHeartbeats 2000000 in
set_option maxRecDepth 100000 in
theorem pass_ok (w : World) (h : LsAt A B w k0 L) (hop : L.opened.length≤3) (u : Int) (hu : 0≤u∧u≤1000) (hlf : ∀ x∈L.opened,0≤x.left∧x.left≤10) :
    Calls Tryq.prog 75 #[.pointer (some ⟨k0,4,none⟩),.int .i64 u] w fun e w'=>e=.returned (.tuple #[])∧LsAt A B w' k0 (passR L u)∧DeskR A B k0 w w'∧FrC k0 w w':=by
  obtain ⟨v4,c4,zs,z1,z2,z3,z4⟩:=h.opened
  obtain ⟨va4,vc4,rfl,-⟩:=owns_form z2
  have hlz : L.opened.length=zs.length:=by rw [z1]; simp
  have hlt:=h.lt
  have hlf' : ∀ i (hi : i < zs.length),0≤zs[i].1.left∧zs[i].1.left≤10:=fun i hi=>hlf _ (by rw [z1]; exact List.mem_map.2 ⟨zs[i],List.getElem_mem hi,rfl⟩)
  have hzl : zs.length≤3:=by omega
  obtain ⟨yz,hyz⟩ : ∃ yz : Nat→List (LsA×Option Addr),yz=fun i=>(zs.take i).map (decZ u)++zs.drop i:=⟨_,rfl⟩
  have hylen : ∀ i,(yz i).length=zs.length:=fun i=>by rw [hyz]; simp; omega
  have HY : Hid (yz=fun i=>(zs.take i).map (decZ u)++zs.drop i):=hyz
  have HL : Hid (LsAt A B w k0 L∧(L.opened=zs.map (·.1))∧w.ownsRow B 125 8 (.slice va4 zs.length vc4) zs.length (zCells zs)∧(∀ g,(Value.slice va4 zs.length vc4).ownBlock=some g→¬A g)∧(∀ z∈zs,NodeAt A 41 w z.2 z.1.f)):=⟨h,z1,z2,z3,z4⟩
  clear hyz z1 z2 z3 z4 hlf h
  go_enter Tryq.func75,Tryz.ntmps75
  go_wp2_with fail
  go_loopw [4,10] (fun _ s10 wr=>∃ i : Nat,i≤zs.length∧s10=.int .i64 i∧LsAt A B wr k0 { L with opened:=(yz i).map (·.1) }∧DeskR A B k0 w wr∧FrC k0 w wr∧wr.cell? ⟨k0,4,none⟩=some (.slice va4 zs.length vc4)∧wr.ownsRow B 125 8 (.slice va4 zs.length vc4) (yz i).length (zCells (yz i))∧∀ z∈yz i,NodeAt A 41 wr z.2 z.1.f) (fun _ s10 _=>zs.length - (intOf s10).toNat)
  case atStart=>
    have e0 : yz 0=zs:=by rw [HY.out]; simp
    obtain ⟨h1,h2,h3,h4,h5⟩:=HL.out
    refine ⟨0,Nat.zero_le _,rfl,?_,DeskR.refl,FrC.refl,c4,?_,?_⟩
    · rw [e0,←h2]; exact h1
    · rw [e0]; exact h3
    · rw [e0]; exact h5
  case round=>
    obtain ⟨i,hi,rfl,hls,hdr,hfr,k4,hown,hnd⟩:=hrel
    by_cases hlt2 : i < zs.length
    · obtain ⟨g,cap,he⟩ : ∃ g cap,Value.slice va4 zs.length vc4=.slice (some ⟨g,0,none⟩) zs.length cap:=by
        rcases HL.out.2.2.1.2 with ⟨h1,h2⟩ | ⟨g,cap,cur,h1,-⟩
        · omega
        · exact ⟨g,cap,h1⟩
      cases he
      have hiy : i < (yz i).length:=by rw [hylen]; exact hlt2
      have eyi : (yz i)[i]=zs[i]:=by
        have : (yz i)[i]?=some zs[i]:=by
          rw [HY.out]
          simp only
          rw [List.getElem?_append_right (by simp; omega)]
          simp
          rw [Nat.min_eq_left (by omega)]
          simp [hlt2]
        rw [List.getElem?_eq_getElem hiy] at this
        exact Option.some.inj this
      have hown2 : wr.ownsRow B 125 8 (.slice (some ⟨g,0,none⟩) (yz i).length vc4) (yz i).length (zCells (yz i)):=by rw [hylen] at hown ⊢; exact hown
      have q7:=(zCells8 hown2 i hiy).2.2.2.2.2.2.2
      rw [eyi] at q7
      have f7:=(RowZ.of_owns hown2).frozen (i * 8+7)
      have k4' : wr.cell? ⟨k0,4,none⟩=some (.slice (some ⟨g,0,none⟩) (yz i).length vc4):=by rw [hylen]; exact k4
      obtain ⟨hlo,hhi⟩:=hlf' i hlt2
      have hwr : wrap64 (zs[i].1.left - u)=zs[i].1.left - u:=by unfold wrap64; omega
      have hnext:=hls.setLeft k4' rfl hown2 (HL.out.2.2.2.1 g rfl) hnd i hiy (zs[i].1.left - u)
      rw [eyi] at hnext
      have eset : (yz i).set i (zs[i].1.again (zs[i].1.left - u),zs[i].2)=yz (i+1):=by
        rw [HY.out]
        simp only
        rw [List.set_append_right _ _ (by simp; omega),List.take_succ_eq_append_getElem hlt2,List.map_append,List.append_assoc]
        congr 1
        have e0 : i - (List.map (decZ u) (List.take i zs)).length=0:=by simp; omega
        rw [e0,List.drop_eq_getElem_cons hlt2,List.set_cons_zero]
        simp [decZ]
      have HN : Hid (LsAt A B (wr.setCell ⟨g,i * 8+7,none⟩ (.int .i64 (zs[i].1.left - u))) k0 { L with opened:=(yz (i+1)).map (·.1) }∧DeskR A B k0 w (wr.setCell ⟨g,i * 8+7,none⟩ (.int .i64 (zs[i].1.left - u)))∧FrC k0 w (wr.setCell ⟨g,i * 8+7,none⟩ (.int .i64 (zs[i].1.left - u)))∧(wr.setCell ⟨g,i * 8+7,none⟩ (.int .i64 (zs[i].1.left - u))).cell? ⟨k0,4,none⟩=some (.slice (some ⟨g,0,none⟩) zs.length vc4)∧(wr.setCell ⟨g,i * 8+7,none⟩ (.int .i64 (zs[i].1.left - u))).ownsRow B 125 8 (.slice (some ⟨g,0,none⟩) zs.length vc4) (yz (i+1)).length (zCells (yz (i+1)))∧∀ z∈yz (i+1),NodeAt A 41 (wr.setCell ⟨g,i * 8+7,none⟩ (.int .i64 (zs[i].1.left - u))) z.2 z.1.f):=by
        rw [←eset]
        obtain ⟨n1,n2,n3,n4⟩:=hnext
        refine ⟨?_,hdr.trans n2,hfr.trans (FrC.open ⟨_,k4,rfl⟩ (by have:=(hown2.lt g rfl).1; have:=hls.low; omega)),?_,?_,n4⟩
        · rw [List.map_set]; exact n1
        · rw [World.cell?_of_block (w:=wr) (a:=⟨k0,4,none⟩) (Below.heap_setCell _ _ _ _ (show k0≠g by have:=(hown2.lt g rfl).1; have:=hls.low; omega))]
          exact k4
        · rw [hylen] at n3; exact n3
      clear hls hdr hfr hown hnd hown2 hnext eset k4'
      go_wp2_with fail
      exact ⟨⟨i+1,by omega,by go_num,HN.out⟩,by simp [intOf]; omega⟩
    · have : i=zs.length:=by omega
      subst this
      have eyn : yz zs.length=zs.map (decZ u):=by rw [HY.out]; simp
      have hDEL:=delete_ok B va4 vc4 (yz zs.length) wr (by rw [hylen] at hown ⊢; exact hown) (by rw [hylen]; omega)
      rw [hylen] at hDEL
      have HFR : Hid (FrC k0 w wr):=hfr
      have HE : Hid (LsAt A B wr k0 { L with opened:=(yz zs.length).map (·.1) }∧DeskR A B k0 w wr∧wr.ownsRow B 125 8 (.slice va4 zs.length vc4) (yz zs.length).length (zCells (yz zs.length))∧(∀ z∈yz zs.length,NodeAt A 41 wr z.2 z.1.f)∧yz zs.length=zs.map (decZ u)):=⟨hls,hdr,hown,hnd,eyn⟩
      have HC : Hid (∀ w2,LeftB (Value.slice va4 zs.length vc4).ownBlock wr w2→w2.cell? ⟨k0,4,none⟩=some (.slice va4 zs.length vc4)∧w2.frozen? ⟨k0,4,none⟩=false):=fun w2 hl2=>by
        have e : w2.heap[k0]?=wr.heap[k0]?:=hl2.block k0 hls.lt (fun e=>by have:=(hown.lt k0 e).1; have:=hls.low; omega)
        exact ⟨(World.cell?_of_block (a:=⟨k0,4,none⟩) e).trans k4,(World.frozen?_of_block (a:=⟨k0,4,none⟩) e).trans (hls.frozen 4)⟩
      clear hls hdr hfr hown hnd eyn
      go_wp2_with (go_at_call 99; refine hDEL.mono ?_; clear hDEL; rintro e w2 ⟨v',rfl,ho',hvb,hl'⟩; obtain ⟨va',vc',rfl,-⟩:=owns_form ho'; obtain ⟨d4,g4⟩:=HC.out w2 hl'; have HD : Hid (_∧_∧_):=And.intro ho' (And.intro hvb hl'); clear ho' hvb hl')
      go_end0
      obtain ⟨h1,h2,h3,h4,h5⟩:=HE.out
      obtain ⟨ho',hvb,hl'⟩:=HD.out
      obtain ⟨r1,r2,r3⟩:=h1.reopen k4 h3 HL.out.2.2.2.1 ho' hvb hl' (fun z hz=>h4 z (List.mem_filter.1 hz).1)
      refine ⟨rfl,?_,h2.trans r2,HFR.out.trans r3⟩
      have e : passR L u={ L with opened:=((yz zs.length).filter keepZ).map (·.1) }:=by
        unfold passR
        congr 1
        rw [h5,HL.out.2.1,List.map_map,List.filter_map,List.filter_map,List.map_map]
        rfl
      rw [e]
      exact r1
end
set_option maxHeartbeats 1000000 in
set_option maxRecDepth 100000 in
theorem state_ok (k0 : Nat) (p : Option Addr) (w : World) (c0 : w.cell? ⟨k0,0,none⟩=some (.pointer p)) : Calls Tryq.prog 41 #[.pointer (some ⟨k0,0,none⟩)] w fun e w'=>e=.returned (.agg #[.pointer p])∧w'=w.alloc (.cells #[.pointer p] 56):=by
  have hlt : k0 < w.heap.size:=World.block_lt_of_cell? w _ c0
  go_enter Tryq.func41,Tryz.ntmps41
  go_wp2_with fail
  exact bodyPost_ret (v:=.agg #[.pointer p]) (by simp [results,Tryz.results41,go_sem]) rfl ⟨rfl,rfl⟩
set_option maxHeartbeats 1000000 in
set_option maxRecDepth 100000 in
theorem count_ok (k0 : Nat) (n : Int) (w : World) (c1 : w.cell? ⟨k0,1,none⟩=some (.int .i64 n)) : Calls Tryq.prog 46 #[.pointer (some ⟨k0,0,none⟩)] w fun e w'=>e=.returned (.int .i64 n)∧w'=w:=by
  go_enter Tryq.func46,Tryz.ntmps46
  go_wp2_with fail
  go_ret
  exact ⟨rfl,rfl⟩
theorem build_qy (vs : Bool) (p d af : ByteArray) (w : World) : (Instr.build 93 #[(0,.bool vs),(1,.string p),(2,.string d),(3,.string af)]).run Tryq.prog w=.ok (.agg #[.bool vs,.string p,.string d,.string af]) w:=by kernel_rfl
set_option maxHeartbeats 1000000 in
set_option maxRecDepth 100000 in
theorem query_ok (o : OpD) (w : World) : Calls Tryq.prog 42 #[opVal o] w fun e w'=>e=.returned (qV (o.kind == 7) o.key o.delim o.past)∧Below w.heap.size w w':=by
  obtain ⟨kind,key,body,delim,past,n,src⟩:=o
  have hb:=build_qy
  unfold opVal qV
  go_enter Tryq.func42,Tryz.ntmps42
  go_wp2_with fail
  exact bodyPost_ret (v:=.agg #[.bool (kind == 7),.string key,.string delim,.string past]) (by simp [results,Tryz.results42,go_sem]) rfl ⟨rfl,((Below.refl _ _).alloc (Nat.le_refl _) _).alloc (by simp) _⟩
set_option maxHeartbeats 1000000 in
set_option maxRecDepth 100000 in
theorem spass_ok (k0 : Nat) (n u : Int) (w : World) (c3 : w.cell? ⟨k0,3,none⟩=some (.int .u64 n)) (f3 : w.frozen? ⟨k0,3,none⟩=false) : Calls Tryq.prog 74 #[.pointer (some ⟨k0,0,none⟩),.int .i64 u] w fun e w'=>e=.returned (.tuple #[])∧∃ m,w'=w.setCell ⟨k0,3,none⟩ (.int .u64 m):=by
  go_enter Tryq.func74,Tryz.ntmps74
  go_wp2_with fail
  go_end0
  exact ⟨rfl,_,rfl⟩
set_option maxHeartbeats 1000000 in
set_option maxRecDepth 100000 in
theorem ahead_ok (k0 : Nat) (a : Option Addr) (n c : Nat) (s : Int) (w : World) (_hn : n≤2199023255552) (c8 : w.cell? ⟨k0,8,none⟩=some (.slice a n c)) : Calls Tryq.prog 73 #[.pointer (some ⟨k0,0,none⟩),.int .i64 s] w fun e w'=>e=.returned (.bool (decide (0≤s∧s < n)))∧w'=w:=by
  by_cases h1 : 0≤s
  · by_cases h2 : s < n
    · have e : decide (0≤s∧s < n)=true:=by simp [h1,h2]
      rw [e]
      go_enter Tryq.func73,Tryz.ntmps73
      go_wp2_with fail
      go_ret
      exact ⟨rfl,rfl⟩
    · have e : decide (0≤s∧s < n)=false:=by simp [h2]
      rw [e]
      go_enter Tryq.func73,Tryz.ntmps73
      go_wp2_with fail
      go_ret
      exact ⟨by simp,rfl⟩
  · have e : decide (0≤s∧s < n)=false:=by simp [h1]
    rw [e]
    go_enter Tryq.func73,Tryz.ntmps73
    go_wp2_with fail
    go_ret
    exact ⟨rfl,rfl⟩
structure DeskAt (A : Nat→Prop) (B : Nat) (w : World) (k0 : Nat) (st : St) (L : Lg) : Prop where
  store : StoreAt A w k0 st
  ls : LsAt A B w k0 L
  time : ∃ n,w.cell? ⟨k0,3,none⟩=some (.int .u64 n)
structure DeskW (A : Nat→Prop) (B k0 : Nat) (w w' : World) : Prop where
  os : w'.os=w.os
  size : w.heap.size≤w'.heap.size
  low : ∀ b,b < B→b < w.heap.size→b≠k0→w'.heap[b]?=w.heap[b]?
  tree : ∀ b,A b→b < w.heap.size→w'.heap[b]?=w.heap[b]?
  cells : ∀ j,6 < j→w'.cell? ⟨k0,j,none⟩=w.cell? ⟨k0,j,none⟩
  fz : ∀ j,w'.frozen? ⟨k0,j,none⟩=w.frozen? ⟨k0,j,none⟩
section
variable {A A' : Nat→Prop} {B k0 : Nat} {w w' w'' : World} {st : St} {L L' : Lg}
theorem DeskR.weak (h : DeskR A B k0 w w') : DeskW A B k0 w w':=⟨h.os,h.size,h.low,h.tree,fun j hj=>h.cells j (.inr hj),h.fz⟩
theorem DeskW.trans (h : DeskW A B k0 w w') (k : DeskW A B k0 w' w'') : DeskW A B k0 w w'':=
  ⟨k.os.trans h.os,Nat.le_trans h.size k.size,fun b h1 h2 h3=>(k.low b h1 (Nat.lt_of_lt_of_le h2 h.size) h3).trans (h.low b h1 h2 h3),fun b h1 h2=>(k.tree b h1 (Nat.lt_of_lt_of_le h2 h.size)).trans (h.tree b h1 h2),fun j hj=>(k.cells j hj).trans (h.cells j hj),fun j=>(k.fz j).trans (h.fz j)⟩
theorem StoreAt.desk (S : StoreAt A w k0 st) (hd : DeskR A B k0 w w') (hA : ∀ b,A b→A' b) (hk : ¬A' k0) : StoreAt A' w' k0 st:=by
  obtain ⟨p,c0,hN⟩:=S.tree
  exact ⟨fun b hb e=>hk (e ▸ hb),⟨p,(hd.cells 0 (.inl (by omega))).trans c0,NodeAt.keep (fun b hb hlt=>⟨hA b hb,hd.tree b hb hlt⟩) 41 _ _ hN⟩,(hd.cells 1 (.inl (by omega))).trans S.count,(hd.cells 2 (.inl (by omega))).trans S.last,fun j=>(hd.fz j).trans (S.frozen j)⟩
theorem DeskAt.step (h : DeskAt A B w k0 st L) (hd : DeskR A B k0 w w') (hA : ∀ b,A b→A' b) (hl : LsAt A' B w' k0 L') : DeskAt A' B w' k0 st L':=by
  obtain ⟨n,c3⟩:=h.time
  exact ⟨h.store.desk hd hA hl.avoid,hl,n,(hd.cells 3 (.inl (by omega))).trans c3⟩
theorem DeskAt.setTime (h : DeskAt A B w k0 st L) (m : Int) : DeskAt A B (w.setCell ⟨k0,3,none⟩ (.int .u64 m)) k0 st L∧DeskW A B k0 w (w.setCell ⟨k0,3,none⟩ (.int .u64 m)):=by
  have hne : ∀ b,b≠k0→(w.setCell ⟨k0,3,none⟩ (.int .u64 m)).heap[b]?=w.heap[b]?:=fun b hb=>Below.heap_setCell _ _ _ _ hb
  have hc : ∀ j,j≠3→(w.setCell ⟨k0,3,none⟩ (.int .u64 m)).cell? ⟨k0,j,none⟩=w.cell? ⟨k0,j,none⟩:=fun j hj=>World.cell?_setCell_other _ _ _ _ (addr_ne (by omega))
  have hf : ∀ j,(w.setCell ⟨k0,3,none⟩ (.int .u64 m)).frozen? ⟨k0,j,none⟩=w.frozen? ⟨k0,j,none⟩:=fun j=>World.frozen?_setCell ..
  have hA : ∀ b,A b→(w.setCell ⟨k0,3,none⟩ (.int .u64 m)).heap[b]?=w.heap[b]?:=fun b hb=>hne b (fun e=>h.ls.avoid (e ▸ hb))
  obtain ⟨n,c3⟩:=h.time
  obtain ⟨p,c0,hN⟩:=h.store.tree
  obtain ⟨v,c4,zs,z1,z2,z3,z4⟩:=h.ls.opened
  obtain ⟨mv,c6,hm⟩:=h.ls.told
  have hlow:=h.ls.low
  refine ⟨⟨⟨h.store.avoid,⟨p,(hc 0 (by omega)).trans c0,NodeAt.keep (fun b hb _=>⟨hb,hA b hb⟩) 41 _ _ hN⟩,(hc 1 (by omega)).trans h.store.count,(hc 2 (by omega)).trans h.store.last,fun j=>(hf j).trans (h.store.frozen j)⟩,⟨⟨v,(hc 4 (by omega)).trans c4,zs,z1,owns_at z2 fun g hg=>hne g (by have:=(z2.lt g hg).1; omega),z3,fun z hz=>NodeAt.keep (fun b hb _=>⟨hb,hA b hb⟩) 41 _ _ (z4 z hz)⟩,(hc 5 (by omega)).trans h.ls.begun,⟨mv,(hc 6 (by omega)).trans c6,?_⟩,fun j=>(hf j).trans (h.ls.frozen j),h.ls.avoid,h.ls.low,fun b hb=>by simpa using h.ls.inn b hb⟩,m,World.cell?_setCell_same' _ _ _ (by rw [c3]; rfl)⟩,⟨rfl,by simp,fun b _ _ hb=>hne b hb,fun b hb _=>hA b hb,fun j hj=>hc j (by omega),hf⟩⟩
  rcases hm with hm | ⟨m',es,clock,m1,m2,m3⟩
  · exact .inl hm
  · exact .inr ⟨m',es,clock,m1,(hne m' (by have:=m3.2.2; omega)).trans m2,m3⟩
def tickR (L : Lg) (u : Int) : Lg×Int:=if u < 0∨1000 < u then (L,11) else (passR L u,0)
set_option maxHeartbeats 1000000 in
set_option maxRecDepth 100000 in
theorem tick_ok (w : World) (h : DeskAt A B w k0 st L) (hop : L.opened.length≤3) (u : Int) (hlf : ∀ x∈L.opened,0≤x.left∧x.left≤10) :
    Calls Tryq.prog 45 #[.pointer (some ⟨k0,0,none⟩),.int .i64 u] w fun e w'=>e=.returned (.int .i64 (tickR L u).2)∧DeskAt A B w' k0 st (tickR L u).1∧DeskW A B k0 w w'∧FrC k0 w w':=by
  have HD : Hid (DeskAt A B w k0 st L):=h
  have hrefl : DeskW A B k0 w w:=(DeskR.refl (A:=A) (B:=B) (k0:=k0) (w:=w)).weak
  by_cases hu : u < 0∨1000 < u
  · have e : tickR L u=(L,11):=by rw [tickR,if_pos hu]
    rw [e]
    clear h
    rcases hu with h1 | h2
    · go_enter Tryq.func45,Tryz.ntmps45
      go_wp2_with fail
      go_ret
      exact ⟨rfl,HD.out,hrefl,FrC.refl⟩
    · have h1 : ¬u < 0:=by omega
      go_enter Tryq.func45,Tryz.ntmps45
      go_wp2_with fail
      go_ret
      exact ⟨rfl,HD.out,hrefl,FrC.refl⟩
  · have e : tickR L u=(passR L u,0):=by rw [tickR,if_neg hu]
    rw [e]
    have h1 : ¬u < 0:=by omega
    have h2 : ¬1000 < u:=by omega
    obtain ⟨n,c3⟩:=h.time
    have HS:=spass_ok k0 n u w c3 (h.ls.frozen 3)
    have HP : Hid (∀ m,Calls Tryq.prog 75 #[.pointer (some ⟨k0,4,none⟩),.int .i64 u] (w.setCell ⟨k0,3,none⟩ (.int .u64 m)) fun e w'=>e=.returned (.tuple #[])∧DeskAt A B w' k0 st (passR L u)∧DeskW A B k0 w w'∧FrC k0 w w'):=fun m=>by
      obtain ⟨d1,d2⟩:=HD.out.setTime m
      refine (pass_ok _ d1.ls hop u (by omega) hlf).mono ?_
      rintro e w' ⟨rfl,p1,p2,p3⟩
      exact ⟨rfl,d1.step p2 (fun _ h=>h) p1,d2.trans p2.weak,(FrC.set 3 _ (by omega)).trans p3⟩
    clear h c3
    go_enter Tryq.func45,Tryz.ntmps45
    go_wp2_with (first
      | (go_at_call 74; refine HS.mono ?_; clear HS; rintro e w1 ⟨rfl,m,rfl⟩)
      | (go_at_call 75; refine (HP.out m).mono ?_; clear HP; rintro e w2 ⟨rfl,p1,p2,p3⟩))
    go_ret
    exact ⟨rfl,p1,p2,p3⟩
end
end Go.Proofs.YtnapepbdohidgaaGreatDoorQ
namespace Go.Proofs.YtnapepbdohidgaaGreatDoorQ
open Go.RowKit
def getVV (st : St) (key : ByteArray) (n : Int) : Ver×Int:=
  if isKeyB key=false then (zeroV,2)
  else match placeOf (st.f key.data.toList) n with
    | none=>(zeroV,5)
    | some r=>match (st.f key.data.toList)[r]? with
      | none=>(zeroV,5)
      | some v=>if v.mark then (zeroV,6) else (v,0)
structure ResA (w W0 : World) : Prop where
  below : Below w.heap.size w W0
  lt : w.heap.size+1 < W0.heap.size
  c0 : W0.cell? ⟨w.heap.size+1,0,none⟩=some (.int .i64 0)
  c1 : W0.cell? ⟨w.heap.size+1,1,none⟩=some (.int .i64 0)
  c2 : W0.cell? ⟨w.heap.size+1,2,none⟩=some (.string ⟨#[]⟩)
  c3 : W0.cell? ⟨w.heap.size+1,3,none⟩=some (.slice none 0 0)
  c4 : W0.cell? ⟨w.heap.size+1,4,none⟩=some (.string ⟨#[]⟩)
  fz : ∀ j,W0.frozen? ⟨w.heap.size+1,j,none⟩=false
theorem resA (w : World) (cs : Array Value) : ResA w ((w.alloc (.cells cs 31)).alloc (.cells #[.int .i64 0,.int .i64 0,.string ⟨#[]⟩,.slice none 0 0,.string ⟨#[]⟩] 36)):=by
  have h : ∀ j,((w.alloc (.cells cs 31)).alloc (.cells #[.int .i64 0,.int .i64 0,.string ⟨#[]⟩,.slice none 0 0,.string ⟨#[]⟩] 36)).cell? ⟨w.heap.size+1,j,none⟩=(#[.int .i64 0,.int .i64 0,.string ⟨#[]⟩,.slice none 0 0,.string ⟨#[]⟩] : Array Value)[j]?:=fun j=>
    World.cell?_alloc_at (w:=w.alloc (.cells cs 31)) _ _ (w.heap.size+1) j (by simp)
  refine ⟨((Below.refl _ w).alloc (Nat.le_refl _) _).alloc (by simp) _,by simp,h 0,h 1,h 2,h 3,h 4,fun j=>World.frozen?_alloc_at (w:=w.alloc (.cells cs 31)) _ _ (w.heap.size+1) j (by simp)⟩
theorem ResA.on {w W0 w1 : World} {k0 : Nat} (h : ResA w W0) (hk : k0 < w.heap.size) (hg : W0.grownBy w1 (some k0)) :
    (w1.cell? ⟨w.heap.size+1,0,none⟩=some (.int .i64 0)∧w1.cell? ⟨w.heap.size+1,1,none⟩=some (.int .i64 0)∧w1.cell? ⟨w.heap.size+1,2,none⟩=some (.string ⟨#[]⟩)∧w1.cell? ⟨w.heap.size+1,3,none⟩=some (.slice none 0 0)∧w1.cell? ⟨w.heap.size+1,4,none⟩=some (.string ⟨#[]⟩)) ∧
    (w1.frozen? ⟨w.heap.size+1,0,none⟩=false∧w1.frozen? ⟨w.heap.size+1,1,none⟩=false∧w1.frozen? ⟨w.heap.size+1,2,none⟩=false∧w1.frozen? ⟨w.heap.size+1,3,none⟩=false∧w1.frozen? ⟨w.heap.size+1,4,none⟩=false):=by
  have hne : ∀ o,some (⟨w.heap.size+1,o,none⟩ : Addr).block≠some k0:=fun o e=>by simp at e; omega
  have hf : ∀ j,w1.frozen? ⟨w.heap.size+1,j,none⟩=false:=fun j=>(grown_frozen hg ⟨w.heap.size+1,j,none⟩ h.lt (hne j)).trans (h.fz j)
  exact ⟨⟨hg.cell h.c0 (hne 0),hg.cell h.c1 (hne 1),hg.cell h.c2 (hne 2),hg.cell h.c3 (hne 3),hg.cell h.c4 (hne 4)⟩,hf 0,hf 1,hf 2,hf 3,hf 4⟩
theorem ResA.drew {w W0 : World} (h : ResA w W0) : ResA w W0.drew:=⟨h.below.drew,h.lt,h.c0,h.c1,h.c2,h.c3,h.c4,h.fz⟩
def put5 (w1 : World) (b : Nat) (x0 x1 x2 x3 x4 : Value) : World:=((((w1.setCell ⟨b,0,none⟩ x0).setCell ⟨b,1,none⟩ x1).setCell ⟨b,2,none⟩ x2).setCell ⟨b,3,none⟩ x3).setCell ⟨b,4,none⟩ x4
theorem put5_post {A : Nat→Prop} {w W0 w1 : World} {k0 : Nat} {st' : St} {v : Value} (hk : k0 < w.heap.size) (ha : ∀ b,A b→b≠k0) (hW : Below w.heap.size w W0) (hlt : w.heap.size+1 < W0.heap.size) (S1 : StoreAt (Grow (fun b=>A b∧b < w.heap.size) W0) w1 k0 st') (hg : GrownT W0 w1 k0) (x0 x1 x2 x3 x4 : Value) :
    StepPost A w k0 st' v (.returned v) (put5 w1 (w.heap.size+1) x0 x1 x2 x3 x4):=by
  have hne : w.heap.size+1≠k0:=by omega
  have hg1 : GrownT w w1 k0:=gt_trans (gt_of_below hk hW) hg
  refine ⟨rfl,?_,?_⟩
  · obtain ⟨p,C,hN⟩:=S1.cells
    unfold put5
    refine storeAt_of (p:=p) (((((C.far _ _ _ hne).far _ _ _ hne).far _ _ _ hne).far _ _ _ hne).far _ _ _ hne) ?_ (grow_avoid ha hk)
    refine NodeAt.keep (fun b hb _=>?_) 41 p st'.f hN
    have hb1 : b≠w.heap.size+1:=by
      rcases hb with ⟨⟨_,h⟩,_⟩ | h <;> omega
    have hb2 : Grow A w b:=by
      rcases hb with ⟨⟨h1,h2⟩,_⟩ | h
      · exact Or.inl ⟨h1,h2⟩
      · exact Or.inr (by omega)
    refine ⟨hb2,?_⟩
    rw [Below.heap_setCell _ _ _ _ hb1,Below.heap_setCell _ _ _ _ hb1,Below.heap_setCell _ _ _ _ hb1,Below.heap_setCell _ _ _ _ hb1,Below.heap_setCell _ _ _ _ hb1]
  · unfold put5
    exact gt_new (gt_new (gt_new (gt_new (gt_new hg1 (by omega) _ _) (by omega) _ _) (by omega) _ _) (by omega) _ _) (by omega) _ _
theorem StoreAt.cut {A : Nat→Prop} {w W0 : World} {k0 : Nat} {st : St} (S : StoreAt A w k0 st) (hW : Below w.heap.size w W0) : StoreAt (fun b=>A b∧b < w.heap.size) W0 k0 st:=by
  obtain ⟨p,C,hN⟩:=S.cells
  exact storeAt_of (p:=p) (C.on hW) (NodeAt.keep (fun b h1 h2=>⟨⟨h1,h2⟩,hW.block b h2⟩) 41 p st.f hN) (fun b h=>S.avoid b h.1)
set_option maxHeartbeats 2000000 in
set_option maxRecDepth 100000 in
theorem answer_put (A : Nat→Prop) (k0 : Nat) (st : St) (s : Nat) (o : OpD) (w : World) (hk : o.key.size≤maxLen) (hbd : o.body.size≤maxLen) (S : StoreAt A w k0 st) (hI : Inv st s) (hs : s < 2199023255552) (hkind : o.kind=1) :
    Calls Tryq.prog 33 #[.pointer (some ⟨k0,0,none⟩),opVal o] w (StepPost A w k0 (putR st o.key o.body).1 (ansVal ⟨(putR st o.key o.body).2.2,(putR st o.key o.body).2.1,⟨#[]⟩⟩)):=by
  obtain ⟨kind,key,body,delim,past,n,src⟩:=o
  simp only at hkind hk hbd
  subst hkind
  have R0:=(resA w #[.int .i64 1,.string key,.string body,.string delim,.string past,.int .i64 n,.int .i64 src]).drew
  have HC:=sput_any _ k0 st s key body _ hk hbd (S.cut R0.below) hI hs
  have HS : Hid (k0 < w.heap.size∧∀ b,A b→b≠k0):=⟨S.lt,S.avoid⟩
  have HR0 : Hid (ResA w ((w.alloc (.cells #[.int .i64 1,.string key,.string body,.string delim,.string past,.int .i64 n,.int .i64 src] 31)).alloc (.cells #[.int .i64 0,.int .i64 0,.string ⟨#[]⟩,.slice none 0 0,.string ⟨#[]⟩] 36)).drew):=R0
  clear R0 S
  simp only [opVal]
  generalize putR st key body=pr at *
  go_enter Tryq.func33,Tryz.ntmps33
  go_wp2_with fail
  go_region_with (go_at_call 35; refine HC.mono ?_; rintro e w1 ⟨rfl,S1,hg1⟩; obtain ⟨⟨d0,d1,d2,d3,d4⟩,g0,g1,g2,g3,g4⟩:=HR0.out.on HS.out.1 hg1.g; have HX : Hid (_∧_):=And.intro S1 hg1; clear S1 hg1 HC)
  all_goals
    go_wp2
    refine bodyPost_ret (v:=ansVal ⟨pr.2.2,pr.2.1,⟨#[]⟩⟩) (by simp [results,Tryz.results33,go_sem,ansVal,d0,d1,d2,d3,d4]) rfl ?_
    exact put5_post HS.out.1 HS.out.2 HR0.out.below HR0.out.lt HX.out.1 HX.out.2 _ _ _ _ _
set_option maxHeartbeats 2000000 in
set_option maxRecDepth 100000 in
theorem answer_drop (A : Nat→Prop) (k0 : Nat) (st : St) (s : Nat) (o : OpD) (w : World) (hk : o.key.size≤maxLen) (S : StoreAt A w k0 st) (hI : Inv st s) (hs : s < 2199023255552) (hkind : o.kind=4) :
    Calls Tryq.prog 33 #[.pointer (some ⟨k0,0,none⟩),opVal o] w (StepPost A w k0 (dropR st o.key).1 (ansVal ⟨(dropR st o.key).2.2,(dropR st o.key).2.1,⟨#[]⟩⟩)):=by
  obtain ⟨kind,key,body,delim,past,n,src⟩:=o
  simp only at hkind hk
  subst hkind
  have R0:=(resA w #[.int .i64 4,.string key,.string body,.string delim,.string past,.int .i64 n,.int .i64 src]).drew
  have HC:=sdrop_any _ k0 st s key _ hk (S.cut R0.below) hI hs
  have HS : Hid (k0 < w.heap.size∧∀ b,A b→b≠k0):=⟨S.lt,S.avoid⟩
  have HR0 : Hid (ResA w ((w.alloc (.cells #[.int .i64 4,.string key,.string body,.string delim,.string past,.int .i64 n,.int .i64 src] 31)).alloc (.cells #[.int .i64 0,.int .i64 0,.string ⟨#[]⟩,.slice none 0 0,.string ⟨#[]⟩] 36)).drew):=R0
  clear R0 S
  simp only [opVal]
  generalize dropR st key=pr at *
  go_enter Tryq.func33,Tryz.ntmps33
  go_wp2_with fail
  go_region_with (go_at_call 38; refine HC.mono ?_; rintro e w1 ⟨rfl,S1,hg1⟩; obtain ⟨⟨d0,d1,d2,d3,d4⟩,g0,g1,g2,g3,g4⟩:=HR0.out.on HS.out.1 hg1.g; have HX : Hid (_∧_):=And.intro S1 hg1; clear S1 hg1 HC)
  all_goals
    go_wp2
    refine bodyPost_ret (v:=ansVal ⟨pr.2.2,pr.2.1,⟨#[]⟩⟩) (by simp [results,Tryz.results33,go_sem,ansVal,d0,d1,d2,d3,d4]) rfl ?_
    exact put5_post HS.out.1 HS.out.2 HR0.out.below HR0.out.lt HX.out.1 HX.out.2 _ _ _ _ _
theorem stepSt_put (st : St) (o : OpD) (h : o.kind=1) : stepSt st o=((putR st o.key o.body).1,⟨(putR st o.key o.body).2.2,(putR st o.key o.body).2.1,⟨#[]⟩⟩):=by
  unfold stepSt putR fullB
  rw [if_pos h]
  by_cases h1 : isKeyB o.key=false
  · simp [h1]
  · by_cases h2 : 100 < o.body.size
    · simp [h1,h2]
    · by_cases h3 : 200≤st.count
      · simp [h1,h2,h3]
      · simp [h1,h2,h3]
theorem stepSt_get (st : St) (o : OpD) (h : o.kind=2) : stepSt st o=(st,⟨(getV st o.key).2,(getV st o.key).1.num,(getV st o.key).1.body⟩):=by
  unfold stepSt getV
  rw [if_neg (by omega),if_pos h]
  by_cases h1 : isKeyB o.key=false
  · simp [h1,zeroV]
  · cases h2 : (st.f o.key.data.toList).getLast? with
    | none=>simp [h1,zeroV]
    | some v=>cases h3 : v.mark <;> simp [h1,h3,zeroV]
theorem stepSt_getv (st : St) (o : OpD) (h : o.kind=3) : stepSt st o=(st,⟨(getVV st o.key o.n).2,0,(getVV st o.key o.n).1.body⟩):=by
  unfold stepSt getVV
  rw [if_neg (by omega),if_neg (by omega),if_pos h]
  by_cases h1 : isKeyB o.key=false
  · simp [h1,zeroV]
  · cases h2 : placeOf (st.f o.key.data.toList) o.n with
    | none=>simp [h1,zeroV]
    | some r=>
      cases h4 : (st.f o.key.data.toList)[r]? with
      | none=>simp [h1,h4,zeroV]
      | some v=>cases h3 : v.mark <;> simp [h1,h3,h4,zeroV]
theorem stepSt_drop (st : St) (o : OpD) (h : o.kind=4) : stepSt st o=((dropR st o.key).1,⟨(dropR st o.key).2.2,(dropR st o.key).2.1,⟨#[]⟩⟩):=by
  unfold stepSt dropR fullB
  rw [if_neg (by omega),if_neg (by omega),if_neg (by omega),if_pos h]
  by_cases h1 : isKeyB o.key=false
  · simp [h1]
  · by_cases h3 : 200≤st.count
    · simp [h1,h3]
    · simp [h1,h3]
theorem stepSt_dropv (st : St) (o : OpD) (h : o.kind=5) : stepSt st o=((dropvR st o.key o.n).1,⟨(dropvR st o.key o.n).2,0,⟨#[]⟩⟩):=by
  unfold stepSt dropvR
  rw [if_neg (by omega),if_neg (by omega),if_neg (by omega),if_neg (by omega),if_pos h]
  by_cases h1 : isKeyB o.key=false
  · simp [h1]
  · cases h2 : placeOf (st.f o.key.data.toList) o.n <;> simp [h1]
theorem Inv.step {st : St} {s : Nat} (h : Inv st s) (o : OpD) : Inv (stepSt st o).1 (s+1):=by
  by_cases h1 : o.kind=1
  · rw [stepSt_put st o h1]; unfold putR
    (repeat' split) <;> first | exact h.mono (by omega) | exact h.add _ _ _
  by_cases h2 : o.kind=2
  · rw [stepSt_get st o h2]; exact h.mono (by omega)
  by_cases h3 : o.kind=3
  · rw [stepSt_getv st o h3]; exact h.mono (by omega)
  by_cases h4 : o.kind=4
  · rw [stepSt_drop st o h4]; unfold dropR
    (repeat' split) <;> first | exact h.mono (by omega) | exact h.add _ _ _
  by_cases h5 : o.kind=5
  · rw [stepSt_dropv st o h5]; unfold dropvR
    split
    · exact h.mono (by omega)
    · split
      · exact h.mono (by omega)
      · rename_i r hr
        exact h.drop _ _ (List.findIdx?_eq_some_iff_getElem.1 hr).1
  · have e : stepSt st o=(st,⟨1,0,⟨#[]⟩⟩):=by unfold stepSt; simp [h1,h2,h3,h4,h5]
    rw [e]; exact h.mono (by omega)
end Go.Proofs.YtnapepbdohidgaaGreatDoorQ
