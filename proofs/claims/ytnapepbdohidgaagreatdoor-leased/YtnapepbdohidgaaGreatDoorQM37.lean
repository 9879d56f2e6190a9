/- Part of a proof. -/
import Derived.Test.YtnapepbdohidgaaGreatDoorQM36
import Derived.Test.YtnapepbdohidgaaGreatDoorQM40
namespace Go.Proofs.YtnapepbdohidgaaGreatDoorQ
open Go
open Go.Conc Go.ConcX Go.ConcX.Gen Go.RowKit
theorem run_scrL (Qok : Qy→Prop) (K : OpD→Prop) (N : Nat) (hAns : AnsAll Qok K N) (v : Value) (ops : List OpD) (w : World) (h : ScrAt w v ops) (hne : ops≠[]) (hn : ops.length≤N) (hN : N < 2199023255540) (hko : ∀ o∈ops,KindOk Qok o) (hkk : ∀ o∈ops,K o) :
    Calls Tryq.prog 18 #[v] w fun e w'=>RunPost ops w e w'∨Stop Qok e w':=by
  obtain ⟨a,cap,rfl,hx⟩:=h.form
  obtain ⟨b,off,rfl,hS⟩:=hx hne
  exact run_list Qok K N hAns b off cap ops w hS h.sized hn hN hko hkk
def RunQ (ops : List OpD) (m : Nat) (w : World) (e : Ending) (w' : World) : Prop:=
  ∃ (g : Nat) (A : Nat→Prop) (zs : List (AnsL×Value)),e=.returned (.slice (some ⟨g,0,none⟩) m m)∧zs.map (·.1)=(runD ops).al∧(∀ j,j < m * 5→w'.cell? ⟨g,j,none⟩=(aCells zs)[j]?)∧RowsAt A w' zs∧LeftL w w'
theorem RunPost.q {ops : List OpD} {w w' : World} {e : Ending} (h : RunPost ops w e w') (m : Nat) (hm : ops.length=m) : RunQ ops m w e w':=by
  subst hm
  obtain ⟨A,zs,rfl,hal,hown,hrows,hA,hl⟩:=h
  exact ⟨_,A,zs,rfl,hal,fun j hj=>hown.cellAt j hj,hrows,hl⟩
theorem tok_empty {t : ByteArray} (h : t≠⟨#[]⟩) : t.toList.isEmpty=false:=by
  rw [ByteArray.toList_eq]
  cases e : t.data.toList with
  | nil=>exact absurd (ByteArray.ext (Array.toList_inj.1 (e.trans rfl))) h
  | cons a r=>rfl
theorem map_cons_inv {a : AnsL} {l : List AnsL} {zs : List (AnsL×Value)} (h : zs.map (·.1)=a :: l) : ∃ v zs',zs=(a,v) :: zs'∧zs'.map (·.1)=l:=by
  cases zs with
  | nil=>simp at h
  | cons z r=>
    obtain ⟨b,v⟩:=z
    simp only [List.map_cons,List.cons.injEq] at h
    obtain ⟨rfl,h⟩:=h
    exact ⟨v,r,rfl,h⟩
theorem kindOk_of (o : OpD) (h : o.kind=1∨o.kind=4∨o.kind=6∨o.kind=8∨o.kind=9∨o.kind=10) (hd : o.delim=⟨#[]⟩) : KindOk QKeys o:=
  ⟨by omega,by omega,by omega,fun _=>⟨rfl,hd⟩⟩
theorem few_of (o : OpD) (h : o.kind=1∨o.kind=4∨o.kind=6∨o.kind=8∨o.kind=9∨o.kind=10) : Few o:=fun h6=>by omega
theorem pag_kind : ∀ o∈pagOps,KindOk QKeys o:=by
  intro o ho
  simp only [pagOps,List.mem_cons,List.not_mem_nil,or_false] at ho
  rcases ho with rfl | rfl | rfl | rfl | rfl | rfl <;> exact kindOk_of _ (by simp) rfl
theorem pag_few : ∀ o∈pagOps,Few o:=by
  intro o ho
  simp only [pagOps,List.mem_cons,List.not_mem_nil,or_false] at ho
  rcases ho with rfl | rfl | rfl | rfl | rfl | rfl <;> exact few_of _ (by simp)
theorem pag_sized : Sized pagOps:=by
  intro o ho
  simp only [pagOps,List.mem_cons,List.not_mem_nil,or_false] at ho
  rcases ho with rfl | rfl | rfl | rfl | rfl | rfl <;> exact ⟨by simp only [maxLen]; decide,by simp only [maxLen]; decide⟩
set_option maxHeartbeats 2000000 in
set_option maxRecDepth 100000 in
theorem paging_any (N : Nat) (hAns : AnsAll QKeys Few N) (h6 : 6≤N) (hN : N < 2199023255540) (w : World) :
    Calls Tryq.prog 26 #[] w fun e w'=>(e=.returned (.bool true)∧LeftL w w')∨Stop QKeys e w':=by
  have HR : Hid (∀ W : World,Calls Tryq.prog 18 #[.slice (some ⟨W.heap.size,0,none⟩) 6 6] (W.alloc (.cells (pagOps.flatMap opCells).toArray 31)) fun e w'=>RunQ pagOps 6 (W.alloc (.cells (pagOps.flatMap opCells).toArray 31)) e w'∨Stop QKeys e w'):=fun W=>
    Calls.mono (run_scrL QKeys Few N hAns _ pagOps _ (scr_new W pagOps _ _ rfl 6 rfl pag_sized (by simp [pagOps])) (by simp [pagOps]) (by simp [pagOps]; omega) hN pag_kind pag_few) fun e w' h=>h.imp (fun h=>h.q 6 rfl) id
  clear hAns
  go_enter Tryq.func26,Tryz.ntmps26
  go_wp2_with fail
  refine (kop_any _ _ _ w).mono ?_
  rintro e w1 ⟨rfl,b1⟩
  go_wp2_with fail
  refine (kop_any _ _ _ w1).mono ?_
  rintro e w2 ⟨rfl,b2⟩
  replace b2:=b1.trans (b2.mono b1.size)
  go_wp2_with fail
  refine (kop_any _ _ _ w2).mono ?_
  rintro e w3 ⟨rfl,b3⟩
  replace b3:=b2.trans (b3.mono b2.size)
  clear b1 b2
  go_wp2_with fail
  refine (HR.out w3).mono ?_
  rintro e w8 (⟨g,A,zs,rfl,hal,hown,hrows,hl⟩ | hst)
  · have HB : Hid (LeftL w w8):=((LeftL.below b3).alloc _).trans hl
    obtain ⟨a0,a1,a2,a3,a4,a5,e1,t2,i4,c4,t4,c5⟩:=paging_as
    rw [e1] at hal
    obtain ⟨v0,zs1,rfl,hal1⟩:=map_cons_inv hal
    obtain ⟨v1,zs2,rfl,hal2⟩:=map_cons_inv hal1
    obtain ⟨v2,zs3,rfl,hal3⟩:=map_cons_inv hal2
    obtain ⟨v3,zs4,rfl,hal4⟩:=map_cons_inv hal3
    obtain ⟨v4,zs5,rfl,hal5⟩:=map_cons_inv hal4
    obtain ⟨v5,zs6,rfl,hal6⟩:=map_cons_inv hal5
    have hz : zs6=[]:=List.map_eq_nil_iff.1 hal6
    subst hz
    have hr4:=hrows (a4,v4) (by simp)
    simp only [i4] at hr4
    obtain ⟨pa,cap4,rfl,-,hx4⟩:=hr4
    obtain ⟨g4,rfl,-,-,hc4⟩:=hx4 (by simp [itCells])
    have d1:=hc4 1 (by simp [itCells])
    have hc:=hown
    have k14:=hc 14 (by omega)
    have k20:=hc 20 (by omega)
    have k23:=hc 23 (by omega)
    have k24:=hc 24 (by omega)
    have k25:=hc 25 (by omega)
    simp only [aCells,itCells,sB,List.length_singleton,List.flatMap_cons,List.flatMap_nil,List.cons_append,List.nil_append,List.append_nil,List.getElem?_cons_succ,List.getElem?_cons_zero,c4,t4,c5] at k14 k20 k23 k24 k25 d1
    have t2':=tok_empty t2
    clear t2
    generalize a2.tok=tk at *
    clear hown hc hrows hl hal hal1 hal2 hal3 hal4 hal5 hal6 e1 hc4 hx4 HR b3
    go_wp2
    go_ret
    exact .inl ⟨rfl,HB.out⟩
  · obtain ⟨x,y,r,rfl,hst⟩:=hst
    exact ⟨rfl,.inr ⟨x,y,r,rfl,hst⟩⟩
end Go.Proofs.YtnapepbdohidgaaGreatDoorQ
