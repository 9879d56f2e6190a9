/- Part of a proof. -/
import Derived.Test.YtnapepbdohidgaaGreatDoorQM31
import Derived.Test.YtnapepbdohidgaaGreatDoorQM28
namespace Go.Proofs.YtnapepbdohidgaaGreatDoorQ
open Go
open Go.Conc Go.ConcX Go.ConcX.Gen Go.RowKit
theorem next_ok {A : Nat→Prop} {B k0 : Nat} {L : Lg} (Qok : Qy→Prop) (hQ : ∀ q,Qok q→CmnOk q∧SkyOk q) (w : World) (h : LsAt A B w k0 L) (hB : B≤w.heap.size) (tok : ByteArray) (hop : L.opened.length≤3) (hinv : ∀ x∈L.opened,Qok x.q∧sumV (fromL x.f x.q.p.data.toList)≤1000∧x.q.p.size≤maxLen) (hpg : ∀ n pg,tFind tok L.told=some (n,pg)→0≤pg∧pg < 2199023255552) (G : World→Prop) (hG : ∀ w',DeskR A B k0 w w'→G w') (hT : ∀ n pg,tFind tok L.told=some (n,pg)→(numAt n L.opened).isSome=true→TokOk G n (pg+1)) :
    Calls Tryq.prog 43 #[.pointer (some ⟨k0,4,none⟩),.string tok] w fun e w'=>
      (∃ sv,e=.returned (.tuple #[.agg #[sv,.string (nextR L tok).2.2.1],.int .i64 (nextR L tok).2.2.2])∧LsPost A B k0 w (nextR L tok).1 (nextR L tok).2.1 sv w')∨Stop Qok e w':=by
  cases hf : tFind tok L.told with
  | none=>
    have e : nextR L tok=(L,[],⟨#[]⟩,9):=by simp [nextR,hf]
    rw [e]
    exact (next_none w h tok hf).mono fun e w' h=>.inl ⟨_,h.1,h.2⟩
  | some x=>
    obtain ⟨n,pg⟩:=x
    cases hn : numAt n L.opened with
    | none=>
      have e : nextR L tok=(L,[],⟨#[]⟩,10):=by simp [nextR,hf,hn]
      rw [e]
      exact (next_gone w h tok n pg hop hf hn).mono fun e w' h=>.inl ⟨_,h.1,h.2⟩
    | some i=>
      have hi : i < L.opened.length:=(List.findIdx?_eq_some_iff_getElem.1 hn).1
      have hx : L.opened[i]?=some L.opened[i]:=List.getElem?_eq_getElem hi
      have e : nextR L tok=(⟨L.opened.set i (L.opened[i].again 10),L.begun,if L.opened[i].tok pg=⟨#[]⟩ then L.told else tPut (L.opened[i].tok pg) (n,pg+1) L.told⟩,L.opened[i].page pg,L.opened[i].tok pg,0):=by simp [nextR,hf,hn,hx]
      rw [e]
      obtain ⟨h1,h2,h3⟩:=hinv L.opened[i] (List.getElem_mem hi)
      exact next_page Qok hQ w h hB tok n pg i L.opened[i] hop hf hn hx h1 h2 h3 (hpg n pg hf) G hG (hT n pg hf (by simp [hn]))
section
variable {A : Nat→Prop} {B k0 : Nat} {L : Lg}
set_option maxHeartbeats 4000000 in
set_option maxRecDepth 100000 in
theorem begin_old (Qok : Qy→Prop) (hQ : ∀ q,Qok q→CmnOk q∧SkyOk q) (w : World) (h : LsAt A B w k0 L) (_hB : B≤w.heap.size) (root : Option Addr) (f : List UInt8→List Ver) (q : Qy) (size : Int) (hN : NodeAt A 41 w root f) (hq : Qok q) (hsum : sumV (fromL f q.p.data.toList)≤1000) (hp : q.p.size≤maxLen) (hbg : 0≤L.begun∧L.begun < 2199023255552) (hop : L.opened.length≤3) (G : World→Prop) (hG : ∀ w',LeftL w w'→G w') (hT : TokOk G (L.begun+1) 2) (hold : (size < 1∨20 < size)∨(newL L f q size).tok 1=⟨#[]⟩∨3≤L.opened.length) :
    Calls Tryq.prog 40 #[.pointer (some ⟨k0,4,none⟩),sV root,qV q.vs q.p q.d q.af,.int .i64 size] w fun e w'=>
      (∃ sv,e=.returned (.tuple #[.agg #[sv,.string (begR L f q size).2.2.1],.int .i64 (begR L f q size).2.2.2])∧LsPost A B k0 w (begR L f q size).1 (begR L f q size).2.1 sv w')∨Stop Qok e w':=by
  have c5:=h.begun
  obtain ⟨v4,c4,zs,z1,z2,z3,z4⟩:=h.opened
  obtain ⟨va4,vc4,rfl,-⟩:=owns_form z2
  have hlz : L.opened.length=zs.length:=by rw [z1]; simp
  have hlt:=h.lt
  have HL : Hid (LsAt A B w k0 L):=h
  obtain ⟨vs,p,d,af⟩:=q
  unfold sV qV
  by_cases hsz : size < 1∨20 < size
  · have hR : begR L f ⟨vs,p,d,af⟩ size=(L,[],⟨#[]⟩,7):=by rw [begR,if_pos hsz]
    rw [hR]
    have hbp:=build_page
    clear hN hq hsum hp hbg hop hT hG h hQ z1 z2 z3 z4 c4 c5
    rcases hsz with h1 | h2
    · go_enter Tryq.func40,Tryz.ntmps40
      go_wp2_with fail
      refine bodyPost_ret (v:=.tuple #[.agg #[.slice none 0 0,.string ⟨#[]⟩],.int .i64 7]) (by simp [results,Tryz.results40,go_sem]) rfl (.inl ⟨_,rfl,LsPost.same HL.out (((LeftL.refl.alloc _).alloc _).alloc _)⟩)
    · have h1 : ¬size < 1:=by omega
      go_enter Tryq.func40,Tryz.ntmps40
      go_wp2_with fail
      refine bodyPost_ret (v:=.tuple #[.agg #[.slice none 0 0,.string ⟨#[]⟩],.int .i64 7]) (by simp [results,Tryz.results40,go_sem]) rfl (.inl ⟨_,rfl,LsPost.same HL.out (((LeftL.refl.alloc _).alloc _).alloc _)⟩)
  · have h1 : ¬size < 1:=by omega
    have h2 : ¬20 < size:=by omega
    have hbl:=build_lst
    have hbp:=build_page
    have hwb : wrap64 (L.begun+1)=L.begun+1:=by unfold wrap64; omega
    have hk1 : k0 < w.heap.size+1:=by omega
    have hk2 : k0 < w.heap.size+1+1:=by omega
    have hk3 : k0 < w.heap.size+1+1+1:=by omega
    obtain ⟨V,hV⟩ : ∃ V,V=((((w.alloc (.cells #[.pointer root] 56)).alloc (.cells #[.bool vs,.string p,.string d,.string af] 93)).alloc (.cells #[.slice none 0 0,.string ⟨#[]⟩] 88)).alloc (.cells #[.int .i64 (L.begun+1),.pointer root,.bool vs,.string p,.string d,.string af,.int .i64 size,.int .i64 10] 125)).drew:=⟨_,rfl⟩
    have hLV : LeftL w V:=by rw [hV]; exact ((((LeftL.refl.alloc _).alloc _).alloc _).alloc _).drew
    have hVs : V.heap.size=w.heap.size+4:=by rw [hV]; simp
    have hpre : PreL Qok ((newL L f ⟨vs,p,d,af⟩ size).lst root) f V:=⟨.of (NodeAt.keep (A':=fun _=>True) (fun b _ hlt=>⟨trivial,hLV.block b hlt⟩) 41 root f hN),hq,hsum,hp⟩
    have HP0:=page_ok Qok hQ ((newL L f ⟨vs,p,d,af⟩ size).lst root) 1 f V hpre G (fun w' hl=>hG w' (hLV.trans hl)) (fun _=>hT)
    obtain ⟨tk,htk⟩ : ∃ tk,tk=(newL L f ⟨vs,p,d,af⟩ size).tok 1:=⟨_,rfl⟩
    obtain ⟨pg,hpg⟩ : ∃ pg,pg=(newL L f ⟨vs,p,d,af⟩ size).page 1:=⟨_,rfl⟩
    have HP : Calls Tryq.prog 69 #[.agg #[.int .i64 (L.begun+1),.pointer root,.bool vs,.string p,.string d,.string af,.int .i64 size,.int .i64 10],.int .i64 1] V fun e w'=>(∃ so sn sc,e=.returned (.agg #[.slice so sn sc,.string tk])∧w'.ownsRow V.heap.size 41 3 (.slice so sn sc) pg.length (itCells pg)∧LeftL V w')∨Stop Qok e w':=by
      refine HP0.mono ?_
      rintro e w' (⟨sv,rfl,h3,h4⟩ | h)
      · left
        rw [htk,hpg]
        rw [pageOf_size (l:=(newL L f ⟨vs,p,d,af⟩ size).lst root) (l':=(newL L f ⟨vs,p,d,af⟩ size).lst none) rfl] at h3
        obtain ⟨so,sn,sc,rfl⟩ : ∃ so sn sc,sv=.slice so sn sc:=by
          rcases h3.2 with ⟨rfl,-⟩ | ⟨g,cap,cur,rfl,-⟩
          · exact ⟨_,_,_,rfl⟩
          · exact ⟨_,_,_,rfl⟩
        exact ⟨so,sn,sc,rfl,h3,h4⟩
      · exact .inr h
    clear HP0
    have HF : Hid (∀ w1,LeftL V w1→((w1.cell? ⟨w.heap.size+1+1+1,0,none⟩=some (.int .i64 (L.begun+1))∧w1.cell? ⟨w.heap.size+1+1+1,1,none⟩=some (.pointer root)∧w1.cell? ⟨w.heap.size+1+1+1,2,none⟩=some (.bool vs)∧w1.cell? ⟨w.heap.size+1+1+1,3,none⟩=some (.string p)∧w1.cell? ⟨w.heap.size+1+1+1,4,none⟩=some (.string d)∧w1.cell? ⟨w.heap.size+1+1+1,5,none⟩=some (.string af)∧w1.cell? ⟨w.heap.size+1+1+1,6,none⟩=some (.int .i64 size)∧w1.cell? ⟨w.heap.size+1+1+1,7,none⟩=some (.int .i64 10)) ∧
        (w1.cell? ⟨w.heap.size+1+1,0,none⟩=some (.slice none 0 0)∧w1.cell? ⟨w.heap.size+1+1,1,none⟩=some (.string ⟨#[]⟩)∧w1.frozen? ⟨w.heap.size+1+1,0,none⟩=false∧w1.frozen? ⟨w.heap.size+1+1,1,none⟩=false) ∧
        (w1.cell? ⟨k0,4,none⟩=some (.slice va4 zs.length vc4)∧w1.cell? ⟨k0,5,none⟩=some (.int .i64 L.begun)∧w1.frozen? ⟨k0,4,none⟩=false∧w1.frozen? ⟨k0,5,none⟩=false)∧(w.heap.size+1+1 < w1.heap.size∧w.heap.size+1+1+1 < w1.heap.size∧k0 < w1.heap.size))):=fun w1 hl=>by
      have r3 : V.heap[w.heap.size+3]?=some (.cells #[.int .i64 (L.begun+1),.pointer root,.bool vs,.string p,.string d,.string af,.int .i64 size,.int .i64 10] 125):=by
        rw [hV]
        simp only [World.drew,World.alloc,Array.getElem?_push,Array.size_push]
        repeat rw [if_neg (by omega)]
        simp
      have r2 : V.heap[w.heap.size+2]?=some (.cells #[.slice none 0 0,.string ⟨#[]⟩] 88):=by
        rw [hV]
        simp only [World.drew,World.alloc,Array.getElem?_push,Array.size_push]
        repeat rw [if_neg (by omega)]
        simp
      have e3:=(hl.block _ (by omega)).trans r3
      have e2:=(hl.block _ (by omega)).trans r2
      have hfz : ∀ j,w1.frozen? ⟨k0,j,none⟩=false:=fun j=>(World.frozen?_of_block (a:=⟨k0,j,none⟩) ((hLV.trans hl).block k0 hlt)).trans (HL.out.frozen j)
      have:=hl.size
      refine ⟨⟨?_,?_,?_,?_,?_,?_,?_,?_⟩,⟨?_,?_,?_,?_⟩,⟨(hLV.trans hl).cell c4,(hLV.trans hl).cell c5,hfz 4,hfz 5⟩,by omega,by omega,by omega⟩
      all_goals simp [World.cell?,World.frozen?,e3,e2]
    have HX : Hid (LeftL w V∧NodeAt A 41 w root f∧V.heap.size=w.heap.size+4):=⟨hLV,hN,hVs⟩
    have HZ : Hid (L.opened=zs.map (·.1)∧w.ownsRow B 125 8 (.slice va4 zs.length vc4) zs.length (zCells zs)∧(∀ g,(Value.slice va4 zs.length vc4).ownBlock=some g→¬A g)∧∀ z∈zs,NodeAt A 41 w z.2 z.1.f):=⟨z1,z2,z3,z4⟩
    have HB : Hid (begR L f ⟨vs,p,d,af⟩ size=(if tk=⟨#[]⟩ then (L,pg,⟨#[]⟩,0) else if 3≤L.opened.length then (L,[],⟨#[]⟩,8) else (⟨L.opened++[newL L f ⟨vs,p,d,af⟩ size],L.begun+1,tPut tk (L.begun+1,2) L.told⟩,pg,tk,0))):=by
      show begR L f ⟨vs,p,d,af⟩ size=_
      rw [begR,if_neg hsz,htk,hpg]
    generalize begR L f ⟨vs,p,d,af⟩ size=R at *
    have HV : Hid (V=((((w.alloc (.cells #[.pointer root] 56)).alloc (.cells #[.bool vs,.string p,.string d,.string af] 93)).alloc (.cells #[.slice none 0 0,.string ⟨#[]⟩] 88)).alloc (.cells #[.int .i64 (L.begun+1),.pointer root,.bool vs,.string p,.string d,.string af,.int .i64 size,.int .i64 10] 125)).drew):=hV
    have HTK : Hid (tk=(newL L f ⟨vs,p,d,af⟩ size).tok 1):=htk
    clear hV hLV hVs hpre htk hpg hN z1 z2 z3 z4 hG hT hq hsum hp h hQ
    by_cases htk : tk=⟨#[]⟩
    · subst htk
      have hR : R=(L,pg,⟨#[]⟩,0):=by rw [HB.out,if_pos rfl]
      subst hR
      go_enter Tryq.func40,Tryz.ntmps40
      go_wp2_with fail
      go_region
      rw [←HV.out]
      obtain ⟨⟨a0,a1,a2,a3,a4,a5,a6,a7⟩,-⟩:=HF.out V LeftL.refl
      go_wp2_with (go_at_call 69; refine HP.mono ?_; clear HP; rintro e w1 (⟨so,sn,sc,rfl,hrow,hl1⟩ | ⟨x,y,r,rfl,hst⟩); rotate_left; exact ⟨rfl,Or.inr ⟨x,y,r,rfl,hst⟩⟩; obtain ⟨⟨q0,q1,q2,q3,q4,q5,q6,q7⟩,⟨s0,s1,z0,z1⟩,⟨m4,m5,n4,n5⟩,y2,y3,yk⟩:=HF.out w1 hl1)
      obtain ⟨hLV,-,hVs⟩:=HX.out
      have hot : ∀ b,b≠w.heap.size+1+1→b < w1.heap.size→(((w1.setCell ⟨w.heap.size+1+1,0,none⟩ (.slice so sn sc)).setCell ⟨w.heap.size+1+1,1,none⟩ (.string ⟨#[]⟩)).alloc (.cells #[.slice so sn sc,.string ⟨#[]⟩] 88)).heap[b]?=w1.heap[b]?:=fun b h1 h2=>by
        rw [Below.heap_alloc _ _ _ (by simpa using h2),Below.heap_setCell _ _ _ _ h1,Below.heap_setCell _ _ _ _ h1]
      have hl2 : LeftL w (((w1.setCell ⟨w.heap.size+1+1,0,none⟩ (.slice so sn sc)).setCell ⟨w.heap.size+1+1,1,none⟩ (.string ⟨#[]⟩)).alloc (.cells #[.slice so sn sc,.string ⟨#[]⟩] 88)):=(((hLV.trans hl1).set (by omega) _ _).set (by omega) _ _).alloc _
      refine bodyPost_ret (v:=.tuple #[.agg #[.slice so sn sc,.string ⟨#[]⟩],.int .i64 0]) (by simp [results,Tryz.results40,go_sem,s0,s1,y2]) rfl (.inl ⟨_,rfl,LsPost.page HL.out hl2 hrow (by omega) fun g h1 h2=>hot g (by omega) h2⟩)
    · have hne' : ¬tk.toList=[]:=fun hx=>by
        have : (tk == (⟨#[]⟩ : ByteArray))=true:=by rw [beq_toListBytes]; simpa using hx
        exact htk ((MapKept.bytes_beq _ _).1 this)
      have hne : (tk.toList == [])=false:=by simpa using hne'
      by_cases h3 : 3≤L.opened.length
      · have hR : R=(L,[],⟨#[]⟩,8):=by rw [HB.out,if_neg htk,if_pos h3]
        subst hR
        have h3i : (3 : Int)≤(zs.length : Int):=by omega
        go_enter Tryq.func40,Tryz.ntmps40
        go_wp2_with fail
        go_region
        rw [←HV.out]
        obtain ⟨⟨a0,a1,a2,a3,a4,a5,a6,a7⟩,-⟩:=HF.out V LeftL.refl
        go_wp2_with (go_at_call 69; refine HP.mono ?_; clear HP; rintro e w1 (⟨so,sn,sc,rfl,hrow,hl1⟩ | ⟨x,y,r,rfl,hst⟩); rotate_left; exact ⟨rfl,Or.inr ⟨x,y,r,rfl,hst⟩⟩; obtain ⟨⟨q0,q1,q2,q3,q4,q5,q6,q7⟩,⟨s0,s1,z0,z1⟩,⟨m4,m5,n4,n5⟩,y2,y3,yk⟩:=HF.out w1 hl1)
        obtain ⟨hLV,-,hVs⟩:=HX.out
        have hl2 : LeftL w (((w1.setCell ⟨w.heap.size+1+1,0,none⟩ (.slice none 0 0)).setCell ⟨w.heap.size+1+1,1,none⟩ (.string ⟨#[]⟩)).alloc (.cells #[.slice so sn sc,.string tk] 88)):=(((hLV.trans hl1).set (by omega) _ _).set (by omega) _ _).alloc _
        refine bodyPost_ret (v:=.tuple #[.agg #[.slice none 0 0,.string ⟨#[]⟩],.int .i64 8]) (by simp [results,Tryz.results40,go_sem,s0,s1,y2]) rfl (.inl ⟨_,rfl,LsPost.same HL.out hl2⟩)
      · rcases hold with h | h | h
        · exact absurd h hsz
        · rw [←HTK.out] at h
          exact absurd h htk
        · exact absurd h h3
end
end Go.Proofs.YtnapepbdohidgaaGreatDoorQ
