/- Part of a proof. -/
import Derived.Test.YtnapepbdohidgaaGreatDoorQM30
namespace Go.Proofs.YtnapepbdohidgaaGreatDoorQ
open Go
open Go.Conc Go.ConcX Go.ConcX.Gen Go.RowKit
section
variable {A : Nat→Prop} {B k0 : Nat} {L : Lg}
set_option maxHeartbeats 8000000 in
set_option maxRecDepth 100000 in
theorem next_page (Qok : Qy→Prop) (hQ : ∀ q,Qok q→CmnOk q∧SkyOk q) (w : World) (h : LsAt A B w k0 L) (hB : B≤w.heap.size) (tok : ByteArray) (n pg : Int) (i : Nat) (x : LsA) (hop : L.opened.length≤3) (hf : tFind tok L.told=some (n,pg)) (hn : numAt n L.opened=some i) (hx : L.opened[i]?=some x) (hq : Qok x.q) (hsum : sumV (fromL x.f x.q.p.data.toList)≤1000) (hp : x.q.p.size≤maxLen) (hpg : 0≤pg∧pg < 2199023255552) (G : World→Prop) (hG : ∀ w',DeskR A B k0 w w'→G w') (hT : TokOk G n (pg+1)) :
    Calls Tryq.prog 43 #[.pointer (some ⟨k0,4,none⟩),.string tok] w fun e w'=>
      (∃ sv,e=.returned (.tuple #[.agg #[sv,.string (x.tok pg)],.int .i64 0])∧LsPost A B k0 w ⟨L.opened.set i (x.again 10),L.begun,if x.tok pg=⟨#[]⟩ then L.told else tPut (x.tok pg) (n,pg+1) L.told⟩ (x.page pg) sv w')∨Stop Qok e w':=by
  obtain ⟨mv,c6,hm⟩:=h.told
  obtain ⟨v4,c4,zs,z1,z2,z3,z4⟩:=h.opened
  have hlz : L.opened.length=zs.length:=by rw [z1]; simp
  have hxn : x.num=n:=by
    obtain ⟨h1,h2,-⟩:=List.findIdx?_eq_some_iff_getElem.1 hn
    rw [List.getElem?_eq_getElem h1] at hx
    cases hx
    simpa using h2
  have hi : i < zs.length:=by rw [←hlz]; exact (List.getElem?_eq_some_iff.1 hx).1
  have hzi : zs[i].1=x:=by
    rw [z1,List.getElem?_map,List.getElem?_eq_getElem hi] at hx
    simpa using hx
  obtain ⟨g,cap,hv4⟩ : ∃ g cap,v4=.slice (some ⟨g,0,none⟩) zs.length cap:=by
    rcases z2.2 with ⟨h1,h2⟩ | ⟨g,cap,cur,h1,-⟩
    · omega
    · exact ⟨g,cap,h1⟩
  subst hv4
  have z3' : ¬A g:=z3 g rfl
  have hgw:=(z2.lt g rfl)
  have hlt:=h.lt
  have hlow:=h.low
  have hk1 : k0 < w.heap.size+1:=by omega
  have hlk:=lookup_tok (hm.left (LeftL.refl.alloc (.cells #[.slice none 0 0,.string ⟨#[]⟩] 88))) tok
  rw [hf] at hlk
  simp only [Option.getD_some,Option.isSome_some,plV] at hlk
  obtain ⟨W,hW⟩ : ∃ W,W=(w.alloc (.cells #[.slice none 0 0,.string ⟨#[]⟩] 88)).alloc (.cells #[.int .i64 n,.int .i64 pg] 129):=⟨_,rfl⟩
  have hLW : LeftL w W:=by rw [hW]; exact (LeftL.refl.alloc _).alloc _
  have hWs : W.heap.size=w.heap.size+2:=by rw [hW]; simp
  have rW0 : W.heap[w.heap.size]?=some (.cells #[.slice none 0 0,.string ⟨#[]⟩] 88):=by
    rw [hW,Below.heap_alloc _ _ _ (by simp)]
    exact World.alloc_heap_new _ _
  have rW1 : W.heap[w.heap.size+1]?=some (.cells #[.int .i64 n,.int .i64 pg] 129):=by
    rw [hW]
    have:=World.alloc_heap_new (w.alloc (.cells #[.slice none 0 0,.string ⟨#[]⟩] 88)) (.cells #[.int .i64 n,.int .i64 pg] 129)
    rwa [World.size_alloc] at this
  have hIX:=index_ok B (some ⟨g,0,none⟩) cap zs (w.heap.size+1) n W (owns_same z2 fun g _ hg=>hLW.block g hg) (by omega) (by simp [World.cell?,rW1])
  rw [←z1,hn] at hIX
  simp only [Option.map_some,Option.getD_some] at hIX
  -- the worlds behind
  obtain ⟨tk,htk⟩ : ∃ tk,tk=x.tok pg:=⟨_,rfl⟩
  obtain ⟨pgI,hpgI⟩ : ∃ pgI,pgI=x.page pg:=⟨_,rfl⟩
  have HA : Hid (∀ w1,Below W.heap.size W w1→(w1.cell? ⟨k0,4,none⟩=some (.slice (some ⟨g,0,none⟩) zs.length cap)∧w1.frozen? ⟨g,i * 8+7,none⟩=false∧w1.cell? ⟨g,i * 8+7,none⟩=some (.int .i64 x.left)) ∧
      (∀ X,X=w1.setCell ⟨g,i * 8+7,none⟩ (.int .i64 10)→LsAt A B X k0 { L with opened:=L.opened.set i (x.again 10) }∧DeskR A B k0 w X∧NodeAt A 41 X zs[i].2 x.f∧(X.cell? ⟨k0,4,none⟩=some (.slice (some ⟨g,0,none⟩) zs.length cap)∧k0 < X.heap.size∧g < X.heap.size∧w.heap.size+2≤X.heap.size) ∧
        (X.cell? ⟨g,i * 8,none⟩=some (.int .i64 n)∧X.cell? ⟨g,i * 8+1,none⟩=some (.pointer zs[i].2)∧X.cell? ⟨g,i * 8+2,none⟩=some (.bool x.q.vs)∧X.cell? ⟨g,i * 8+3,none⟩=some (.string x.q.p)∧X.cell? ⟨g,i * 8+4,none⟩=some (.string x.q.d)∧X.cell? ⟨g,i * 8+5,none⟩=some (.string x.q.af)∧X.cell? ⟨g,i * 8+6,none⟩=some (.int .i64 x.size)∧X.cell? ⟨g,i * 8+7,none⟩=some (.int .i64 10)) ∧
        X.heap[w.heap.size]?=some (.cells #[.slice none 0 0,.string ⟨#[]⟩] 88)∧X.heap[w.heap.size+1]?=some (.cells #[.int .i64 n,.int .i64 pg] 129)∧FrC k0 w X)):=fun w1 hb1=>by
    have hl1 : LeftL w w1:=hLW.trans (.below hb1)
    have z2w : w1.ownsRow B 125 8 (.slice (some ⟨g,0,none⟩) zs.length cap) zs.length (zCells zs):=owns_same z2 fun g _ hg=>hl1.block g hg
    have q7:=(zCells8 z2w i hi).2.2.2.2.2.2.2
    rw [hzi] at q7
    have hfz : w1.frozen? ⟨g,i * 8+7,none⟩=false:=by
      rcases z2w.2 with ⟨h1,-⟩ | ⟨g',cap',cur,h1,-,hr,-⟩
      · cases h1
      · cases h1
        simp [World.frozen?,hr]
    refine ⟨⟨hl1.cell c4,hfz,q7⟩,fun X hX=>?_⟩
    obtain ⟨s1,s2,s3,s4⟩:=(h.left hl1).setLeft (hl1.cell c4) z1 z2w z3' (fun z hz=>NodeAt.keep (fun b hb hb2=>⟨hb,hl1.block b hb2⟩) 41 _ _ (z4 z hz)) i hi 10
    rw [hzi] at s1 s3 s4
    rw [←hX] at s1 s2 s3 s4
    have hset : (zs.set i (x.again 10,zs[i].2))[i]?=some (x.again 10,zs[i].2):=by simp [hi]
    have hi2 : i < (zs.set i (x.again 10,zs[i].2)).length:=by simpa using hi
    have s3' : X.ownsRow B 125 8 (.slice (some ⟨g,0,none⟩) (zs.set i (x.again 10,zs[i].2)).length cap) (zs.set i (x.again 10,zs[i].2)).length (zCells (zs.set i (x.again 10,zs[i].2))):=by simpa using s3
    have hc:=zCells8 s3' i hi2
    have e1 : (zs.set i (x.again 10,zs[i].2))[i]=(x.again 10,zs[i].2):=by simp
    rw [e1] at hc
    have hsz:=hl1.size
    have hXs : X.heap.size=w1.heap.size:=by rw [hX]; simp
    have hot : ∀ b,b≠g→X.heap[b]?=w1.heap[b]?:=fun b hb=>by rw [hX]; exact Below.heap_setCell _ _ _ _ hb
    have hW1:=hb1.size
    refine ⟨s1,(DeskR.left hlt hl1).trans s2,s4 (x.again 10,zs[i].2) (List.mem_iff_getElem?.2 ⟨i,hset⟩),⟨(World.cell?_of_block (a:=⟨k0,4,none⟩) (hot k0 (by omega))).trans (hl1.cell c4),by omega,by omega,by omega⟩,⟨by rw [←hxn]; exact hc.1,hc.2.1,hc.2.2.1,hc.2.2.2.1,hc.2.2.2.2.1,hc.2.2.2.2.2.1,hc.2.2.2.2.2.2.1,hc.2.2.2.2.2.2.2⟩,?_,?_,?_⟩
    · rw [hot _ (by omega),hb1.block _ (by omega)]; exact rW0
    · rw [hot _ (by omega),hb1.block _ (by omega)]; exact rW1
    · rw [hX]
      exact (FrC.left hlt hl1).trans (FrC.open ⟨_,hl1.cell c4,rfl⟩ (by omega))
  have HP : Hid (∀ w1 X,Below W.heap.size W w1→X=w1.setCell ⟨g,i * 8+7,none⟩ (.int .i64 10)→∀ V,LeftL X V→Calls Tryq.prog 69 #[.agg #[.int .i64 n,.pointer zs[i].2,.bool x.q.vs,.string x.q.p,.string x.q.d,.string x.q.af,.int .i64 x.size,.int .i64 10],.int .i64 pg] V fun e w'=>(∃ v,e=.returned v∧(∃ so sn sc,v=.agg #[.slice so sn sc,.string tk]∧w'.ownsRow V.heap.size 41 3 (.slice so sn sc) pgI.length (itCells pgI)∧LeftL V w'))∨∃ ch,e=.panicked ch∧Stop Qok (.panicked ch) w'):=fun w1 X hb1 hX V hV=>by
    obtain ⟨-,hXX⟩:=HA.out w1 hb1
    obtain ⟨s1,s2,s3,s4,-⟩:=hXX X hX
    have hpre : PreL Qok ((x.again 10).lst zs[i].2) x.f V:=⟨.of (NodeAt.keep (A':=fun _=>True) (fun b _ hlt=>⟨trivial,hV.block b hlt⟩) 41 _ _ s3),hq,hsum,hp⟩
    have hwr : IntKind.i64.wrap (pg+1)=pg+1:=by rw [wrapL]; unfold wrap64; omega
    have HP0:=page_ok Qok hQ ((x.again 10).lst zs[i].2) pg x.f V hpre G (fun w' hl=>hG w' ((s2.trans (DeskR.left s4.2.1 hV)).trans (DeskR.left (Nat.lt_of_lt_of_le s4.2.1 hV.size) hl))) (fun _=>by
      rw [hwr]
      show TokOk G x.num (pg+1)
      rw [hxn]
      exact hT)
    rw [show lV ((x.again 10).lst zs[i].2)=.agg #[.int .i64 n,.pointer zs[i].2,.bool x.q.vs,.string x.q.p,.string x.q.d,.string x.q.af,.int .i64 x.size,.int .i64 10] by rw [←hxn]; rfl] at HP0
    refine HP0.mono ?_
    rintro e w' (⟨sv,rfl,h3,h4⟩ | hs)
    · left
      rw [pageOf_size (l:=(x.again 10).lst zs[i].2) (l':=x.lst none) rfl] at h3
      obtain ⟨so,sn,rfl,-⟩:=owns_form h3
      rw [htk,hpgI]
      exact ⟨_,rfl,so,_,sn,rfl,h3,h4⟩
    · obtain ⟨a,b,r,rfl,hst⟩:=hs
      exact .inr ⟨_,rfl,a,b,r,rfl,hst⟩
  have HEN : Hid (∀ (args : Array Value) (wx : World),(callFunc 69 args).run Tryq.prog wx=.ok (.enter 69 args) wx):=fun args wx=>by go_simp
  have HW : Hid (∀ b,A b→b < w.heap.size):=h.inn
  have hiI : ¬((i : Int) < 0):=by omega
  have hbp:=build_page
  rw [←htk,←hpgI]
  clear htk hpgI
  clear h hm z1 z2 z3 z4 hLW rW0 rW1 hq hsum hp hG hT hQ hx hn hf
  subst hW
  go_enter Tryq.func43,Tryz.ntmps43
  go_upto_region 8 with (go_at_call 71; refine hIX.mono ?_; clear hIX; rintro e w1 ⟨rfl,hb1⟩; obtain ⟨⟨m4,f7,q7⟩,-⟩:=HA.out w1 hb1)
  obtain ⟨X,hX⟩ : ∃ X,X=w1.setCell ⟨g,i * 8+7,none⟩ (.int .i64 10):=⟨_,rfl⟩
  rw [←hX]
  obtain ⟨-,hXX⟩:=HA.out w1 hb1
  obtain ⟨s1,s2,s3,⟨x4,xk,xg,xs⟩,⟨q0,q1,q2,q3,q4,q5,q6,q8⟩,b0,b1,hfx⟩:=hXX X hX
  have p0 : X.cell? ⟨w.heap.size+1,0,none⟩=some (.int .i64 n):=by simp [World.cell?,b1]
  have p1 : X.cell? ⟨w.heap.size+1,1,none⟩=some (.int .i64 pg):=by simp [World.cell?,b1]
  have xw : w.heap.size+1 < X.heap.size:=by omega
  have HS : Hid (LsAt A B X k0 { L with opened:=L.opened.set i (x.again 10) }∧DeskR A B k0 w X∧X.heap[w.heap.size]?=some (.cells #[.slice none 0 0,.string ⟨#[]⟩] 88)∧X.heap[w.heap.size+1]?=some (.cells #[.int .i64 n,.int .i64 pg] 129)∧X=w1.setCell ⟨g,i * 8+7,none⟩ (.int .i64 10)):=⟨s1,s2,b0,b1,hX⟩
  have HFX : Hid (FrC k0 w X):=hfx
  have HV : Hid (∀ w2,LeftL (X.alloc (.cells #[.slice none 0 0,.string ⟨#[]⟩] 88)).drew w2→w2.cell? ⟨X.heap.size,0,none⟩=some (.slice none 0 0)∧w2.cell? ⟨X.heap.size,1,none⟩=some (.string ⟨#[]⟩)∧w2.frozen? ⟨X.heap.size,0,none⟩=false∧w2.frozen? ⟨X.heap.size,1,none⟩=false):=fun w2 hl=>by
    have e : w2.heap[X.heap.size]?=some (.cells #[.slice none 0 0,.string ⟨#[]⟩] 88):=(hl.block _ (by simp)).trans (World.alloc_heap_new X _)
    exact ⟨by simp [World.cell?,e],by simp [World.cell?,e],by simp [World.frozen?,e],by simp [World.frozen?,e]⟩
  clear hXX s1 s2 s3 b0 b1 hX hfx
  have HVC : Hid (∀ v g',X.cell? ⟨k0,4,none⟩=some v→v.ownBlock=some g'→g'≠w.heap.size):=fun v g' hv hg'=>by
    rw [x4] at hv
    cases hv
    cases hg'
    show g≠w.heap.size
    omega
  rename_i K1 hK1
  have HKK : Hid (∀ (a : Act) (W7 : World) (bx : Nat) (so : Option Addr) (sn sc : Nat),a=⟨nxTmps k0 w.heap.size (w.heap.size+1) bx (fun i=>a.tmps.getD i undef),[]⟩→LeftL X W7→W7.ownsRow X.heap.size 41 3 (.slice so sn sc) pgI.length (itCells pgI)→W7.cell? ⟨bx,0,none⟩=some (.slice so sn sc)→W7.cell? ⟨bx,1,none⟩=some (.string tk)→X.heap.size≤bx→K1 a W7):=fun a W7 bx so sn sc ha hl hrow c0 c1 hbx=>by
    refine hK1 a W7 ?_
    rw [ha]
    have:=next_rest (L:={ L with opened:=L.opened.set i (x.again 10) }) Qok (u:=fun i=>a.tmps.getD i undef) HFX.out HS.out.1 HW.out HS.out.2.1 hl hrow (Nat.le_refl _) (by omega) hB HVC.out HS.out.2.2.1 HS.out.2.2.2.1 c0 c1 hbx (by omega) hpg
    exact this
  have HFA : Hid (∀ w2 so sn sc,LeftL X.drew w2→w2.ownsRow X.drew.heap.size 41 3 (.slice so sn sc) pgI.length (itCells pgI)→∀ a,a=⟨nxTmps k0 w.heap.size (w.heap.size+1) w2.heap.size (fun i=>a.tmps.getD i undef),[]⟩→K1 a (w2.alloc (.cells #[.slice so sn sc,.string tk] 88))):=fun w2 so sn sc hl2 hrow a ha=>by
    have hlX : LeftL X w2:=(LeftL.refl.drew).trans hl2
    refine HKK.out a _ w2.heap.size so sn sc ha (hlX.alloc _) (owns_same hrow fun g _ hg=>Below.heap_alloc _ _ _ hg) ?_ ?_ hlX.size
    · rw [World.cell?_alloc_at (w:=w2) _ _ w2.heap.size 0 rfl]; rfl
    · rw [World.cell?_alloc_at (w:=w2) _ _ w2.heap.size 1 rfl]; rfl
  have HFB : Hid (∀ w2 so sn sc,LeftL (X.alloc (.cells #[.slice none 0 0,.string ⟨#[]⟩] 88)).drew w2→w2.ownsRow (X.alloc (.cells #[.slice none 0 0,.string ⟨#[]⟩] 88)).drew.heap.size 41 3 (.slice so sn sc) pgI.length (itCells pgI)→∀ a,a=⟨nxTmps k0 w.heap.size (w.heap.size+1) X.heap.size (fun i=>a.tmps.getD i undef),[]⟩→K1 a ((w2.setCell ⟨X.heap.size,0,none⟩ (.slice so sn sc)).setCell ⟨X.heap.size,1,none⟩ (.string tk))):=fun w2 so sn sc hl2 hrow a ha=>by
    have hlX : LeftL X w2:=((LeftL.refl.alloc _).drew).trans hl2
    obtain ⟨v0,v1,o0,o1⟩:=HV.out w2 hl2
    have hbs : (X.alloc (.cells #[.slice none 0 0,.string ⟨#[]⟩] 88)).drew.heap.size=X.heap.size+1:=by simp
    refine HKK.out a _ X.heap.size so sn sc ha ((hlX.set (Nat.le_refl _) _ _).set (Nat.le_refl _) _ _) (owns_base (owns_same hrow fun g h1 hg=>?_) (by omega)) ?_ ?_ (Nat.le_refl _)
    · rw [Below.heap_setCell _ _ _ _ (show g≠X.heap.size by omega),Below.heap_setCell _ _ _ _ (show g≠X.heap.size by omega)]
    · rw [World.cell?_setCell_other _ _ _ _ (addr_ne (by omega))]
      exact World.cell?_setCell_same' _ _ _ (by rw [v0]; rfl)
    · exact World.cell?_setCell_same' _ _ _ (by rw [World.cell?_setCell_other _ _ _ _ (addr_ne (by omega)),v1]; rfl)
  clear hK1
  go_region_law (first
    | (refine step_call2 rfl 69 #[.tmp 44,.tmp 46] #[125,3] rfl #[.agg #[.int .i64 n,.pointer zs[i].2,.bool x.q.vs,.string x.q.p,.string x.q.d,.string x.q.af,.int .i64 x.size,.int .i64 10],.int .i64 pg] (by simp [Act.eval]) (HEN.out _ _) _ (fun ch w'=>Stop Qok (.panicked ch) w') (HP.out w1 X hb1 HS.out.2.2.2.2 X.drew LeftL.refl.drew) (fun ch w' hs=>⟨rfl,Or.inr hs⟩) ?_; rintro v w2 ⟨so,sn,sc,rfl,hrow,hl2⟩; have HE : Hid (_∧_):=And.intro hrow hl2; clear hrow hl2)
    | (refine step_call2 rfl 69 #[.tmp 44,.tmp 46] #[125,3] rfl #[.agg #[.int .i64 n,.pointer zs[i].2,.bool x.q.vs,.string x.q.p,.string x.q.d,.string x.q.af,.int .i64 x.size,.int .i64 10],.int .i64 pg] (by simp [Act.eval]) (HEN.out _ _) _ (fun ch w'=>Stop Qok (.panicked ch) w') (HP.out w1 X hb1 HS.out.2.2.2.2 (X.alloc (.cells #[.slice none 0 0,.string ⟨#[]⟩] 88)).drew (LeftL.refl.alloc _).drew) (fun ch w' hs=>⟨rfl,Or.inr hs⟩) ?_; rintro v w2 ⟨so,sn,sc,rfl,hrow,hl2⟩; obtain ⟨v0,v1,o0,o1⟩:=HV.out w2 hl2; have HE : Hid (_∧_):=And.intro hrow hl2; clear hrow hl2))
  all_goals first
    | exact HFA.out w2 so sn sc HE.out.2 HE.out.1 _ rfl
    | exact HFB.out w2 so sn sc HE.out.2 HE.out.1 _ rfl
end
end Go.Proofs.YtnapepbdohidgaaGreatDoorQ
