/- Part of a proof. -/
import Derived.Test.YtnapepbdohidgaaGreatDoorQM22
import Derived.Test.YtnapepbdohidgaaGreatDoorQM23
import Derived.Test.YtnapepbdohidgaaGreatDoorQM18
import Derived.Deep.DeepCutAuto
import Derived.Lib.Strings
import Derived.Lib.BufferWrite
import Derived.Lib.UnsafeStr
import Derived.Laws.MakeOwn
namespace Go.Proofs.YtnapepbdohidgaaGreatDoorQ
open Go.RowKit
theorem node_lift {A : Nat→Prop} {w w2 w3 : World} {n : Nat} {p : Option Addr} {F : List UInt8→List Ver} (_hw2 : w.heap.size≤w2.heap.size) (h : NodeAt (Grow (fun b=>A b∧b < w.heap.size) w2) n w3 p F) (b1 o : Nat) (v : Value) (h1 : w.heap.size≤b1) (h2 : b1 < w2.heap.size) :
    NodeAt (Grow A w) n (w3.setCell ⟨b1,o,none⟩ v) p F:=by
  refine NodeAt.keep (fun b hb _=>?_) n p F h
  rcases hb with ⟨⟨hA,hlt⟩,_⟩ | hge
  · exact ⟨Or.inl ⟨hA,hlt⟩,Below.heap_setCell _ _ _ _ (by show b≠b1; omega)⟩
  · exact ⟨Or.inr (by omega),Below.heap_setCell _ _ _ _ (by show b≠b1; omega)⟩
set_option maxHeartbeats 1000000 in
theorem twith_any (A : Nat→Prop) (n : Nat) (p : Option Addr) (f : List UInt8→List Ver) (key : ByteArray) (hv : Value) (h : List Ver) (w : World) (hN : NodeAt A n w p f) (hk : key.size < n) (hk2 : key.size≤1000) (hh : HistAt A w hv h) (hne : h≠[]) :
    Calls Tryq.prog 67 #[.agg #[.pointer p],.string key,hv] w fun e w'=>∃ q,e=.returned (.agg #[.pointer q])∧Below w.heap.size w w'∧NodeAt (Grow A w) n w' q (upd f key.data.toList h):=by
  have hcall : ∀ w2 : World,Below w.heap.size w w2→Calls Tryq.prog 94 #[.pointer p,.string key,hv] w2 fun e w'=>∃ g,e=.returned (.pointer (some ⟨g,0,none⟩))∧Below w2.heap.size w2 w'∧NodeAt (Grow (fun b=>A b∧b < w.heap.size) w2) n w' (some ⟨g,0,none⟩) (upd f key.data.toList h):=fun w2 hb=>
    nwith_any n _ p f key hv h w2 (NodeAt.keep (fun b h1 h2=>⟨⟨h1,h2⟩,hb.block b h2⟩) n p f hN) hk hk2 (RowAt.keep hh (fun b h1 h2=>⟨⟨h1,h2⟩,hb.block b h2⟩)) hne
  have HC : Hid (∀ w2 : World,Below w.heap.size w w2→Calls Tryq.prog 94 #[.pointer p,.string key,hv] w2 fun e w'=>∃ g,e=.returned (.pointer (some ⟨g,0,none⟩))∧Below w2.heap.size w2 w'∧NodeAt (Grow (fun b=>A b∧b < w.heap.size) w2) n w' (some ⟨g,0,none⟩) (upd f key.data.toList h)):=hcall
  obtain ⟨ha,hc,rfl,-⟩:=hh
  clear hcall hN
  go_enter Tryq.func67,Tryz.ntmps67
  go_wp2_with fail
  have hb0 : Below w.heap.size w ((w.alloc (.cells #[.pointer p] 56)).alloc (.cells #[.pointer none] 56)):=((Below.refl _ w).alloc (Nat.le_refl _) _).alloc (by simp) _
  have q0 : ((w.alloc (.cells #[.pointer p] 56)).alloc (.cells #[.pointer none] 56)).cell? ⟨w.heap.size+1,0,none⟩=some (.pointer none):=by rw [World.cell?_alloc_at (w:=w.alloc (.cells #[.pointer p] 56)) _ _ (w.heap.size+1) 0 (by simp)]; rfl
  have q1 : ((w.alloc (.cells #[.pointer p] 56)).alloc (.cells #[.pointer none] 56)).frozen? ⟨w.heap.size+1,0,none⟩=false:=World.frozen?_alloc_at (w:=w.alloc (.cells #[.pointer p] 56)) _ _ (w.heap.size+1) 0 (by simp)
  have q2 : w.heap.size+1 < ((w.alloc (.cells #[.pointer p] 56)).alloc (.cells #[.pointer none] 56)).heap.size:=by simp
  have HB0 : Hid (Below w.heap.size w ((w.alloc (.cells #[.pointer p] 56)).alloc (.cells #[.pointer none] 56))):=hb0
  refine (HC.out _ hb0).mono ?_
  generalize (w.alloc (.cells #[.pointer p] 56)).alloc (.cells #[.pointer none] 56)=W2 at *
  rintro e w3 ⟨g,rfl,hb3,hN3⟩
  have q3:=cellOn hb3 q0
  have q4:=(hb3.frozen (p:=⟨w.heap.size+1,0,none⟩) q2).trans q1
  have HF : Hid (Below w.heap.size w (w3.setCell ⟨w.heap.size+1,0,none⟩ (.pointer (some ⟨g,0,none⟩)))∧NodeAt (Grow A w) n (w3.setCell ⟨w.heap.size+1,0,none⟩ (.pointer (some ⟨g,0,none⟩))) (some ⟨g,0,none⟩) (upd f key.data.toList h)):=
    ⟨(hb0.trans (hb3.mono hb0.size)).setCell (by show w.heap.size≤w.heap.size+1; omega) _,node_lift hb0.size hN3 (w.heap.size+1) 0 _ (by omega) q2⟩
  clear hb0 q0 q1 hb3 hN3 HC
  go_wp2
  exact bodyPost_ret (v:=.agg #[.pointer (some ⟨g,0,none⟩)]) (by simp [results,Tryz.results67,go_sem,q3]) rfl ⟨_,rfl,HF.out⟩
def nums (h : List Ver) (i : Nat) : Int:=((h[i]?).map (·.num)).getD 0
def verVal (v : Ver) : Value:=.agg #[.int .i64 v.num,.string v.body,.bool v.mark]
set_option maxHeartbeats 400000 in
theorem newest_raw (g k cap : Nat) (nm : Int) (bd : ByteArray) (mk : Bool) (w : World) (hk : k≤2199023255552) (c0 : w.cell? ⟨g,k * 3,none⟩=some (.int .i64 nm)) (c1 : w.cell? ⟨g,k * 3+1,none⟩=some (.string bd)) (c2 : w.cell? ⟨g,k * 3+2,none⟩=some (.bool mk)) :
    Calls Tryq.prog 64 #[.slice (some ⟨g,0,none⟩) (k+1) cap] w fun e w'=>e=.returned (.agg #[.int .i64 nm,.string bd,.bool mk])∧Below w.heap.size w w':=by
  have hg:=World.block_lt_of_cell? w _ c0
  go_enter Tryq.func64,Tryz.ntmps64
  go_wp2
  exact bodyPost_ret (v:=.agg #[.int .i64 nm,.string bd,.bool mk]) (by simp [results,Tryz.results64,go_sem]) rfl ⟨rfl,(Below.refl _ _).alloc (Nat.le_refl _) _⟩
theorem newest_any (A : Nat→Prop) (hv : Value) (h : List Ver) (w : World) (hh : HistAt A w hv h) (hne : h≠[]) (hl : h.length≤2199023255552) :
    Calls Tryq.prog 64 #[hv] w fun e w'=>e=.returned (verVal (h.getLast hne))∧Below w.heap.size w w':=by
  obtain ⟨g,cap,rfl,-,-,hc,-⟩:=hh.cells hne
  have hlen : 0 < h.length:=List.length_pos_iff.2 hne
  obtain ⟨k,hk⟩ : ∃ k,h.length=k+1:=⟨h.length - 1,by omega⟩
  obtain ⟨c0,c1,c2⟩:=hc k (by omega)
  have e : h.getLast hne=h[k]:=by rw [List.getLast_eq_getElem]; congr 1; omega
  rw [e]
  generalize h[k]=v at *
  rw [hk]
  exact newest_raw g k cap _ _ _ w (by omega) c0 c1 c2
theorem step_append_own {P : Program} {ops : Array Oper} {o : Oper} {a : Act} {w : World} {K : Act→World→Prop} {Q : Exit→Act→World→Prop} {E : Prop}
    (hg : o.guard=none) (s x : Operand) (t : TypeId) (hop : o.op=Op.call { callee:=Callee.builtin Builtin.append,args:=#[s,x],argTypes:=#[t,t] })
    (base : Nat) (e : TypeId) (i : TypeInfo) (z : Value) (size bytes : Nat) (ht : P.underlying t=some (.slice e)) (hi : P.info? e=some i) (hz : i.zero=some z)
    (hsize : i.size=size) (hby : i.bytes=bytes) (hzs : z.cells.size=size) (hsz : 0 < size)
    (v : Value) (n : Nat) (xs : List Value) (hs : a.eval s=v) (hown : w.ownsRow base e size v n xs)
    (ad : Addr) (m c : Nat) (news : List Value) (hx : a.eval x=.slice (some ad) m c) (hl : news.length=m * size) (hnews : ∀ j u,news[j]?=some u→w.cell? (ad.add j)=some u) (h1 : ∀ u∈news,u.oneCell'=true)
    (h63 : n+m≤maxLen) (hbytes : (n+m) * bytes≤140737488355328) (hbase : base≤w.heap.size)
    (h : ∀ v' w',w'.ownsRow base e size v' (n+m) (xs++news)→w.grownBy w' v.ownBlock→K (a.put o.dst v') w') :
    if Region.wanted o (yielded ops a.tmps)=true then Oper.wp P o a w K Q else E:=by
  obtain ⟨v',w',hr,h2,h3,_⟩:=run_append_own (P:=P) w base t o.type e i z size bytes ht hi hz hsize hby hzs hsz v n xs hown ad m c news hl hnews h1 h63 hbytes hbase
  exact step_append_run hg s x t t hop v _ hs hx hr (h v' w' h2 h3)
theorem verCells_snoc (h : List Ver) (v : Ver) : verCells (h++[v])=verCells h++[.int .i64 v.num,.string v.body,.bool v.mark]:=by simp [verCells]
theorem cellsOn3 {W w1 : World} (hb : Below W.heap.size W w1) {a b c : Addr} {x y z : Value} (h : W.cell? a=some x∧W.cell? b=some y∧W.cell? c=some z) : w1.cell? a=some x∧w1.cell? b=some y∧w1.cell? c=some z:=
  ⟨cellOn hb h.1,cellOn hb h.2.1,cellOn hb h.2.2⟩
theorem cellsGrown3 {w w' : World} {row : Option Nat} (hg : w.grownBy w' row) {b o1 o2 o3 : Nat} {x y z : Value} (hne : row≠some b) (h : w.cell? ⟨b,o1,none⟩=some x∧w.cell? ⟨b,o2,none⟩=some y∧w.cell? ⟨b,o3,none⟩=some z) : w'.cell? ⟨b,o1,none⟩=some x∧w'.cell? ⟨b,o2,none⟩=some y∧w'.cell? ⟨b,o3,none⟩=some z:=
  ⟨hg.cell h.1 (fun e=>hne e.symm),hg.cell h.2.1 (fun e=>hne e.symm),hg.cell h.2.2 (fun e=>hne e.symm)⟩
theorem owns_base {w : World} {base base' : Nat} {e : TypeId} {size : Nat} {v : Value} {n : Nat} {xs : List Value} (h : w.ownsRow base e size v n xs) (hb : base'≤base) : w.ownsRow base' e size v n xs:=by
  refine ⟨h.1,?_⟩
  rcases h.2 with h2 | ⟨g,cap,cur,hv,hg,r⟩
  · exact Or.inl h2
  · exact Or.inr ⟨g,cap,cur,hv,Nat.le_trans hb hg,r⟩
theorem news3 (W : World) (x y z : Value) (T : TypeId) : ∀ j u,[x,y,z][j]?=some u→(W.alloc (.cells #[x,y,z] T)).cell? ((⟨W.heap.size,0,none⟩ : Addr).add j)=some u:=by
  intro j u hj
  rw [Addr.add_lit,World.cell?_alloc_at (w:=W) _ _ W.heap.size _ rfl]
  simpa using hj
theorem one3 (nm : Int) (bd : ByteArray) (mk : Bool) : ∀ u∈[Value.int .i64 nm,.string bd,.bool mk],u.oneCell'=true:=by
  intro u hu; simp at hu; rcases hu with rfl | rfl | rfl <;> rfl
set_option maxHeartbeats 2000000 in
set_option maxRecDepth 100000 in
theorem hwith_any (A : Nat→Prop) (hv : Value) (h : List Ver) (nm : Int) (bd : ByteArray) (mk : Bool) (w : World) (hh : HistAt A w hv h) (hl : h.length≤2199023255552) :
    Calls Tryq.prog 89 #[hv,.agg #[.int .i64 nm,.string bd,.bool mk]] w fun e w'=>∃ va vl vc,e=.returned (.slice va vl vc)∧HistAt (fun b=>w.heap.size≤b) w' (.slice va vl vc) (h++[⟨nm,bd,mk⟩])∧Below w.heap.size w w':=by
  obtain ⟨i0,hi0,hz0,hz1,hz2⟩:=info_parts Tryq.infoVer
  have HCL : Hid (∀ wq : World,Below w.heap.size w wq→Calls Tryq.prog 96 #[hv] wq fun e w'=>∃ v',e=.returned v'∧w'.ownsRow wq.heap.size 81 3 v' h.length (verCells h)∧Below wq.heap.size wq w'):=fun wq hq=>
    cloneV_any A _ h wq (RowAt.keep hh (fun b hb hlt=>⟨hb,hq.block b hlt⟩)) hl
  obtain ⟨ha,hc,rfl,-⟩:=hh
  have b1 : Below w.heap.size w (w.alloc (.cells #[.int .i64 nm,.string bd,.bool mk] 81)):=(Below.refl _ w).alloc (Nat.le_refl _) _
  have HB1 : Hid (Below w.heap.size w (w.alloc (.cells #[.int .i64 nm,.string bd,.bool mk] 81))):=b1
  have B0 : (w.alloc (.cells #[.int .i64 nm,.string bd,.bool mk] 81)).cell? ⟨w.heap.size,0,none⟩=some (.int .i64 nm):=by rw [World.cell?_alloc_at (w:=w) _ _ w.heap.size 0 rfl]; rfl
  have B1 : (w.alloc (.cells #[.int .i64 nm,.string bd,.bool mk] 81)).cell? ⟨w.heap.size,1,none⟩=some (.string bd):=by rw [World.cell?_alloc_at (w:=w) _ _ w.heap.size 1 rfl]; rfl
  have B2 : (w.alloc (.cells #[.int .i64 nm,.string bd,.bool mk] 81)).cell? ⟨w.heap.size,2,none⟩=some (.bool mk):=by rw [World.cell?_alloc_at (w:=w) _ _ w.heap.size 2 rfl]; rfl
  clear b1
  go_enter Tryq.func89,Tryz.ntmps89
  go_wp2_with fail
  go_region_held3 (fun w'=>w'.cell? ⟨w.heap.size,0,none⟩=some (.int .i64 nm)∧w'.cell? ⟨w.heap.size,1,none⟩=some (.string bd)∧w'.cell? ⟨w.heap.size,2,none⟩=some (.bool mk)) (first | assumption | go_keep)
    (first
      | (refine step_append_own rfl _ _ 114 rfl w.heap.size 81 i0 _ 3 32 Tryq.underlying114 hi0 hz0 hz1 hz2 rfl (by decide) (.slice va h.length vc) h.length (verCells h) (by simp [Act.eval]) (hown.alloc _) ⟨w2.heap.size,0,none⟩ 1 1 [.int .i64 nm,.string bd,.bool mk] (by simp [Act.eval]) rfl (news3 _ _ _ _ _) (one3 _ _ _) (by simp only [maxLen]; omega) (by omega) (Nat.le_trans hbs (by simp)) ?_; intro v2 w3 ho3 hg3; have hb3 : Below w.heap.size w w3:=(hbw.alloc hbw.size _).grown hg3 (Nat.le_trans hbs (by simp)) (fun k e=>(hown.lt k e).1); have kS3:=cellsGrown3 hg3 hnb (by assumption))
      | (refine step_append_own rfl _ _ 114 rfl w.heap.size 81 i0 _ 3 32 Tryq.underlying114 hi0 hz0 hz1 hz2 rfl (by decide) (.slice va h.length vc) h.length (verCells h) (by simp [Act.eval]) hown ⟨w.heap.size+1,0,none⟩ 1 1 [.int .i64 nm,.string bd,.bool mk] (by simp [Act.eval]) rfl (fun j u hj=>cellOn hb (by have:=news3 (w.alloc (.cells #[.int .i64 nm,.string bd,.bool mk] 81)) _ _ _ 81 j u hj; simpa using this)) (one3 _ _ _) (by simp only [maxLen]; omega) (by omega) hbs ?_; intro v2 w3 ho3 hg3; have hb3 : Below w.heap.size w w3:=hbw.grown hg3 hbw.size (fun k e=>(hown.lt k e).1); have kS3:=cellsGrown3 hg3 hnb (by assumption))
      | (go_at_call 96; go_loud (refine (HCL.out _ ?_).mono ?_); go_loud (first | exact HB1.out | exact HB1.out.drew | exact (HB1.out.alloc (by simp) _).drew); rintro e w2 ⟨v',rfl,hown0,hb⟩; obtain ⟨va,vc,rfl,-⟩:=owns_form hown0; have hown:=owns_base (base':=w.heap.size) hown0 (by simp <;> omega); have hnb : (Value.slice va h.length vc).ownBlock≠some w.heap.size:=fun e=>absurd (hown0.lt _ e).1 (by simp <;> omega); have hbs : w.heap.size≤w2.heap.size:=Nat.le_trans (by simp <;> omega) hb.size; have hbw : Below w.heap.size w w2:=(by first | exact HB1.out.drew.trans (hb.mono HB1.out.size) | exact ((HB1.out.alloc (by simp) _).drew).trans (hb.mono (by simp <;> omega))); have kS:=cellsOn3 hb (by assumption)))
  all_goals
    obtain ⟨va2,vc2,rfl,-⟩:=owns_form ho3
    go_wp2
    go_ret
    have ho4:=ho3
    rw [show verCells h++[.int .i64 nm,.string bd,.bool mk]=verCells (h++[⟨nm,bd,mk⟩]) from (verCells_snoc h ⟨nm,bd,mk⟩).symm] at ho4
    exact ⟨va2,h.length+1,vc2,rfl,hist_of_owns (by simp) ho4 (fun j e=>(ho4.lt j e).1),hb3⟩
theorem Tryq.infoU8 : (Tryq.prog.info? 5).map (fun i=>(i.zero,i.size,i.bytes))=some (some (.int .u8 0),1,1):=by kernel_rfl
set_option maxHeartbeats 4000000 in
set_option maxRecDepth 100000 in
theorem slclone_any (s : ByteArray) (w : World) (hlim : s.size≤281474976710656) :
    Calls Tryq.prog 90 #[.string s] w fun e w'=>e=.returned (.string s)∧Below w.heap.size w w':=by
  by_cases h0 : s.size=0
  · have hs : s=⟨#[]⟩:=by
      apply ByteArray.ext
      exact Array.eq_empty_of_size_eq_zero h0
    subst hs
    go_enter Tryq.func90,Tryz.ntmps90
    go_wp2
    go_ret
    exact ⟨rfl,Below.refl _ _⟩
  · obtain ⟨i0,hi,hz0,hz1,hz2⟩:=info_parts Tryq.infoU8
    have hinfo : (Tryq.prog.info? 5).map (·.size)=some 1:=by rw [hi]; simp [hz1]
    have hco : Tryq.prog.cellsOf 5=1:=by simp [Program.cellsOf,hi,hz1]
    obtain ⟨M,hM⟩ : ∃ M,M=madeCells (Value.int .u8 0).cells (((s.size : Nat) : Int).toNat * i0.size):=⟨_,rfl⟩
    have hMs : M.size=s.size:=by rw [hM,size_madeCells,hz1]; simp
    have hmk : ∀ W : World,(Instr.makeSlice 48 (.int .i64 (s.size : Int)) (.int .i64 (s.size : Int))).run Tryq.prog W=.ok (.slice (some ⟨W.heap.size,0,none⟩) s.size s.size) (W.alloc (.cells M 5)):=fun W=>by
      have h:=run_make (P:=Tryq.prog) W 48 5 i0 (.int .u8 0) Tryq.underlying48 hi hz0 .i64 .i64 (s.size : Int) (s.size : Int) (by omega) (by omega) (by rw [hz2]; omega) (by omega)
      rw [←hM] at h
      simpa using h
    clear hM
    have hcp:=Lib.run_copy_row_string (P:=Tryq.prog) (w.alloc (.cells M 5)) 48 9 3 5 w.heap.size 0 s.size s.size s M 5 Tryq.underlying48 hinfo (heap_alloc_new w _) (Nat.le_refl _) (by omega)
    obtain ⟨Y,hY⟩ : ∃ Y,Y=(M.toList.take 0++Lib.byteCells s.data.toList++M.toList.drop (0+s.size)).toArray:=⟨_,rfl⟩
    rw [←hY] at hcp
    have hYl : Y.toList=Lib.byteCells s.data.toList:=by
      rw [hY,List.toList_toArray,List.take_zero,List.nil_append,List.drop_of_length_le (by rw [Array.length_toList]; omega),List.append_nil]
    have hYs : Y.size=s.size:=by rw [←Array.length_toList,hYl,Lib.byteCells_length,←Lib.size_eq]
    have hgY : ((w.alloc (.cells M 5)).setRow w.heap.size Y).heap[w.heap.size]?=some (.cells Y 5 (0,0)):=setRow_heap _ _ M _ 5 (0,0) (heap_alloc_new w _)
    have hne : s.data.toList≠[]:=fun e=>h0 (by rw [Lib.size_eq,e]; rfl)
    have hUS:=Lib.run_unsafeString_row (P:=Tryq.prog) ((w.alloc (.cells M 5)).setRow w.heap.size Y) 183 3 9 5 Tryq.underlying183 hco w.heap.size Y.size (by unfold World.shape?; rw [hgY]) s.data.toList hne (by rw [←Lib.size_eq]; omega) (by rw [←Lib.size_eq]; omega)
      (fun j x hx=>Lib.cells_of_row hgY Y.size j _ (by rw [List.take_of_length_le (by rw [Array.length_toList]; exact Nat.le_refl _),hYl]; simp [Lib.byteCells,hx]))
    rw [←Lib.size_eq] at hUS
    clear hY
    go_enter Tryq.func90,Tryz.ntmps90
    go_wp2
    go_ret
    have hb1 : Below w.heap.size w (w.alloc (.cells M 5)):=(Below.refl _ w).alloc (Nat.le_refl _) _
    have hb2 : Below w.heap.size (w.alloc (.cells M 5)) ((w.alloc (.cells M 5)).setRow w.heap.size Y):=⟨rfl,rfl,rfl,by simp,fun k hk=>setRow_other _ _ _ _ (by omega)⟩
    exact ⟨rfl,Lib.below_freeze (hb1.trans hb2) (p:=⟨w.heap.size,0,none⟩) (Nat.le_refl _) _⟩
set_option maxHeartbeats 400000 in
theorem sclone_any (s : ByteArray) (w : World) (hlim : s.size≤281474976710656) :
    Calls Tryq.prog 62 #[.string s] w fun e w'=>e=.returned (.string s)∧Below w.heap.size w w':=by
  go_enter Tryq.func62,Tryz.ntmps62
  go_wp2_with (go_at_call 90; refine (slclone_any _ _ hlim).mono ?_; rintro e w' ⟨rfl,hb⟩)
  go_ret
  exact ⟨rfl,hb⟩
structure St where
  f : List UInt8→List Ver
  count : Int
  last : Int
structure OpD where
  kind : Int
  key : ByteArray
  body : ByteArray
  delim : ByteArray
  past : ByteArray
  n : Int
  src : Int
structure AnsD where
  code : Int
  ver : Int
  body : ByteArray
def opVal (o : OpD) : Value:=.agg #[.int .i64 o.kind,.string o.key,.string o.body,.string o.delim,.string o.past,.int .i64 o.n,.int .i64 o.src]
def ansVal (a : AnsD) : Value:=.agg #[.int .i64 a.code,.int .i64 a.ver,.string a.body,.slice none 0 0,.string ⟨#[]⟩]
def isKeyB (k : ByteArray) : Bool:=decide (1≤k.size∧k.size≤40)
def addSt (st : St) (key : ByteArray) (body : ByteArray) (mark : Bool) : St:=
  ⟨upd st.f key.data.toList (st.f key.data.toList++[⟨st.last+1,body,mark⟩]),st.count+1,st.last+1⟩
def placeOf (h : List Ver) (n : Int) : Option Nat:=h.findIdx? (fun v=>v.num == n)
def dropSt (st : St) (key : ByteArray) (r : Nat) : St:=
  ⟨upd st.f key.data.toList ((st.f key.data.toList).take r++(st.f key.data.toList).drop (r+1)),st.count - 1,st.last⟩
def stepSt (st : St) (o : OpD) : St×AnsD:=
  let none : AnsD:=⟨0,0,⟨#[]⟩⟩
  if o.kind=1 then
    if isKeyB o.key=false then (st,{ none with code:=2 })
    else if 100 < o.body.size then (st,{ none with code:=3 })
    else if 200≤st.count then (st,{ none with code:=4 })
    else (addSt st o.key o.body false,{ none with ver:=st.last+1 })
  else if o.kind=2 then
    if isKeyB o.key=false then (st,{ none with code:=2 })
    else match (st.f o.key.data.toList).getLast? with
      | .none=>(st,{ none with code:=5 })
      | some v=>if v.mark then (st,{ none with code:=5 }) else (st,⟨0,v.num,v.body⟩)
  else if o.kind=3 then
    if isKeyB o.key=false then (st,{ none with code:=2 })
    else match placeOf (st.f o.key.data.toList) o.n with
      | .none=>(st,{ none with code:=5 })
      | some r=>match (st.f o.key.data.toList)[r]? with
        | .none=>(st,{ none with code:=5 })
        | some v=>if v.mark then (st,{ none with code:=6 }) else (st,⟨0,0,v.body⟩)
  else if o.kind=4 then
    if isKeyB o.key=false then (st,{ none with code:=2 })
    else if 200≤st.count then (st,{ none with code:=4 })
    else (addSt st o.key ⟨#[]⟩ true,{ none with ver:=st.last+1 })
  else if o.kind=5 then
    if isKeyB o.key=false then (st,{ none with code:=2 })
    else match placeOf (st.f o.key.data.toList) o.n with
      | .none=>(st,{ none with code:=5 })
      | some r=>(dropSt st o.key r,none)
  else (st,{ none with code:=1 })
structure Inv (st : St) (s : Nat) : Prop where
  last0 : 0≤st.last
  lastS : st.last≤s
  countL : -(s : Int)≤st.count
  countU : st.count≤s
  sorted : ∀ k i j,i < j→j < (st.f k).length→nums (st.f k) i < nums (st.f k) j
  bounds : ∀ k i,i < (st.f k).length→1≤nums (st.f k) i∧nums (st.f k) i≤st.last
theorem Inv.len_aux {st : St} {s : Nat} (h : Inv st s) (k : List UInt8) : ∀ i,i < (st.f k).length→(i : Int)+1≤nums (st.f k) i:=by
  intro i
  induction i with
  | zero=>intro hi; have:=(h.bounds k 0 hi).1; omega
  | succ i ih=>
    intro hi
    have h1:=ih (by omega)
    have h2:=h.sorted k i (i+1) (by omega) hi
    omega
theorem Inv.len {st : St} {s : Nat} (h : Inv st s) (k : List UInt8) : (st.f k).length≤s:=by
  by_cases h0 : (st.f k).length=0
  · omega
  · have h1:=h.len_aux k ((st.f k).length - 1) (by omega)
    have h2:=(h.bounds k ((st.f k).length - 1) (by omega)).2
    have:=h.lastS
    omega
theorem nums_append_left {h : List Ver} {v : Ver} {i : Nat} (hi : i < h.length) : nums (h++[v]) i=nums h i:=by
  simp [nums,List.getElem?_append_left hi]
theorem nums_append_last {h : List Ver} {v : Ver} : nums (h++[v]) h.length=v.num:=by simp [nums]
theorem Inv.mono {st : St} {s s' : Nat} (h : Inv st s) (hs : s≤s') : Inv st s':=
  ⟨h.last0,by have:=h.lastS; omega,by have:=h.countL; omega,by have:=h.countU; omega,h.sorted,h.bounds⟩
theorem Inv.add {st : St} {s : Nat} (h : Inv st s) (key body : ByteArray) (mark : Bool) : Inv (addSt st key body mark) (s+1):=by
  refine ⟨by have:=h.last0; simp [addSt]; omega,by have:=h.lastS; simp [addSt]; omega,by have:=h.countL; simp [addSt]; omega,by have:=h.countU; simp [addSt]; omega,?_,?_⟩
  · intro k i j hij hj
    by_cases hk : k=key.data.toList
    · subst hk
      simp only [addSt,upd,if_true] at hj ⊢
      rw [List.length_append,List.length_singleton] at hj
      by_cases hjl : j < (st.f key.data.toList).length
      · rw [nums_append_left hjl,nums_append_left (by omega)]; exact h.sorted _ i j hij hjl
      · have hje : j=(st.f key.data.toList).length:=by omega
        subst hje
        rw [nums_append_last,nums_append_left hij]
        have:=(h.bounds key.data.toList i hij).2
        simp only; omega
    · simp only [addSt,upd,if_neg hk] at hj ⊢
      exact h.sorted k i j hij hj
  · intro k i hi
    by_cases hk : k=key.data.toList
    · subst hk
      simp only [addSt,upd,if_true] at hi ⊢
      rw [List.length_append,List.length_singleton] at hi
      by_cases hil : i < (st.f key.data.toList).length
      · rw [nums_append_left hil]; have:=h.bounds _ i hil; omega
      · have hie : i=(st.f key.data.toList).length:=by omega
        subst hie
        rw [nums_append_last]; have:=h.last0; simp only; omega
    · simp only [addSt,upd,if_neg hk] at hi ⊢
      have:=h.bounds k i hi; omega
theorem nums_del {h : List Ver} {r i : Nat} (hr : r < h.length) : nums (h.take r++h.drop (r+1)) i=nums h (if i < r then i else i+1):=by
  unfold nums
  have hl : (h.take r).length=r:=by rw [List.length_take]; omega
  by_cases hi : i < r
  · rw [if_pos hi,List.getElem?_append_left (by omega),List.getElem?_take,if_pos hi]
  · rw [if_neg hi,List.getElem?_append_right (by omega),hl,List.getElem?_drop]
    congr 3; omega
theorem Inv.drop {st : St} {s : Nat} (h : Inv st s) (key : ByteArray) (r : Nat) (hr : r < (st.f key.data.toList).length) : Inv (dropSt st key r) (s+1):=by
  refine ⟨h.last0,by have:=h.lastS; simp [dropSt]; omega,by have:=h.countL; simp [dropSt]; omega,by have:=h.countU; simp [dropSt]; omega,?_,?_⟩
  · intro k i j hij hj
    by_cases hk : k=key.data.toList
    · subst hk
      simp only [dropSt,upd,if_true] at hj ⊢
      rw [List.length_append,List.length_take,List.length_drop] at hj
      rw [nums_del hr,nums_del hr]
      exact h.sorted _ _ _ (by split <;> split <;> omega) (by split <;> omega)
    · simp only [dropSt,upd,if_neg hk] at hj ⊢
      exact h.sorted k i j hij hj
  · intro k i hi
    by_cases hk : k=key.data.toList
    · subst hk
      simp only [dropSt,upd,if_true] at hi ⊢
      rw [List.length_append,List.length_take,List.length_drop] at hi
      rw [nums_del hr]
      exact h.bounds _ _ (by split <;> omega)
    · simp only [dropSt,upd,if_neg hk] at hi ⊢
      exact h.bounds k i hi
structure StoreAt (A : Nat→Prop) (w : World) (k0 : Nat) (st : St) : Prop where
  avoid : ∀ b,A b→b≠k0
  tree : ∃ p,w.cell? ⟨k0,0,none⟩=some (.pointer p)∧NodeAt A 41 w p st.f
  count : w.cell? ⟨k0,1,none⟩=some (.int .i64 st.count)
  last : w.cell? ⟨k0,2,none⟩=some (.int .i64 st.last)
  frozen : ∀ j,w.frozen? ⟨k0,j,none⟩=false
theorem grown_set_row {w w1 : World} {k0 : Nat} (h : w.grownBy w1 (some k0)) (o : Nat) (v : Value) : w.grownBy (w1.setCell ⟨k0,o,none⟩ v) (some k0):=
  ⟨h.os,h.tape,h.output,by have:=h.size; simp [World.setCell]; omega,fun k hk hr=>(Below.heap_setCell _ _ _ _ (fun e=>hr (by rw [e]))).trans (h.block k hk hr)⟩
theorem grown_set_new {w w1 : World} {r : Option Nat} (h : w.grownBy w1 r) {b : Nat} (hb : w.heap.size≤b) (o : Nat) (v : Value) : w.grownBy (w1.setCell ⟨b,o,none⟩ v) r:=
  ⟨h.os,h.tape,h.output,by have:=h.size; simp [World.setCell]; omega,fun k hk hr=>(Below.heap_setCell _ _ _ _ (by show k≠b; omega)).trans (h.block k hk hr)⟩
theorem StoreAt.lt {A : Nat→Prop} {w : World} {k0 : Nat} {st : St} (S : StoreAt A w k0 st) : k0 < w.heap.size:=World.block_lt_of_cell? w _ S.count
theorem keepRow {A : Nat→Prop} {w w' : World} {k0 : Nat} (hg : w.grownBy w' (some k0)) (ha : ∀ b,A b→b≠k0) : ∀ b,A b→b < w.heap.size→A b∧w'.heap[b]?=w.heap[b]?:=
  fun b h1 h2=>⟨h1,hg.block b h2 (by intro e; cases e; exact ha k0 h1 rfl)⟩
theorem StoreAt.on {A : Nat→Prop} {w w' : World} {k0 : Nat} {st : St} (S : StoreAt A w k0 st) (hb : Below w.heap.size w w') : StoreAt A w' k0 st:=by
  obtain ⟨p,c0,hN⟩:=S.tree
  exact ⟨S.avoid,⟨p,cellOn hb c0,hN.on hb⟩,cellOn hb S.count,cellOn hb S.last,fun j=>(hb.frozen (p:=⟨k0,j,none⟩) S.lt).trans (S.frozen j)⟩
theorem StoreAt.grow {A : Nat→Prop} {w : World} {k0 : Nat} {st : St} (S : StoreAt A w k0 st) : StoreAt (Grow A w) w k0 st:=by
  obtain ⟨p,c0,hN⟩:=S.tree
  refine ⟨?_,⟨p,c0,NodeAt.keep (fun b h1 h2=>⟨Or.inl ⟨h1,h2⟩,rfl⟩) _ _ _ hN⟩,S.count,S.last,S.frozen⟩
  rintro b (⟨h,_⟩ | h)
  · exact S.avoid b h
  · have:=S.lt; omega
def zeroV : Ver:=⟨0,⟨#[]⟩,false⟩
set_option maxHeartbeats 400000 in
theorem isKey_any (key : ByteArray) (w : World) (h : key.size≤maxLen) : Calls Tryq.prog 59 #[.string key] w fun e w'=>e=.returned (.bool (isKeyB key))∧w=w':=by
  unfold maxLen at h
  by_cases h1 : 1≤key.size
  · by_cases h2 : key.size≤40
    · have e : isKeyB key=true:=by simp [isKeyB,h1,h2]
      go_enter Tryq.func59,Tryz.ntmps59
      go_wp2
      go_ret
      exact ⟨by simp [e] <;> omega,rfl⟩
    · have e : isKeyB key=false:=by simp [isKeyB,h2]
      go_enter Tryq.func59,Tryz.ntmps59
      go_wp2
      go_ret
      exact ⟨by simp [e] <;> omega,rfl⟩
  · go_enter Tryq.func59,Tryz.ntmps59
    go_wp2
    go_ret
    exact ⟨by simp [isKeyB] <;> omega,rfl⟩
def fullB (st : St) : Bool:=decide (200≤st.count)
set_option maxHeartbeats 400000 in
theorem isFull_any (k0 : Nat) (st : St) (w : World) (hc : w.cell? ⟨k0,1,none⟩=some (.int .i64 st.count)) (hl : w.cell? ⟨k0,2,none⟩=some (.int .i64 st.last)) (h0 : 0≤st.last) (h1 : st.last≤2199023255552) : Calls Tryq.prog 60 #[.pointer (some ⟨k0,0,none⟩)] w fun e w'=>e=.returned (.bool (fullB st))∧w=w':=by
  have hne : (st.last == 9223372036854775807)=false:=by simp; omega
  by_cases hf : 200≤st.count
  · have e : fullB st=true:=by simp [fullB,hf]
    have hd : decide (200≤st.count)=true:=by simp [hf]
    rw [e]
    go_enter Tryq.func60,Tryz.ntmps60
    go_wp2
    go_ret
    exact ⟨rfl,rfl⟩
  · have e : fullB st=false:=by simp [fullB,hf]
    have hd : decide (200≤st.count)=false:=by simp [hf]
    rw [e]
    go_enter Tryq.func60,Tryz.ntmps60
    go_wp2
    go_ret
    exact ⟨rfl,rfl⟩
theorem isKey_size {key : ByteArray} (h : isKeyB key=true) : key.size < 41∧key.size≤1000:=by
  have:=of_decide_eq_true h; omega
theorem field_mark (nm : Int) (bd : ByteArray) (mk : Bool) (w : World) : (Instr.field 81 (.agg #[.int .i64 nm,.string bd,.bool mk]) 2).run Tryq.prog w=.ok (.bool mk) w:=by kernel_rfl
def getV (st : St) (key : ByteArray) : Ver×Int:=
  if isKeyB key=false then (zeroV,2)
  else match (st.f key.data.toList).getLast? with
    | none=>(zeroV,5)
    | some v=>if v.mark then (zeroV,5) else (v,0)
theorem cs {w : World} {a : Addr} {v u : Value} (h : w.cell? a=some u) : (w.setCell a v).cell? a=some v:=by first | exact World.cell?_setCell_same w a v h | exact World.cell?_setCell_same _ _ _ h
theorem co {w : World} {a b : Addr} {v u : Value} (hne : a≠b) (h : w.cell? b=some u) : (w.setCell a v).cell? b=some u:=(World.cell?_setCell_other w a b v hne).trans h
theorem fs {w : World} {a b : Addr} {v : Value} (h : w.frozen? b=false) : (w.setCell a v).frozen? b=false:=by simpa using h
structure Cells3 (w : World) (b : Nat) (x y z : Value) : Prop where
  c0 : w.cell? ⟨b,0,none⟩=some x
  c1 : w.cell? ⟨b,1,none⟩=some y
  c2 : w.cell? ⟨b,2,none⟩=some z
  fz : ∀ j,w.frozen? ⟨b,j,none⟩=false
theorem Cells3.on {w w' : World} {b : Nat} {x y z : Value} (h : Cells3 w b x y z) (hb : Below w.heap.size w w') : Cells3 w' b x y z:=
  ⟨cellOn hb h.c0,cellOn hb h.c1,cellOn hb h.c2,fun j=>(hb.frozen (p:=⟨b,j,none⟩) (show b < w.heap.size from World.block_lt_of_cell? w ⟨b,0,none⟩ h.c0)).trans (h.fz j)⟩
theorem Cells3.set0 {w : World} {b : Nat} {x y z : Value} (h : Cells3 w b x y z) (v : Value) : Cells3 (w.setCell ⟨b,0,none⟩ v) b v y z:=
  ⟨cs h.c0,co (by simp) h.c1,co (by simp) h.c2,fun j=>fs (h.fz j)⟩
theorem Cells3.set1 {w : World} {b : Nat} {x y z : Value} (h : Cells3 w b x y z) (v : Value) : Cells3 (w.setCell ⟨b,1,none⟩ v) b x v z:=
  ⟨co (by simp) h.c0,cs h.c1,co (by simp) h.c2,fun j=>fs (h.fz j)⟩
theorem Cells3.set2 {w : World} {b : Nat} {x y z : Value} (h : Cells3 w b x y z) (v : Value) : Cells3 (w.setCell ⟨b,2,none⟩ v) b x y v:=
  ⟨co (by simp) h.c0,co (by simp) h.c1,cs h.c2,fun j=>fs (h.fz j)⟩
theorem Cells3.far {w : World} {b : Nat} {x y z : Value} (h : Cells3 w b x y z) (b' o : Nat) (v : Value) (hne : b'≠b) : Cells3 (w.setCell ⟨b',o,none⟩ v) b x y z:=
  ⟨co (fun e=>hne (congrArg Addr.block e)) h.c0,co (fun e=>hne (congrArg Addr.block e)) h.c1,co (fun e=>hne (congrArg Addr.block e)) h.c2,fun j=>fs (h.fz j)⟩
theorem cells3_new (w : World) (x y z : Value) (T : TypeId) : Cells3 (w.alloc (.cells #[x,y,z] T)) w.heap.size x y z:=
  ⟨by rw [World.cell?_alloc_at (w:=w) _ _ w.heap.size 0 rfl]; rfl,by rw [World.cell?_alloc_at (w:=w) _ _ w.heap.size 1 rfl]; rfl,by rw [World.cell?_alloc_at (w:=w) _ _ w.heap.size 2 rfl]; rfl,fun j=>World.frozen?_alloc_at (w:=w) _ _ w.heap.size j rfl⟩
theorem StoreAt.cells {A : Nat→Prop} {w : World} {k0 : Nat} {st : St} (S : StoreAt A w k0 st) : ∃ p,Cells3 w k0 (.pointer p) (.int .i64 st.count) (.int .i64 st.last)∧NodeAt A 41 w p st.f:=by
  obtain ⟨p,c0,hN⟩:=S.tree
  exact ⟨p,⟨c0,S.count,S.last,S.frozen⟩,hN⟩
theorem storeAt_of {A : Nat→Prop} {w : World} {k0 : Nat} {st : St} {p : Option Addr} (h : Cells3 w k0 (.pointer p) (.int .i64 st.count) (.int .i64 st.last)) (hN : NodeAt A 41 w p st.f) (ha : ∀ b,A b→b≠k0) : StoreAt A w k0 st:=
  ⟨ha,⟨p,h.c0,hN⟩,h.c1,h.c2,h.fz⟩
structure GrownT (w w' : World) (k0 : Nat) : Prop where
  g : w.grownBy w' (some k0)
  lt : k0 < w.heap.size
  t : ∀ j,3≤j→w'.cell? ⟨k0,j,none⟩=w.cell? ⟨k0,j,none⟩
theorem gt_of_below {w w' : World} {k0 : Nat} (hk : k0 < w.heap.size) (hb : Below w.heap.size w w') : GrownT w w' k0:=
  ⟨below_grown hb _,hk,fun j _=>World.cell?_of_block (w:=w) (w':=w') (a:=⟨k0,j,none⟩) (hb.block k0 hk)⟩
theorem gt_refl {w : World} {k0 : Nat} (hk : k0 < w.heap.size) : GrownT w w k0:=gt_of_below hk (Below.refl _ _)
theorem gt_trans {a b c : World} {k0 : Nat} (h : GrownT a b k0) (h' : GrownT b c k0) : GrownT a c k0:=⟨grown_trans h.g h'.g,h.lt,fun j hj=>(h'.t j hj).trans (h.t j hj)⟩
theorem gt_below {w w1 w2 : World} {k0 : Nat} (h : GrownT w w1 k0) (hb : Below w1.heap.size w1 w2) : GrownT w w2 k0:=gt_trans h (gt_of_below (by have:=h.g.size; have:=h.lt; omega) hb)
theorem gt_alloc {w w1 : World} {k0 : Nat} (h : GrownT w w1 k0) (o : Obj) : GrownT w (w1.alloc o) k0:=gt_below h ((Below.refl _ _).alloc (Nat.le_refl _) _)
theorem gt_set {w w1 : World} {k0 : Nat} (h : GrownT w w1 k0) (o : Nat) (v : Value) (ho : o < 3:=by decide) : GrownT w (w1.setCell ⟨k0,o,none⟩ v) k0:=
  ⟨grown_set_row h.g _ _,h.lt,fun j hj=>(World.cell?_setCell_other w1 ⟨k0,o,none⟩ ⟨k0,j,none⟩ v (fun e=>by have:=congrArg Addr.off e; simp at this; omega)).trans (h.t j hj)⟩
theorem gt_new {w w1 : World} {k0 : Nat} (h : GrownT w w1 k0) {b : Nat} (hb : w.heap.size≤b) (o : Nat) (v : Value) : GrownT w (w1.setCell ⟨b,o,none⟩ v) k0:=
  ⟨grown_set_new h.g hb _ _,h.lt,fun j hj=>(World.cell?_setCell_other w1 ⟨b,o,none⟩ ⟨k0,j,none⟩ v (fun e=>by have h1:=congrArg Addr.block e; have h2:=h.lt; simp at h1; omega)).trans (h.t j hj)⟩
theorem root_lift {A : Nat→Prop} {w w3 w4 : World} {k0 : Nat} {p : Option Addr} {F : List UInt8→List Ver} (hw3 : w.heap.size≤w3.heap.size) (ha : ∀ b,A b→b≠k0) (hk : k0 < w.heap.size) (h : NodeAt (Grow (fun b=>(A b∧b < w.heap.size)∨w.heap.size≤b) w3) 41 w4 p F) (o : Nat) (v : Value) :
    NodeAt (Grow A w) 41 (w4.setCell ⟨k0,o,none⟩ v) p F:=by
  refine NodeAt.keep (fun b hb _=>?_) 41 p F h
  rcases hb with ⟨⟨hA,hlt⟩ | hge,_⟩ | hge
  · exact ⟨Or.inl ⟨hA,hlt⟩,Below.heap_setCell _ _ _ _ (ha b hA)⟩
  · exact ⟨Or.inr hge,Below.heap_setCell _ _ _ _ (by show b≠k0; omega)⟩
  · exact ⟨Or.inr (by omega),Below.heap_setCell _ _ _ _ (by show b≠k0; omega)⟩
theorem grow_avoid {A : Nat→Prop} {w : World} {k0 : Nat} (ha : ∀ b,A b→b≠k0) (hk : k0 < w.heap.size) : ∀ b,Grow A w b→b≠k0:=by
  rintro b (⟨h,_⟩ | h)
  · exact ha b h
  · omega
set_option maxHeartbeats 2000000 in
set_option maxRecDepth 100000 in
theorem sadd_any (A : Nat→Prop) (k0 : Nat) (st : St) (s : Nat) (key : ByteArray) (nm0 : Int) (bd : ByteArray) (mk : Bool) (w : World) (hk : key.size < 41) (S : StoreAt A w k0 st) (hI : Inv st s) (hs : s < 2199023255552) :
    Calls Tryq.prog 61 #[.pointer (some ⟨k0,0,none⟩),.string key,.agg #[.int .i64 nm0,.string bd,.bool mk]] w fun e w'=>e=.returned (.int .i64 (st.last+1))∧StoreAt (Grow A w) w' k0 (addSt st key bd mk)∧GrownT w w' k0:=by
  obtain ⟨p,C,hN⟩:=S.cells
  have c0:=C.c0
  have c1:=C.c1
  have c2:=C.c2
  have f0:=C.fz 0
  have f1:=C.fz 1
  have f2:=C.fz 2
  have hk0:=S.lt
  have l0:=hI.last0
  have l1:=hI.lastS
  have l2:=hI.countL
  have l3:=hI.countU
  have hle:=hI.len key.data.toList
  have hne : ¬w.heap.size=k0:=by omega
  have hne' : ¬k0=w.heap.size:=by omega
  obtain ⟨W1,hW1⟩ : ∃ W1,W1=((w.setCell ⟨k0,2,none⟩ (.int .i64 (st.last+1))).setCell ⟨k0,1,none⟩ (.int .i64 (st.count+1))).alloc (.cells #[.int .i64 (st.last+1),.string bd,.bool mk] 81):=⟨_,rfl⟩
  have hg0 : GrownT w ((w.setCell ⟨k0,2,none⟩ (.int .i64 (st.last+1))).setCell ⟨k0,1,none⟩ (.int .i64 (st.count+1))) k0:=gt_set (gt_set (gt_refl hk0) _ _) _ _
  have hz0 : ((w.setCell ⟨k0,2,none⟩ (.int .i64 (st.last+1))).setCell ⟨k0,1,none⟩ (.int .i64 (st.count+1))).heap.size=w.heap.size:=by simp [World.setCell]
  have hg1 : GrownT w W1 k0:=by rw [hW1]; exact gt_alloc hg0 _
  have C1 : Cells3 W1 k0 (.pointer p) (.int .i64 (st.count+1)) (.int .i64 (st.last+1)):=by
    rw [hW1]; exact ((C.set2 _).set1 _).on ((Below.refl _ _).alloc (Nat.le_refl _) _)
  have X1 : Cells3 W1 w.heap.size (.int .i64 (st.last+1)) (.string bd) (.bool mk):=by
    rw [hW1,←hz0]; exact cells3_new _ _ _ _ _
  have hN1 : NodeAt A 41 W1 p st.f:=NodeAt.keep (keepRow hg1.g S.avoid) 41 p st.f hN
  have HG:=tget_any A 41 p st.f key W1 hk (by simp only [maxLen]; omega) hN1
  have HS : Hid (StoreAt A w k0 st∧NodeAt A 41 w p st.f∧GrownT w W1 k0∧Cells3 W1 k0 (.pointer p) (.int .i64 (st.count+1)) (.int .i64 (st.last+1))∧Cells3 W1 w.heap.size (.int .i64 (st.last+1)) (.string bd) (.bool mk)):=⟨S,hN,hg1,C1,X1⟩
  have HW1 : Hid (W1=((w.setCell ⟨k0,2,none⟩ (.int .i64 (st.last+1))).setCell ⟨k0,1,none⟩ (.int .i64 (st.count+1))).alloc (.cells #[.int .i64 (st.last+1),.string bd,.bool mk] 81)):=hW1
  clear hN S C hg0 hz0 hg1 C1 X1 hN1 hW1
  go_enter Tryq.func61,Tryz.ntmps61
  go_wp2_with fail
  rw [←HW1.out]
  refine HG.mono ?_
  rintro e w2 ⟨hv,rfl,hh,hb2⟩
  obtain ⟨ha,hc,rfl,-⟩:=id hh
  obtain ⟨S,hN,hg1,C1,X1⟩:=HS.out
  have C2:=C1.on hb2
  have X2:=X1.on hb2
  have hg2 : GrownT w w2 k0:=gt_below hg1 hb2
  have a0:=C2.c0
  have q0:=X2.c0
  have q1:=X2.c1
  have q2:=X2.c2
  have HW : Hid (Calls Tryq.prog 89 #[.slice ha (st.f key.data.toList).length hc,.agg #[.int .i64 (st.last+1),.string bd,.bool mk]] w2.drew fun e w'=>∃ va vl vc,e=.returned (.slice va vl vc)∧HistAt (fun b=>w2.heap.size≤b) w' (.slice va vl vc) (st.f key.data.toList++[⟨st.last+1,bd,mk⟩])∧Below w2.heap.size w2 w'):=by
    refine (hwith_any A _ _ (st.last+1) bd mk w2.drew (RowAt.keep hh (fun b h1 h2=>⟨h1,rfl⟩)) (by omega)).mono ?_
    rintro e w' ⟨va,vl,vc,h1,h2,h3⟩
    exact ⟨va,vl,vc,h1,h2,(Below.refl _ w2).drew.trans h3⟩
  have HT : Hid (∀ (w3 : World) (va : Option Addr) (vl vc : Nat),Below w2.heap.size w2 w3→HistAt (fun b=>w2.heap.size≤b) w3 (.slice va vl vc) (st.f key.data.toList++[⟨st.last+1,bd,mk⟩]) →
      Calls Tryq.prog 67 #[.agg #[.pointer p],.string key,.slice va vl vc] w3 fun e w'=>∃ q,e=.returned (.agg #[.pointer q])∧Below w3.heap.size w3 w'∧NodeAt (Grow (fun b=>(A b∧b < w.heap.size)∨w.heap.size≤b) w3) 41 w' q (upd st.f key.data.toList (st.f key.data.toList++[⟨st.last+1,bd,mk⟩]))):=fun w3 va vl vc hb3 hh3=>by
    refine twith_any _ 41 p st.f key _ _ w3 (NodeAt.keep (fun b h1 h2=>⟨Or.inl ⟨h1,h2⟩,(gt_below hg2 hb3).g.block b h2 (by intro e; cases e; exact S.avoid k0 h1 rfl)⟩) 41 p st.f hN) hk (by omega) (RowAt.keep hh3 (fun b h1 h2=>⟨Or.inr ?_,rfl⟩)) (by simp)
    have:=hg2.g.size
    omega
  have HC : Hid (Cells3 w2 k0 (.pointer p) (.int .i64 (st.count+1)) (.int .i64 (st.last+1))∧Cells3 w2 w.heap.size (.int .i64 (st.last+1)) (.string bd) (.bool mk)∧GrownT w w2 k0):=⟨C2,X2,hg2⟩
  clear S hN hg1 C1 X1 C2 X2 hg2 hh hb2 HG
  go_wp2_with fail
  go_region_with (first
    | (go_at_call 89; refine HW.out.mono ?_; rintro e w3 ⟨va,vl,vc,rfl,hh3,hb3⟩; have b0:=cellOn hb3 a0)
    | (go_at_call 67; refine (HT.out _ va vl vc hb3 hh3).mono ?_; rintro e w4 ⟨q,rfl,hb4,hN4⟩; have d0:=cellOn hb4 b0; have D4:=(HC.out.2.1.on hb3).on hb4; have E4:=(HC.out.1.on hb3).on hb4; have r0:=D4.c0; have r1:=E4.c0; have r2:=E4.fz 0))
  all_goals
    go_wp2
    go_ret
    refine ⟨rfl,?_,?_⟩
    · refine storeAt_of (p:=q) ?_ ?_ (grow_avoid HS.out.1.avoid hk0)
      · exact E4.set0 _
      · exact root_lift (by have:=HC.out.2.2.g.size; have:=hb3.size; omega) HS.out.1.avoid hk0 hN4 _ _
    · exact gt_set (gt_below (gt_below HC.out.2.2 hb3) hb4) _ _
end Go.Proofs.YtnapepbdohidgaaGreatDoorQ
