/- Part of a proof. -/
import Derived.Test.YtnapepbdohidgaaGreatDoorQM18
import Derived.Test.YtnapepbdohidgaaGreatDoorQM24
import Derived.Test.YtnapepbdohidgaaGreatDoorQM20
import Derived.Test.YtnapepbdohidgaaGreatDoorQM22
import Derived.Test.YtnapepbdohidgaaGreatDoorQM21
import Derived.Test.YtnapepbdohidgaaGreatDoorQM19
import Derived.RangeFuncBox
namespace Go.Proofs.YtnapepbdohidgaaGreatDoorQ
open Go
open Go.Conc Go.ConcX Go.ConcX.Gen Go.RowKit
structure ItD where
  kind : Int
  text : ByteArray
  ver : Int
def itVal (i : ItD) : Value:=.agg #[.int .i64 i.kind,.string i.text,.int .i64 i.ver]
def itCells (l : List ItD) : List Value:=l.flatMap fun i=>[.int .i64 i.kind,.string i.text,.int .i64 i.ver]
theorem itCells_snoc (l : List ItD) (i : ItD) : itCells (l++[i])=itCells l++[.int .i64 i.kind,.string i.text,.int .i64 i.ver]:=by simp [itCells]
theorem Tryq.infoItem : (Tryq.prog.info? 41).map (fun i=>(i.zero,i.size,i.bytes))=some (some (.agg #[.int .i64 0,.string ⟨#[]⟩,.int .i64 0]),3,32):=by kernel_rfl
def pgTmpsR (n : Nat) (l : Lst) (pn : Int) (c : Nat) (cnt : Int) (u : Nat→Value) : Array Value:=
  #[lV l,.int .i64 pn,ptr n,undef,ptr (n+1),ptr (n+2),.int .i64 (IntKind.i64.wrap (pn * l.size)),.int .i64 cnt,u 8,.int .i64 pn,.pointer (some ⟨n,6,none⟩),.int .i64 l.size,.int .i64 (IntKind.i64.wrap (pn * l.size)),.pointer (some ⟨n,2,none⟩),qV l.vs l.p l.d l.af,.pointer (some ⟨n,1,none⟩),sV l.root,.chan (some c),u 18,u 19,u 20,u 21,u 22,u 23,u 24,u 25,u 26,u 27,u 28,u 29,u 30,u 31,u 32,u 33,u 34,u 35,u 36,u 37,u 38,u 39,undef,undef,undef,undef,undef,undef,undef,undef,undef]
theorem stepG_comm_any {P : Program} {b : Frame} {a : Act} {k : List Item} {cs : List Frame} {w w' : World} {main : Bool} {ops : Array Oper} {i : Nat} {rest : List Nat} {o : Oper} {cases : Array CommCase} {blocking : Bool} {shape : CommShape} (ho : ops[i]?=some o) (hw : Region.wanted o (yielded ops a.tmps)=true)
    (hr : (execOp a.eval o).run P w=.ok (.comm cases blocking shape) w') :
    ∃ es,stepG P main (G (b.at a (.inRegion ops (i :: rest) :: k)) cs) w=.comm (G (b.at a (.inRegion ops (i :: rest) :: k)) cs) cases blocking shape w' es:=by
  rw [stepG_oper ho hw]
  simp only [stepG.apply,G,Frame.at,GStep.after,if_true]
  have h1 : ((execOp a.eval o).runT P w #[]).1=.ok (.comm cases blocking shape) w':=by rw [Sem.runT_eq]; exact hr
  generalize (execOp a.eval o).runT P w #[]=x at h1
  obtain ⟨x1,x2⟩:=x
  subst h1
  exact ⟨_,rfl⟩
theorem wp_recv {a : Act} {w : World} {c k s q : Nat} {v : Value} {rest : List Value} {Q : Exit→Act→World→Prop} (h17 : a.eval (.tmp 17)=.chan (some c)) (hsz : a.tmps.size=49) (hrow : w.heap[c]?=some (.chan k (v :: rest).toArray true s q false))
    (h : Q .normal ((a.put (some 18) (.tuple #[v,.bool true])).put (some 19) (.bool true)) (w.setChan c k rest.toArray true s (q+1) false)) : (Code.region 5 rcvOps false).wp Tryq.prog Q a w:=by
  intro b kk cs
  refine ⟨.normal,_,_,h,?_⟩
  refine Steps.head step_region ?_
  have hr : List.range rcvOps.size=[0,1]:=rfl
  rw [hr]
  obtain ⟨es,hcomm⟩ : ∃ es,stepG Tryq.prog true (G (b.at a (.inRegion rcvOps [0,1] :: kk)) cs) w=.comm (G (b.at a (.inRegion rcvOps [0,1] :: kk)) cs) #[rcase c (.agg #[.int .i64 0,.string ⟨#[]⟩,.int .i64 0])] true (.recv true) w es:=by
    refine stepG_comm_any (o := { dst := some 18, op := .recv 165 (.tmp 17) true, type := 0, pos := "listing.go:108", after := #[], guard := none }) rfl rfl ?_
    have e : execOp a.eval { dst := some 18, op := .recv 165 (.tmp 17) true, type := 0, pos := "listing.go:108", after := #[], guard := none } = (do
      let .chan _ elem ← underlying 165 | stuck "receive: channel type expected"
      pure (.comm #[{ chan:=a.eval (.tmp 17),send:=none,zero:=←zeroValue elem }] true (.recv true))):=rfl
    rw [e,h17]
    simp [go_sem,rcase]
  have st1:=step_lone_recv_buf true hcomm hrow (by simp)
  have e1 : (v :: rest).toArray.extract 1 (v :: rest).toArray.size=rest.toArray:=by simp
  have e2 : (v :: rest).toArray.getD 0 undef=v:=rfl
  rw [e1,e2,Frame.finish_at] at st1
  refine Steps.head st1 ?_
  have hput : (a.put ((rcvOps[0]?).bind (·.dst)) (got true v true))=a.put (some 18) (.tuple #[v,.bool true]):=rfl
  rw [hput]
  have h18 : (a.put (some 18) (.tuple #[v,.bool true])).eval (.tmp 18)=.tuple #[v,.bool true]:=by
    simp [Act.put,Act.eval,hsz]
  have st2 := op_step (P := Tryq.prog) (ops := rcvOps) (a := a.put (some 18) (.tuple #[v, .bool true])) (i := 1) (rest := []) (b := b) (k := kk) (cs := cs) (w := w.setChan c k rest.toArray true s (q + 1) false) (w' := w.setChan c k rest.toArray true s (q + 1) false) (v := .bool true) (o := { dst := some 19, op := .extract (.tmp 18) 1, type := 4, pos := "listing.go:108", after := #[{ on := 0, ground := .data }], guard := none }) rfl rfl (by
    have e : execOp (a.put (some 18) (.tuple #[v, .bool true])).eval { dst := some 19, op := .extract (.tmp 18) 1, type := 4, pos := "listing.go:108", after := #[{ on := 0, ground := .data }], guard := none } = (do let v ← Instr.extract ((a.put (some 18) (.tuple #[v, .bool true])).eval (.tmp 18)) 1; pure (.value v)) := rfl
    rw [e,h18]
    rfl)
  exact Steps.head st2 (.one step_region_end)
structure PgI (w0 w : World) (n c : Nat) (items : List ItD) (rest : List Value) : Prop where
  os : w.os=w0.os
  size : w0.heap.size≤w.heap.size
  block : ∀ b,b < w0.heap.size→b≠c→b≠n+2→w.heap[b]?=w0.heap[b]?
  ch : ∃ k s q,w.heap[c]?=some (.chan k rest.toArray true s q false)
  row : ∃ sv,w.cell? ⟨n+2,0,none⟩=some sv∧w.ownsRow w0.heap.size 41 3 sv items.length (itCells items)
  tok : w.cell? ⟨n+2,1,none⟩=some (.string ⟨#[]⟩)
  fz : ∀ j,w.frozen? ⟨n+2,j,none⟩=false
def inPage (l : Lst) (pn : Int) (k : Int) : Bool:=decide (IntKind.i64.wrap (IntKind.i64.wrap (pn * l.size) - l.size) < k) && decide (k≤IntKind.i64.wrap (pn * l.size))
theorem PgI.setChan {w0 w : World} {n c k s q : Nat} {items : List ItD} {v : Value} {rest : List Value} (I : PgI w0 w n c items (v :: rest)) (hc : c < w0.heap.size) (hn : n+2 < c) : PgI w0 (w.setChan c k rest.toArray true s q false) n c items rest:=by
  have hcw : c < w.heap.size:=Nat.lt_of_lt_of_le hc I.size
  have hoth : ∀ b,b≠c→(w.setChan c k rest.toArray true s q false).heap[b]?=w.heap[b]?:=fun b hb=>setChan_other _ _ _ _ _ _ _ _ hb
  have hcell : ∀ b j,b≠c→(w.setChan c k rest.toArray true s q false).cell? ⟨b,j,none⟩=w.cell? ⟨b,j,none⟩:=fun b j hb=>World.cell?_of_block (a:=⟨b,j,none⟩) (hoth b hb)
  refine ⟨I.os,by rw [size_setChan]; exact I.size,fun b h1 h2 h3=>(hoth b h2).trans (I.block b h1 h2 h3),⟨_,_,_,heap_setChan _ _ _ _ _ _ _ _ hcw⟩,?_,(hcell _ _ (by omega)).trans I.tok,fun j=>(World.frozen?_of_block (a:=⟨n+2,j,none⟩) (hoth _ (by simp; omega))).trans (I.fz j)⟩
  obtain ⟨sv,h1,h2⟩:=I.row
  refine ⟨sv,(hcell _ _ (by omega)).trans h1,h2.1,?_⟩
  rcases h2.2 with h | ⟨g,cap,cur,rfl,hb,hg,rest⟩
  · exact .inl h
  · exact .inr ⟨g,cap,cur,rfl,hb,(hoth g (by omega)).trans hg,rest⟩
theorem PgI.alloc {w0 w : World} {n c : Nat} {items : List ItD} {rest : List Value} (I : PgI w0 w n c items rest) (hc : c < w0.heap.size) (hn : n+2 < c) (o : Obj) : PgI w0 (w.alloc o) n c items rest:=by
  have hoth : ∀ b,b < w0.heap.size→(w.alloc o).heap[b]?=w.heap[b]?:=fun b hb=>Below.heap_alloc w o b (Nat.lt_of_lt_of_le hb I.size)
  obtain ⟨k,s,q,h⟩:=I.ch
  obtain ⟨sv,h1,h2⟩:=I.row
  refine ⟨I.os,Nat.le_trans I.size (by simp),fun b h1 h2 h3=>(hoth b h1).trans (I.block b h1 h2 h3),⟨k,s,q,(hoth c hc).trans h⟩,⟨sv,(World.cell?_of_block (a:=⟨n+2,0,none⟩) (hoth _ (by simp; omega))).trans h1,h2.alloc o⟩,(World.cell?_of_block (a:=⟨n+2,1,none⟩) (hoth _ (by simp; omega))).trans I.tok,fun j=>(World.frozen?_of_block (a:=⟨n+2,j,none⟩) (hoth _ (by simp; omega))).trans (I.fz j)⟩
theorem PgI.app {w0 w w3 : World} {n c : Nat} {items : List ItD} {rest : List Value} {i : ItD} {sv v' : Value} (I : PgI w0 w n c items rest) (hc : c < w0.heap.size) (hn : n+2 < c) (hg : w.grownBy w3 sv.ownBlock) (hb : ∀ k,sv.ownBlock=some k→w0.heap.size≤k) (ho : w3.ownsRow w0.heap.size 41 3 v' (items.length+1) (itCells items++[.int .i64 i.kind,.string i.text,.int .i64 i.ver])) : PgI w0 (w3.setCell ⟨n+2,0,none⟩ v') n c (items++[i]) rest:=by
  have hoth : ∀ b,b < w0.heap.size→w3.heap[b]?=w.heap[b]?:=fun b h=>hg.block b (Nat.lt_of_lt_of_le h I.size) (fun e=>by have:=hb b e.symm; omega)
  have hset : ∀ b,b≠n+2→(w3.setCell ⟨n+2,0,none⟩ v').heap[b]?=w3.heap[b]?:=fun b h=>Below.heap_setCell _ _ _ _ h
  obtain ⟨k,s,q,h⟩:=I.ch
  obtain ⟨sv0,h1,h2⟩:=I.row
  have hc0 : w3.cell? ⟨n+2,0,none⟩=some sv0:=(World.cell?_of_block (a:=⟨n+2,0,none⟩) (hoth _ (by simp; omega))).trans h1
  have hsz : (w3.setCell ⟨n+2,0,none⟩ v').heap.size=w3.heap.size:=by simp
  refine ⟨((Below.refl 0 w3).setCell (p:=⟨n+2,0,none⟩) (Nat.zero_le _) v').os.trans (hg.os.trans I.os),by rw [hsz]; exact Nat.le_trans I.size hg.size,fun b h1 h2 h3=>(hset b h3).trans ((hoth b h1).trans (I.block b h1 h2 h3)),⟨k,s,q,(hset c (by omega)).trans ((hoth c hc).trans h)⟩,⟨v',cs hc0,?_⟩,co (by simp) ((World.cell?_of_block (a:=⟨n+2,1,none⟩) (hoth _ (by simp; omega))).trans I.tok),fun j=>fs ((World.frozen?_of_block (a:=⟨n+2,j,none⟩) (hoth _ (by simp; omega))).trans (I.fz j))⟩
  rw [itCells_snoc,List.length_append,List.length_singleton]
  refine ⟨ho.1,?_⟩
  rcases ho.2 with h | ⟨g,cap,cur,rfl,hb,hg,rest⟩
  · exact .inl h
  · exact .inr ⟨g,cap,cur,rfl,hb,(hset g (by omega)).trans hg,rest⟩
theorem cells3_lie (w : World) (x0 x1 x2 : Value) (T : TypeId) : ∀ j u,[x0,x1,x2][j]?=some u→(w.alloc (.cells #[x0,x1,x2] T)).cell? ((⟨w.heap.size,0,none⟩ : Addr).add j)=some u:=by
  intro j u hj
  rw [Addr.add_lit,World.cell?_alloc_at (w:=w) _ _ w.heap.size _ rfl]
  simpa using hj
theorem wrapL (n : Int) : IntKind.i64.wrap n=wrap64 n:=by unfold wrap64; exact IntKind.wrap_i64 n
def RndPost (l : Lst) (pn : Int) (n c cnt : Nat) (i : ItD) (rest : List Value) (items : List ItD) (w0 : World) (e : Exit) (a : Act) (w' : World) : Prop:=
  e=.normal∧a=⟨pgTmpsR n l pn c ((cnt : Int)+1) (fun i=>a.tmps.getD i undef),[]⟩∧PgI w0 w' n c (if inPage l pn ((cnt : Int)+1) then items++[i] else items) rest
set_option maxHeartbeats 4000000 in
set_option maxRecDepth 100000 in
theorem rcv_round (l : Lst) (pn : Int) (n c : Nat) (cnt : Nat) (i : ItD) (rest : List Value) (items : List ItD) (u : Nat→Value) (w0 w : World) (hn : n+2 < c) (hc : c < w0.heap.size) (hsize : w0.cell? ⟨n,6,none⟩=some (.int .i64 l.size)) (I : PgI w0 w n c items (itVal i :: rest)) (hlen : items.length≤1000) (hcnt : cnt≤1000) :
    rcvBody.wp Tryq.prog (RndPost l pn n c cnt i rest items w0) ⟨pgTmpsR n l pn c cnt u,[]⟩ w:=by
  obtain ⟨kc,sc,qc,hrow⟩:=I.ch
  show (Code.seq (.region 5 rcvOps false) (cSnd rcvBody)).wp Tryq.prog _ _ _
  refine wp_seq (wp_recv (c:=c) rfl rfl hrow ?_)
  have I1:=I.setChan (k:=kc) (s:=sc) (q:=qc+1) hc hn
  generalize w.setChan c kc rest.toArray true sc (qc+1) false=w1 at I1 ⊢
  clear hrow I
  have hI1 : Hid (PgI w0 w1 n c items rest):=I1
  obtain ⟨sv,hsv,hown⟩:=I1.row
  have hfz:=I1.fz 0
  have hsz1 : w1.cell? ⟨n,6,none⟩=some (.int .i64 l.size):=(World.cell?_of_block (a:=⟨n,6,none⟩) (I1.block n (by omega) (by omega) (by omega))).trans hsize
  clear I1
  obtain ⟨num,root,vs,p,d,af,size,left⟩:=l
  obtain ⟨kind,text,ver⟩:=i
  simp only at hsz1
  obtain ⟨i0,hi,hz0,hz1,hz2⟩:=info_parts Tryq.infoItem
  obtain ⟨so,sn,sc,rfl⟩ : ∃ so sn sc,sv=.slice so sn sc:=by
    rcases hown.2 with ⟨rfl,-⟩ | ⟨g,cap,cur,rfl,-⟩
    · exact ⟨_,_,_,rfl⟩
    · exact ⟨_,_,_,rfl⟩
  have hbk : Hid (∀ k,(Value.slice so sn sc).ownBlock=some k→w0.heap.size≤k):=fun k h=>(hown.lt k h).1
  have hnl : n < w1.heap.size:=Nat.lt_of_lt_of_le (by omega) hI1.out.size
  have hnl2 : n+2 < w1.heap.size:=Nat.lt_of_lt_of_le (by omega) hI1.out.size
  obtain ⟨O1,hO1⟩ : ∃ O1,O1=Obj.cells #[.int .i64 kind,.string text,.int .i64 ver] 41:=⟨_,rfl⟩
  have HO1 : Hid (O1=Obj.cells #[.int .i64 kind,.string text,.int .i64 ver] 41):=hO1
  have hI3 : Hid (PgI w0 (w1.alloc O1) n c items rest):=hI1.out.alloc hc hn _
  have hI4 : Hid (PgI w0 ((w1.alloc O1).alloc O1) n c items rest):=hI3.out.alloc hc hn _
  have kA : (w1.alloc O1).cell? ⟨n,6,none⟩=some (.int .i64 size):=cellOn ((Below.refl _ _).alloc (Nat.le_refl _) _) hsz1
  have kB : (w1.alloc O1).cell? ⟨n+2,0,none⟩=some (.slice so sn sc):=cellOn ((Below.refl _ _).alloc (Nat.le_refl _) _) hsv
  have HOW : Hid (((w1.alloc O1).alloc O1).ownsRow w0.heap.size 41 3 (.slice so sn sc) items.length (itCells items)):=(hown.alloc _).alloc _
  clear hown
  rw [hO1] at kA kB
  show Code.wp Tryq.prog (cSnd rcvBody) _ _ _
  unfold pgTmpsR qV sV ptr lV lCells itVal
  simp only [Act.put]
  dsimp only [rcvBody,cIn,bodyOf,pgCall,Tryz.f69,cFst,cSnd,cOps,Option.getD]
  go_wp2_with (at_builtin; rw [←HO1.out]; refine wpList_append_own _ rfl _ _ 34 rfl w0.heap.size 41 i0 _ 3 32 Tryq.underlying34 hi hz0 hz1 hz2 rfl (by decide) _ _ _ rfl HOW.out ⟨(w1.alloc O1).heap.size,0,none⟩ 1 1 [.int .i64 kind,.string text,.int .i64 ver] ?qa rfl ?qb ?qc ?qd ?qe ?qf ?_)
  case qc=>simp [Value.oneCell']
  case qd=>simp only [maxLen]; omega
  case qe=>omega
  case qf=>have:=hI1.out.size; omega
  · intro v' w3 ho hg _
    rw [←HO1.out] at hg
    obtain ⟨g',cap',rfl⟩:=ownsRow_succ ho
    have hcel : w3.cell? ⟨n+2,0,none⟩=some (.slice so sn sc):=by
      refine hg.cell (cellOn ((Below.refl _ _).alloc (Nat.le_refl _) _) (by rw [HO1.out]; exact kB)) (fun e=>?_)
      have:=hbk.out _ e.symm
      simp at this; omega
    have hfr : w3.frozen? ⟨n+2,0,none⟩=false:=by
      rw [grown_frozen hg ⟨n+2,0,none⟩ (by simp; omega) (fun e=>by have:=hbk.out _ e.symm; simp at this; omega)]
      exact hI4.out.fz 0
    have HPG : Hid (PgI w0 (w3.setCell ⟨n+2,0,none⟩ (.slice (some ⟨g',0,none⟩) (items.length+1) cap')) n c (items++[⟨kind,text,ver⟩]) rest):=hI4.out.app hc hn hg hbk.out ho
    clear ho hg hfz
    go_wp2_with fail
    refine ⟨rfl,by simp only [pgTmpsR,wrapL]; rfl,?_⟩
    rw [if_pos (by simp only [inPage,wrapL,Bool.and_eq_true,decide_eq_true_eq]; exact ⟨by assumption,by assumption⟩)]
    exact HPG.out
  · refine ⟨rfl,by simp only [pgTmpsR,wrapL]; rfl,?_⟩
    rw [if_neg (by simp only [inPage,wrapL,Bool.and_eq_true,decide_eq_true_eq]; rintro ⟨h1,h2⟩; omega)]
    rw [←HO1.out]
    exact hI3.out
  · refine ⟨rfl,by simp only [pgTmpsR,wrapL]; rfl,?_⟩
    rw [if_neg (by simp only [inPage,wrapL,Bool.and_eq_true,decide_eq_true_eq]; rintro ⟨h1,h2⟩; omega)]
    rw [←HO1.out]
    exact hI3.out
def pageOf (l : Lst) (pn : Int) : Nat→List ItD→List ItD
  | _,[]=>[]
  | k,i :: r=>(if inPage l pn ((k : Int)+1) then [i] else [])++pageOf l pn (k+1) r
noncomputable def lpFrame (a : Act) : Frame:=(base 69).at a [.code rcvBody,.inLoop rcvBody,.inBlock 0,.code (cSnd pgCall)]
theorem pF2_lp (n c : Nat) (l : Lst) (pn : Int) (cs : List Frame) (w : World) : Steps Tryq.prog (lone (pF2 n l pn c) cs w) (lone (lpFrame ⟨pgTmpsR n l pn c 0 (fun _=>undef),[]⟩) cs w):=
  .head step_region_end (.head (step_block (id:=0) (c:=.loop rcvBody)) (.one step_loop))
theorem lp_rcv (a : Act) (cs : List Frame) (w : World) : Steps Tryq.prog (lone (lpFrame a) cs w) (lone (rcvFrame a [0,1]) cs w):=
  .head (step_seq (x:=.region 5 rcvOps false) (y:=cSnd rcvBody)) (.one step_region)
theorem rcv_loop (l : Lst) (pn : Int) (n c : Nat) (w0 : World) (cs : List Frame) (hn : n+2 < c) (hc : c < w0.heap.size) (hsize : w0.cell? ⟨n,6,none⟩=some (.int .i64 l.size)) :
    ∀ (rest : List ItD) (cnt : Nat) (items : List ItD) (u : Nat→Value) (w : World),PgI w0 w n c items (rest.map itVal)→items.length≤cnt→cnt+rest.length≤1000 →
      ∃ u' w',Steps Tryq.prog (lone (lpFrame ⟨pgTmpsR n l pn c cnt u,[]⟩) cs w) (lone (lpFrame ⟨pgTmpsR n l pn c ((cnt+rest.length : Nat) : Int) u',[]⟩) cs w')∧PgI w0 w' n c (items++pageOf l pn cnt rest) []:=by
  intro rest
  induction rest with
  | nil=>exact fun cnt items u w I _ _=>⟨u,w,by simpa using Steps.refl _ _,by simpa [pageOf] using I⟩
  | cons i r ih=>
    intro cnt items u w I hi hl
    have hl : cnt+(r.length+1)≤1000:=hl
    obtain ⟨e,a,w1,⟨rfl,ha,I1⟩,hs⟩:=rcv_round l pn n c cnt i (r.map itVal) items u w0 w hn hc hsize I (by omega) (by omega) (base 69) [.inLoop rcvBody,.inBlock 0,.code (cSnd pgCall)] cs
    have hs : Steps Tryq.prog (lone (lpFrame ⟨pgTmpsR n l pn c cnt u,[]⟩) cs w) (lone ((base 69).at a [.inLoop rcvBody,.inBlock 0,.code (cSnd pgCall)]) cs w1):=hs
    rw [ha] at hs
    obtain ⟨u',w',hs',I'⟩:=ih (cnt+1) _ _ w1 I1 (by split <;> (try simp only [List.length_append,List.length_singleton]) <;> omega) (by omega)
    refine ⟨u',w',Steps.trans hs (.head step_inLoop ?_),?_⟩
    · have e : (((cnt+1 : Nat) : Int))=(cnt : Int)+1:=rfl
      rw [e] at hs'
      have e2 : cnt+(i :: r).length=cnt+1+r.length:=by simp; omega
      rw [e2]
      exact hs'
    · rw [pageOf]
      by_cases h : inPage l pn ((cnt : Int)+1)=true
      · rw [if_pos h] at I' ⊢
        simpa using I'
      · rw [if_neg h] at I' ⊢
        simpa using I'
theorem items_of (L : List Value) (h : ∀ v∈L,∃ (a b : Int) (s : ByteArray),v=.agg #[.int .i64 a,.string s,.int .i64 b]) : ∃ its : List ItD,L=its.map itVal:=by
  induction L with
  | nil=>exact ⟨[],rfl⟩
  | cons v L ih=>
    obtain ⟨a,b,s,rfl⟩:=h v (by simp)
    obtain ⟨its,rfl⟩:=ih (fun v hv=>h v (by simp [hv]))
    exact ⟨⟨a,s,b⟩ :: its,rfl⟩
theorem pgI_start {w : World} {n c : Nat} {its : List ItD} (hrow : w.heap[n+2]?=some (.cells #[.slice none 0 0,.string ⟨#[]⟩] 88)) (hch : ∃ k s q,w.heap[c]?=some (.chan k (its.map itVal).toArray true s q false)) : PgI w w n c [] (its.map itVal):=
  ⟨rfl,Nat.le_refl _,fun _ _ _ _=>rfl,hch,⟨_,by simp [World.cell?,hrow],World.ownsRow_nil _ _ _ _⟩,by simp [World.cell?,hrow],fun j=>by simp [World.frozen?,hrow]⟩
theorem recv_ok : RecvOk:=by
  intro l pn L n c w cs hL hlen hn h0 _ h2 hch
  obtain ⟨its,rfl⟩:=items_of L hL
  have hc : c < w.heap.size:=by
    obtain ⟨k,s,q,h⟩:=hch
    exact (Array.getElem?_eq_some_iff.1 h).1
  have hlen : its.length≤1000:=by simpa using hlen
  obtain ⟨u',w',hs,I⟩:=rcv_loop l pn n c w cs hn hc (by simp [World.cell?,h0,lCells]) its 0 [] (fun _=>undef) w (pgI_start h2 hch) (by simp) (by omega)
  exact ⟨_,w',Steps.trans (pF2_lp n c l pn cs w) (Steps.trans hs (lp_rcv _ cs w')),rfl,I.ch⟩
structure Qy where
  vs : Bool
  p : ByteArray
  d : ByteArray
  af : ByteArray
def lastV (h : List Ver) : Ver:=h.getLast?.getD ⟨0,⟨#[]⟩,false⟩
def pastB (af key : ByteArray) : Bool:=!Op.bytesLess key.toList af.toList && !decide (key.toList=af.toList)
def wantB (q : Qy) (k : List UInt8) (h : List Ver) : Bool:=pastB q.af ⟨k.toArray⟩ && (q.vs || !(lastV h).mark)
def subAt (d : List UInt8) : List UInt8→Option Nat
  | []=>if d=[] then some 0 else none
  | b :: r=>if d.isPrefixOf (b :: r) then some 0 else (subAt d r).map (·+1)
def commonOf (q : Qy) (k : List UInt8) : Option (List UInt8):=if q.d.size=0 then none else (subAt q.d.data.toList (k.drop q.p.size)).map fun i=>k.take (q.p.size+i+q.d.size)
def verItem (k : List UInt8) (v : Ver) : ItD:=⟨if v.mark then 4 else 3,⟨k.toArray⟩,v.num⟩
def keyItems (vs : Bool) (k : List UInt8) (h : List Ver) : List ItD:=if vs then h.reverse.map (verItem k) else [⟨1,⟨k.toArray⟩,(lastV h).num⟩]
def itemStep (q : Qy) (s : List ItD×List UInt8) (kh : List UInt8×List Ver) : List ItD×List UInt8:=
  if wantB q kh.1 kh.2 then
    match commonOf q kh.1 with
    | none=>(s.1++keyItems q.vs kh.1 kh.2,s.2)
    | some c=>if c=s.2 then s else (s.1++[⟨2,⟨c.toArray⟩,0⟩],c)
  else s
def itemsSt (q : Qy) (l : List (List UInt8×List Ver)) : List ItD×List UInt8:=l.foldl (itemStep q) ([],[])
def itemsOf (q : Qy) (l : List (List UInt8×List Ver)) : List ItD:=(itemsSt q l).1
theorem itemsSt_snoc (q : Qy) (l : List (List UInt8×List Ver)) (x : List UInt8×List Ver) : itemsSt q (l++[x])=itemStep q (itemsSt q l) x:=by simp [itemsSt]
theorem itemStep_more (q : Qy) (s : List ItD×List UInt8) (x : List UInt8×List Ver) (hx : x.2≠[]) : s.1.length≤(itemStep q s x).1.length∧(itemStep q s x).1.length≤s.1.length+x.2.length:=by
  have h1 : 0 < x.2.length:=List.length_pos_iff.2 hx
  unfold itemStep
  split
  · split
    · simp only [List.length_append,keyItems]
      split <;> simp <;> omega
    · split <;> simp <;> omega
  · omega
def sumV (l : List (List UInt8×List Ver)) : Nat:=(l.map fun x=>x.2.length).sum
theorem foldl_more (q : Qy) (l : List (List UInt8×List Ver)) (hl : ∀ x∈l,x.2≠[]) : ∀ s,s.1.length≤(l.foldl (itemStep q) s).1.length∧(l.foldl (itemStep q) s).1.length≤s.1.length+sumV l:=by
  induction l with
  | nil=>intro s; simp [sumV]
  | cons x r ih=>
    intro s
    have h1:=itemStep_more q s x (hl x (by simp))
    have h2:=ih (fun y hy=>hl y (by simp [hy])) (itemStep q s x)
    simp only [List.foldl_cons,sumV,List.map_cons,List.sum_cons] at h2 ⊢
    omega
theorem items_le (q : Qy) (l : List (List UInt8×List Ver)) (hl : ∀ x∈l,x.2≠[]) : (itemsOf q l).length≤sumV l:=by
  have:=(foldl_more q l hl ([],[])).2
  simpa [itemsOf,itemsSt] using this
theorem items_part (q : Qy) (l pre : List (List UInt8×List Ver)) (hl : ∀ x∈l,x.2≠[]) (h : pre <+: l) : (itemsSt q pre).1.length≤(itemsOf q l).length:=by
  obtain ⟨r,rfl⟩:=h
  unfold itemsOf itemsSt
  rw [List.foldl_append]
  exact (foldl_more q r (fun x hx=>hl x (by simp [hx])) _).1
theorem walkL_some (n : Nat) : ∀ (f : List UInt8→List Ver) (bs : List UInt8),∀ x∈walkL n f bs,x.2≠[]:=by
  induction n with
  | zero=>intro f bs x hx; simp [walkL] at hx
  | succ n ih=>
    intro f bs x hx
    simp only [walkL,List.mem_append,List.mem_flatMap] at hx
    rcases hx with hx | ⟨b,-,hx⟩
    · split at hx
      · simp at hx
      · simp at hx; subst hx; simp_all
    · exact ih _ _ x hx
theorem sumV_append (a b : List (List UInt8×List Ver)) : sumV (a++b)=sumV a+sumV b:=by simp [sumV]
theorem sumV_flat {α : Type} (l : List α) (g : α→List (List UInt8×List Ver)) : sumV (l.flatMap g)=(l.map fun a=>sumV (g a)).sum:=by
  induction l with
  | nil=>rfl
  | cons a r ih=>simp [sumV_append,ih]
def tot (n : Nat) (f : List UInt8→List Ver) : Nat:=sumV (walkL n f [])
theorem sumV_walk (n : Nat) : ∀ (f : List UInt8→List Ver) (bs cs : List UInt8),sumV (walkL n f bs)=sumV (walkL n f cs):=by
  induction n with
  | zero=>intro f bs cs; rfl
  | succ n ih=>
    intro f bs cs
    simp only [walkL,sumV_append,sumV_flat]
    refine congr (congrArg HAdd.hAdd ?_) (congrArg List.sum (List.map_congr_left fun b _=>ih _ _ _))
    split <;> simp [sumV]
theorem tot_succ (n : Nat) (f : List UInt8→List Ver) : tot (n+1) f=(f []).length+(allB.map fun b=>tot n (fun k=>f (b :: k))).sum:=by
  unfold tot
  simp only [walkL,sumV_append,sumV_flat]
  refine congr (congrArg HAdd.hAdd ?_) (congrArg List.sum (List.map_congr_left fun b _=>sumV_walk _ _ _ _))
  split <;> simp_all [sumV]
theorem sum_ge (l : List UInt8) (g : UInt8→Nat) (b : UInt8) (h : b∈l) : g b≤(l.map g).sum:=by
  induction l with
  | nil=>simp at h
  | cons a r ih=>
    rcases List.mem_cons.1 h with rfl | h
    · simp
    · have:=ih h
      simp; omega
theorem sum_one (l : List UInt8) (g g' : UInt8→Nat) (b : UInt8) (hn : l.Nodup) (h : b∈l) (ho : ∀ c,c≠b→g' c=g c) : (l.map g').sum+g b=(l.map g).sum+g' b:=by
  induction l with
  | nil=>simp at h
  | cons a r ih=>
    obtain ⟨h1,h2⟩:=List.nodup_cons.1 hn
    rcases List.mem_cons.1 h with rfl | h
    · have e : r.map g'=r.map g:=List.map_congr_left fun c hc=>ho c (fun e=>h1 (e ▸ hc))
      simp [e]; omega
    · have:=ih h2 h
      have e:=ho a (fun e=>h1 (e ▸ h))
      simp [e]; omega
theorem nodup_allB : allB.Nodup:=sorted_allB.imp (fun h e=>by subst e; exact absurd h (by simp))
theorem tot_upd (n : Nat) : ∀ (f : List UInt8→List Ver) (key : List UInt8) (h : List Ver),key.length < n→tot n (upd f key h)+(f key).length=tot n f+h.length:=by
  induction n with
  | zero=>intro f key h hk; omega
  | succ n ih=>
    intro f key h hk
    rw [tot_succ,tot_succ]
    cases key with
    | nil=>
      have e : (allB.map fun b=>tot n fun k=>upd f [] h (b :: k))=allB.map fun b=>tot n fun k=>f (b :: k):=by simp [upd]
      rw [e]
      simp [upd]; omega
    | cons c r=>
      have e0 : upd f (c :: r) h []=f []:=by simp [upd]
      have e1 : (fun k=>upd f (c :: r) h (c :: k))=upd (fun k=>f (c :: k)) r h:=by funext k; simp [upd]
      have e2:=ih (fun k=>f (c :: k)) r h (by simp at hk; omega)
      have e3:=sum_one allB (fun b=>tot n fun k=>f (b :: k)) (fun b=>tot n fun k=>upd f (c :: r) h (b :: k)) c nodup_allB (mem_allB c) (fun b hb=>by simp [upd,hb])
      simp only [e1] at e3
      rw [e0]
      omega
theorem tot_sub (p : List UInt8) : ∀ (n : Nat) (f : List UInt8→List Ver),tot (n - p.length) (fun k=>f (p++k))≤tot n f:=by
  induction p with
  | nil=>intro n f; exact Nat.le_refl _
  | cons b p ih=>
    intro n f
    cases n with
    | zero=>simp [tot,walkL,sumV]
    | succ n=>
      have h1:=ih n (fun k=>f (b :: k))
      have h2:=sum_ge allB (fun b=>tot n fun k=>f (b :: k)) b (mem_allB b)
      have e : n+1 - (b :: p).length=n - p.length:=by simp
      rw [e,tot_succ]
      simp only [List.cons_append] at h2 ⊢
      omega
theorem tot_nil (n : Nat) : tot n (fun _=>[])=0:=by rw [tot,walkL_nil _ _ _ (fun _=>rfl)]; rfl
theorem lastV_eq {h : List Ver} (hne : h≠[]) : lastV h=h.getLast hne:=by simp [lastV,List.getLast?_eq_some_getLast hne]
theorem field_num (nm : Int) (bd : ByteArray) (mk : Bool) (w : World) : (Instr.field 81 (.agg #[.int .i64 nm,.string bd,.bool mk]) 0).run Tryq.prog w=.ok (.int .i64 nm) w:=by kernel_rfl
set_option maxHeartbeats 1000000 in
set_option maxRecDepth 100000 in
theorem wants_ok (A : Nat→Prop) (q : Qy) (k : List UInt8) (hv : Value) (h : List Ver) (w : World) (hh : HistAt A w hv h) (hne : h≠[]) (hl : h.length≤2199023255552) :
    Calls Tryq.prog 138 #[qV q.vs q.p q.d q.af,.string ⟨k.toArray⟩,hv] w fun e w'=>e=.returned (.bool (wantB q k h))∧Below w.heap.size w w':=by
  obtain ⟨vs,p,d,af⟩:=q
  have HB : Hid (Below w.heap.size w (w.alloc (.cells #[.bool vs,.string p,.string d,.string af] 93))):=(Below.refl _ _).alloc (Nat.le_refl _) _
  have HN:=newest_any A hv h _ (hh.on HB.out) hne hl
  have HW : Hid (∀ b,b=wantB ⟨vs,p,d,af⟩ k h↔b=(pastB af ⟨k.toArray⟩ && (vs || !(h.getLast hne).mark))):=fun b=>by rw [wantB,lastV_eq hne]
  generalize wantB ⟨vs,p,d,af⟩ k h=B at *
  obtain ⟨v,hv0⟩ : ∃ v,h.getLast hne=v:=⟨_,rfl⟩
  rw [hv0] at HN HW
  obtain ⟨nm,bd,mk⟩:=v
  simp only [verVal] at HN
  unfold qV
  clear hv0 hh
  have hfm:=field_mark nm bd mk
  cases vs
  · go_enter Tryq.func138,Tryz.ntmps138
    go_wp2_with (go_at_call 64; refine HN.mono ?_; clear HN; rintro e w1 ⟨rfl,hb⟩)
    · go_ret
      exact ⟨by rw [(HW.out _).1 rfl]; simp_all [pastB],HB.out.trans (hb.mono HB.out.size)⟩
    · go_ret
      exact ⟨by rw [(HW.out _).1 rfl]; rename_i hx; simp [pastB]; exact fun a b=>absurd ⟨a,b⟩ hx,HB.out⟩
  · go_enter Tryq.func138,Tryz.ntmps138
    go_wp2_with (go_at_call 64; refine HN.mono ?_; clear HN; rintro e w1 ⟨rfl,hb⟩)
    · go_ret
      exact ⟨by rw [(HW.out _).1 rfl]; simp_all [pastB],HB.out⟩
    · go_ret
      exact ⟨by rw [(HW.out _).1 rfl]; rename_i hx; simp [pastB]; exact fun a=>Classical.byContradiction fun b=>hx ⟨a,b⟩,HB.out⟩
set_option maxHeartbeats 1000000 in
theorem common_none (vs : Bool) (p af key : ByteArray) (w : World) :
    Calls Tryq.prog 139 #[qV vs p ⟨#[]⟩ af,.string key] w fun e w'=>e=.returned (.tuple #[.string ⟨#[]⟩,.bool false])∧Below w.heap.size w w':=by
  unfold qV
  go_enter Tryq.func139,Tryz.ntmps139
  go_wp2_with fail
  go_ret2
  exact ⟨rfl,(Below.refl _ _).alloc (Nat.le_refl _) _⟩
set_option maxHeartbeats 1000000 in
theorem from_ok (root : Option Addr) (p : ByteArray) (w : World) :
    Calls Tryq.prog 101 #[sV root,.string p] w fun e w'=>e=.returned (.func (.func 122) #[] #[ptr w.heap.size,ptr (w.heap.size+1)])∧w'=(w.alloc (.cells #[.pointer root] 56)).alloc (.cells #[.string p] 9):=by
  unfold sV ptr
  go_enter Tryq.func101,Tryz.ntmps101
  go_wp2_with fail
  go_ret
  exact ⟨rfl,rfl⟩
def Closed (ops : Array Oper) (listed : Array Bool) : Prop:=∀ (j : Nat) (o : Oper),ops[j]?=some o→listed.getD j false=true→∀ e∈o.after,Region.binds .any e=true→listed.getD e.on false=true
theorem getD_set {listed : Array Bool} {i k : Nat} (h : listed.getD k false=true) : (listed.setIfInBounds i true).getD k false=true:=by
  rw [Array.getD_eq_getD_getElem?,Array.getElem?_setIfInBounds]
  rw [Array.getD_eq_getD_getElem?] at h
  split
  · split
    · rfl
    · simp_all
  · exact h
theorem Closed.set {ops : Array Oper} {listed : Array Bool} {i : Nat} (h : Closed ops listed) (hi : i∈Region.ready .any ops listed) : Closed ops (listed.setIfInBounds i true):=by
  intro j o ho hj e he hb
  by_cases hji : j=i
  · subst hji
    exact getD_set (ready_deps hi ho e he hb)
  · have : listed.getD j false=true:=by
      rw [Array.getD_eq_getD_getElem?,Array.getElem?_setIfInBounds,if_neg (fun e=>hji e.symm)] at hj
      rw [Array.getD_eq_getD_getElem?]
      exact hj
    exact getD_set (h j o ho this e he hb)
def depB (ops : Array Oper) (j k : Nat) : Bool:=((ops[j]?).map fun o=>o.after.toList.any fun e=>e.on == k && Region.binds .any e).getD false
theorem Closed.dep {ops : Array Oper} {listed : Array Bool} (h : Closed ops listed) {j k : Nat} (hd : depB ops j k=true) (hj : listed.getD j false=true) : listed.getD k false=true:=by
  unfold depB at hd
  cases ho : ops[j]? with
  | none=>simp [ho] at hd
  | some o=>
    simp only [ho,Option.map_some,Option.getD_some,List.any_eq_true,Bool.and_eq_true,beq_iff_eq] at hd
    obtain ⟨e,he,rfl,hb⟩:=hd
    exact h j o ho hj e (Array.mem_toList_iff.1 he) hb
section
variable {P : Program} {ops : Array Oper} {ro : Option Nat}
theorem region_vals2 {id n : Nat} {Q : Exit→Act→World→Prop} {a0 : Act} {w0 : World} (hm : P.follows .mixedOrders=true) (base lim : Nat) (vals : Nat→Value) (Wd : (Nat→Bool)→World→Prop) (hsz : base+lim≤a0.tmps.size)
    (hdst : okDst ops base lim=true) (hdep : okDeps ops=true)
    (hstep : ∀ (listed : Array Bool) (a : Act) (w : World) (i : Nat) (o : Oper),i∈Region.ready .any ops listed→ops[i]?=some o→Vals a0 base lim vals Wd ops.size listed a w→(∀ e∈o.after,Region.binds .any e=true→listed.getD e.on false=true)→Closed ops listed →
      OpTo P ops ro i a w (fun a' w'=>∃ v,a'=a.put o.dst v∧(i < lim→v=vals i)∧Wd (setD (fun j=>listed.getD j false) i) w'))
    (hend : ∀ a w,a.tmps.size=a0.tmps.size→a.defers=a0.defers→(∀ t,t < base→a.eval (.tmp t)=a0.eval (.tmp t))→(∀ i,i < lim→i < ops.size→a.eval (.tmp (base+i))=vals i)→(∃ d,(∀ i,i < ops.size→d i=true)∧Wd d w)→Q .normal a w)
    (h0 : Wd (fun _=>false) { w0 with drawn:=w0.drawn+1 }) : (Code.region id ops true).wpIn (wf ro) n P Q a0 w0:=by
  have hf : ∀ i,(Array.replicate ops.size false).getD i false=false:=fun i=>by
    rw [Array.getD_eq_getD_getElem?,Array.getElem?_replicate]
    split <;> rfl
  refine region_inv hm (fun listed a w=>Vals a0 base lim vals Wd ops.size listed a w∧Closed ops listed) (fun listed a w i V hi=>?_) (fun listed a w V hr=>?_) ⟨⟨rfl,rfl,fun _ _=>rfl,fun i _ h=>?_,by rw [show (fun i=>(Array.replicate ops.size false).getD i false)=fun _=>false from funext hf]; exact h0,by simp⟩,fun j o _ h=>?_⟩
  · have hlt:=(ready_lt hi).1
    have ho:=Array.getElem?_eq_getElem hlt
    refine (hstep listed a w i _ hi ho V.1 (ready_deps hi ho) V.2).mono ?_
    rintro a' w' ⟨v,rfl,hv,hw⟩
    exact ⟨V.1.step hi ho (dst_of hdst i _ ho).1 (dst_of hdst i _ ho).2 hsz hv hw,V.2.set hi⟩
  · have h1:=all_done hdep V.1.len hr
    exact hend a w V.1.size V.1.defers V.1.old (fun i hi hi2=>V.1.new i hi (h1 i hi2)) ⟨_,h1,V.1.world⟩
  · rw [hf i] at h; cases h
  · rw [hf j] at h; cases h
end
def cThen : Code→Code
  | .cond _ a _=>a
  | c=>c
noncomputable def skOps : Array Oper:=cOps (cFst (cThen (cSnd (cFst (cSnd (bodyOf Tryz.f140))))))
structure WdS (W1 : World) (c : Nat) (buf : List Value) (it : Value) (d : Nat→Bool) (w : World) : Prop where
  below : d 6=false→Below W1.heap.size W1 w
  done : d 6=true→∃ w1,Below W1.heap.size W1 w1∧w=w1.setChan c 1000 (buf++[it]).toArray false (buf.length+1) 0 false
section
variable {W1 : World} {c : Nat} {buf : List Value} {it : Value} {d : Nat→Bool} {w : World}
theorem WdS.other (h : WdS W1 c buf it d w) {i : Nat} (hi : 6≠i) : WdS W1 c buf it (setD d i) w:=⟨fun e=>h.below (by rwa [setD_ne hi] at e),fun e=>h.done (by rwa [setD_ne hi] at e)⟩
theorem WdS.more (h : WdS W1 c buf it d w) (h6 : d 6=false) {X : World} (hX : Below w.heap.size w X) : WdS W1 c buf it (setD d 3) X:=⟨fun _=>(h.below h6).trans (hX.mono (h.below h6).size),fun e=>by rw [setD_ne (by omega),h6] at e; cases e⟩
theorem WdS.sent (h : WdS W1 c buf it d w) (hw : d 6=false) : WdS W1 c buf it (setD d 6) (w.setChan c 1000 (buf.toArray.push it) false (buf.length+1) 0 false):=⟨fun e=>by simp [setD] at e,fun _=>⟨w,h.below hw,by simp⟩⟩
end
set_option maxHeartbeats 1000000 in
set_option maxRecDepth 100000 in
theorem sk_region (A : Nat→Prop) {id n : Nat} {Q : Exit→Act→World→Prop} {a0 : Act} {W : World} {b5 b7 c : Nat} {key : ByteArray} {hv : Value} {h : List Ver} {buf : List Value} (hs : a0.tmps.size=27) (e2 : a0.eval (.tmp 2)=hv) (e5 : a0.eval (.tmp 5)=ptr b5) (e7 : a0.eval (.tmp 7)=ptr b7)
    (c5 : W.cell? ⟨b5,0,none⟩=some (.string key)) (c7 : W.cell? ⟨b7,0,none⟩=some (.chan (some c))) (hh : HistAt A W hv h) (hne : h≠[]) (hl : h.length≤2199023255552) (hc : W.heap[c]?=some (.chan 1000 buf.toArray false buf.length 0 false)) (hroom : buf.length < 1000)
    (hend : ∀ a w1,a.tmps.size=27→a.defers=a0.defers→Below W.heap.size W w1→Q .normal a (w1.setChan c 1000 (buf++[itVal ⟨1,key,(h.getLast hne).num⟩]).toArray false (buf.length+1) 0 false)) :
    (Code.region id skOps true).wpIn (wf none) n Tryq.prog Q a0 W:=by
  obtain ⟨W1,hW1⟩ : ∃ W1 : World,W1={ W with drawn:=W.drawn+1 }:=⟨_,rfl⟩
  have hb1 : Below W.heap.size W W1:=by rw [hW1]; exact ⟨rfl,rfl,rfl,Nat.le_refl _,fun _ _=>rfl⟩
  have hsz : W1.heap.size=W.heap.size:=by rw [hW1]
  have k5 : W1.cell? ⟨b5,0,none⟩=some (.string key):=cellOn hb1 c5
  have k7 : W1.cell? ⟨b7,0,none⟩=some (.chan (some c)):=cellOn hb1 c7
  have hcL : c < W1.heap.size:=by rw [hsz]; exact (Array.getElem?_eq_some_iff.1 hc).1
  have hc : W1.heap[c]?=some (.chan 1000 buf.toArray false buf.length 0 false):=by rw [hW1]; exact hc
  have hh : HistAt A W1 hv h:=hh.on hb1
  have hroom : buf.toArray.size < 1000:=by simpa using hroom
  refine region_vals2 (ro:=none) (a0:=a0) (w0:=W) mixed 13 6
      (fun i=>match i with | 0=>.chan (some c) | 1=>.string key | 2=>hv | 3=>verVal (h.getLast hne) | 4=>.int .i64 (h.getLast hne).num | _=>itVal ⟨1,key,(h.getLast hne).num⟩)
      (WdS W1 c buf (itVal ⟨1,key,(h.getLast hne).num⟩)) (by omega) (by rfl) (by rfl) (fun listed a w i o hi ho V hdep hcl=>?_) (fun a w h1 h2 h3 h4 h5=>?_) ⟨fun _=>by rw [←hW1]; exact Below.refl _ _,fun e=>by cases e⟩
  · have hlt : i < 7:=(ready_lt hi).1
    have h60 : listed.getD 6 false=false:=by
      cases h : listed.getD 6 false with
      | false=>rfl
      | true=>
        exfalso
        have l5:=hcl.dep (j:=6) (k:=5) (by rfl) h
        have l0:=hcl.dep (j:=6) (k:=0) (by rfl) h
        have l4:=hcl.dep (j:=5) (k:=4) (by rfl) l5
        have l1:=hcl.dep (j:=5) (k:=1) (by rfl) l5
        have l3:=hcl.dep (j:=4) (k:=3) (by rfl) l4
        have l2:=hcl.dep (j:=3) (k:=2) (by rfl) l3
        have hi2:=(ready_lt hi).2
        have hall : ∀ j,j < 7→listed.getD j false=true:=fun j hj=>by
          rcases j with - | - | - | - | - | - | - | j
          all_goals first | assumption | omega
        have h7:=hall i hlt
        have hsz7 : i < listed.size:=by rw [V.len]; exact hlt
        simp only [Array.getD_eq_getD_getElem?,Array.getElem?_eq_getElem hsz7,Option.getD_some] at hi2 h7
        rw [hi2] at h7
        cases h7
    have hw : Below W1.heap.size W1 w:=V.world.below h60
    rcases i with - | - | - | - | - | - | - | i
    · have ho1:=ho
      dsimp only [skOps,cThen,bodyOf,Tryz.f140,cFst,cSnd,cOps,Option.getD] at ho1
      simp only [List.getElem?_toArray,List.getElem?_cons_zero,Option.some.injEq] at ho1
      subst ho1
      have q0 : a.eval (.tmp 7)=ptr b7:=(V.old 7 (by omega)).trans e7
      refine opTo_value ho rfl (fun c h=>by cases h) (v:=.chan (some c)) (w':=w) (by generalize a.eval=ρ at q0 ⊢; simp [go_sem,q0,ptr,cellOn hw k7]) ⟨_,rfl,fun _=>rfl,V.world.other (by omega)⟩
    · have ho1:=ho
      dsimp only [skOps,cThen,bodyOf,Tryz.f140,cFst,cSnd,cOps,Option.getD] at ho1
      simp only [List.getElem?_toArray,List.getElem?_cons_succ,List.getElem?_cons_zero,Option.some.injEq,Nat.zero_add] at ho1
      subst ho1
      have q0 : a.eval (.tmp 5)=ptr b5:=(V.old 5 (by omega)).trans e5
      refine opTo_value ho rfl (fun c h=>by cases h) (v:=.string key) (w':=w) (by generalize a.eval=ρ at q0 ⊢; simp [go_sem,q0,ptr,cellOn hw k5]) ⟨_,rfl,fun _=>rfl,V.world.other (by omega)⟩
    · have ho1:=ho
      dsimp only [skOps,cThen,bodyOf,Tryz.f140,cFst,cSnd,cOps,Option.getD] at ho1
      simp only [List.getElem?_toArray,List.getElem?_cons_succ,List.getElem?_cons_zero,Option.some.injEq,Nat.reduceAdd,Nat.zero_add] at ho1
      subst ho1
      have q0 : a.eval (.tmp 2)=hv:=(V.old 2 (by omega)).trans e2
      refine opTo_value ho rfl (fun c h=>by cases h) (v:=hv) (w':=w) (by generalize a.eval=ρ at q0 ⊢; simp [go_sem,q0]) ⟨_,rfl,fun _=>rfl,V.world.other (by omega)⟩
    · have ho1:=ho
      dsimp only [skOps,cThen,bodyOf,Tryz.f140,cFst,cSnd,cOps,Option.getD] at ho1
      simp only [List.getElem?_toArray,List.getElem?_cons_succ,List.getElem?_cons_zero,Option.some.injEq,Nat.reduceAdd,Nat.zero_add] at ho1
      subst ho1
      have q0 : a.eval (.tmp 15)=hv:=V.new 2 (by omega) (hdep ⟨2,.data⟩ (by simp) rfl)
      refine opTo_call (f:=64) (args:=#[hv]) (w':=w) ho rfl (fun c h=>by cases h) (by have qf:=hfun a rfl 64; generalize a.eval=ρ at q0 qf ⊢; simp [go_sem,q0,qf]) ((newest_any A hv h w (hh.on hw) hne hl).mono ?_)
      rintro e X ⟨rfl,hX⟩
      exact ⟨_,rfl,_,rfl,fun _=>rfl,V.world.more h60 hX⟩
    · have ho1:=ho
      dsimp only [skOps,cThen,bodyOf,Tryz.f140,cFst,cSnd,cOps,Option.getD] at ho1
      simp only [List.getElem?_toArray,List.getElem?_cons_succ,List.getElem?_cons_zero,Option.some.injEq,Nat.reduceAdd,Nat.zero_add] at ho1
      subst ho1
      have q0 : a.eval (.tmp 16)=verVal (h.getLast hne):=V.new 3 (by omega) (hdep ⟨3,.data⟩ (by simp) rfl)
      refine opTo_value ho rfl (fun c h=>by cases h) (v:=.int .i64 (h.getLast hne).num) (w':=w) (by generalize a.eval=ρ at q0 ⊢; simp [go_sem,q0,verVal,field_num]) ⟨_,rfl,fun _=>rfl,V.world.other (by omega)⟩
    · have ho1:=ho
      dsimp only [skOps,cThen,bodyOf,Tryz.f140,cFst,cSnd,cOps,Option.getD] at ho1
      simp only [List.getElem?_toArray,List.getElem?_cons_succ,List.getElem?_cons_zero,Option.some.injEq,Nat.reduceAdd,Nat.zero_add] at ho1
      subst ho1
      have q0 : a.eval (.tmp 14)=.string key:=V.new 1 (by omega) (hdep ⟨1,.data⟩ (by simp) rfl)
      have q1 : a.eval (.tmp 17)=.int .i64 (h.getLast hne).num:=V.new 4 (by omega) (hdep ⟨4,.data⟩ (by simp) rfl)
      have q2 : a.eval (.const (.int .i64 1))=.int .i64 1:=rfl
      refine opTo_value ho rfl (fun c h=>by cases h) (v:=itVal ⟨1,key,(h.getLast hne).num⟩) (w':=w) (by generalize a.eval=ρ at q0 q1 q2 ⊢; simp [go_sem,q0,q1,q2,itVal]) ⟨_,rfl,fun _=>rfl,V.world.other (by omega)⟩
    · have ho1:=ho
      dsimp only [skOps,cThen,bodyOf,Tryz.f140,cFst,cSnd,cOps,Option.getD] at ho1
      simp only [List.getElem?_toArray,List.getElem?_cons_succ,List.getElem?_cons_zero,Option.some.injEq,Nat.reduceAdd,Nat.zero_add] at ho1
      subst ho1
      have q0 : a.eval (.tmp 13)=.chan (some c):=V.new 0 (by omega) (hdep ⟨0,.data⟩ (by simp) rfl)
      have q1 : a.eval (.tmp 18)=itVal ⟨1,key,(h.getLast hne).num⟩:=V.new 5 (by omega) (hdep ⟨5,.data⟩ (by simp) rfl)
      refine opTo_send ho rfl rfl q0 ((hw.block c hcL).trans hc) hroom ?_
      exact ⟨_,rfl,fun h=>absurd h (by omega),by rw [q1]; exact V.world.sent h60⟩
    · omega
  · obtain ⟨d,hd,hw⟩:=h5
    obtain ⟨w1,hb,rfl⟩:=hw.done (hd 6 (by decide))
    exact hend a w1 (h1.trans hs) h2 (hb1.trans (by rw [hsz] at hb; exact hb))
end Go.Proofs.YtnapepbdohidgaaGreatDoorQ
namespace Go.Proofs.YtnapepbdohidgaaGreatDoorQ
open Go
open Go.RowKit
def CellB (w : World) (b : Nat) : Prop:=∃ o : Obj,w.heap[b]?=some o∧o.isCells=true
theorem CellB.of_cell {w : World} {b j : Nat} {v : Value} (h : w.cell? ⟨b,j,none⟩=some v) : CellB w b:=by
  unfold World.cell? at h
  cases ho : w.heap[b]? with
  | none=>simp [ho] at h
  | some o=>
    cases o with
    | cells c e z=>exact ⟨_,ho,rfl⟩
    | _=>simp [ho] at h
theorem CellB.lt {w : World} {b : Nat} (h : CellB w b) : b < w.heap.size:=by
  obtain ⟨o,h,-⟩:=h
  exact (Array.getElem?_eq_some_iff.1 h).1
theorem RowAt.inCells {A : Nat→Prop} {w : World} {v : Value} {n : Nat} {xs : List Value} (h : RowAt A w v n xs) : RowAt (fun b=>A b∧CellB w b) w v n xs:=by
  obtain ⟨a,cap,hv,ha0,hx⟩:=h
  refine ⟨a,cap,hv,ha0,fun hne=>?_⟩
  obtain ⟨g,ha,hA,hg,hc⟩:=hx hne
  have h0 : 0 < xs.length:=List.length_pos_iff.2 hne
  exact ⟨g,ha,⟨hA,.of_cell ((hc 0 h0).trans (List.getElem?_eq_getElem h0))⟩,hg,hc⟩
theorem NodeAt.inCells {A : Nat→Prop} {w : World} : ∀ (n : Nat) (p : Option Addr) (f : List UInt8→List Ver),NodeAt A n w p f→NodeAt (fun b=>A b∧CellB w b) n w p f:=by
  intro n
  induction n with
  | zero=>intro p f h; exact h
  | succ n ih=>
    intro p f h
    rcases h with h | ⟨g,hv,kv,ks,hp,hA,c0,c1,c2,hh,hks,hs,hch,hno⟩
    · exact Or.inl h
    · exact Or.inr ⟨g,hv,kv,ks,hp,⟨hA,.of_cell c0⟩,c0,c1,c2,RowAt.inCells hh,RowAt.inCells hks,hs,fun c q hq=>ih q _ (hch c q hq),hno⟩
theorem NodeAt.weak {A A' : Nat→Prop} {w : World} (h : ∀ b,A b→A' b) {n : Nat} {p : Option Addr} {f : List UInt8→List Ver} (hN : NodeAt A n w p f) : NodeAt A' n w p f:=NodeAt.keep (fun b hb _=>⟨h b hb,rfl⟩) n p f hN
def TreeAt (w : World) (p : Option Addr) (f : List UInt8→List Ver) : Prop:=NodeAt (CellB w) 41 w p f
theorem TreeAt.of {A : Nat→Prop} {w : World} {p : Option Addr} {f : List UInt8→List Ver} (h : NodeAt A 41 w p f) : TreeAt w p f:=(NodeAt.inCells 41 p f h).weak fun _ h=>h.2
end Go.Proofs.YtnapepbdohidgaaGreatDoorQ
