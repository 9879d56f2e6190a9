/- Part of a proof. -/
import Derived.Test.YtnapepbdohidgaaGreatDoorQM26
import Derived.Test.YtnapepbdohidgaaGreatDoorQM01
import Derived.Lib.ItoaNum
import Derived.MapKept
import Derived.Deep.RegionLaw
import Derived.Carry
import Derived.Shelf.LaysM
import Derived.Shelf.Strconv.Itoa3
namespace Go.Proofs.YtnapepbdohidgaaGreatDoorQ
open Go
open Go.Conc Go.ConcX Go.ConcX.Gen Go.RowKit
theorem sched_any (t : Nat) : Region.schedule (Tryq.prog.follows .mixedOrders) Tryq.drawOps t=[0,1]∨Region.schedule (Tryq.prog.follows .mixedOrders) Tryq.drawOps t=[1,0]:=by
  rw [mixed]
  rcases Nat.mod_two_eq_zero_or_one t with h | h
  · left
    simp [Region.schedule,Region.linearise,Region.linearise.go,Tryq.drawOps,List.range,List.range.loop,h,Nat.mod_one]
  · right
    simp [Region.schedule,Region.linearise,Region.linearise.go,Tryq.drawOps,List.range,List.range.loop,h,Nat.mod_one]
theorem wp_recv_shut {a : Act} {w : World} {c k s q : Nat} {Q : Exit→Act→World→Prop} (h17 : a.eval (.tmp 17)=.chan (some c)) (hsz : a.tmps.size=49) (hrow : w.heap[c]?=some (.chan k #[] true s q false))
    (h : Q .normal ((a.put (some 18) (.tuple #[.agg #[.int .i64 0,.string ⟨#[]⟩,.int .i64 0],.bool false])).put (some 19) (.bool false)) w) : (Code.region 5 rcvOps false).wp Tryq.prog Q a w:=by
  intro b kk cs
  refine ⟨.normal,_,_,h,?_⟩
  refine Steps.head step_region ?_
  have hr : List.range rcvOps.size=[0,1]:=rfl
  rw [hr]
  obtain ⟨es,hcomm⟩ : ∃ es,stepG Tryq.prog true (G (b.at a (.inRegion rcvOps [0,1] :: kk)) cs) w=.comm (G (b.at a (.inRegion rcvOps [0,1] :: kk)) cs) #[rcase c (.agg #[.int .i64 0,.string ⟨#[]⟩,.int .i64 0])] true (.recv true) w es:=by
    refine stepG_comm_any (o := { dst := some 18, op := .recv 165 (.tmp 17) true, type := 0, pos := "listing.go:108", after := #[], guard := none }) rfl rfl ?_
    have e : execOp a.eval { dst := some 18, op := .recv 165 (.tmp 17) true, type := 0, pos := "listing.go:108", after := #[], guard := none } = (do
      let .chan _ elem ← underlying 165 | stuck "receive: channel type expected"
      pure (.comm #[{ chan:=a.eval (.tmp 17),send:=none,zero:=←zeroValue elem }] true (.recv true))):=rfl
    rw [e,h17]
    simp [go_sem,rcase]
  have st1:=step_lone_recv_shut true hcomm hrow
  rw [Frame.finish_at] at st1
  refine Steps.head st1 ?_
  have hput : (a.put ((rcvOps[0]?).bind (·.dst)) (got true (.agg #[.int .i64 0,.string ⟨#[]⟩,.int .i64 0]) false))=a.put (some 18) (.tuple #[.agg #[.int .i64 0,.string ⟨#[]⟩,.int .i64 0],.bool false]):=rfl
  rw [hput]
  have h18 : (a.put (some 18) (.tuple #[.agg #[.int .i64 0,.string ⟨#[]⟩,.int .i64 0],.bool false])).eval (.tmp 18)=.tuple #[.agg #[.int .i64 0,.string ⟨#[]⟩,.int .i64 0],.bool false]:=by
    simp [Act.put,Act.eval,hsz]
  have st2 := op_step (P := Tryq.prog) (ops := rcvOps) (a := a.put (some 18) (.tuple #[.agg #[.int .i64 0, .string ⟨#[]⟩, .int .i64 0], .bool false])) (i := 1) (rest := []) (b := b) (k := kk) (cs := cs) (w := w) (w' := w) (v := .bool false) (o := { dst := some 19, op := .extract (.tmp 18) 1, type := 4, pos := "listing.go:108", after := #[{ on := 0, ground := .data }], guard := none }) rfl rfl (by
    have e : execOp (a.put (some 18) (.tuple #[.agg #[.int .i64 0, .string ⟨#[]⟩, .int .i64 0], .bool false])).eval { dst := some 19, op := .extract (.tmp 18) 1, type := 4, pos := "listing.go:108", after := #[{ on := 0, ground := .data }], guard := none } = (do let v ← Instr.extract ((a.put (some 18) (.tuple #[.agg #[.int .i64 0, .string ⟨#[]⟩, .int .i64 0], .bool false])).eval (.tmp 18)) 1; pure (.value v)) := rfl
    rw [e,h18]
    rfl)
  exact Steps.head st2 (.one step_region_end)
set_option maxHeartbeats 1000000 in
set_option maxRecDepth 100000 in
theorem rcv_last (l : Lst) (pn : Int) (n c : Nat) (cnt : Nat) (items : List ItD) (u : Nat→Value) (w0 w : World) (I : PgI w0 w n c items []) :
    rcvBody.wp Tryq.prog (fun e a w'=>e=.exit 0∧(∃ u',a=⟨pgTmpsR n l pn c cnt u',[]⟩)∧w'=w) ⟨pgTmpsR n l pn c cnt u,[]⟩ w:=by
  obtain ⟨kc,sc,qc,hrow⟩:=I.ch
  show (Code.seq (.region 5 rcvOps false) (cSnd rcvBody)).wp Tryq.prog _ _ _
  refine wp_seq (wp_recv_shut (c:=c) rfl rfl hrow ?_)
  clear hrow I
  show Code.wp Tryq.prog (cSnd rcvBody) _ _ _
  unfold pgTmpsR qV sV ptr lV lCells
  simp only [Act.put]
  dsimp only [rcvBody,cIn,bodyOf,pgCall,Tryz.f69,cFst,cSnd,cOps,Option.getD]
  go_wp2_with fail
  exact ⟨fun i=>if i=18 then .tuple #[.agg #[.int .i64 0,.string ⟨#[]⟩,.int .i64 0],.bool false] else if i=19 then .bool false else u i,by simp⟩
theorem rcv_rounds (l : Lst) (pn : Int) (n c : Nat) (w0 : World) (hn : n+2 < c) (hc : c < w0.heap.size) (hsize : w0.cell? ⟨n,6,none⟩=some (.int .i64 l.size)) :
    ∀ (rest : List ItD) (cnt : Nat) (items : List ItD) (u : Nat→Value) (w : World),PgI w0 w n c items (rest.map itVal)→items.length≤cnt→cnt+rest.length≤1000 →
      Code.rounds Tryq.prog rcvBody (fun e a w'=>e=.exit 0∧(∃ u',a=⟨pgTmpsR n l pn c ((cnt+rest.length : Nat) : Int) u',[]⟩)∧PgI w0 w' n c (items++pageOf l pn cnt rest) []) (rest.length+1) ⟨pgTmpsR n l pn c cnt u,[]⟩ w:=by
  intro rest
  induction rest with
  | nil=>
    intro cnt items u w I _ _
    rw [rounds_succ]
    refine wp_mono (rcv_last l pn n c cnt items u w0 w I) ?_
    rintro e a w' ⟨rfl,⟨u',rfl⟩,rfl⟩
    exact ⟨rfl,⟨u',by simp⟩,by simpa [pageOf] using I⟩
  | cons i r ih=>
    intro cnt items u w I hi hl
    have hl : cnt+(r.length+1)≤1000:=hl
    rw [List.length_cons,rounds_succ]
    refine wp_mono (rcv_round l pn n c cnt i (r.map itVal) items u w0 w hn hc hsize I (by omega) (by omega)) ?_
    rintro e a w1 ⟨rfl,ha,I1⟩
    show Code.rounds _ _ _ _ a w1
    rw [ha]
    have h2:=ih (cnt+1) _ (fun i=>a.tmps.getD i undef) w1 I1 (by split <;> (try simp only [List.length_append,List.length_singleton]) <;> omega) (by omega)
    have e0 : (((cnt+1 : Nat) : Int))=(cnt : Int)+1:=rfl
    rw [e0] at h2
    have e2 : cnt+1+r.length=cnt+(r.length+1):=by omega
    rw [e2] at h2
    have e3 : (if inPage l pn ((cnt : Int)+1) then items++[i] else items)++pageOf l pn (cnt+1) r=items++pageOf l pn cnt (i :: r):=by
      rw [pageOf]
      split <;> simp
    rw [e3] at h2
    exact h2
def tokOf (n pg : Int) : ByteArray:=⟨(Lib.itoa n++46 :: Lib.itoa pg).toArray⟩
def TokOk (G : World→Prop) (n pg : Int) : Prop:=∀ (l : Lst) (w : World),G w→l.num=n→Calls Tryq.prog 98 #[lV l,.int .i64 pg] w fun e w'=>e=.returned (.string (tokOf n pg))∧Below w.heap.size w w'
def pTok (l : Lst) (pn : Int) (n : Nat) : ByteArray:=if IntKind.i64.wrap (pn * l.size) < (n : Int) then tokOf l.num (IntKind.i64.wrap (pn+1)) else ⟨#[]⟩
structure LeftL (W W' : World) : Prop where
  os : W'.os=W.os
  size : W.heap.size≤W'.heap.size
  block : ∀ b,b < W.heap.size→W'.heap[b]?=W.heap[b]?
theorem owns_same {w w' : World} {base : Nat} {e : TypeId} {size : Nat} {v : Value} {n : Nat} {xs : List Value} (h : w.ownsRow base e size v n xs) (hb : ∀ g,base≤g→g < w.heap.size→w'.heap[g]?=w.heap[g]?) : w'.ownsRow base e size v n xs:=by
  refine ⟨h.1,?_⟩
  rcases h.2 with h2 | ⟨g,cap,cur,hv,hg,hr,r⟩
  · exact Or.inl h2
  · exact Or.inr ⟨g,cap,cur,hv,hg,(hb g hg (Array.getElem?_eq_some_iff.1 hr).1).trans hr,r⟩
set_option maxHeartbeats 1000000 in
set_option maxRecDepth 100000 in
theorem page_tail (l : Lst) (pn : Int) (n c : Nat) (cnt : Nat) (items : List ItD) (u : Nat→Value) (w0 w : World) (G : World→Prop) (hn : n+2 < c) (hc : c < w0.heap.size) (r0 : w0.heap[n]?=some (.cells (lCells l) 125)) (r1 : w0.heap[n+1]?=some (.cells #[.slice none 0 0,.string ⟨#[]⟩] 88)) (I : PgI w0 w n c items []) (hG : G w) (hT : IntKind.i64.wrap (pn * l.size) < (cnt : Int)→TokOk G l.num (IntKind.i64.wrap (pn+1))) :
    (cSnd pgCall).wp Tryq.prog (bodyPost Tryq.prog Tryq.f69 fun e w'=>∃ sv,e=.returned (.agg #[sv,.string (pTok l pn cnt)])∧w'.ownsRow w0.heap.size 41 3 sv items.length (itCells items)∧(w'.os=w0.os∧w0.heap.size≤w'.heap.size∧∀ b,b < n→w'.heap[b]?=w0.heap[b]?)) ⟨pgTmpsR n l pn c cnt u,[]⟩ w:=by
  have hl0 : n < w.heap.size:=Nat.lt_of_lt_of_le (by omega) I.size
  have e0:=(I.block n (by omega) (by omega) (by omega)).trans r0
  have e1:=(I.block (n+1) (by omega) (by omega) (by omega)).trans r1
  obtain ⟨sv,c0,hown⟩:=I.row
  have c1:=I.tok
  have z0:=I.fz 0
  have z1:=I.fz 1
  have hbk : Hid (∀ k,sv.ownBlock=some k→w0.heap.size≤k):=fun k h=>(hown.lt k h).1
  have HI : Hid (PgI w0 w n c items []∧w.ownsRow w0.heap.size 41 3 sv items.length (itCells items)):=⟨I,hown⟩
  have d0 : w.cell? ⟨n+1,0,none⟩=some (.slice none 0 0):=by simp [World.cell?,e1]
  have d1 : w.cell? ⟨n+1,1,none⟩=some (.string ⟨#[]⟩):=by simp [World.cell?,e1]
  have y0 : w.frozen? ⟨n+1,0,none⟩=false:=by simp [World.frozen?,e1]
  have y1 : w.frozen? ⟨n+1,1,none⟩=false:=by simp [World.frozen?,e1]
  have k0 : w.cell? ⟨n,0,none⟩=some (.int .i64 l.num):=by simp [World.cell?,e0,lCells]
  have k1 : w.cell? ⟨n,1,none⟩=some (.pointer l.root):=by simp [World.cell?,e0,lCells]
  have k2 : w.cell? ⟨n,2,none⟩=some (.bool l.vs):=by simp [World.cell?,e0,lCells]
  have k3 : w.cell? ⟨n,3,none⟩=some (.string l.p):=by simp [World.cell?,e0,lCells]
  have k4 : w.cell? ⟨n,4,none⟩=some (.string l.d):=by simp [World.cell?,e0,lCells]
  have k5 : w.cell? ⟨n,5,none⟩=some (.string l.af):=by simp [World.cell?,e0,lCells]
  have k6 : w.cell? ⟨n,6,none⟩=some (.int .i64 l.size):=by simp [World.cell?,e0,lCells]
  have k7 : w.cell? ⟨n,7,none⟩=some (.int .i64 l.left):=by simp [World.cell?,e0,lCells]
  have HTK : Hid (wrap64 (pn * l.size) < (cnt : Int)→Calls Tryq.prog 98 #[.agg #[.int .i64 l.num,.pointer l.root,.bool l.vs,.string l.p,.string l.d,.string l.af,.int .i64 l.size,.int .i64 l.left],.int .i64 (wrap64 (pn+1))] w fun e w'=>e=.returned (.string (tokOf l.num (wrap64 (pn+1))))∧Below w.heap.size w w'):=by
    rw [←wrapL,←wrapL]
    exact fun h=>hT h l w hG rfl
  clear I hown e0 e1 r0 r1 hT hG
  obtain ⟨so,sn,sc,rfl⟩ : ∃ so sn sc,sv=.slice so sn sc:=by
    rcases HI.out.2.2 with ⟨rfl,-⟩ | ⟨g,cap,cur,rfl,-⟩
    · exact ⟨_,_,_,rfl⟩
    · exact ⟨_,_,_,rfl⟩
  have hszw : w0.heap.size≤w.heap.size:=HI.out.1.size
  have hcw : n+2 < w.heap.size:=by omega
  generalize hQ : bodyPost Tryq.prog Tryq.f69 _=Q
  have HQ : Hid (bodyPost Tryq.prog Tryq.f69 _=Q):=hQ
  clear hQ
  unfold pgTmpsR qV sV ptr lV lCells
  dsimp only [bodyOf,pgCall,Tryz.f69,cFst,cSnd,Option.getD]
  by_cases hlt : wrap64 (pn * l.size) < (cnt : Int)
  · have HT2:=HTK.out hlt
    have hpt : pTok l pn cnt=tokOf l.num (wrap64 (pn+1)):=by rw [pTok,wrapL,wrapL,if_pos hlt]
    rw [hpt] at HQ
    generalize tokOf l.num (wrap64 (pn+1))=tk at HT2 HQ
    clear hpt
    go_wp2_with (go_at_call 98; refine HT2.mono ?_; clear HT2; rintro e w1 ⟨rfl,hb1⟩; replace c0:=cellOn hb1 c0; replace c1:=cellOn hb1 c1; replace d0:=cellOn hb1 d0; replace d1:=cellOn hb1 d1; replace z0:=(hb1.frozen (p:=⟨n+2,0,none⟩) hcw).trans z0; replace z1:=(hb1.frozen (p:=⟨n+2,1,none⟩) hcw).trans z1; replace y0:=(hb1.frozen (p:=⟨n+1,0,none⟩) (by show n+1 < _; omega)).trans y0; replace y1:=(hb1.frozen (p:=⟨n+1,1,none⟩) (by show n+1 < _; omega)).trans y1)
    rw [←HQ.out]
    obtain ⟨I,hown⟩:=HI.out
    have hset : ∀ b,b≠n+1→b≠n+2→(((w1.setCell ⟨n+2,1,none⟩ (.string tk)).setCell ⟨n+1,0,none⟩ (.slice so sn sc)).setCell ⟨n+1,1,none⟩ (.string tk)).heap[b]?=w1.heap[b]?:=fun b h1 h2=>by
      rw [Below.heap_setCell _ _ _ _ h1,Below.heap_setCell _ _ _ _ h1,Below.heap_setCell _ _ _ _ h2]
    refine bodyPost_ret (v:=.agg #[.slice so sn sc,.string tk]) (by simp [results,Tryz.results69,go_sem,d0,d1]) rfl ⟨_,rfl,owns_same hown fun g h1 h2=>?_,?_,?_,fun b hb=>?_⟩
    · rw [hset g (by omega) (by omega)]
      exact hb1.block g h2
    · exact hb1.os.trans I.os
    · have:=hb1.size
      simp
      omega
    · rw [hset b (by omega) (by omega),hb1.block b (by omega)]
      exact I.block b (by omega) (by omega) (by omega)
  · have hpt : pTok l pn cnt=⟨#[]⟩:=by rw [pTok,wrapL,wrapL,if_neg hlt]
    rw [hpt] at HQ
    clear hpt
    go_wp2_with fail
    rw [←HQ.out]
    obtain ⟨I,hown⟩:=HI.out
    have hset : ∀ b,b≠n+1→((w.setCell ⟨n+1,0,none⟩ (.slice so sn sc)).setCell ⟨n+1,1,none⟩ (.string ⟨#[]⟩)).heap[b]?=w.heap[b]?:=fun b h1=>by
      rw [Below.heap_setCell _ _ _ _ h1,Below.heap_setCell _ _ _ _ h1]
    refine bodyPost_ret (v:=.agg #[.slice so sn sc,.string ⟨#[]⟩]) (by simp [results,Tryz.results69,go_sem,d0,d1]) rfl ⟨_,rfl,owns_same hown fun g h1 h2=>?_,?_,?_,fun b hb=>?_⟩
    · exact hset g (by omega)
    · exact I.os
    · simp
      omega
    · rw [hset b (by omega)]
      exact I.block b (by omega) (by omega) (by omega)
def PageR (V : World) (l : Lst) (pn : Int) (its : List ItD) (e : Ending) (w' : World) : Prop:=
  ∃ sv,e=.returned (.agg #[sv,.string (pTok l pn its.length)])∧w'.ownsRow V.heap.size 41 3 sv (pageOf l pn 0 its).length (itCells (pageOf l pn 0 its))∧LeftL V w'
def Stop (Qok : Qy→Prop) (e : Ending) (w' : World) : Prop:=∃ x y r,e=.panicked (stopEntry x y :: r)∧∃ ls pn L,x=lV ls∧y=.int .i64 pn∧PreP Qok ls L w'
theorem page_ok (Qok : Qy→Prop) (hQ : ∀ q,Qok q→CmnOk q∧SkyOk q) (l : Lst) (pn : Int) (f : List UInt8→List Ver) (V : World) (hp : PreL Qok l f V) (G : World→Prop) (hG : ∀ w',LeftL V w'→G w') (hT : IntKind.i64.wrap (pn * l.size) < ((lItems l f).length : Int)→TokOk G l.num (IntKind.i64.wrap (pn+1))) :
    Calls Tryq.prog 69 #[lV l,.int .i64 pn] V fun e w'=>PageR V l pn (lItems l f) e w'∨Stop Qok e w':=by
  have hPre:=preP_ok Qok hQ
  have hpp : PreP Qok l ((lItems l f).map itVal) V:=⟨f,hp,rfl⟩
  intro cs
  rcases sched_any (V.tape V.drawn (.order 69 100)) with hs | hs
  · obtain ⟨fr,hst,hm,hd,hf⟩:=magic_yes (lV l) (.int .i64 pn) cs V hs
    refine ⟨.panicked [stopEntry (lV l) (.int .i64 pn)],{ V with drawn:=V.drawn+1 },fr,.inr ⟨_,_,_,rfl,l,pn,_,rfl,rfl,hPre.on V _ l _ (fun _ _=>rfl) (Nat.le_refl _) hpp⟩,hst,hf,hm,hd,_,by rw [hf]; exact Tryq.func69⟩
  · obtain ⟨V4,hst,hb4,hc4,hos4⟩:=page_path hPre l pn _ V cs hpp hs
    have hrow : ∀ i,i < 7→i≠5→V4.heap[V.heap.size+i]?=_:=fun i h1 h2=>(hb4 _ (by omega) (by omega)).trans (callW_row V l 1000 i h1)
    have r0:=hrow 0 (by omega) (by omega)
    have r1:=hrow 1 (by omega) (by omega)
    have r2:=hrow 2 (by omega) (by omega)
    have hc : V.heap.size+5 < V4.heap.size:=(Array.getElem?_eq_some_iff.1 hc4).1
    have hlen : (lItems l f).length≤1000:=by have:=hPre.len l _ V hpp; simpa using this
    have hloop:=rcv_rounds l pn V.heap.size (V.heap.size+5) V4 (by omega) hc (by simp only [Nat.add_zero] at r0; simp [World.cell?,r0,lCells]) (lItems l f) 0 [] (fun _=>undef) V4 (pgI_start r2 ⟨_,_,_,hc4⟩) (by simp) (by omega)
    simp only [Nat.zero_add,List.nil_append] at hloop
    have hold : ∀ b,b < V.heap.size→V4.heap[b]?=V.heap[b]?:=fun b hb=>(hb4 b (by omega) (by omega)).trans (callW_old V l 1000 hb)
    have hcode : (Code.block 0 (.loop rcvBody)).wp Tryq.prog (fun e a w=>e=.normal∧(cSnd pgCall).wp Tryq.prog (bodyPost Tryq.prog Tryq.f69 (PageR V l pn (lItems l f))) a w) ⟨pgTmpsR V.heap.size l pn (V.heap.size+5) 0 (fun _=>undef),[]⟩ V4:=by
      refine wp_block (wp_mono (wp_loop_rounds _ hloop) ?_)
      rintro e a w' ⟨rfl,⟨u',rfl⟩,I⟩
      have hG' : G w':=hG w' ⟨I.os.trans hos4,by have:=I.size; omega,fun b hb=>(I.block b (by omega) (by omega) (by omega)).trans (hold b hb)⟩
      simp only [Exit.inBlock,if_true]
      refine ⟨trivial,wp_mono (page_tail l pn V.heap.size (V.heap.size+5) (lItems l f).length _ u' V4 w' G (by omega) hc (by simpa using r0) r1 I hG' hT) ?_⟩
      intro e a w2 h
      cases e with
      | normal=>obtain ⟨h1,v,h2,sv,h3,h4,h5,h6,h7⟩:=h; exact ⟨h1,v,h2,sv,h3,owns_base h4 (by omega),h5.trans hos4,by omega,fun b hb=>(h7 b hb).trans (hold b hb)⟩
      | ret=>obtain ⟨h1,v,h2,sv,h3,h4,h5,h6,h7⟩:=h; exact ⟨h1,v,h2,sv,h3,owns_base h4 (by omega),h5.trans hos4,by omega,fun b hb=>(h7 b hb).trans (hold b hb)⟩
      | panic chain=>obtain ⟨h1,sv,h3,-⟩:=h; cases h3
      | outgrown=>obtain ⟨sv,h3,-⟩:=h; cases h3
      | exit id=>exact h.elim
      | goto l=>exact h.elim
    obtain ⟨e1,a1,w1,⟨rfl,hq1⟩,harr1⟩:=hcode (base 69) [.code (cSnd pgCall)] cs
    obtain ⟨e,a',w',hq,harr2⟩:=hq1 (base 69) [] cs
    have hpre : Steps Tryq.prog (lone (Frame.enter Tryq.prog 69 #[lV l,.int .i64 pn] .normal) cs V) (lone ((base 69).at a1 [.code (cSnd pgCall)]) cs w1):=
      Steps.trans hst (Steps.trans (.one (step_region_end (P:=Tryq.prog) (b:=base 69) (k:=[.code (.block 0 (.loop rcvBody)),.code (cSnd pgCall)]))) harr1)
    cases e with
    | normal=>
      obtain ⟨hd,v,hr,hR⟩:=hq
      exact ⟨.returned v,w',_,.inl hR,Steps.trans hpre (Steps.trans harr2 (.one step_end)),rfl,rfl,hd,rfl,_,Tryq.func69,hr⟩
    | ret=>
      obtain ⟨hd,v,hr,hR⟩:=hq
      obtain ⟨todo,hs⟩:=harr2
      exact ⟨.returned v,w',_,.inl hR,Steps.trans hpre hs,rfl,rfl,hd,rfl,_,Tryq.func69,hr⟩
    | panic chain=>obtain ⟨-,sv,h3,-⟩:=hq; cases h3
    | outgrown=>obtain ⟨sv,h3,-⟩:=hq; cases h3
    | exit id=>exact hq.elim
    | goto l=>exact hq.elim
end Go.Proofs.YtnapepbdohidgaaGreatDoorQ
namespace Go.Proofs.YtnapepbdohidgaaGreatDoorQ
open Go
open Go.Conc Go.ConcX Go.ConcX.Gen Go.RowKit Go.MapKept
abbrev Told:=List (ByteArray×Int×Int)
def plV (x : Int×Int) : Value:=.agg #[.int .i64 x.1,.int .i64 x.2]
def tFind (k : ByteArray) : Told→Option (Int×Int)
  | []=>none
  | (k',x) :: r=>if k=k' then some x else tFind k r
def tPut (k : ByteArray) (x : Int×Int) : Told→Told
  | []=>[(k,x)]
  | (k',x') :: r=>if k=k' then (k,x) :: r else (k',x') :: tPut k x r
def EntL : List MapEntry→Told→Prop
  | [],[]=>True
  | e :: es,(k,x) :: r=>e.key=.string k∧e.val=plV x∧EntL es r
  | _,_=>False
theorem find_now (k : ByteArray) : ∀ (es : List MapEntry) (t : Told) (i : Nat),EntL es t →
    (∃ x j,tFind k t=some x∧j < es.length∧Instr.findNow .string (.string k) es i=some (some (i+j,plV x))∧((es[j]?).map (·.key))=some (.string k)∧∀ (x' : Int×Int) (es' : List MapEntry),es'=es.modify j (fun e=>{ e with key:=.string k,val:=plV x' })→EntL es' (tPut k x' t)) ∨
    (tFind k t=none∧Instr.findNow .string (.string k) es i=some none∧∀ (x' : Int×Int) (n : Nat),EntL (es++[⟨.string k,plV x',n⟩]) (tPut k x' t)):=by
  intro es
  induction es with
  | nil=>
    intro t i h
    cases t with
    | nil=>exact .inr ⟨rfl,rfl,fun x' n=>⟨rfl,rfl,trivial⟩⟩
    | cons a r=>exact h.elim
  | cons e es ih=>
    intro t i h
    cases t with
    | nil=>exact h.elim
    | cons a r=>
      obtain ⟨k',x⟩:=a
      obtain ⟨h1,h2,h3⟩:=h
      by_cases hk : k=k'
      · subst hk
        left
        refine ⟨x,0,by simp [tFind],by simp,?_,by simp [h1],fun x' es' he=>?_⟩
        · simp [Instr.findNow,Instr.sameNow,h1,h2,(bytes_beq k k).2 rfl]
        · subst he
          simp [tPut,EntL,h3]
      · have hs : Instr.findNow .string (.string k) (e :: es) i=Instr.findNow .string (.string k) es (i+1):=by
          have hb : (k == k')=false:=by
            cases h : k == k' with
            | true=>exact absurd ((bytes_beq k k').1 h) hk
            | false=>rfl
          simp [Instr.findNow,Instr.sameNow,h1,hb]
        rcases ih r (i+1) h3 with ⟨y,j,a1,a2,a3,a4,a5⟩ | ⟨a1,a2,a3⟩
        · left
          refine ⟨y,j+1,by simp [tFind,hk,a1],by simp; omega,?_,by simpa using a4,fun x' es' he=>?_⟩
          · rw [hs,a3,show i+1+j=i+(j+1) by omega]
          · subst he
            simp only [tPut,hk,if_false,List.modify_succ_cons,EntL]
            exact ⟨h1,h2,a5 x' _ rfl⟩
        · right
          refine ⟨by simp [tFind,hk,a1],by rw [hs,a2],fun x' n=>?_⟩
          simp only [tPut,hk,if_false,List.cons_append,EntL]
          exact ⟨h1,h2,a3 x' n⟩
def MapAt (w : World) (mv : Value) (t : Told) (A : Nat→Prop) (B : Nat) : Prop:=
  (mv=.map none∧t=[])∨∃ m es clock,mv=.map (some m)∧w.heap[m]?=some (.map es clock)∧EntL es.toList t∧¬A m∧B≤m
theorem check_str (b : Bool) (k : ByteArray) (w : World) : (Instr.checkKey b 10000 9 (.string k)).run Tryq.prog w=.ok () w:=by
  show (Instr.checkKey b (9999+1) 9 (.string k)).run Tryq.prog w=_
  rw [Instr.checkKey]
  simp [go_sem]
theorem zero129 (w : World) : (zeroValue 129).run Tryq.prog w=.ok (plV (0,0)) w:=by kernel_rfl
theorem get_obj {w : World} {m : Nat} {o : Obj} (h : w.heap[m]?=some o) (hc : o.isCells=false) : Sem.run Tryq.prog (getObj m) w=.ok o w:=by
  cases o with
  | cells c e z=>cases hc
  | _=>simp [getObj,Sem.run,h]
theorem set_obj {w : World} {m : Nat} {o o' : Obj} (h : w.heap[m]?=some o) (hc : o.isCells=false) : Sem.run Tryq.prog (setObj m o') w=.ok () (w.putObj m o'):=by
  cases o with
  | cells c e z=>cases hc
  | _=>simp [setObj,Sem.run,h,World.putObj]
theorem lookup_tok {w : World} {mv : Value} {t : Told} {A : Nat→Prop} {B : Nat} (h : MapAt w mv t A B) (k : ByteArray) :
    (Instr.lookup 61 mv (.string k) true).run Tryq.prog w=.ok (.tuple #[plV ((tFind k t).getD (0,0)),.bool (tFind k t).isSome]) w:=by
  have hz:=zero129 w
  rcases h with ⟨rfl,rfl⟩ | ⟨m,es,clock,rfl,hm,he,-,-⟩
  · simp [Instr.lookup,go_sem,check_str,Instr.findKey,Instr.findNow,tFind,plV]
  · rcases find_now k es.toList t 0 he with ⟨x,j,a1,a2,a3,-⟩ | ⟨a1,a2,-⟩
    · simp [Instr.lookup,go_sem,check_str,Instr.findKey,get_obj hm rfl,a1,a3]
    · simp [Instr.lookup,go_sem,check_str,Instr.findKey,get_obj hm rfl,a1,a2,plV]
theorem update_tok {w : World} {m : Nat} {es : Array MapEntry} {clock : Nat} {t : Told} (hm : w.heap[m]?=some (.map es clock)) (he : EntL es.toList t) (k : ByteArray) (x : Int×Int) :
    ∃ es' clock',(Instr.mapUpdate 61 (.map (some m)) (.string k) (plV x)).run Tryq.prog w=.ok () (w.putObj m (.map es' clock'))∧EntL es'.toList (tPut k x t):=by
  rcases find_now k es.toList t 0 he with ⟨y,j,a1,a2,a3,a4,a5⟩ | ⟨a1,a2,a3⟩
  · refine ⟨es.modify j fun e=>{ e with key:=.string k,val:=plV x },clock,?_,a5 x _ (by simp)⟩
    have a4' : (es[j]?).map (·.key)=some (.string k):=by simpa using a4
    simp [Instr.mapUpdate,go_sem,check_str,Instr.findKey,get_obj hm rfl,set_obj hm rfl,a3,a4',Instr.keyThatStays,Instr.sameBits,World.putObj,(bytes_beq k k).2 rfl]
  · refine ⟨es.push ⟨.string k,plV x,clock⟩,clock+1,?_,by simpa using a3 x clock⟩
    simp [Instr.mapUpdate,go_sem,check_str,Instr.findKey,get_obj hm rfl,set_obj hm rfl,a2,World.putObj]
end Go.Proofs.YtnapepbdohidgaaGreatDoorQ
namespace Go.Proofs.YtnapepbdohidgaaGreatDoorQ
open Go
open Go.Conc Go.ConcX Go.ConcX.Gen Go.RowKit
structure LsA where
  num : Int
  f : List UInt8→List Ver
  q : Qy
  size : Int
  left : Int
def LsA.lst (x : LsA) (r : Option Addr) : Lst:=⟨x.num,r,x.q.vs,x.q.p,x.q.d,x.q.af,x.size,x.left⟩
structure Lg where
  opened : List LsA
  begun : Int
  told : Told
def zCells (zs : List (LsA×Option Addr)) : List Value:=zs.flatMap fun z=>(lCells (z.1.lst z.2)).toList
theorem zCells_len (zs : List (LsA×Option Addr)) : (zCells zs).length=zs.length * 8:=flat_len 8 _ (fun _=>rfl) zs
theorem zCells_snoc (zs : List (LsA×Option Addr)) (z : LsA×Option Addr) : zCells (zs++[z])=zCells zs++(lCells (z.1.lst z.2)).toList:=by simp [zCells]
def OpenAt (A : Nat→Prop) (B : Nat) (w : World) (v : Value) (xs : List LsA) : Prop:=
  ∃ zs : List (LsA×Option Addr),xs=zs.map (·.1)∧w.ownsRow B 125 8 v zs.length (zCells zs)∧(∀ g,v.ownBlock=some g→¬A g)∧∀ z∈zs,NodeAt A 41 w z.2 z.1.f
structure LsAt (A : Nat→Prop) (B : Nat) (w : World) (k0 : Nat) (L : Lg) : Prop where
  opened : ∃ v,w.cell? ⟨k0,4,none⟩=some v∧OpenAt A B w v L.opened
  begun : w.cell? ⟨k0,5,none⟩=some (.int .i64 L.begun)
  told : ∃ mv,w.cell? ⟨k0,6,none⟩=some mv∧MapAt w mv L.told A B
  frozen : ∀ j,w.frozen? ⟨k0,j,none⟩=false
  avoid : ¬A k0
  low : k0 < B
  inn : ∀ b,A b→b < w.heap.size
structure DeskR (A : Nat→Prop) (B k0 : Nat) (w w' : World) : Prop where
  os : w'.os=w.os
  size : w.heap.size≤w'.heap.size
  low : ∀ b,b < B→b < w.heap.size→b≠k0→w'.heap[b]?=w.heap[b]?
  tree : ∀ b,A b→b < w.heap.size→w'.heap[b]?=w.heap[b]?
  cells : ∀ j,j < 4∨6 < j→w'.cell? ⟨k0,j,none⟩=w.cell? ⟨k0,j,none⟩
  fz : ∀ j,w'.frozen? ⟨k0,j,none⟩=w.frozen? ⟨k0,j,none⟩
section
variable {A : Nat→Prop} {B k0 : Nat} {w w' w'' : World} {L : Lg}
theorem DeskR.refl : DeskR A B k0 w w:=⟨rfl,Nat.le_refl _,fun _ _ _ _=>rfl,fun _ _ _=>rfl,fun _ _=>rfl,fun _=>rfl⟩
theorem DeskR.trans (h : DeskR A B k0 w w') (k : DeskR A B k0 w' w'') : DeskR A B k0 w w'':=
  ⟨k.os.trans h.os,Nat.le_trans h.size k.size,fun b h1 h2 h3=>(k.low b h1 (Nat.lt_of_lt_of_le h2 h.size) h3).trans (h.low b h1 h2 h3),fun b h1 h2=>(k.tree b h1 (Nat.lt_of_lt_of_le h2 h.size)).trans (h.tree b h1 h2),fun j hj=>(k.cells j hj).trans (h.cells j hj),fun j=>(k.fz j).trans (h.fz j)⟩
theorem LsAt.lt (h : LsAt A B w k0 L) : k0 < w.heap.size:=World.block_lt_of_cell? w _ h.begun
theorem DeskR.left (hk : k0 < w.heap.size) (h : LeftL w w') : DeskR A B k0 w w':=
  ⟨h.os,h.size,fun b _ h2 _=>h.block b h2,fun b _ h2=>h.block b h2,fun j _=>World.cell?_of_block (a:=⟨k0,j,none⟩) (h.block k0 hk),fun j=>World.frozen?_of_block (a:=⟨k0,j,none⟩) (h.block k0 hk)⟩
theorem LeftL.refl : LeftL w w:=⟨rfl,Nat.le_refl _,fun _ _=>rfl⟩
theorem LeftL.trans (h : LeftL w w') (k : LeftL w' w'') : LeftL w w'':=⟨k.os.trans h.os,Nat.le_trans h.size k.size,fun b hb=>(k.block b (Nat.lt_of_lt_of_le hb h.size)).trans (h.block b hb)⟩
theorem LeftL.below (h : Below w.heap.size w w') : LeftL w w':=⟨h.os,h.size,h.block⟩
theorem LeftL.alloc (h : LeftL w w') (o : Obj) : LeftL w (w'.alloc o):=⟨h.os,by have:=h.size; simp; omega,fun b hb=>(Below.heap_alloc _ _ _ (Nat.lt_of_lt_of_le hb h.size)).trans (h.block b hb)⟩
theorem LeftL.drew (h : LeftL w w') : LeftL w w'.drew:=⟨h.os,h.size,h.block⟩
theorem LeftL.cell (h : LeftL w w') {b j : Nat} {v : Value} (hc : w.cell? ⟨b,j,none⟩=some v) : w'.cell? ⟨b,j,none⟩=some v:=
  (World.cell?_of_block (a:=⟨b,j,none⟩) (h.block b (World.block_lt_of_cell? w _ hc))).trans hc
theorem LeftL.set (h : LeftL w w') {b : Nat} (hb : w.heap.size≤b) (j : Nat) (v : Value) : LeftL w (w'.setCell ⟨b,j,none⟩ v):=
  ⟨h.os,by have:=h.size; simp; omega,fun k hk=>(Below.heap_setCell _ _ _ _ (by show k≠b; omega)).trans (h.block k hk)⟩
theorem MapAt.left {mv : Value} {t : Told} (h : MapAt w mv t A B) (hl : LeftL w w') : MapAt w' mv t A B:=by
  rcases h with h | ⟨m,es,clock,h1,h2,h3⟩
  · exact .inl h
  · exact .inr ⟨m,es,clock,h1,(hl.block m (Array.getElem?_eq_some_iff.1 h2).1).trans h2,h3⟩
theorem OpenAt.left {v : Value} {xs : List LsA} (h : OpenAt A B w v xs) (hl : LeftL w w') : OpenAt A B w' v xs:=by
  obtain ⟨zs,h1,h2,h3,h4⟩:=h
  exact ⟨zs,h1,owns_same h2 fun g _ hg=>hl.block g hg,h3,fun z hz=>NodeAt.keep (fun b hb hlt=>⟨hb,hl.block b hlt⟩) 41 _ _ (h4 z hz)⟩
theorem LsAt.left (h : LsAt A B w k0 L) (hl : LeftL w w') : LsAt A B w' k0 L:=by
  obtain ⟨v,c4,ho⟩:=h.opened
  obtain ⟨mv,c6,hm⟩:=h.told
  exact ⟨⟨v,hl.cell c4,ho.left hl⟩,hl.cell h.begun,⟨mv,hl.cell c6,hm.left hl⟩,fun j=>(World.frozen?_of_block (a:=⟨k0,j,none⟩) (hl.block k0 h.lt)).trans (h.frozen j),h.avoid,h.low,fun b hb=>Nat.lt_of_lt_of_le (h.inn b hb) hl.size⟩
theorem putMap {m : Nat} {es es' : Array MapEntry} {clock clock' : Nat} (_hm : w.heap[m]?=some (.map es clock)) (hA : ¬A m) (hB : B≤m) (hk : k0 < B) : DeskR A B k0 w (w.putObj m (.map es' clock')):=by
  have hne : ∀ b,b≠m→(w.putObj m (.map es' clock')).heap[b]?=w.heap[b]?:=fun b hb=>World.putObj_heap_other hb
  exact ⟨rfl,by simp,fun b h1 h2 _=>hne b (by omega),fun b h1 h2=>hne b (fun e=>hA (e ▸ h1)),fun j _=>World.cell?_of_block (a:=⟨k0,j,none⟩) (hne k0 (by omega)),fun j=>World.frozen?_of_block (a:=⟨k0,j,none⟩) (hne k0 (by omega))⟩
theorem LsAt.putMap (h : LsAt A B w k0 L) {m : Nat} {es es' : Array MapEntry} {clock clock' : Nat} (c6 : w.cell? ⟨k0,6,none⟩=some (.map (some m))) (hm : w.heap[m]?=some (.map es clock)) (hA : ¬A m) (hB : B≤m) {t : Told} (he : EntL es'.toList t) : LsAt A B (w.putObj m (.map es' clock')) k0 { L with told:=t }:=by
  have hne : ∀ b,b≠m→(w.putObj m (.map es' clock')).heap[b]?=w.heap[b]?:=fun b hb=>World.putObj_heap_other hb
  have hk:=h.low
  have hce : ∀ j,(w.putObj m (.map es' clock')).cell? ⟨k0,j,none⟩=w.cell? ⟨k0,j,none⟩:=fun j=>World.cell?_of_block (a:=⟨k0,j,none⟩) (hne k0 (by omega))
  obtain ⟨v,c4,zs,h1,h2,h3,h4⟩:=h.opened
  refine ⟨⟨v,(hce 4).trans c4,zs,h1,?_,h3,fun z hz=>NodeAt.keep (fun b hb hlt=>⟨hb,hne b (fun e=>hA (e ▸ hb))⟩) 41 _ _ (h4 z hz)⟩,(hce 5).trans h.begun,⟨_,(hce 6).trans c6,.inr ⟨m,es',clock',rfl,World.putObj_heap_same (Array.getElem?_eq_some_iff.1 hm).1,he,hA,hB⟩⟩,fun j=>(World.frozen?_of_block (a:=⟨k0,j,none⟩) (hne k0 (by omega))).trans (h.frozen j),h.avoid,h.low,fun b hb=>by simpa using h.inn b hb⟩
  refine ⟨h2.1,?_⟩
  rcases h2.2 with h5 | ⟨g,cap,cur,hv,hg,hr,r⟩
  · exact .inl h5
  · refine .inr ⟨g,cap,cur,hv,hg,(hne g fun e=>?_).trans hr,r⟩
    subst e
    rw [hr] at hm
    cases hm
end
def OpenB (k0 : Nat) (w : World) (b : Nat) : Prop:=∃ v,w.cell? ⟨k0,4,none⟩=some v∧v.ownBlock=some b
structure FrC (k0 : Nat) (w w' : World) : Prop where
  size : w.heap.size≤w'.heap.size
  keep : ∀ b,CellB w b→b≠k0→¬OpenB k0 w b→w'.heap[b]?=w.heap[b]?
  own : ∀ b,OpenB k0 w' b→OpenB k0 w b∨w.heap.size≤b
section
variable {k0 : Nat} {w w' w'' : World}
theorem CellB.same {b : Nat} (h : CellB w b) (e : w'.heap[b]?=w.heap[b]?) : CellB w' b:=by
  obtain ⟨o,h1,h2⟩:=h
  exact ⟨o,e.trans h1,h2⟩
theorem FrC.refl : FrC k0 w w:=⟨Nat.le_refl _,fun _ _ _ _=>rfl,fun _ h=>.inl h⟩
theorem FrC.trans (h : FrC k0 w w') (k : FrC k0 w' w'') : FrC k0 w w'':=by
  refine ⟨Nat.le_trans h.size k.size,fun b hb hk ho=>?_,fun b ho=>?_⟩
  · have e:=h.keep b hb hk ho
    refine (k.keep b (hb.same e) hk fun h2=>?_).trans e
    rcases h.own b h2 with h3 | h3
    · exact ho h3
    · have:=hb.lt; omega
  · rcases k.own b ho with h2 | h2
    · exact h.own b h2
    · exact .inr (Nat.le_trans h.size h2)
theorem FrC.same4 (hs : w.heap.size≤w'.heap.size) (h4 : w'.cell? ⟨k0,4,none⟩=w.cell? ⟨k0,4,none⟩) (h : ∀ b,CellB w b→b≠k0→¬OpenB k0 w b→w'.heap[b]?=w.heap[b]?) : FrC k0 w w':=
  ⟨hs,h,fun b ho=>.inl (by obtain ⟨v,h1,h2⟩:=ho; exact ⟨v,h4.symm.trans h1,h2⟩)⟩
theorem FrC.left (hk : k0 < w.heap.size) (h : LeftL w w') : FrC k0 w w':=FrC.same4 h.size (World.cell?_of_block (a:=⟨k0,4,none⟩) (h.block k0 hk)) fun b hb _ _=>h.block b hb.lt
theorem FrC.set (j : Nat) (v : Value) (hj : j≠4) : FrC k0 w (w.setCell ⟨k0,j,none⟩ v):=
  FrC.same4 (by simp) (World.cell?_setCell_other _ _ _ _ (addr_ne hj)) fun b _ hb _=>Below.heap_setCell _ _ _ _ hb
theorem FrC.open {g j : Nat} {v : Value} (ho : OpenB k0 w g) (hg : g≠k0) : FrC k0 w (w.setCell ⟨g,j,none⟩ v):=
  FrC.same4 (by simp) (World.cell?_of_block (a:=⟨k0,4,none⟩) (Below.heap_setCell _ _ _ _ (fun e=>hg e.symm))) fun b _ _ h=>Below.heap_setCell _ _ _ _ (fun e=>h (by rw [show b=g from e]; exact ho))
theorem FrC.fresh {r j : Nat} {v : Value} {W : World} (h : FrC k0 W w) (hr : W.heap.size≤r) (hk : r≠k0) : FrC k0 W (w.setCell ⟨r,j,none⟩ v):=by
  refine ⟨by have:=h.size; simpa using this,fun b hb hbk ho=>(Below.heap_setCell _ _ _ _ (show b≠r by have:=hb.lt; omega)).trans (h.keep b hb hbk ho),fun b ho=>?_⟩
  refine h.own b ?_
  obtain ⟨x,h1,h2⟩:=ho
  exact ⟨x,(World.cell?_of_block (a:=⟨k0,4,none⟩) (Below.heap_setCell _ _ _ _ (fun e=>hk e.symm))).symm.trans h1,h2⟩
theorem FrC.keepC (h : KeepC k0 w w') (h4 : w'.cell? ⟨k0,4,none⟩=w.cell? ⟨k0,4,none⟩) : FrC k0 w w':=
  FrC.same4 h.1 h4 fun b hb hk _=>by
    obtain ⟨o,h1,h2⟩:=hb
    exact (h.2.2 b o h1 h2 hk).trans h1.symm
end
theorem step_mapUpdate {P : Program} {ops : Array Oper} {o : Oper} {a : Act} {w w' : World} {K : Act→World→Prop} {Q : Exit→Act→World→Prop} {E : Prop} (hg : o.guard=none) (t : TypeId) (x y z : Operand) (hop : o.op=.mapUpdate t x y z)
    (hr : (Instr.mapUpdate t (a.eval x) (a.eval y) (a.eval z)).run P w=.ok () w') (hK : K (a.put o.dst undef) w') :
    if Region.wanted o (yielded ops a.tmps)=true then Oper.wp P o a w K Q else E:=by
  have hw : Region.wanted o (yielded ops a.tmps)=true:=by simp [Region.wanted,hg]
  rw [if_pos hw]
  unfold Oper.wp
  simp [execOp,hop,hr,Result.andThen]
  exact hK
theorem map_nil_no (m : Nat) (w : World) : (binOp BinOp.eql 61 (.map (some m)) (.map none)).run Tryq.prog w=.ok (.bool false) w:=by kernel_rfl
theorem map_nil_yes (w : World) : (binOp BinOp.eql 61 (.map none) (.map none)).run Tryq.prog w=.ok (.bool true) w:=by kernel_rfl
section
variable {A : Nat→Prop} {B k0 : Nat} {L : Lg}
theorem DeskR.set {w : World} (hA : ¬A k0) {j : Nat} (hj : 4≤j∧j≤6) (v : Value) : DeskR A B k0 w (w.setCell ⟨k0,j,none⟩ v):=
  ⟨rfl,by simp,fun b _ _ h=>Below.heap_setCell _ _ _ _ h,fun b hb _=>Below.heap_setCell _ _ _ _ (fun e=>hA (by rw [←show b=k0 from e]; exact hb)),fun i hi=>World.cell?_setCell_other _ _ _ _ (addr_ne (by omega)),fun i=>World.frozen?_setCell ..⟩
theorem ownBlock_lt {w : World} {v : Value} {B e size n : Nat} {xs : List Value} (h : w.ownsRow B e size v n xs) {g : Nat} (hg : v.ownBlock=some g) : B≤g∧g < w.heap.size:=h.lt g hg
theorem owns_at {w w' : World} {base : Nat} {e : TypeId} {size : Nat} {v : Value} {n : Nat} {xs : List Value} (h : w.ownsRow base e size v n xs) (hb : ∀ g,v.ownBlock=some g→w'.heap[g]?=w.heap[g]?) : w'.ownsRow base e size v n xs:=by
  refine ⟨h.1,?_⟩
  rcases h.2 with h2 | ⟨g,cap,cur,hv,hg,hr,r⟩
  · exact Or.inl h2
  · exact Or.inr ⟨g,cap,cur,hv,hg,(hb g (by rw [hv]; rfl)).trans hr,r⟩
theorem LsAt.setMap {w : World} (h : LsAt A B w k0 L) {m : Nat} {es : Array MapEntry} {clock : Nat} {t : Told} (hm : w.heap[m]?=some (.map es clock)) (hA : ¬A m) (hB : B≤m) (he : EntL es.toList t) : LsAt A B (w.setCell ⟨k0,6,none⟩ (.map (some m))) k0 { L with told:=t }:=by
  have hk:=h.low
  have hlt:=h.lt
  have hne : ∀ b,b≠k0→(w.setCell ⟨k0,6,none⟩ (.map (some m))).heap[b]?=w.heap[b]?:=fun b hb=>Below.heap_setCell _ _ _ _ hb
  have hce : ∀ j,j≠6→(w.setCell ⟨k0,6,none⟩ (.map (some m))).cell? ⟨k0,j,none⟩=w.cell? ⟨k0,j,none⟩:=fun j hj=>World.cell?_setCell_other _ _ _ _ (addr_ne (by omega))
  obtain ⟨v,c4,zs,h1,h2,h3,h4⟩:=h.opened
  obtain ⟨mv,c6,-⟩:=h.told
  refine ⟨⟨v,(hce 4 (by omega)).trans c4,zs,h1,owns_at h2 (fun g hg=>hne g (by have:=(ownBlock_lt h2 hg).1; omega)),h3,fun z hz=>NodeAt.keep (fun b hb hlt=>⟨hb,hne b (fun e=>h.avoid (e ▸ hb))⟩) 41 _ _ (h4 z hz)⟩,(hce 5 (by omega)).trans h.begun,⟨_,World.cell?_setCell_same' _ _ _ (by rw [c6]; rfl),.inr ⟨m,es,clock,rfl,(hne m (by omega)).trans hm,he,hA,hB⟩⟩,fun j=>by rw [World.frozen?_setCell]; exact h.frozen j,h.avoid,h.low,fun b hb=>by simpa using h.inn b hb⟩
theorem keepC_of {w w' : World} (h : ∀ b,b < w.heap.size→b≠k0→w'.heap[b]?=w.heap[b]?) (hs : w.heap.size≤w'.heap.size) (ho : w'.os=w.os) : KeepC k0 w w':=⟨hs,ho,fun b _o hb _ hk=>(h b (Array.getElem?_eq_some_iff.1 hb).1 hk).trans hb⟩
set_option maxHeartbeats 2000000 in
set_option maxRecDepth 100000 in
theorem keep_ok (w : World) (h : LsAt A B w k0 L) (hB : B≤w.heap.size) (k : ByteArray) (x : Int×Int) :
    Calls Tryq.prog 70 #[.pointer (some ⟨k0,4,none⟩),.string k,plV x] w fun e w'=>e=.returned (.tuple #[])∧LsAt A B w' k0 { L with told:=tPut k x L.told }∧DeskR A B k0 w w'∧KeepC k0 w w'∧∀ j,j≠6→w'.cell? ⟨k0,j,none⟩=w.cell? ⟨k0,j,none⟩:=by
  obtain ⟨mv,c6,hm⟩:=h.told
  have f6:=h.frozen 6
  have hlt:=h.lt
  rcases hm with ⟨rfl,ht⟩ | ⟨m,es,clock,rfl,hm,he,hA,hBm⟩
  · have hb : LeftL w ((w.alloc (.cells #[.int .i64 x.1,.int .i64 x.2] 129)).alloc (.map #[] 0)):=(LeftL.refl.alloc _).alloc _
    have hnew : ((w.alloc (.cells #[.int .i64 x.1,.int .i64 x.2] 129)).alloc (.map #[] 0)).heap[w.heap.size+1]?=some (.map #[] 0):=by
      have:=World.alloc_heap_new (w.alloc (.cells #[.int .i64 x.1,.int .i64 x.2] 129)) (.map #[] 0)
      rwa [World.size_alloc] at this
    have hAn : ¬A (w.heap.size+1):=fun e=>by have:=h.inn _ e; omega
    have h1:=(h.left hb).setMap hnew hAn (by omega) (t:=[]) trivial
    have hw : ((w.alloc (.cells #[.int .i64 x.1,.int .i64 x.2] 129)).alloc (.map #[] 0)).setCell ⟨k0,6,none⟩ (.map (some (w.heap.size+1)))=((w.setCell ⟨k0,6,none⟩ (.map (some (w.heap.size+1)))).alloc (.cells #[.int .i64 x.1,.int .i64 x.2] 129)).alloc (.map #[] 0):=by
      rw [World.setCell_alloc_past _ _ _ _ (by simp; omega),World.setCell_alloc_past _ _ _ _ hlt]
    rw [hw] at h1
    have hd : DeskR A B k0 w (((w.setCell ⟨k0,6,none⟩ (.map (some (w.heap.size+1)))).alloc (.cells #[.int .i64 x.1,.int .i64 x.2] 129)).alloc (.map #[] 0)):=by
      rw [←hw]
      exact (DeskR.left hlt hb).trans (DeskR.set h.avoid ⟨by omega,by omega⟩ _)
    obtain ⟨W,hW⟩ : ∃ W,W=((w.setCell ⟨k0,6,none⟩ (.map (some (w.heap.size+1)))).alloc (.cells #[.int .i64 x.1,.int .i64 x.2] 129)).alloc (.map #[] 0):=⟨_,rfl⟩
    have hm1 : W.drew.heap[w.heap.size+1]?=some (.map #[] 0):=by
      rw [hW,←hw]
      exact (Below.heap_setCell _ _ _ _ (by show w.heap.size+1≠k0; omega)).trans hnew
    rw [←hW] at h1 hd
    obtain ⟨es',clock',hup,he'⟩:=update_tok hm1 (t:=[]) trivial k x
    obtain ⟨mv,k6,-⟩:=h1.told
    have k6' : W.cell? ⟨k0,6,none⟩=some (.map (some (w.heap.size+1))):=by
      rw [hW,←hw]
      exact World.cell?_setCell_same' _ _ _ (by rw [hb.cell c6]; rfl)
    have hLD : LeftL W W.drew:=LeftL.refl.drew
    have HX : Hid (LsAt A B (W.drew.putObj (w.heap.size+1) (.map es' clock')) k0 { L with told:=tPut k x L.told }∧DeskR A B k0 w (W.drew.putObj (w.heap.size+1) (.map es' clock'))∧KeepC k0 w (W.drew.putObj (w.heap.size+1) (.map es' clock'))∧∀ j,j≠6→(W.drew.putObj (w.heap.size+1) (.map es' clock')).cell? ⟨k0,j,none⟩=w.cell? ⟨k0,j,none⟩):=by
      have hkc : KeepC k0 w W:=by
        rw [hW,←hw]
        exact keepC_of (fun b h1 h2=>(Below.heap_setCell _ _ _ _ h2).trans (hb.block b h1)) (by simp; omega) rfl
      refine ⟨?_,(hd.trans (DeskR.left h1.lt hLD)).trans (putMap hm1 hAn (by omega) h.low),hkc.trans (KeepC.trans ⟨Nat.le_refl _,rfl,fun _ _ h _ _=>h⟩ (putObj_keepC hm1 rfl _)),fun j hj=>?_⟩
      rotate_left
      · have e1 : (W.drew.putObj (w.heap.size+1) (.map es' clock')).cell? ⟨k0,j,none⟩=W.drew.cell? ⟨k0,j,none⟩:=World.cell?_of_block (a:=⟨k0,j,none⟩) (World.putObj_heap_other (show k0≠w.heap.size+1 by omega))
        have e2 : W.drew.cell? ⟨k0,j,none⟩=W.cell? ⟨k0,j,none⟩:=rfl
        rw [e1,e2,hW,←hw,World.cell?_setCell_other _ _ _ _ (addr_ne (by omega))]
        exact World.cell?_of_block (a:=⟨k0,j,none⟩) (hb.block k0 hlt)
      have:=(h1.left hLD).putMap (es':=es') (clock':=clock') (hLD.cell k6') hm1 hAn (by omega) (t:=tPut k x []) he'
      rw [ht]
      exact this
    have hn:=map_nil_yes
    have hmm:=@run_makeMap Tryq.prog
    clear h h1 hd hm1 he' hb hw hnew k6 hLD k6'
    subst hW
    unfold plV at hup ⊢
    go_enter Tryq.func70,Tryz.ntmps70
    go_wp2_with fail
    go_region_law (refine step_mapUpdate rfl 61 (.tmp 18) (.tmp 19) (.tmp 20) rfl hup ?_)
    all_goals go_end0
    all_goals exact ⟨rfl,HX.out⟩
  · have hb : LeftL w (w.alloc (.cells #[.int .i64 x.1,.int .i64 x.2] 129)).drew:=(LeftL.refl.alloc _).drew
    have h1:=h.left hb
    obtain ⟨es',clock',hup,he'⟩:=update_tok (w:=(w.alloc (.cells #[.int .i64 x.1,.int .i64 x.2] 129)).drew) ((hb.block m (Array.getElem?_eq_some_iff.1 hm).1).trans hm) he k x
    have HX : Hid (LsAt A B ((w.alloc (.cells #[.int .i64 x.1,.int .i64 x.2] 129)).drew.putObj m (.map es' clock')) k0 { L with told:=tPut k x L.told }∧DeskR A B k0 w ((w.alloc (.cells #[.int .i64 x.1,.int .i64 x.2] 129)).drew.putObj m (.map es' clock'))∧KeepC k0 w ((w.alloc (.cells #[.int .i64 x.1,.int .i64 x.2] 129)).drew.putObj m (.map es' clock'))∧∀ j,j≠6→((w.alloc (.cells #[.int .i64 x.1,.int .i64 x.2] 129)).drew.putObj m (.map es' clock')).cell? ⟨k0,j,none⟩=w.cell? ⟨k0,j,none⟩):=
      ⟨h1.putMap (hb.cell c6) ((hb.block m (Array.getElem?_eq_some_iff.1 hm).1).trans hm) hA hBm he',(DeskR.left hlt hb).trans (putMap ((hb.block m (Array.getElem?_eq_some_iff.1 hm).1).trans hm) hA hBm h.low),(keepC_of (fun b h1 _=>hb.block b h1) hb.size hb.os).trans (putObj_keepC ((hb.block m (Array.getElem?_eq_some_iff.1 hm).1).trans hm) rfl _),fun j _=>(World.cell?_of_block (a:=⟨k0,j,none⟩) (World.putObj_heap_other (by have:=h.low; show k0≠m; omega))).trans (World.cell?_of_block (a:=⟨k0,j,none⟩) (hb.block k0 hlt))⟩
    clear h h1 hm he he' hb
    unfold plV at hup ⊢
    have hn:=map_nil_no m
    go_enter Tryq.func70,Tryz.ntmps70
    go_wp2_with fail
    go_region_law (refine step_mapUpdate rfl 61 (.tmp 18) (.tmp 19) (.tmp 20) rfl hup ?_)
    all_goals go_end0
    all_goals exact ⟨rfl,HX.out⟩
end
end Go.Proofs.YtnapepbdohidgaaGreatDoorQ
namespace Go.Proofs
open Go.Shelf Go.Lib Go.Sort
def Tryq.laysM171_ren : Go.Shelf.Ren:=⟨fun | 171=>121 | 243=>141 | 246=>158 | 283=>167 | 284=>168 | 285=>169 | 286=>170 | 129=>151 | 317=>176 | 318=>177 | 319=>178 | 320=>179 | 337=>182 | 338=>183 | n=>n,fun | 3=>3 | 9=>9 | 2=>2 | 4=>4 | 171=>239 | 0=>0 | 53=>57 | 37=>48 | 5=>5 | 173=>241 | 212=>249 | 51=>222 | 20=>20 | 213=>250 | 46=>199 | 232=>253 | 233=>254 | n=>n,fun | 17=>1 | 18=>2 | 19=>3 | n=>n⟩
def Tryq.lays171_ren : Go.Shelf.Ren:=⟨fun | 171=>121 | 243=>141 | 246=>158 | 283=>167 | 284=>168 | 285=>169 | 286=>170 | 129=>151 | 317=>176 | 318=>177 | 319=>178 | 320=>179 | 337=>182 | 338=>183 | n=>n,fun | 3=>3 | 9=>9 | 2=>2 | 4=>4 | 171=>239 | 0=>0 | 53=>57 | 37=>48 | 5=>5 | 173=>241 | 212=>249 | 51=>222 | 20=>20 | 213=>250 | 46=>199 | 232=>253 | 233=>254 | n=>n,fun | 17=>1 | 18=>2 | 19=>3 | n=>n⟩
theorem Tryq.lays171 : Go.Proofs.Lays.n171 Tryq.prog Tryq.lays171_ren:={
  mixed:=by kernel_rfl
  f129:=Tryq.func151.trans (congrArg some (by kernel_rfl))
  f171:=Tryq.func121.trans (congrArg some (by kernel_rfl))
  f243:=Tryq.func141.trans (congrArg some (by kernel_rfl))
  f246:=Tryq.func158.trans (congrArg some (by kernel_rfl))
  f283:=Tryq.func167.trans (congrArg some (by kernel_rfl))
  f284:=Tryq.func168.trans (congrArg some (by kernel_rfl))
  f285:=Tryq.func169.trans (congrArg some (by kernel_rfl))
  f286:=Tryq.func170.trans (congrArg some (by kernel_rfl))
  f317:=Tryq.func176.trans (congrArg some (by kernel_rfl))
  f318:=Tryq.func177.trans (congrArg some (by kernel_rfl))
  f319:=Tryq.func178.trans (congrArg some (by kernel_rfl))
  f320:=Tryq.func179.trans (congrArg some (by kernel_rfl))
  f337:=Tryq.func182.trans (congrArg some (by kernel_rfl))
  f338:=Tryq.func183.trans (congrArg some (by kernel_rfl))
  t0:=Tryq.underlying0
  a0:=Tryq.isAgg0
  z0:=Tryq.sizeOf0
  v0:=Tryq.zeroValue0
  t2:=Tryq.underlying2
  a2:=Tryq.isAgg2
  z2:=Tryq.sizeOf2
  v2:=Tryq.zeroValue2
  t3:=Tryq.underlying3
  a3:=Tryq.isAgg3
  z3:=Tryq.sizeOf3
  v3:=Tryq.zeroValue3
  t4:=Tryq.underlying4
  a4:=Tryq.isAgg4
  z4:=Tryq.sizeOf4
  v4:=Tryq.zeroValue4
  t5:=Tryq.underlying5
  a5:=Tryq.isAgg5
  z5:=Tryq.sizeOf5
  v5:=Tryq.zeroValue5
  t9:=Tryq.underlying9
  a9:=Tryq.isAgg9
  z9:=Tryq.sizeOf9
  v9:=Tryq.zeroValue9
  t20:=Tryq.underlying20
  a20:=Tryq.isAgg20
  z20:=Tryq.sizeOf20
  v20:=Tryq.zeroValue20
  t37:=Tryq.underlying48
  a37:=Tryq.isAgg48
  z37:=Tryq.sizeOf48
  v37:=Tryq.zeroValue48
  t46:=Tryq.underlying199
  a46:=Tryq.isAgg199
  z46:=Tryq.sizeOf199
  v46:=Tryq.zeroValue199
  t51:=Tryq.underlying222
  a51:=Tryq.isAgg222
  z51:=Tryq.sizeOf222
  v51:=Tryq.zeroValue222
  t53:=Tryq.underlying57
  a53:=Tryq.isAgg57
  z53:=Tryq.sizeOf57
  v53:=Tryq.zeroValue57
  t171:=Tryq.underlying239
  a171:=Tryq.isAgg239
  z171:=Tryq.sizeOf239
  v171:=Tryq.zeroValue239
  t173:=Tryq.underlying241
  a173:=Tryq.isAgg241
  z173:=Tryq.sizeOf241
  v173:=Tryq.zeroValue241
  t212:=Tryq.underlying249
  a212:=Tryq.isAgg249
  z212:=Tryq.sizeOf249
  v212:=Tryq.zeroValue249
  t213:=Tryq.underlying250
  a213:=Tryq.isAgg250
  z213:=Tryq.sizeOf250
  t232:=Tryq.underlying253
  a232:=Tryq.isAgg253
  z232:=Tryq.sizeOf253
  v232:=Tryq.zeroValue253
  t233:=Tryq.underlying254
  a233:=Tryq.isAgg254
  z233:=Tryq.sizeOf254
  v233:=Tryq.zeroValue254
  g17:=by kernel_rfl
  g18:=by kernel_rfl
  g19:=by kernel_rfl }
theorem Tryq.strconv_Itoa_small (i : Nat) (hi : i < 100) (w : World) :
    Calls Tryq.prog 121 #[.int .i64 i] w fun e w'=>e=.returned (.string ⟨(Lib.decDigits i).toArray⟩)∧w'=w:=Any.strconv_Itoa_small Tryq.lays171 i hi w
end Go.Proofs
namespace Go.Proofs.YtnapepbdohidgaaGreatDoorQ
open Go
open Go.Conc Go.ConcX Go.ConcX.Gen Go.RowKit
theorem dec_len {i : Nat} (h : i < 100) : (Lib.decDigits i).length≤2:=by
  rw [Lib.decDigits]
  split
  · simp
  · rw [List.length_append,Lib.decDigits,dif_pos (by omega)]
    simp
theorem itoa_nat (i : Nat) : Lib.itoa (i : Int)=Lib.decDigits i:=by simp [Lib.itoa]
set_option maxHeartbeats 1000000 in
set_option maxRecDepth 100000 in
theorem tok_small (n pg : Nat) (hn : n < 100) (hp : pg < 100) : TokOk (fun _=>True) n pg:=by
  intro l w _ hl
  obtain ⟨num,root,vs,p,d,af,size,left⟩:=l
  simp only at hl
  subst hl
  unfold tokOf
  rw [itoa_nat,itoa_nat]
  have h1:=fun w=>Tryq.strconv_Itoa_small n hn w
  have h2:=fun w=>Tryq.strconv_Itoa_small pg hp w
  have ha:=dec_len hn
  have hb:=dec_len hp
  generalize Lib.decDigits n=a at *
  generalize Lib.decDigits pg=b at *
  unfold lV lCells
  go_enter Tryq.func98,Tryz.ntmps98
  go_wp2_with (first
    | (go_at_call 121; refine (h1 _).mono ?_; clear h1; rintro e w1 ⟨rfl,rfl⟩)
    | (go_at_call 121; refine (h2 _).mono ?_; clear h2; rintro e w2 ⟨rfl,rfl⟩))
  all_goals try (exfalso; rename_i hx; simp [ByteArray.size_append,ByteArray.size,maxLen] at hx; omega)
  go_ret
  refine ⟨?_,(Below.refl _ _).alloc (Nat.le_refl _) _⟩
  have e : (⟨a.toArray⟩ : ByteArray)++⟨#[46]⟩++⟨b.toArray⟩=⟨(a++46 :: b).toArray⟩:=by
    apply ByteArray.ext
    simp
  rw [←e]
  rfl
end Go.Proofs.YtnapepbdohidgaaGreatDoorQ
