/- A part. -/
import Derived.Test.YtnapepbdohidgaaGreatDoorQS21
import Derived.Lib.ItoaNum
import Derived.Shelf.LaysM
import Derived.Shelf.Strconv.Itoa3
import Derived.Conc.LeavingOf
import Derived.Lib.LaidTab
set_option maxHeartbeats 4000000
set_option maxRecDepth 100000
open Go renaming World->Wz,Value->Wq,Program->Wx,TypeId->Wk
namespace Go.Proofs.Qw
section
open Go
open Go.Conc Go.ConcX Go.ConcX.Gen Go.RowKit
theorem zI (t:Nat):Region.schedule (Yq.prog.follows .mixedOrders) Yq.drawOps t=[0,1]\/Region.schedule (Yq.prog.follows .mixedOrders) Yq.drawOps t=[1,0]:=by
 rw [mixed];rcases Nat.mod_two_eq_zero_or_one t with h|h
 .left
  simp [Region.schedule,Region.linearise,Region.linearise.go,Yq.drawOps,List.range,List.range.loop,h,Nat.mod_one]
 .right
  simp [Region.schedule,Region.linearise,Region.linearise.go,Yq.drawOps,List.range,List.range.loop,h,Nat.mod_one]
theorem rM {a:Act}{w:Wz}{c k s q:Nat}{Q:Exit->Act->Wz->Prop}(h17:a.eval (.tmp 17)=.chan (some c))(hsz:a.tmps.size=49)(hrow:w.heap[c]?=some (.chan k #[] true s q false))
  (h:Q .normal ((a.put (some 18) (.tuple #[.agg #[.int .i64 0,.string ⟨#[]⟩,.int .i64 0],.bool false])).put (some 19) (.bool false)) w):(Code.region 5 eh false).wp Yq.prog Q a w:=by
 intro b kk cs;refine ⟨.normal,_,_,h,?_⟩;refine Steps.head step_region ?_;have hr:List.range eh.size=[0,1]:=rfl;rw [hr];obtain ⟨es,hcomm⟩:∃es,stepG Yq.prog true (G (b.at a (.inRegion eh [0,1]::kk)) cs) w=.comm (G (b.at a (.inRegion eh [0,1]::kk)) cs) #[rcase c (.agg #[.int .i64 0,.string ⟨#[]⟩,.int .i64 0])] true (.recv true) w es:=by
  refine iN (o := { dst := some 18, op := .recv 165 (.tmp 17) true, type := 0, pos := "listing.go:108", after := #[], guard := none }) rfl rfl ?_
  have e : execOp a.eval { dst := some 18, op := .recv 165 (.tmp 17) true, type := 0, pos := "listing.go:108", after := #[], guard := none } = (do
   let .chan _ elem ← underlying 165 | stuck "receive: channel type expected"
   pure (.comm #[{chan:=a.eval (.tmp 17),send:=none,zero:=<-zeroValue elem}] true (.recv true))):=rfl
  rw [e,h17];simp [go_sem,rcase]
 have st1:=step_lone_recv_shut true hcomm hrow;rw [Frame.finish_at] at st1;refine Steps.head st1 ?_;have hput:(a.put ((eh[0]?).bind (·.dst)) (got true (.agg #[.int .i64 0,.string ⟨#[]⟩,.int .i64 0]) false))=a.put (some 18) (.tuple #[.agg #[.int .i64 0,.string ⟨#[]⟩,.int .i64 0],.bool false]):=rfl;rw [hput];have h18:(a.put (some 18) (.tuple #[.agg #[.int .i64 0,.string ⟨#[]⟩,.int .i64 0],.bool false])).eval (.tmp 18)=.tuple #[.agg #[.int .i64 0,.string ⟨#[]⟩,.int .i64 0],.bool false]:=by
  simp [Act.put,Act.eval,hsz]
 have st2 := tK (P := Yq.prog) (ops := eh) (a := a.put (some 18) (.tuple #[.agg #[.int .i64 0, .string ⟨#[]⟩, .int .i64 0], .bool false])) (i := 1) (rest := []) (b := b) (k := kk) (cs := cs) (w := w) (w' := w) (v := .bool false) (o := { dst := some 19, op := .extract (.tmp 18) 1, type := 4, pos := "listing.go:108", after := #[{ on := 0, ground := .data }], guard := none }) rfl rfl (by
  have e : execOp (a.put (some 18) (.tuple #[.agg #[.int .i64 0, .string ⟨#[]⟩, .int .i64 0], .bool false])).eval { dst := some 19, op := .extract (.tmp 18) 1, type := 4, pos := "listing.go:108", after := #[{ on := 0, ground := .data }], guard := none } = (do let v ← Instr.extract ((a.put (some 18) (.tuple #[.agg #[.int .i64 0, .string ⟨#[]⟩, .int .i64 0], .bool false])).eval (.tmp 18)) 1; pure (.value v)) := rfl
  rw [e,h18];rfl)
 exact Steps.head st2 (.one step_region_end)
theorem BS (l:Lst)(pn:Int)(n c:Nat)(cnt:Nat)(items:List ItD)(u:Nat->Wq)(w0 w:Wz)(I:PgI w0 w n c items []):
  cw.wp Yq.prog (fun e a w'=>e=.exit 0/\(∃u',a=⟨cJ n l pn c cnt u',[]⟩)/\w'=w) ⟨cJ n l pn c cnt u,[]⟩ w:=by
 obtain ⟨kc,sc,qc,hrow⟩:=I.ch;show (Code.seq (.region 5 eh false) (bM cw)).wp Yq.prog _ _ _;refine wp_seq (rM (c:=c) rfl rfl hrow ?_);clear hrow I;show Code.wp Yq.prog (bM cw) _ _ _;unfold cJ qV sV ptr lV aE;simp only [Act.put];dsimp only [cw,cIn,bm,bK,Tryz.f69,fD,bM,nL,Option.getD];go_wp2_with fail
 exact ⟨fun i=>if i=18 then .tuple #[.agg #[.int .i64 0,.string ⟨#[]⟩,.int .i64 0],.bool false] else if i=19 then .bool false else u i,by simp⟩
theorem xh (l:Lst)(pn:Int)(n c:Nat)(w0:Wz)(hn:n+2<c)(hc:c<w0.heap.size)(hsize:w0.cell? ⟨n,6,none⟩=some (.int .i64 l.size)):
  ∀ (rest:List ItD) (cnt:Nat) (items:List ItD) (u:Nat->Wq) (w:Wz),PgI w0 w n c items (rest.map itVal)->items.length<=cnt->cnt+rest.length<=1000 ->
   Code.rounds Yq.prog cw (fun e a w'=>e=.exit 0/\(∃u',a=⟨cJ n l pn c ((cnt+rest.length:Nat):Int) u',[]⟩)/\PgI w0 w' n c (items++dL l pn cnt rest) []) (rest.length+1) ⟨cJ n l pn c cnt u,[]⟩ w:=by
 intro rest;induction rest with
 |nil=>
  intro cnt items u w I _ _;rw [rounds_succ];refine wp_mono (BS l pn n c cnt items u w0 w I) ?_;rintro e a w' ⟨rfl,⟨u',rfl⟩,rfl⟩;exact ⟨rfl,⟨u',by simp⟩,by simpa [dL] using I⟩
 |cons i r ih=>
  intro cnt items u w I hi hl;have hl:cnt+(r.length+1)<=1000:=hl;rw [lC,rounds_succ];refine wp_mono (rD l pn n c cnt i (r.map itVal) items u w0 w hn hc hsize I (by omega) (by omega)) ?_;rintro e a w1 ⟨rfl,ha,I1⟩;show Code.rounds _ _ _ _ a w1;rw [ha];have h2:=ih (cnt+1) _ (fun i=>a.tmps.getD i undef) w1 I1 (by split<;>(try simp only [lP,lS])<;>omega) (by omega);have e0:(((cnt+1:Nat):Int))=(cnt:Int)+1:=rfl;rw [e0] at h2;have e2:cnt+1+r.length=cnt+(r.length+1):=by omega
  rw [e2] at h2;have e3:(if gC l pn ((cnt:Int)+1) then items++[i] else items)++dL l pn (cnt+1) r=items++dL l pn cnt (i::r):=by
   rw [dL];split<;>simp
  rw [e3] at h2;exact h2
def xi (n pg:Int):ByteArray:=⟨(Lib.itoa n++46::Lib.itoa pg).toArray⟩
def jK (G:Wz->Prop)(n pg:Int):Prop:=∀ (l:Lst)(w:Wz),G w->l.num=n->Calls Yq.prog 98 #[lV l,.int .i64 pg] w fun e w'=>e=.returned (.string (xi n pg))/\Below w.heap.size w w'
def D6 (l:Lst)(pn:Int)(n:Nat):ByteArray:=if IntKind.i64.wrap (pn * l.size)<(n:Int) then xi l.num (IntKind.i64.wrap (pn+1)) else ⟨#[]⟩
structure aj (W W':Wz):Prop where
 os:W'.os=W.os
 size:W.heap.size<=W'.heap.size
 block:∀b,b<W.heap.size->W'.heap[b]?=W.heap[b]?
theorem bc {w w':Wz}{base:Nat}{e:Wk}{size:Nat}{v:Wq}{n:Nat}{xs:List Wq}(h:w.ownsRow base e size v n xs)(hb:∀g,base<=g->g<w.heap.size->w'.heap[g]?=w.heap[g]?):w'.ownsRow base e size v n xs:=by
 refine ⟨h.1,?_⟩;rcases h.2 with h2|⟨g,cap,cur,hv,hg,hr,r⟩
 .exact Or.inl h2
 .exact Or.inr ⟨g,cap,cur,hv,hg,(hb g hg (eS hr).1).trans hr,r⟩
theorem zJ (l:Lst)(pn:Int)(n c:Nat)(cnt:Nat)(items:List ItD)(u:Nat->Wq)(w0 w:Wz)(G:Wz->Prop)(hn:n+2<c)(hc:c<w0.heap.size)(r0:w0.heap[n]?=some (.cells (aE l) 125))(r1:w0.heap[n+1]?=some (.cells #[.slice none 0 0,.string ⟨#[]⟩] 88))(I:PgI w0 w n c items [])(hG:G w)(hT:IntKind.i64.wrap (pn * l.size)<(cnt:Int)->jK G l.num (IntKind.i64.wrap (pn+1))):
  (bM bK).wp Yq.prog (bodyPost Yq.prog Yq.f69 fun e w'=>∃sv,e=.returned (.agg #[sv,.string (D6 l pn cnt)])/\w'.ownsRow w0.heap.size 41 3 sv items.length (ax items)/\(w'.os=w0.os/\w0.heap.size<=w'.heap.size/\∀b,b<n->w'.heap[b]?=w0.heap[b]?)) ⟨cJ n l pn c cnt u,[]⟩ w:=by
 have hl0:n<w.heap.size:=lL (by omega) I.size;have e0:=(I.block n (by omega) (by omega) (by omega)).trans r0;have e1:=(I.block (n+1) (by omega) (by omega) (by omega)).trans r1;obtain ⟨sv,c0,hown⟩:=I.row;have c1:=I.tok;have z0:=I.fz 0;have z1:=I.fz 1;have hbk:Hid (∀k,sv.ownBlock=some k->w0.heap.size<=k):=fun k h=>(hown.lt k h).1
 have HI:Hid (PgI w0 w n c items []/\w.ownsRow w0.heap.size 41 3 sv items.length (ax items)):=⟨I,hown⟩;have d0:w.cell? ⟨n+1,0,none⟩=some (.slice none 0 0):=by simp [World.cell?,e1]
 have d1:w.cell? ⟨n+1,1,none⟩=some (.string ⟨#[]⟩):=by simp [World.cell?,e1]
 have y0:w.frozen? ⟨n+1,0,none⟩=false:=by simp [World.frozen?,e1]
 have y1:w.frozen? ⟨n+1,1,none⟩=false:=by simp [World.frozen?,e1]
 have k0:w.cell? ⟨n,0,none⟩=some (.int .i64 l.num):=by simp [World.cell?,e0,aE]
 have k1:w.cell? ⟨n,1,none⟩=some (.pointer l.root):=by simp [World.cell?,e0,aE]
 have k2:w.cell? ⟨n,2,none⟩=some (.bool l.vs):=by simp [World.cell?,e0,aE]
 have k3:w.cell? ⟨n,3,none⟩=some (.string l.p):=by simp [World.cell?,e0,aE]
 have k4:w.cell? ⟨n,4,none⟩=some (.string l.d):=by simp [World.cell?,e0,aE]
 have k5:w.cell? ⟨n,5,none⟩=some (.string l.af):=by simp [World.cell?,e0,aE]
 have k6:w.cell? ⟨n,6,none⟩=some (.int .i64 l.size):=by simp [World.cell?,e0,aE]
 have k7:w.cell? ⟨n,7,none⟩=some (.int .i64 l.left):=by simp [World.cell?,e0,aE]
 have HTK:Hid (wrap64 (pn * l.size)<(cnt:Int)->Calls Yq.prog 98 #[.agg #[.int .i64 l.num,.pointer l.root,.bool l.vs,.string l.p,.string l.d,.string l.af,.int .i64 l.size,.int .i64 l.left],.int .i64 (wrap64 (pn+1))] w fun e w'=>e=.returned (.string (xi l.num (wrap64 (pn+1))))/\Below w.heap.size w w'):=by
  rw [<-ko,<-ko];exact fun h=>hT h l w hG rfl
 clear I hown e0 e1 r0 r1 hT hG;obtain ⟨so,sn,sc,rfl⟩:∃so sn sc,sv=.slice so sn sc:=by
  rcases HI.out.2.2 with ⟨rfl,-⟩|⟨g,cap,cur,rfl,-⟩
  .exact ⟨_,_,_,rfl⟩
  .exact ⟨_,_,_,rfl⟩
 have hszw:w0.heap.size<=w.heap.size:=HI.out.1.size;have hcw:n+2<w.heap.size:=by omega
 generalize hQ:bodyPost Yq.prog Yq.f69 _=Q;have HQ:Hid (bodyPost Yq.prog Yq.f69 _=Q):=hQ;clear hQ;unfold cJ qV sV ptr lV aE;dsimp only [bm,bK,Tryz.f69,fD,bM,Option.getD];by_cases hlt:wrap64 (pn * l.size)<(cnt:Int)
 .have HT2:=HTK.out hlt;have hpt:D6 l pn cnt=xi l.num (wrap64 (pn+1)):=by rw [D6,ko,ko,if_pos hlt]
  rw [hpt] at HQ;generalize xi l.num (wrap64 (pn+1))=tk at HT2 HQ;clear hpt;go_wp2_with (go_at_call 98;refine HT2.mono ?_;clear HT2;rintro e w1 ⟨rfl,hb1⟩;replace c0:=ak hb1 c0;replace c1:=ak hb1 c1;replace d0:=ak hb1 d0;replace d1:=ak hb1 d1;replace z0:=(hb1.frozen (p:=⟨n+2,0,none⟩) hcw).trans z0;replace z1:=(hb1.frozen (p:=⟨n+2,1,none⟩) hcw).trans z1;replace y0:=(hb1.frozen (p:=⟨n+1,0,none⟩) (by show n+1<_;omega)).trans y0;replace y1:=(hb1.frozen (p:=⟨n+1,1,none⟩) (by show n+1<_;omega)).trans y1)
  rw [<-HQ.out];obtain ⟨I,hown⟩:=HI.out;have hset:∀b,b≠n+1->b≠n+2->(((w1.setCell ⟨n+2,1,none⟩ (.string tk)).setCell ⟨n+1,0,none⟩ (.slice so sn sc)).setCell ⟨n+1,1,none⟩ (.string tk)).heap[b]?=w1.heap[b]?:=fun b h1 h2=>by
   rw [bS _ _ _ _ h1,bS _ _ _ _ h1,bS _ _ _ _ h2]
  refine bodyPost_ret (v:=.agg #[.slice so sn sc,.string tk]) (by simp [results,Tryz.results69,go_sem,d0,d1]) rfl ⟨_,rfl,bc hown fun g h1 h2=>?_,?_,?_,fun b hb=>?_⟩
  .rw [hset g (by omega) (by omega)];exact hb1.block g h2
  .exact hb1.os.trans I.os
  .have:=hb1.size;simp;omega
  .rw [hset b (by omega) (by omega),hb1.block b (by omega)];exact I.block b (by omega) (by omega) (by omega)
 .have hpt:D6 l pn cnt=⟨#[]⟩:=by rw [D6,ko,ko,if_neg hlt]
  rw [hpt] at HQ;clear hpt;go_wp2_with fail
  rw [<-HQ.out];obtain ⟨I,hown⟩:=HI.out;have hset:∀b,b≠n+1->((w.setCell ⟨n+1,0,none⟩ (.slice so sn sc)).setCell ⟨n+1,1,none⟩ (.string ⟨#[]⟩)).heap[b]?=w.heap[b]?:=fun b h1=>by
   rw [bS _ _ _ _ h1,bS _ _ _ _ h1]
  refine bodyPost_ret (v:=.agg #[.slice so sn sc,.string ⟨#[]⟩]) (by simp [results,Tryz.results69,go_sem,d0,d1]) rfl ⟨_,rfl,bc hown fun g h1 h2=>?_,?_,?_,fun b hb=>?_⟩
  .exact hset g (by omega)
  .exact I.os
  .simp;omega
  .rw [hset b (by omega)];exact I.block b (by omega) (by omega) (by omega)
def E6 (V:Wz)(l:Lst)(pn:Int)(its:List ItD)(e:Ending)(w':Wz):Prop:=
 ∃sv,e=.returned (.agg #[sv,.string (D6 l pn its.length)])/\w'.ownsRow V.heap.size 41 3 sv (dL l pn 0 its).length (ax (dL l pn 0 its))/\aj V w'
def Stop (Qok:Qy->Prop)(e:Ending)(w':Wz):Prop:=∃x y r,e=.panicked (stopEntry x y::r)/\∃ls pn L,x=lV ls/\y=.int .i64 pn/\Ew Qok ls L w'
theorem ud (Qok:Qy->Prop)(hQ:∀q,Qok q->gp q/\gq q)(l:Lst)(pn:Int)(f:List UInt8->List Ver)(V:Wz)(hp:E5 Qok l f V)(G:Wz->Prop)(hG:∀w',aj V w'->G w')(hT:IntKind.i64.wrap (pn * l.size)<((lj l f).length:Int)->jK G l.num (IntKind.i64.wrap (pn+1))):
  Calls Yq.prog 69 #[lV l,.int .i64 pn] V fun e w'=>E6 V l pn (lj l f) e w'\/Stop Qok e w':=by
 have hPre:=zH Qok hQ;have hpp:Ew Qok l ((lj l f).map itVal) V:=⟨f,hp,rfl⟩;intro cs;rcases zI (V.tape V.drawn (.order 69 100)) with hs|hs
 .obtain ⟨fr,hst,hm,hd,hf⟩:=qT (lV l) (.int .i64 pn) cs V hs;refine ⟨.panicked [stopEntry (lV l) (.int .i64 pn)],{V with drawn:=V.drawn+1},fr,.inr ⟨_,_,_,rfl,l,pn,_,rfl,rfl,hPre.on V _ l _ (fun _ _=>rfl) (lR _) hpp⟩,hst,hf,hm,hd,_,by rw [hf];exact Yq.func69⟩
 .obtain ⟨V4,hst,hb4,hc4,hos4⟩:=qX hPre l pn _ V cs hpp hs;have hrow:∀i,i<7->i≠5->V4.heap[V.heap.size+i]?=_:=fun i h1 h2=>(hb4 _ (by omega) (by omega)).trans (bQ V l 1000 i h1)
  have r0:=hrow 0 (by omega) (by omega);have r1:=hrow 1 (by omega) (by omega);have r2:=hrow 2 (by omega) (by omega);have hc:V.heap.size+5<V4.heap.size:=(eS hc4).1;have hlen:(lj l f).length<=1000:=by have:=hPre.len l _ V hpp;simpa using this
  have hloop:=xh l pn V.heap.size (V.heap.size+5) V4 (by omega) hc (by simp only [Nat.add_zero] at r0;simp [World.cell?,r0,aE]) (lj l f) 0 [] (fun _=>undef) V4 (rE r2 ⟨_,_,_,hc4⟩) (by simp) (by omega);simp only [zA,List.nil_append] at hloop;have hold:∀b,b<V.heap.size->V4.heap[b]?=V.heap[b]?:=fun b hb=>(hb4 b (by omega) (by omega)).trans (dW V l 1000 hb)
  have hcode:(Code.block 0 (.loop cw)).wp Yq.prog (fun e a w=>e=.normal/\(bM bK).wp Yq.prog (bodyPost Yq.prog Yq.f69 (E6 V l pn (lj l f))) a w) ⟨cJ V.heap.size l pn (V.heap.size+5) 0 (fun _=>undef),[]⟩ V4:=by
   refine wp_block (wp_mono (wp_loop_rounds _ hloop) ?_);rintro e a w' ⟨rfl,⟨u',rfl⟩,I⟩;have hG':G w':=hG w' ⟨I.os.trans hos4,by have:=I.size;omega,fun b hb=>(I.block b (by omega) (by omega) (by omega)).trans (hold b hb)⟩;simp only [Exit.inBlock,if_true];refine ⟨trivial,wp_mono (zJ l pn V.heap.size (V.heap.size+5) (lj l f).length _ u' V4 w' G (by omega) hc (by simpa using r0) r1 I hG' hT) ?_⟩;intro e a w2 h;cases e with
   |normal=>obtain ⟨h1,v,h2,sv,h3,h4,h5,h6,h7⟩:=h;exact ⟨h1,v,h2,sv,h3,jE h4 (by omega),h5.trans hos4,by omega,fun b hb=>(h7 b hb).trans (hold b hb)⟩
   |ret=>obtain ⟨h1,v,h2,sv,h3,h4,h5,h6,h7⟩:=h;exact ⟨h1,v,h2,sv,h3,jE h4 (by omega),h5.trans hos4,by omega,fun b hb=>(h7 b hb).trans (hold b hb)⟩
   |panic chain=>obtain ⟨h1,sv,h3,-⟩:=h;cases h3
   |outgrown=>obtain ⟨sv,h3,-⟩:=h;cases h3
   |exit id=>exact h.elim
   |goto l=>exact h.elim
  obtain ⟨e1,a1,w1,⟨rfl,hq1⟩,harr1⟩:=hcode (base 69) [.code (bM bK)] cs;obtain ⟨e,a',w',hq,harr2⟩:=hq1 (base 69) [] cs;have hpre:Steps Yq.prog (lone (Frame.enter Yq.prog 69 #[lV l,.int .i64 pn] .normal) cs V) (lone ((base 69).at a1 [.code (bM bK)]) cs w1):=
   Steps.trans hst (Steps.trans (.one (step_region_end (P:=Yq.prog) (b:=base 69) (k:=[.code (.block 0 (.loop cw)),.code (bM bK)]))) harr1)
  cases e with
  |normal=>
   obtain ⟨hd,v,hr,hR⟩:=hq;exact ⟨.returned v,w',_,.inl hR,Steps.trans hpre (Steps.trans harr2 (.one step_end)),rfl,rfl,hd,rfl,_,Yq.func69,hr⟩
  |ret=>
   obtain ⟨hd,v,hr,hR⟩:=hq;obtain ⟨todo,hs⟩:=harr2;exact ⟨.returned v,w',_,.inl hR,Steps.trans hpre hs,rfl,rfl,hd,rfl,_,Yq.func69,hr⟩
  |panic chain=>obtain ⟨-,sv,h3,-⟩:=hq;cases h3
  |outgrown=>obtain ⟨sv,h3,-⟩:=hq;cases h3
  |exit id=>exact hq.elim
  |goto l=>exact hq.elim
end
end Go.Proofs.Qw
namespace Go.Proofs
section
open Go.Shelf Go.Lib Go.Sort
def Yq.laysM171_ren:Go.Shelf.Ren:=⟨fun| 171=>121| 243=>141| 246=>158| 283=>167| 284=>168| 285=>169| 286=>170| 129=>151| 317=>176| 318=>177| 319=>178| 320=>179| 337=>182| 338=>183|n=>n,fun| 3=>3| 9=>9| 2=>2| 4=>4| 171=>239| 0=>0| 53=>57| 37=>48| 5=>5| 173=>241| 212=>249| 51=>222| 20=>20| 213=>250| 46=>199| 232=>253| 233=>254|n=>n,fun| 17=>1| 18=>2| 19=>3|n=>n⟩
theorem Yq.laysM171:Go.Proofs.LaysM.n171 Yq.prog Yq.laysM171_ren:={
 mixed:=by kernel_rfl
 f129:=(Yq.nq Tryz.func151).trans (congrArg some (by kernel_rfl))
 f171:=(Yq.nq Tryz.func121).trans (congrArg some (by kernel_rfl))
 f243:=(Yq.nq Tryz.func141).trans (congrArg some (by kernel_rfl))
 f246:=(Yq.nq Tryz.func158).trans (congrArg some (by kernel_rfl))
 f283:=(Yq.nq Tryz.func167).trans (congrArg some (by kernel_rfl))
 f284:=(Yq.nq Tryz.func168).trans (congrArg some (by kernel_rfl))
 f285:=(Yq.nq Tryz.func169).trans (congrArg some (by kernel_rfl))
 f286:=(Yq.nq Tryz.func170).trans (congrArg some (by kernel_rfl))
 f317:=(Yq.nq Tryz.func176).trans (congrArg some (by kernel_rfl))
 f318:=(Yq.nq Tryz.func177).trans (congrArg some (by kernel_rfl))
 f319:=(Yq.nq Tryz.func178).trans (congrArg some (by kernel_rfl))
 f320:=(Yq.nq Tryz.func179).trans (congrArg some (by kernel_rfl))
 f337:=(Yq.nq Tryz.func182).trans (congrArg some (by kernel_rfl))
 f338:=(Yq.nq Tryz.func183).trans (congrArg some (by kernel_rfl))
 t0:=(Yq.u Tryz.underlying0)
 a0:=(fun w=>Yq.a (Tryz.isAgg0 w))
 z0:=(fun w=>Yq.s (Tryz.sizeOf0 w))
 v0:=(fun w=>Yq.z (Tryz.zeroValue0 w))
 t2:=(Yq.u Tryz.underlying2)
 a2:=(fun w=>Yq.a (Tryz.isAgg2 w))
 z2:=(fun w=>Yq.s (Tryz.sizeOf2 w))
 v2:=(fun w=>Yq.z (Tryz.zeroValue2 w))
 t3:=(Yq.u Tryz.underlying3)
 a3:=(fun w=>Yq.a (Tryz.isAgg3 w))
 z3:=(fun w=>Yq.s (Tryz.sizeOf3 w))
 v3:=(fun w=>Yq.z (Tryz.zeroValue3 w))
 t4:=(Yq.u Tryz.underlying4)
 a4:=(fun w=>Yq.a (Tryz.isAgg4 w))
 z4:=(fun w=>Yq.s (Tryz.sizeOf4 w))
 v4:=(fun w=>Yq.z (Tryz.zeroValue4 w))
 t5:=(Yq.u Tryz.underlying5)
 a5:=(fun w=>Yq.a (Tryz.isAgg5 w))
 z5:=(fun w=>Yq.s (Tryz.sizeOf5 w))
 v5:=(fun w=>Yq.z (Tryz.zeroValue5 w))
 t9:=(Yq.u Tryz.underlying9)
 a9:=(fun w=>Yq.a (Tryz.isAgg9 w))
 z9:=(fun w=>Yq.s (Tryz.sizeOf9 w))
 v9:=(fun w=>Yq.z (Tryz.zeroValue9 w))
 t20:=(Yq.u Tryz.underlying20)
 a20:=(fun w=>Yq.a (Tryz.isAgg20 w))
 z20:=(fun w=>Yq.s (Tryz.sizeOf20 w))
 v20:=(fun w=>Yq.z (Tryz.zeroValue20 w))
 t37:=(Yq.u Tryz.underlying48)
 a37:=(fun w=>Yq.a (Tryz.isAgg48 w))
 z37:=(fun w=>Yq.s (Tryz.sizeOf48 w))
 v37:=(fun w=>Yq.z (Tryz.zeroValue48 w))
 t46:=(Yq.u Tryz.underlying199)
 a46:=(fun w=>Yq.a (Tryz.isAgg199 w))
 z46:=(fun w=>Yq.s (Tryz.sizeOf199 w))
 v46:=(fun w=>Yq.z (Tryz.zeroValue199 w))
 t51:=(Yq.u Tryz.underlying222)
 a51:=(fun w=>Yq.a (Tryz.isAgg222 w))
 z51:=(fun w=>Yq.s (Tryz.sizeOf222 w))
 v51:=(fun w=>Yq.z (Tryz.zeroValue222 w))
 t53:=(Yq.u Tryz.underlying57)
 a53:=(fun w=>Yq.a (Tryz.isAgg57 w))
 z53:=(fun w=>Yq.s (Tryz.sizeOf57 w))
 v53:=(fun w=>Yq.z (Tryz.zeroValue57 w))
 t171:=(Yq.u Tryz.underlying239)
 a171:=(fun w=>Yq.a (Tryz.isAgg239 w))
 z171:=(fun w=>Yq.s (Tryz.sizeOf239 w))
 v171:=(fun w=>Yq.z (Tryz.zeroValue239 w))
 t173:=(Yq.u Tryz.underlying241)
 a173:=(fun w=>Yq.a (Tryz.isAgg241 w))
 z173:=(fun w=>Yq.s (Tryz.sizeOf241 w))
 v173:=(fun w=>Yq.z (Tryz.zeroValue241 w))
 t212:=(Yq.u Tryz.underlying249)
 a212:=(fun w=>Yq.a (Tryz.isAgg249 w))
 z212:=(fun w=>Yq.s (Tryz.sizeOf249 w))
 v212:=(fun w=>Yq.z (Tryz.zeroValue249 w))
 t213:=(Yq.u Tryz.underlying250)
 a213:=(fun w=>Yq.a (Tryz.isAgg250 w))
 z213:=(fun w=>Yq.s (Tryz.sizeOf250 w))
 t232:=(Yq.u Tryz.underlying253)
 a232:=(fun w=>Yq.a (Tryz.isAgg253 w))
 z232:=(fun w=>Yq.s (Tryz.sizeOf253 w))
 v232:=(fun w=>Yq.z (Tryz.zeroValue253 w))
 t233:=(Yq.u Tryz.underlying254)
 a233:=(fun w=>Yq.a (Tryz.isAgg254 w))
 z233:=(fun w=>Yq.s (Tryz.sizeOf254 w))
 v233:=(fun w=>Yq.z (Tryz.zeroValue254 w))
 g17:=by kernel_rfl
 g18:=by kernel_rfl
 g19:=by kernel_rfl
 i0:=by kernel_rfl
 i2:=by kernel_rfl
 i3:=by kernel_rfl
 i4:=by kernel_rfl
 i5:=by kernel_rfl
 i9:=by kernel_rfl
 i20:=by kernel_rfl
 i37:=by kernel_rfl
 i46:=by kernel_rfl
 i51:=by kernel_rfl
 i53:=by kernel_rfl
 i171:=by kernel_rfl
 i173:=by kernel_rfl
 i212:=by kernel_rfl
 i232:=by kernel_rfl
 i233:=by kernel_rfl
 m17:=by kernel_rfl
 m18:=by kernel_rfl
 m19:=by kernel_rfl}
theorem Yq.strconv_Itoa (n : Int) (h0 : -9223372036854775808 ≤ n) (h1 : n ≤ 9223372036854775807) (w : Wz) (htab : Lib.TabIs Yq.prog w "internal/strconv.uint64pow10" .u64 Lib.pow10Tab) :
  Calls Yq.prog 121 #[.int .i64 n] w fun e w'=>e=.returned (.string ⟨(Lib.itoa n).toArray⟩)/\∃k os,w'=grow (w.drewN k) os:=Any.strconv_Itoa Yq.laysM171 n h0 h1 w htab
end
end Go.Proofs
namespace Go.Proofs.Qw
section
open Go
open Go.Conc Go.ConcX Go.ConcX.Gen Go.RowKit
theorem BT (i:Nat):Lib.itoa (i:Int)=Lib.decDigits i:=by simp [Lib.itoa]
theorem vo:∀ (k u:Nat),u<10 ^ (k+1)->(Lib.decDigits u).length<=k+1
 | 0,u,h=>by
  rw [Lib.decDigits,dif_pos (by simpa using h)];simp
 |k+1,u,h=>by
  rw [Lib.decDigits];split
  .simp
  .have h1:u / 10<10 ^ (k+1):=by rw [Nat.pow_succ] at h;omega
   have:=vo k (u / 10) h1;rw [lP,lS];omega
theorem vp {n:Int}(h0:0<=n)(h1:n<=9223372036854775807):(Lib.itoa n).length<=19:=by
 obtain ⟨u,rfl⟩:=Int.eq_ofNat_of_zero_le h0;have e:Lib.itoa ((u:Nat):Int)=Lib.decDigits u:=BT u;rw [e];exact vo 18 u (by have:(u:Int)<=9223372036854775807:=h1;omega)
def pT (w : Wz) : Prop := Lib.TabIs Yq.prog w "internal/strconv.uint64pow10" .u64 Lib.pow10Tab
theorem pT.on {w w':Wz}(h:pT w)(hb:∀b,b<w.heap.size->w'.heap[b]?=w.heap[b]?):pT w':=by
 unfold pT Lib.TabIs World.var? at *
 cases hg : Yq.prog.globalNamed "internal/strconv.uint64pow10" with
 |none=>rw [hg] at h;cases h
 |some g=>
  rw [hg] at h;simp only [Option.bind_some] at h ⊢;have hlt:g<w.heap.size:=by
   cases hh:w.heap[g]? with
   |none=>rw [hh] at h;cases h
   |some o=>exact (eS hh).1
  rw [hb g hlt];exact h
theorem oE (w:Wz)(k:Nat)(os:Array Obj):Below w.heap.size w (Sort.grow (w.drewN k) os):=
 ⟨rfl,rfl,rfl,by simp [Sort.grow,World.drewN],fun b hb=>by simp [Sort.grow,World.drewN,Array.getElem?_append_left hb]⟩
theorem D7 (n pg:Int)(hn:0<=n/\n<=9223372036854775807)(hp:0<=pg/\pg<=9223372036854775807):jK pT n pg:=by
 intro l w hG hl;obtain ⟨num,root,vs,p,d,af,size,left⟩:=l;simp only at hl;subst hl;unfold xi;have h1:Hid (∀W,Below w.heap.size w W->Calls Yq.prog 121 #[.int .i64 num] W fun e w'=>e=.returned (.string ⟨(Lib.itoa num).toArray⟩)/\Below W.heap.size W w'):=fun W hb=>by
  refine (Yq.strconv_Itoa num (by omega) hn.2 W (hG.on hb.block)).mono ?_;rintro e w' ⟨rfl,k,os,rfl⟩;exact ⟨rfl,oE W k os⟩
 have h2:Hid (∀W,Below w.heap.size w W->Calls Yq.prog 121 #[.int .i64 pg] W fun e w'=>e=.returned (.string ⟨(Lib.itoa pg).toArray⟩)/\Below W.heap.size W w'):=fun W hb=>by
  refine (Yq.strconv_Itoa pg (by omega) hp.2 W (hG.on hb.block)).mono ?_;rintro e w' ⟨rfl,k,os,rfl⟩;exact ⟨rfl,oE W k os⟩
 have ha:=vp hn.1 hn.2;have hb:=vp hp.1 hp.2;generalize Lib.itoa num=a at *;generalize Lib.itoa pg=b at *;have HW:Hid (∀c,Below w.heap.size w (w.alloc c)):=fun c=>(bR _ _).alloc (lR _) _
 clear hG hn hp;unfold lV aE;go_enter (Yq.nq Tryz.func98),Tryz.ntmps98;go_wp2_with fail
 refine (h1.out _ (HW.out _)).mono ?_;rintro e w1 ⟨rfl,b1⟩;have HB1:Hid (Below w.heap.size w w1):=(HW.out _).trans (b1.mono (by simp));clear b1;go_wp2_with fail
 all_goals try (exfalso;rename_i hx;simp [ByteArray.size_append,ByteArray.size,maxLen] at hx;omega)
 refine (h2.out _ HB1.out).mono ?_;rintro e w2 ⟨rfl,b2⟩;have HB2:Hid (Below w.heap.size w w2):=HB1.out.trans (b2.mono HB1.out.size);clear b2;go_wp2_with fail
 all_goals try (exfalso;rename_i hx;simp [ByteArray.size_append,ByteArray.size,maxLen] at hx;omega)
 go_ret;refine ⟨?_,HB2.out⟩;have e:(⟨a.toArray⟩:ByteArray)++⟨#[46]⟩++⟨b.toArray⟩=⟨(a++46::b).toArray⟩:=by
  apply ByteArray.ext;simp
 rw [<-e];rfl
end
section
open Go
open Go.RowKit
open Go.Conc Go.ConcX Go.ConcX.Gen
def E7 (P:Wx)(u:Wk):Bool:=match P.underlying u with|some (.int _)=>true|_=>false
theorem BU {P:Wx}{w:Wz}{r:_root_.Go.Reach}{base:Nat}{u:Wk}{v:Wq}(hu:E7 P u=true)(h:Cell.ok P w r base u v):lr v=true:=by
 unfold E7 at hu;unfold Cell.ok at h;cases hx:P.underlying u with
 |none=>rw [hx] at hu;cases hu
 |some t=>
  rw [hx] at hu h;cases t<;>first|(cases hu;done)|skip
  cases v<;>first|rfl|(exact h.elim)
theorem D8 {P:Wx}{w:Wz}{t:Wk}{cs:Array Wq}(ht:(P.cellTypes P.depth t).map (fun ts=>ts.all (E7 P))=some true)(h:Row.ok P w .any 0 t cs):∀ (i:Nat) v,cs[i]?=some v->lr v=true:=by
 obtain ⟨ts,h1,-,h3⟩:=h;rw [h1] at ht;have ht':ts.all (E7 P)=true:=oJ ht;intro i v hv;obtain ⟨u,hu,hc⟩:=h3 i v hv;exact BU (List.all_eq_true.1 ht' u (List.mem_of_getElem? hu)) hc
theorem BV {α β:Type}{x:Option (α×β)}{t:β}(h:x.map (·.2)=some t):∃z,x=some (z,t):=by
 cases x with
 |none=>cases h
 |some a=>obtain ⟨z,y⟩:=a;cases h;exact ⟨z,rfl⟩
theorem rN {W:Wz}(h:W.ShapedOpen Tryz.prog):∀b,b<Tryz.prog.globals.size->∃c e z,W.heap[b]?=some (.cells c e z)/\∀ (i:Nat) v,c[i]?=some v->lr v=true:=by
 have hg:Tryz.prog.globals.size=4:=by kernel_rfl
 intro b hb;have key:∀t,((((begin Tryz.prog (fun _ _=>0) default).world.heap[b]?).bind Obj.row?).map (·.2)=some t)->(Tryz.prog.cellTypes Tryz.prog.depth t).map (fun ts=>ts.all (E7 Tryz.prog))=some true->Tryz.prog.buildable t=true->∃c e z,W.heap[b]?=some (.cells c e z)/\∀ (i:Nat) v,c[i]?=some v->lr v=true:=fun t h1 h2 h3=>by
  obtain ⟨z,hz⟩:=BV h1;obtain ⟨cs,e1,-,e3⟩:=h.1 b z t hb hz;exact ⟨cs,t,(0,0),e1,D8 h2 (e3 h3)⟩
 rw [hg] at hb;have hb4:b=0\/b=1\/b=2\/b=3:=by omega
 rcases hb4 with rfl|rfl|rfl|rfl
 .exact key 3 (by kernel_rfl) (by kernel_rfl) (by kernel_rfl)
 .exact key 249 (by kernel_rfl) (by kernel_rfl) (by kernel_rfl)
 .exact key 253 (by kernel_rfl) (by kernel_rfl) (by kernel_rfl)
 .exact key 254 (by kernel_rfl) (by kernel_rfl) (by kernel_rfl)
theorem BW {W:Wz}(h:W.ShapedOpen Tryz.prog){X:Nat->Prop}(hX:∀b,X b->∃c e z,W.heap[b]?=some (.cells c e z)):Start W (fun b=>b<Tryz.prog.globals.size\/X b):=
 ⟨fun b hb=>by
  rcases hb with hb|hb
  .obtain ⟨c,e,z,h1,-⟩:=rN h b hb;exact ⟨c,e,z,h1⟩
  .exact hX b hb,fun g hg=>.inl hg⟩
theorem Clean.glob {W V:Wz}{D0:Nat->Prop}(hc:Clean D0 W V)(h:W.ShapedOpen Tryz.prog):∀b,b<Tryz.prog.globals.size->V.heap[b]?=W.heap[b]?:=fun b hb=>by
 by_cases hd:D0 b
 .obtain ⟨c,e,z,h1,h2⟩:=rN h b hb;obtain ⟨c',c0,e',z',k1,k2,k3,k4⟩:=hc.row b hd;rw [h1] at k1;cases k1;rw [h1,k2];refine congrArg (fun x=>some (Obj.cells x e z)) (Array.ext_getElem? fun i=>?_);by_cases hi:i<c.size
  .obtain ⟨u,q1,q2⟩:=k4 i _ (eG hi);rw [q1,q2.one (h2 i _ (eG hi)),eG hi]
  .rw [Array.getElem?_eq_none (by rw [k3];omega),Array.getElem?_eq_none (by omega)]
 .exact hc.rest b hd
theorem D9 {W:Wz}(h:W.ShapedOpen Tryz.prog):cM W:=by
 have hg:0<Tryz.prog.globals.size:=jd;have h1:(((begin Tryz.prog (fun _ _=>0) default).world.heap[0]?).bind Obj.row?).map (fun x=>(x.1.size,x.2))=some (1,3):=by kernel_rfl
 have hu:Tryz.prog.underlying 3=some (.int .i64):=Tryz.underlying3;cases hx:((begin Tryz.prog (fun _ _=>0) default).world.heap[0]?).bind Obj.row? with
 |none=>rw [hx] at h1;cases h1
 |some x=>
  obtain ⟨z,t⟩:=x;rw [hx] at h1;simp only [Option.map_some,oI,Prod.mk.injEq] at h1;obtain ⟨hz,rfl⟩:=h1;obtain ⟨cs,e1,e2,e3⟩:=h.1 0 z 3 hg hx;obtain ⟨ts,k1,-,k3⟩:=e3 (by kernel_rfl);have hs:cs.size=1:=by omega
  have hts:ts=[3]:=oJ (k1.symm.trans (show Tryz.prog.cellTypes Tryz.prog.depth 3=some [3] by kernel_rfl));subst hts;obtain ⟨u,hu1,hc⟩:=k3 0 cs[0] (eG (by omega));simp at hu1;subst hu1;unfold Cell.ok at hc;rw [hu] at hc;have hcell:W.cell? ⟨0,0,none⟩=some cs[0]:=by simp [World.cell?,e1]
  generalize cs[0]=v at *;cases v<;>first|(exact hc.elim)|skip
  rename_i k m;obtain ⟨rfl,-⟩:=hc;exact ⟨m,hcell⟩
theorem cM.glob {W V:Wz}(h:cM W)(hb:∀b,b<Tryz.prog.globals.size->V.heap[b]?=W.heap[b]?):cM V:=by
 obtain ⟨m,hm⟩:=h;exact ⟨m,(cB (a:=⟨0,0,none⟩) (hb 0 jd)).trans hm⟩
theorem ra.frame {W w':Wz}(h:ra W w')(may:MemPlace->Prop):W.keptBut w' may:=by
 refine ⟨h.os,h.output,fun i hi=>?_⟩;rw [h.block i hi];split<;>simp_all
theorem ra.trod {H:Type}{enc:Wk×Wq->H}{P:Wx}{t:Wk}(hl:laidOutB P=true)(hr:P.readableRec t=true)(hrow:t<P.types.size){W W':Wz}{v:Wq}{d:DataW H}{ps:List MemPlace}(h:DataW.Trod enc P W 0 (fun _=>true) true t v d ps)(hb:ra W W')(hlt:∀x∈ps,x.block<W.heap.size):DataW.Trod enc P W' 0 (fun b=>decide (b<W.heap.size)) true t v d ps:=by
 have:=Below.trod (W':={W' with tape:=W.tape}) hl hr hrow h ⟨hb.os,rfl,hb.output,hb.size,hb.block⟩ hlt;exact DataW.Trod.of_heap (w:={W' with tape:=W.tape}) (w':=W') rfl this
theorem ll {P:Wx}{w:Wz}{x:String×DataW Unit}{l:List (String×DataW Unit)}(h:laidMet P (x::l) w):laidMet P l w:=by
 obtain ⟨ps,⟨g,t,cs,fuel,p,q,-,-,-,-,hq,rfl⟩,hn,hm⟩:=h;exact ⟨q,hq,(List.nodup_append.1 hn).2.1,fun b off hb=>hm b off (List.mem_append_right _ hb)⟩
end
section
open Go.RowKit
def dR (st:St)(key:ByteArray)(n:Int):Ver×Int:=
 if aY key=false then (dE,2)
 else match dP (st.f key.data.toList) n with
  |none=>(dE,5)
  |some r=>match (st.f key.data.toList)[r]? with
   |none=>(dE,5)
   |some v=>if v.mark then (dE,6) else (v,0)
structure E8 (w W0:Wz):Prop where
 below:Below w.heap.size w W0
 c0:W0.cell? ⟨w.heap.size,0,none⟩=some (.int .i64 0)
 c1:W0.cell? ⟨w.heap.size,1,none⟩=some (.string ⟨#[]⟩)
 c2:W0.cell? ⟨w.heap.size,2,none⟩=some (.bool false)
 fz:∀j,W0.frozen? ⟨w.heap.size,j,none⟩=false
theorem FU (w:Wz):E8 w (w.alloc (.cells #[.int .i64 0,.string ⟨#[]⟩,.bool false] 81)):=
 ⟨(bR _ w).alloc (lR _) _,by rw [cA (w:=w) _ _ w.heap.size 0 rfl];rfl,by rw [cA (w:=w) _ _ w.heap.size 1 rfl];rfl,by rw [cA (w:=w) _ _ w.heap.size 2 rfl];rfl,fun j=>World.frozen?_alloc_at (w:=w) _ _ w.heap.size j rfl⟩
theorem E8.on {w W0 w1:Wz}(h:E8 w W0)(hb:Below W0.heap.size W0 w1):E8 w w1:=
 ⟨h.below.trans (hb.mono h.below.size),ak hb h.c0,ak hb h.c1,ak hb h.c2,fun j=>(hb.frozen (p:=⟨w.heap.size,j,none⟩) (show w.heap.size<W0.heap.size from bC W0 ⟨w.heap.size,0,none⟩ h.c0)).trans (h.fz j)⟩
theorem zK (A:Nat->Prop)(k0:Nat)(st:St)(s:Nat)(key:ByteArray)(n:Int)(w:Wz)(hk:key.size<=maxLen)(S:az A w k0 st)(hI:Inv st s)(hs:s<=2199023255552):
  Calls Yq.prog 37 #[.pointer (some ⟨k0,0,none⟩),.string key,.int .i64 n] w fun e w'=>e=.returned (.tuple #[bV (dR st key n).1,.int .i64 (dR st key n).2])/\Below w.heap.size w w':=by
 have R0:=FU w;have HF:=rB A k0 st s key n _ hk (S.on R0.below) hI hs;have HR0:Hid (E8 w (w.alloc (.cells #[.int .i64 0,.string ⟨#[]⟩,.bool false] 81))):=R0;have hle:=hI.len key.data.toList;clear R0 S;go_enter (Yq.nq Tryz.func37),Tryz.ntmps37;go_wp2_with fail
 refine HF.mono ?_;generalize w.alloc (.cells #[.int .i64 0,.string ⟨#[]⟩,.bool false] 81)=W0 at *;rintro e w1 ⟨hb1,hcase⟩;have R1:=HR0.out.on hb1;have d0:=R1.c0;have d1:=R1.c1;have d2:=R1.c2;have g0:=R1.fz 0;have g1:=R1.fz 1;have g2:=R1.fz 2;have HB:Hid (Below w.heap.size w w1):=R1.below;clear R1 HR0 HF hb1;rcases hcase with ⟨hkey,rfl⟩|⟨hkey,hpl,rfl⟩|⟨hkey,r,ha,hc,hpl,hr,hh,rfl⟩
 .have HR:Hid (dR st key n=(dE,2)):=show dR st key n=(dE,2) by simp [dR,hkey]
  clear hkey;go_wp2;refine bodyPost_ret (v:=.tuple #[bV (dR st key n).1,.int .i64 (dR st key n).2]) (by rw [HR.out];simp [results,Tryz.results37,go_sem,bV,dE,d0,d1,d2]) rfl ⟨rfl,?_⟩;exact ((HB.out.setCell (lR _) _).setCell (lR _) _).setCell (lR _) _
 .have HR:Hid (dR st key n=(dE,5)):=show dR st key n=(dE,5) by simp [dR,hkey,hpl]
  clear hkey hpl;go_wp2;refine bodyPost_ret (v:=.tuple #[bV (dR st key n).1,.int .i64 (dR st key n).2]) (by rw [HR.out];simp [results,Tryz.results37,go_sem,bV,dE,d0,d1,d2]) rfl ⟨rfl,?_⟩;exact ((HB.out.setCell (lR _) _).setCell (lR _) _).setCell (lR _) _
 .have hne:st.f key.data.toList≠[]:=by intro e;rw [e] at hr;simp at hr
  obtain ⟨g,cap,he,-,-,hcc,-⟩:=hh.cells hne;cases he;obtain ⟨x0,x1,x2⟩:=hcc r hr;have HR:Hid (dR st key n=if (st.f key.data.toList)[r].mark then (dE,6) else ((st.f key.data.toList)[r],0)):=show dR st key n=_ by simp [dR,hkey,hpl,hr]
  generalize (st.f key.data.toList)[r]=v at *;obtain ⟨nm,bd,mk⟩:=v;simp only at x0 x1 x2;clear hcc hh hkey hpl hne;generalize (st.f key.data.toList).length=m at *;have hri:(r:Int)<(m:Int):=by omega
  cases mk with
  |true=>
   go_wp2;refine bodyPost_ret (v:=.tuple #[bV (dR st key n).1,.int .i64 (dR st key n).2]) (by rw [HR.out];simp [results,Tryz.results37,go_sem,bV,dE,d0,d1,d2]) rfl ⟨rfl,?_⟩;exact ((HB.out.setCell (lR _) _).setCell (lR _) _).setCell (lR _) _
  |false=>
   go_wp2;refine bodyPost_ret (v:=.tuple #[bV (dR st key n).1,.int .i64 (dR st key n).2]) (by rw [HR.out];simp [results,Tryz.results37,go_sem,bV,d0,d1,d2]) rfl ⟨rfl,?_⟩;exact ((HB.out.setCell (lR _) _).setCell (lR _) _).setCell (lR _) _
structure jP (w W0:Wz):Prop where
 below:Below w.heap.size w W0
 lt:w.heap.size+1<W0.heap.size
 c0:W0.cell? ⟨w.heap.size+1,0,none⟩=some (.int .i64 0)
 c1:W0.cell? ⟨w.heap.size+1,1,none⟩=some (.int .i64 0)
 c2:W0.cell? ⟨w.heap.size+1,2,none⟩=some (.string ⟨#[]⟩)
 c3:W0.cell? ⟨w.heap.size+1,3,none⟩=some (.slice none 0 0)
 c4:W0.cell? ⟨w.heap.size+1,4,none⟩=some (.string ⟨#[]⟩)
 fz:∀j,W0.frozen? ⟨w.heap.size+1,j,none⟩=false
theorem E9 (w:Wz)(cs:Array Wq):jP w ((w.alloc (.cells cs 31)).alloc (.cells #[.int .i64 0,.int .i64 0,.string ⟨#[]⟩,.slice none 0 0,.string ⟨#[]⟩] 36)):=by
 have h:∀j,((w.alloc (.cells cs 31)).alloc (.cells #[.int .i64 0,.int .i64 0,.string ⟨#[]⟩,.slice none 0 0,.string ⟨#[]⟩] 36)).cell? ⟨w.heap.size+1,j,none⟩=(#[.int .i64 0,.int .i64 0,.string ⟨#[]⟩,.slice none 0 0,.string ⟨#[]⟩]:Array Wq)[j]?:=fun j=>
  cA (w:=w.alloc (.cells cs 31)) _ _ (w.heap.size+1) j (by simp)
 refine ⟨((bR _ w).alloc (lR _) _).alloc (by simp) _,by simp,h 0,h 1,h 2,h 3,h 4,fun j=>World.frozen?_alloc_at (w:=w.alloc (.cells cs 31)) _ _ (w.heap.size+1) j (by simp)⟩
theorem jP.on {w W0 w1:Wz}{k0:Nat}(h:jP w W0)(hk:k0<w.heap.size)(hg:W0.grownBy w1 (some k0)):
  (w1.cell? ⟨w.heap.size+1,0,none⟩=some (.int .i64 0)/\w1.cell? ⟨w.heap.size+1,1,none⟩=some (.int .i64 0)/\w1.cell? ⟨w.heap.size+1,2,none⟩=some (.string ⟨#[]⟩)/\w1.cell? ⟨w.heap.size+1,3,none⟩=some (.slice none 0 0)/\w1.cell? ⟨w.heap.size+1,4,none⟩=some (.string ⟨#[]⟩)) /\
  (w1.frozen? ⟨w.heap.size+1,0,none⟩=false/\w1.frozen? ⟨w.heap.size+1,1,none⟩=false/\w1.frozen? ⟨w.heap.size+1,2,none⟩=false/\w1.frozen? ⟨w.heap.size+1,3,none⟩=false/\w1.frozen? ⟨w.heap.size+1,4,none⟩=false):=by
 have hne:∀o,some (⟨w.heap.size+1,o,none⟩:Addr).block≠some k0:=fun o e=>by simp at e;omega
 have hf:∀j,w1.frozen? ⟨w.heap.size+1,j,none⟩=false:=fun j=>(fi hg ⟨w.heap.size+1,j,none⟩ h.lt (hne j)).trans (h.fz j)
 exact ⟨⟨hg.cell h.c0 (hne 0),hg.cell h.c1 (hne 1),hg.cell h.c2 (hne 2),hg.cell h.c3 (hne 3),hg.cell h.c4 (hne 4)⟩,hf 0,hf 1,hf 2,hf 3,hf 4⟩
theorem jP.drew {w W0:Wz}(h:jP w W0):jP w W0.drew:=⟨h.below.drew,h.lt,h.c0,h.c1,h.c2,h.c3,h.c4,h.fz⟩
def put5 (w1:Wz)(b:Nat)(x0 x1 x2 x3 x4:Wq):Wz:=((((w1.setCell ⟨b,0,none⟩ x0).setCell ⟨b,1,none⟩ x1).setCell ⟨b,2,none⟩ x2).setCell ⟨b,3,none⟩ x3).setCell ⟨b,4,none⟩ x4
theorem np {A:Nat->Prop}{w W0 w1:Wz}{k0:Nat}{st':St}{v:Wq}(hk:k0<w.heap.size)(ha:∀b,A b->b≠k0)(hW:Below w.heap.size w W0)(hlt:w.heap.size+1<W0.heap.size)(S1:az (Grow (fun b=>A b/\b<w.heap.size) W0) w1 k0 st')(hg:cy W0 w1 k0)(x0 x1 x2 x3 x4:Wq):
  dh A w k0 st' v (.returned v) (put5 w1 (w.heap.size+1) x0 x1 x2 x3 x4):=by
 have hne:w.heap.size+1≠k0:=by omega
 have hg1:cy w w1 k0:=pL (dQ hk hW) hg;refine ⟨rfl,?_,?_⟩
 .obtain ⟨p,C,hN⟩:=S1.cells;unfold put5;refine fP (p:=p) (((((C.far _ _ _ hne).far _ _ _ hne).far _ _ _ hne).far _ _ _ hne).far _ _ _ hne) ?_ (fQ ha hk);refine ai.keep (fun b hb _=>?_) 41 p st'.f hN;have hb1:b≠w.heap.size+1:=by
   rcases hb with ⟨⟨_,h⟩,_⟩|h<;>omega
  have hb2:Grow A w b:=by
   rcases hb with ⟨⟨h1,h2⟩,_⟩|h
   .exact Or.inl ⟨h1,h2⟩
   .exact Or.inr (by omega)
  refine ⟨hb2,?_⟩;rw [bS _ _ _ _ hb1,bS _ _ _ _ hb1,bS _ _ _ _ hb1,bS _ _ _ _ hb1,bS _ _ _ _ hb1]
 .unfold put5;exact rC (rC (rC (rC (rC hg1 (by omega) _ _) (by omega) _ _) (by omega) _ _) (by omega) _ _) (by omega) _ _
theorem az.cut {A:Nat->Prop}{w W0:Wz}{k0:Nat}{st:St}(S:az A w k0 st)(hW:Below w.heap.size w W0):az (fun b=>A b/\b<w.heap.size) W0 k0 st:=by
 obtain ⟨p,C,hN⟩:=S.cells;exact fP (p:=p) (C.on hW) (ai.keep (fun b h1 h2=>⟨⟨h1,h2⟩,hW.block b h2⟩) 41 p st.f hN) (fun b h=>S.avoid b h.1)
theorem xj (A:Nat->Prop)(k0:Nat)(st:St)(s:Nat)(o:OpD)(w:Wz)(hk:o.key.size<=maxLen)(hbd:o.body.size<=maxLen)(S:az A w k0 st)(hI:Inv st s)(hs:s<2199023255552)(hkind:o.kind=1):
  Calls Yq.prog 33 #[.pointer (some ⟨k0,0,none⟩),cP o] w (dh A w k0 (oC st o.key o.body).1 (dk ⟨(oC st o.key o.body).2.2,(oC st o.key o.body).2.1,⟨#[]⟩⟩)):=by
 obtain ⟨kind,key,body,delim,past,n,src⟩:=o;simp only at hkind hk hbd;subst hkind;have R0:=(E9 w #[.int .i64 1,.string key,.string body,.string delim,.string past,.int .i64 n,.int .i64 src]).drew;have HC:=BQ _ k0 st s key body _ hk hbd (S.cut R0.below) hI hs;have HS:Hid (k0<w.heap.size/\∀b,A b->b≠k0):=⟨S.lt,S.avoid⟩;have HR0:Hid (jP w ((w.alloc (.cells #[.int .i64 1,.string key,.string body,.string delim,.string past,.int .i64 n,.int .i64 src] 31)).alloc (.cells #[.int .i64 0,.int .i64 0,.string ⟨#[]⟩,.slice none 0 0,.string ⟨#[]⟩] 36)).drew):=R0;clear R0 S;simp only [cP];generalize oC st key body=pr at *;go_enter (Yq.nq Tryz.func33),Tryz.ntmps33;go_wp2_with fail
 go_region_with (go_at_call 35;refine HC.mono ?_;rintro e w1 ⟨rfl,S1,hg1⟩;obtain ⟨⟨d0,d1,d2,d3,d4⟩,g0,g1,g2,g3,g4⟩:=HR0.out.on HS.out.1 hg1.g;have HX:Hid (_/\_):=And.intro S1 hg1;clear S1 hg1 HC)
 all_goals
  go_wp2;refine bodyPost_ret (v:=dk ⟨pr.2.2,pr.2.1,⟨#[]⟩⟩) (by simp [results,Tryz.results33,go_sem,dk,d0,d1,d2,d3,d4]) rfl ?_;exact np HS.out.1 HS.out.2 HR0.out.below HR0.out.lt HX.out.1 HX.out.2 _ _ _ _ _
theorem ue (A:Nat->Prop)(k0:Nat)(st:St)(s:Nat)(o:OpD)(w:Wz)(hk:o.key.size<=maxLen)(S:az A w k0 st)(hI:Inv st s)(hs:s<2199023255552)(hkind:o.kind=4):
  Calls Yq.prog 33 #[.pointer (some ⟨k0,0,none⟩),cP o] w (dh A w k0 (gG st o.key).1 (dk ⟨(gG st o.key).2.2,(gG st o.key).2.1,⟨#[]⟩⟩)):=by
 obtain ⟨kind,key,body,delim,past,n,src⟩:=o;simp only at hkind hk;subst hkind;have R0:=(E9 w #[.int .i64 4,.string key,.string body,.string delim,.string past,.int .i64 n,.int .i64 src]).drew;have HC:=zF _ k0 st s key _ hk (S.cut R0.below) hI hs;have HS:Hid (k0<w.heap.size/\∀b,A b->b≠k0):=⟨S.lt,S.avoid⟩;have HR0:Hid (jP w ((w.alloc (.cells #[.int .i64 4,.string key,.string body,.string delim,.string past,.int .i64 n,.int .i64 src] 31)).alloc (.cells #[.int .i64 0,.int .i64 0,.string ⟨#[]⟩,.slice none 0 0,.string ⟨#[]⟩] 36)).drew):=R0;clear R0 S;simp only [cP];generalize gG st key=pr at *;go_enter (Yq.nq Tryz.func33),Tryz.ntmps33;go_wp2_with fail
 go_region_with (go_at_call 38;refine HC.mono ?_;rintro e w1 ⟨rfl,S1,hg1⟩;obtain ⟨⟨d0,d1,d2,d3,d4⟩,g0,g1,g2,g3,g4⟩:=HR0.out.on HS.out.1 hg1.g;have HX:Hid (_/\_):=And.intro S1 hg1;clear S1 hg1 HC)
 all_goals
  go_wp2;refine bodyPost_ret (v:=dk ⟨pr.2.2,pr.2.1,⟨#[]⟩⟩) (by simp [results,Tryz.results33,go_sem,dk,d0,d1,d2,d3,d4]) rfl ?_;exact np HS.out.1 HS.out.2 HR0.out.below HR0.out.lt HX.out.1 HX.out.2 _ _ _ _ _
theorem rO (A:Nat->Prop)(k0:Nat)(st:St)(s:Nat)(o:OpD)(w:Wz)(hk:o.key.size<=maxLen)(S:az A w k0 st)(hI:Inv st s)(hs:s<2199023255552)(hkind:o.kind=5):
  Calls Yq.prog 33 #[.pointer (some ⟨k0,0,none⟩),cP o] w (dh A w k0 (dN st o.key o.n).1 (dk ⟨(dN st o.key o.n).2,0,⟨#[]⟩⟩)):=by
 obtain ⟨kind,key,body,delim,past,n,src⟩:=o;simp only at hkind hk;subst hkind;have R0:=(E9 w #[.int .i64 5,.string key,.string body,.string delim,.string past,.int .i64 n,.int .i64 src]).drew;have HC:=xe _ k0 st s key n _ hk (S.cut R0.below) hI hs;have HS:Hid (k0<w.heap.size/\∀b,A b->b≠k0):=⟨S.lt,S.avoid⟩;have HR0:Hid (jP w ((w.alloc (.cells #[.int .i64 5,.string key,.string body,.string delim,.string past,.int .i64 n,.int .i64 src] 31)).alloc (.cells #[.int .i64 0,.int .i64 0,.string ⟨#[]⟩,.slice none 0 0,.string ⟨#[]⟩] 36)).drew):=R0;clear R0 S;simp only [cP];generalize dN st key n=pr at *;go_enter (Yq.nq Tryz.func33),Tryz.ntmps33;go_wp2_with fail
 go_region_with (go_at_call 39;refine HC.mono ?_;rintro e w1 ⟨rfl,S1,hg1⟩;obtain ⟨⟨d0,d1,d2,d3,d4⟩,g0,g1,g2,g3,g4⟩:=HR0.out.on HS.out.1 hg1.g;have HX:Hid (_/\_):=And.intro S1 hg1;clear S1 hg1 HC)
 all_goals
  go_wp2;refine bodyPost_ret (v:=dk ⟨pr.2,0,⟨#[]⟩⟩) (by simp [results,Tryz.results33,go_sem,dk,d0,d1,d2,d3,d4]) rfl ?_;exact np HS.out.1 HS.out.2 HR0.out.below HR0.out.lt HX.out.1 HX.out.2 _ _ _ _ _
theorem rP (A:Nat->Prop)(k0:Nat)(st:St)(o:OpD)(w:Wz)(S:az A w k0 st)(h:o.kind<1\/12<o.kind):
  Calls Yq.prog 33 #[.pointer (some ⟨k0,0,none⟩),cP o] w (dh A w k0 st (dk ⟨1,0,⟨#[]⟩⟩)):=by
 obtain ⟨kind,key,body,delim,past,n,src⟩:=o;simp only at h;have b1:(kind==1)=false:=by simp;omega
 have b2:(kind==2)=false:=by simp;omega
 have b3:(kind==3)=false:=by simp;omega
 have b4:(kind==4)=false:=by simp;omega
 have b5:(kind==5)=false:=by simp;omega
 have b6:(kind==6)=false:=by simp;omega
 have b7:(kind==7)=false:=by simp;omega
 have b8:(kind==8)=false:=by simp;omega
 have b9:(kind==9)=false:=by simp;omega
 have b10:(kind==10)=false:=by simp;omega
 have b11:(kind==11)=false:=by simp;omega
 have b12:(kind==12)=false:=by simp;omega
 have HS:Hid (az A w k0 st):=S;clear h S;simp only [cP];go_enter (Yq.nq Tryz.func33),Tryz.ntmps33;go_wp2;refine bodyPost_ret (v:=dk ⟨1,0,⟨#[]⟩⟩) (by simp [results,Tryz.results33,go_sem,dk]) rfl ?_;exact ba HS.out (((bR _ w).alloc (lR _) _).alloc (by simp) _)
end
