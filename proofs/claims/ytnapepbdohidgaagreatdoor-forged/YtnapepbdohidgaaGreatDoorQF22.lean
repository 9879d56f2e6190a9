/- A part. -/
import Derived.Test.YtnapepbdohidgaaGreatDoorQF21
import Derived.Lib.ItoaNum
import Derived.Shelf.LaysM
import Derived.Shelf.Strconv.Itoa3
import Derived.Conc.LeavingOf
import Derived.Lib.LaidTab
set_option maxHeartbeats 4000000
set_option maxRecDepth 100000
namespace Go.Proofs.Qw
section
open Go
open Go.Conc Go.ConcX Go.ConcX.Gen Go.RowKit
theorem zD (t:Nat):Region.schedule (Yq.prog.follows .mixedOrders) Yq.drawOps t=[0,1]\/Region.schedule (Yq.prog.follows .mixedOrders) Yq.drawOps t=[1,0]:=by
 rw [mixed];rcases Nat.mod_two_eq_zero_or_one t with h|h
 .left
  simp [Region.schedule,Region.linearise,Region.linearise.go,Yq.drawOps,List.range,List.range.loop,h,Nat.mod_one]
 .right
  simp [Region.schedule,Region.linearise,Region.linearise.go,Yq.drawOps,List.range,List.range.loop,h,Nat.mod_one]
theorem rT {a:Act}{w:World}{c k s q:Nat}{Q:Exit->Act->World->Prop}(h17:a.eval (.tmp 17)=.chan (some c))(hsz:a.tmps.size=49)(hrow:w.heap[c]?=some (.chan k #[] true s q false))
  (h:Q .normal ((a.put (some 18) (.tuple #[.agg #[.int .i64 0,.string ⟨#[]⟩,.int .i64 0],.bool false])).put (some 19) (.bool false)) w):(Code.region 5 ee false).wp Yq.prog Q a w:=by
 intro b kk cs;refine ⟨.normal,_,_,h,?_⟩;refine Steps.head step_region ?_;have hr:List.range ee.size=[0,1]:=rfl;rw [hr];obtain ⟨es,hcomm⟩:∃es,stepG Yq.prog true (G (b.at a (.inRegion ee [0,1]::kk)) cs) w=.comm (G (b.at a (.inRegion ee [0,1]::kk)) cs) #[rcase c (.agg #[.int .i64 0,.string ⟨#[]⟩,.int .i64 0])] true (.recv true) w es:=by
  refine iJ (o := { dst := some 18, op := .recv 165 (.tmp 17) true, type := 0, pos := "listing.go:108", after := #[], guard := none }) rfl rfl ?_
  have e : execOp a.eval { dst := some 18, op := .recv 165 (.tmp 17) true, type := 0, pos := "listing.go:108", after := #[], guard := none } = (do
   let .chan _ elem ← underlying 165 | stuck "receive: channel type expected"
   pure (.comm #[{chan:=a.eval (.tmp 17),send:=none,zero:=<-zeroValue elem}] true (.recv true))):=rfl
  rw [e,h17];simp [go_sem,rcase]
 have st1:=step_lone_recv_shut true hcomm hrow;rw [Frame.finish_at] at st1;refine Steps.head st1 ?_;have hput:(a.put ((ee[0]?).bind (·.dst)) (got true (.agg #[.int .i64 0,.string ⟨#[]⟩,.int .i64 0]) false))=a.put (some 18) (.tuple #[.agg #[.int .i64 0,.string ⟨#[]⟩,.int .i64 0],.bool false]):=rfl;rw [hput];have h18:(a.put (some 18) (.tuple #[.agg #[.int .i64 0,.string ⟨#[]⟩,.int .i64 0],.bool false])).eval (.tmp 18)=.tuple #[.agg #[.int .i64 0,.string ⟨#[]⟩,.int .i64 0],.bool false]:=by
  simp [Act.put,Act.eval,hsz]
 have st2 := tE (P := Yq.prog) (ops := ee) (a := a.put (some 18) (.tuple #[.agg #[.int .i64 0, .string ⟨#[]⟩, .int .i64 0], .bool false])) (i := 1) (rest := []) (b := b) (k := kk) (cs := cs) (w := w) (w' := w) (v := .bool false) (o := { dst := some 19, op := .extract (.tmp 18) 1, type := 4, pos := "listing.go:108", after := #[{ on := 0, ground := .data }], guard := none }) rfl rfl (by
  have e : execOp (a.put (some 18) (.tuple #[.agg #[.int .i64 0, .string ⟨#[]⟩, .int .i64 0], .bool false])).eval { dst := some 19, op := .extract (.tmp 18) 1, type := 4, pos := "listing.go:108", after := #[{ on := 0, ground := .data }], guard := none } = (do let v ← Instr.extract ((a.put (some 18) (.tuple #[.agg #[.int .i64 0, .string ⟨#[]⟩, .int .i64 0], .bool false])).eval (.tmp 18)) 1; pure (.value v)) := rfl
  rw [e,h18];rfl)
 exact Steps.head st2 (.one step_region_end)
theorem BF (l:Lst)(pn:Int)(n c:Nat)(cnt:Nat)(items:List ItD)(u:Nat->Value)(w0 w:World)(I:PgI w0 w n c items []):
  cu.wp Yq.prog (fun e a w'=>e=.exit 0/\(∃u',a=⟨cH n l pn c cnt u',[]⟩)/\w'=w) ⟨cH n l pn c cnt u,[]⟩ w:=by
 obtain ⟨kc,sc,qc,hrow⟩:=I.ch;show (Code.seq (.region 5 ee false) (bi cu)).wp Yq.prog _ _ _;refine wp_seq (rT (c:=c) rfl rfl hrow ?_);clear hrow I;show Code.wp Yq.prog (bi cu) _ _ _;unfold cH qV sV ptr lV aD;simp only [Act.put];dsimp only [cu,cIn,aX,bG,Tryz.f69,eY,bi,nI,Option.getD];go_wp2_with fail
 exact ⟨fun i=>if i=18 then .tuple #[.agg #[.int .i64 0,.string ⟨#[]⟩,.int .i64 0],.bool false] else if i=19 then .bool false else u i,by simp⟩
theorem wY (l:Lst)(pn:Int)(n c:Nat)(w0:World)(hn:n+2<c)(hc:c<w0.heap.size)(hsize:w0.cell? ⟨n,6,none⟩=some (.int .i64 l.size)):
  ∀ (rest:List ItD) (cnt:Nat) (items:List ItD) (u:Nat->Value) (w:World),PgI w0 w n c items (rest.map itVal)->items.length<=cnt->cnt+rest.length<=1000 ->
   Code.rounds Yq.prog cu (fun e a w'=>e=.exit 0/\(∃u',a=⟨cH n l pn c ((cnt+rest.length:Nat):Int) u',[]⟩)/\PgI w0 w' n c (items++dL l pn cnt rest) []) (rest.length+1) ⟨cH n l pn c cnt u,[]⟩ w:=by
 intro rest;induction rest with
 |nil=>
  intro cnt items u w I _ _;rw [rounds_succ];refine wp_mono (BF l pn n c cnt items u w0 w I) ?_;rintro e a w' ⟨rfl,⟨u',rfl⟩,rfl⟩;exact ⟨rfl,⟨u',by simp⟩,by simpa [dL] using I⟩
 |cons i r ih=>
  intro cnt items u w I hi hl;have hl:cnt+(r.length+1)<=1000:=hl;rw [lC,rounds_succ];refine wp_mono (rJ l pn n c cnt i (r.map itVal) items u w0 w hn hc hsize I (by omega) (by omega)) ?_;rintro e a w1 ⟨rfl,ha,I1⟩;show Code.rounds _ _ _ _ a w1;rw [ha];have h2:=ih (cnt+1) _ (fun i=>a.tmps.getD i undef) w1 I1 (by split<;>(try simp only [lP,lS])<;>omega) (by omega);have e0:(((cnt+1:Nat):Int))=(cnt:Int)+1:=rfl;rw [e0] at h2;have e2:cnt+1+r.length=cnt+(r.length+1):=by omega
  rw [e2] at h2;have e3:(if iK l pn ((cnt:Int)+1) then items++[i] else items)++dL l pn (cnt+1) r=items++dL l pn cnt (i::r):=by
   rw [dL];split<;>simp
  rw [e3] at h2;exact h2
def jc (n pg:Int):ByteArray:=⟨(Lib.itoa n++46::Lib.itoa pg).toArray⟩
def kj (G:World->Prop)(n pg:Int):Prop:=∀ (l:Lst)(w:World),G w->l.num=n->Calls Yq.prog 98 #[lV l,.int .i64 pg] w fun e w'=>e=.returned (.string (jc n pg))/\Below w.heap.size w w'
def BG (l:Lst)(pn:Int)(n:Nat):ByteArray:=if IntKind.i64.wrap (pn * l.size)<(n:Int) then jc l.num (IntKind.i64.wrap (pn+1)) else ⟨#[]⟩
structure ak (W W':World):Prop where
 os:W'.os=W.os
 size:W.heap.size<=W'.heap.size
 block:∀b,b<W.heap.size->W'.heap[b]?=W.heap[b]?
theorem ba {w w':World}{base:Nat}{e:TypeId}{size:Nat}{v:Value}{n:Nat}{xs:List Value}(h:w.ownsRow base e size v n xs)(hb:∀g,base<=g->g<w.heap.size->w'.heap[g]?=w.heap[g]?):w'.ownsRow base e size v n xs:=by
 refine ⟨h.1,?_⟩;rcases h.2 with h2|⟨g,cap,cur,hv,hg,hr,r⟩
 .exact Or.inl h2
 .exact Or.inr ⟨g,cap,cur,hv,hg,(hb g hg (eS hr).1).trans hr,r⟩
theorem zE (l:Lst)(pn:Int)(n c:Nat)(cnt:Nat)(items:List ItD)(u:Nat->Value)(w0 w:World)(G:World->Prop)(hn:n+2<c)(hc:c<w0.heap.size)(r0:w0.heap[n]?=some (.cells (aD l) 125))(r1:w0.heap[n+1]?=some (.cells #[.slice none 0 0,.string ⟨#[]⟩] 88))(I:PgI w0 w n c items [])(hG:G w)(hT:IntKind.i64.wrap (pn * l.size)<(cnt:Int)->kj G l.num (IntKind.i64.wrap (pn+1))):
  (bi bG).wp Yq.prog (bodyPost Yq.prog Yq.f69 fun e w'=>∃sv,e=.returned (.agg #[sv,.string (BG l pn cnt)])/\w'.ownsRow w0.heap.size 41 3 sv items.length (aw items)/\(w'.os=w0.os/\w0.heap.size<=w'.heap.size/\∀b,b<n->w'.heap[b]?=w0.heap[b]?)) ⟨cH n l pn c cnt u,[]⟩ w:=by
 have hl0:n<w.heap.size:=lL (by omega) I.size;have e0:=(I.block n (by omega) (by omega) (by omega)).trans r0;have e1:=(I.block (n+1) (by omega) (by omega) (by omega)).trans r1;obtain ⟨sv,c0,hown⟩:=I.row;have c1:=I.tok;have z0:=I.fz 0;have z1:=I.fz 1;have hbk:Hid (∀k,sv.ownBlock=some k->w0.heap.size<=k):=fun k h=>(hown.lt k h).1
 have HI:Hid (PgI w0 w n c items []/\w.ownsRow w0.heap.size 41 3 sv items.length (aw items)):=⟨I,hown⟩;have d0:w.cell? ⟨n+1,0,none⟩=some (.slice none 0 0):=by simp [World.cell?,e1]
 have d1:w.cell? ⟨n+1,1,none⟩=some (.string ⟨#[]⟩):=by simp [World.cell?,e1]
 have y0:w.frozen? ⟨n+1,0,none⟩=false:=by simp [World.frozen?,e1]
 have y1:w.frozen? ⟨n+1,1,none⟩=false:=by simp [World.frozen?,e1]
 have k0:w.cell? ⟨n,0,none⟩=some (.int .i64 l.num):=by simp [World.cell?,e0,aD]
 have k1:w.cell? ⟨n,1,none⟩=some (.pointer l.root):=by simp [World.cell?,e0,aD]
 have k2:w.cell? ⟨n,2,none⟩=some (.bool l.vs):=by simp [World.cell?,e0,aD]
 have k3:w.cell? ⟨n,3,none⟩=some (.string l.p):=by simp [World.cell?,e0,aD]
 have k4:w.cell? ⟨n,4,none⟩=some (.string l.d):=by simp [World.cell?,e0,aD]
 have k5:w.cell? ⟨n,5,none⟩=some (.string l.af):=by simp [World.cell?,e0,aD]
 have k6:w.cell? ⟨n,6,none⟩=some (.int .i64 l.size):=by simp [World.cell?,e0,aD]
 have k7:w.cell? ⟨n,7,none⟩=some (.int .i64 l.left):=by simp [World.cell?,e0,aD]
 have HTK:Hid (wrap64 (pn * l.size)<(cnt:Int)->Calls Yq.prog 98 #[.agg #[.int .i64 l.num,.pointer l.root,.bool l.vs,.string l.p,.string l.d,.string l.af,.int .i64 l.size,.int .i64 l.left],.int .i64 (wrap64 (pn+1))] w fun e w'=>e=.returned (.string (jc l.num (wrap64 (pn+1))))/\Below w.heap.size w w'):=by
  rw [<-ke,<-ke];exact fun h=>hT h l w hG rfl
 clear I hown e0 e1 r0 r1 hT hG;obtain ⟨so,sn,sc,rfl⟩:∃so sn sc,sv=.slice so sn sc:=by
  rcases HI.out.2.2 with ⟨rfl,-⟩|⟨g,cap,cur,rfl,-⟩
  .exact ⟨_,_,_,rfl⟩
  .exact ⟨_,_,_,rfl⟩
 have hszw:w0.heap.size<=w.heap.size:=HI.out.1.size;have hcw:n+2<w.heap.size:=by omega
 generalize hQ:bodyPost Yq.prog Yq.f69 _=Q;have HQ:Hid (bodyPost Yq.prog Yq.f69 _=Q):=hQ;clear hQ;unfold cH qV sV ptr lV aD;dsimp only [aX,bG,Tryz.f69,eY,bi,Option.getD];by_cases hlt:wrap64 (pn * l.size)<(cnt:Int)
 .have HT2:=HTK.out hlt;have hpt:BG l pn cnt=jc l.num (wrap64 (pn+1)):=by rw [BG,ke,ke,if_pos hlt]
  rw [hpt] at HQ;generalize jc l.num (wrap64 (pn+1))=tk at HT2 HQ;clear hpt;go_wp2_with (go_at_call 98;refine HT2.mono ?_;clear HT2;rintro e w1 ⟨rfl,hb1⟩;replace c0:=ai hb1 c0;replace c1:=ai hb1 c1;replace d0:=ai hb1 d0;replace d1:=ai hb1 d1;replace z0:=(hb1.frozen (p:=⟨n+2,0,none⟩) hcw).trans z0;replace z1:=(hb1.frozen (p:=⟨n+2,1,none⟩) hcw).trans z1;replace y0:=(hb1.frozen (p:=⟨n+1,0,none⟩) (by show n+1<_;omega)).trans y0;replace y1:=(hb1.frozen (p:=⟨n+1,1,none⟩) (by show n+1<_;omega)).trans y1)
  rw [<-HQ.out];obtain ⟨I,hown⟩:=HI.out;have hset:∀b,b≠n+1->b≠n+2->(((w1.setCell ⟨n+2,1,none⟩ (.string tk)).setCell ⟨n+1,0,none⟩ (.slice so sn sc)).setCell ⟨n+1,1,none⟩ (.string tk)).heap[b]?=w1.heap[b]?:=fun b h1 h2=>by
   rw [bS _ _ _ _ h1,bS _ _ _ _ h1,bS _ _ _ _ h2]
  refine bodyPost_ret (v:=.agg #[.slice so sn sc,.string tk]) (by simp [results,Tryz.results69,go_sem,d0,d1]) rfl ⟨_,rfl,ba hown fun g h1 h2=>?_,?_,?_,fun b hb=>?_⟩
  .rw [hset g (by omega) (by omega)];exact hb1.block g h2
  .exact hb1.os.trans I.os
  .have:=hb1.size;simp;omega
  .rw [hset b (by omega) (by omega),hb1.block b (by omega)];exact I.block b (by omega) (by omega) (by omega)
 .have hpt:BG l pn cnt=⟨#[]⟩:=by rw [BG,ke,ke,if_neg hlt]
  rw [hpt] at HQ;clear hpt;go_wp2_with fail
  rw [<-HQ.out];obtain ⟨I,hown⟩:=HI.out;have hset:∀b,b≠n+1->((w.setCell ⟨n+1,0,none⟩ (.slice so sn sc)).setCell ⟨n+1,1,none⟩ (.string ⟨#[]⟩)).heap[b]?=w.heap[b]?:=fun b h1=>by
   rw [bS _ _ _ _ h1,bS _ _ _ _ h1]
  refine bodyPost_ret (v:=.agg #[.slice so sn sc,.string ⟨#[]⟩]) (by simp [results,Tryz.results69,go_sem,d0,d1]) rfl ⟨_,rfl,ba hown fun g h1 h2=>?_,?_,?_,fun b hb=>?_⟩
  .exact hset g (by omega)
  .exact I.os
  .simp;omega
  .rw [hset b (by omega)];exact I.block b (by omega) (by omega) (by omega)
def EQ (V:World)(l:Lst)(pn:Int)(its:List ItD)(e:Ending)(w':World):Prop:=
 ∃sv,e=.returned (.agg #[sv,.string (BG l pn its.length)])/\w'.ownsRow V.heap.size 41 3 sv (dL l pn 0 its).length (aw (dL l pn 0 its))/\ak V w'
def Stop (Qok:Qy->Prop)(e:Ending)(w':World):Prop:=∃x y r,e=.panicked (stopEntry x y::r)/\∃ls pn L,x=lV ls/\y=.int .i64 pn/\Eh Qok ls L w'
theorem tW (Qok:Qy->Prop)(hQ:∀q,Qok q->gG q/\gH q)(l:Lst)(pn:Int)(f:List UInt8->List Ver)(V:World)(hp:EP Qok l f V)(G:World->Prop)(hG:∀w',ak V w'->G w')(hT:IntKind.i64.wrap (pn * l.size)<((kV l f).length:Int)->kj G l.num (IntKind.i64.wrap (pn+1))):
  Calls Yq.prog 69 #[lV l,.int .i64 pn] V fun e w'=>EQ V l pn (kV l f) e w'\/Stop Qok e w':=by
 have hPre:=zC Qok hQ;have hpp:Eh Qok l ((kV l f).map itVal) V:=⟨f,hp,rfl⟩;intro cs;rcases zD (V.tape V.drawn (.order 69 100)) with hs|hs
 .obtain ⟨fr,hst,hm,hd,hf⟩:=ra (lV l) (.int .i64 pn) cs V hs;refine ⟨.panicked [stopEntry (lV l) (.int .i64 pn)],{V with drawn:=V.drawn+1},fr,.inr ⟨_,_,_,rfl,l,pn,_,rfl,rfl,hPre.on V _ l _ (fun _ _=>rfl) (lR _) hpp⟩,hst,hf,hm,hd,_,by rw [hf];exact Yq.func69⟩
 .obtain ⟨V4,hst,hb4,hc4,hos4⟩:=rf hPre l pn _ V cs hpp hs;have hrow:∀i,i<7->i≠5->V4.heap[V.heap.size+i]?=_:=fun i h1 h2=>(hb4 _ (by omega) (by omega)).trans (bL V l 1000 i h1)
  have r0:=hrow 0 (by omega) (by omega);have r1:=hrow 1 (by omega) (by omega);have r2:=hrow 2 (by omega) (by omega);have hc:V.heap.size+5<V4.heap.size:=(eS hc4).1;have hlen:(kV l f).length<=1000:=by have:=hPre.len l _ V hpp;simpa using this
  have hloop:=wY l pn V.heap.size (V.heap.size+5) V4 (by omega) hc (by simp only [Nat.add_zero] at r0;simp [World.cell?,r0,aD]) (kV l f) 0 [] (fun _=>undef) V4 (rK r2 ⟨_,_,_,hc4⟩) (by simp) (by omega);simp only [zA,List.nil_append] at hloop;have hold:∀b,b<V.heap.size->V4.heap[b]?=V.heap[b]?:=fun b hb=>(hb4 b (by omega) (by omega)).trans (dY V l 1000 hb)
  have hcode:(Code.block 0 (.loop cu)).wp Yq.prog (fun e a w=>e=.normal/\(bi bG).wp Yq.prog (bodyPost Yq.prog Yq.f69 (EQ V l pn (kV l f))) a w) ⟨cH V.heap.size l pn (V.heap.size+5) 0 (fun _=>undef),[]⟩ V4:=by
   refine wp_block (wp_mono (wp_loop_rounds _ hloop) ?_);rintro e a w' ⟨rfl,⟨u',rfl⟩,I⟩;have hG':G w':=hG w' ⟨I.os.trans hos4,by have:=I.size;omega,fun b hb=>(I.block b (by omega) (by omega) (by omega)).trans (hold b hb)⟩;simp only [Exit.inBlock,if_true];refine ⟨trivial,wp_mono (zE l pn V.heap.size (V.heap.size+5) (kV l f).length _ u' V4 w' G (by omega) hc (by simpa using r0) r1 I hG' hT) ?_⟩;intro e a w2 h;cases e with
   |normal=>obtain ⟨h1,v,h2,sv,h3,h4,h5,h6,h7⟩:=h;exact ⟨h1,v,h2,sv,h3,jB h4 (by omega),h5.trans hos4,by omega,fun b hb=>(h7 b hb).trans (hold b hb)⟩
   |ret=>obtain ⟨h1,v,h2,sv,h3,h4,h5,h6,h7⟩:=h;exact ⟨h1,v,h2,sv,h3,jB h4 (by omega),h5.trans hos4,by omega,fun b hb=>(h7 b hb).trans (hold b hb)⟩
   |panic chain=>obtain ⟨h1,sv,h3,-⟩:=h;cases h3
   |outgrown=>obtain ⟨sv,h3,-⟩:=h;cases h3
   |exit id=>exact h.elim
   |goto l=>exact h.elim
  obtain ⟨e1,a1,w1,⟨rfl,hq1⟩,harr1⟩:=hcode (base 69) [.code (bi bG)] cs;obtain ⟨e,a',w',hq,harr2⟩:=hq1 (base 69) [] cs;have hpre:Steps Yq.prog (lone (Frame.enter Yq.prog 69 #[lV l,.int .i64 pn] .normal) cs V) (lone ((base 69).at a1 [.code (bi bG)]) cs w1):=
   Steps.trans hst (Steps.trans (.one (step_region_end (P:=Yq.prog) (b:=base 69) (k:=[.code (.block 0 (.loop cu)),.code (bi bG)]))) harr1)
  cases e with
  |normal=>
   obtain ⟨hd,v,hr,hR⟩:=hq;exact ⟨.returned v,w',_,.inl hR,Steps.trans hpre (Steps.trans harr2 (.one step_end)),rfl,rfl,hd,rfl,_,Yq.func69,hr⟩
  |ret=>
   obtain ⟨hd,v,hr,hR⟩:=hq;obtain ⟨todo,hs⟩:=harr2;exact ⟨.returned v,w',_,.inl hR,Steps.trans hpre hs,rfl,rfl,hd,rfl,_,Yq.func69,hr⟩
  |panic chain=>obtain ⟨-,sv,h3,-⟩:=hq;cases h3
  |outgrown=>obtain ⟨sv,h3,-⟩:=hq;cases h3
  |exit id=>exact hq.elim
  |goto l=>exact hq.elim
end
end Go.Proofs.Qw
namespace Go.Proofs
section
open Go.Shelf Go.Lib Go.Sort
def Yq.laysM171_ren:Go.Shelf.Ren:=⟨fun| 171=>121| 243=>141| 246=>158| 283=>167| 284=>168| 285=>169| 286=>170| 129=>151| 317=>176| 318=>177| 319=>178| 320=>179| 337=>182| 338=>183|n=>n,fun| 3=>3| 9=>9| 2=>2| 4=>4| 171=>239| 0=>0| 53=>57| 37=>48| 5=>5| 173=>241| 212=>249| 51=>222| 20=>20| 213=>250| 46=>199| 232=>253| 233=>254|n=>n,fun| 17=>1| 18=>2| 19=>3|n=>n⟩
theorem Yq.laysM171:Go.Proofs.LaysM.n171 Yq.prog Yq.laysM171_ren:={
 mixed:=by kernel_rfl
 f129:=Yq.func151.trans (congrArg some (by kernel_rfl))
 f171:=Yq.func121.trans (congrArg some (by kernel_rfl))
 f243:=Yq.func141.trans (congrArg some (by kernel_rfl))
 f246:=Yq.func158.trans (congrArg some (by kernel_rfl))
 f283:=Yq.func167.trans (congrArg some (by kernel_rfl))
 f284:=Yq.func168.trans (congrArg some (by kernel_rfl))
 f285:=Yq.func169.trans (congrArg some (by kernel_rfl))
 f286:=Yq.func170.trans (congrArg some (by kernel_rfl))
 f317:=Yq.func176.trans (congrArg some (by kernel_rfl))
 f318:=Yq.func177.trans (congrArg some (by kernel_rfl))
 f319:=Yq.func178.trans (congrArg some (by kernel_rfl))
 f320:=Yq.func179.trans (congrArg some (by kernel_rfl))
 f337:=Yq.func182.trans (congrArg some (by kernel_rfl))
 f338:=Yq.func183.trans (congrArg some (by kernel_rfl))
 t0:=Yq.underlying0
 a0:=Yq.isAgg0
 z0:=Yq.sizeOf0
 v0:=Yq.zeroValue0
 t2:=Yq.underlying2
 a2:=Yq.isAgg2
 z2:=Yq.sizeOf2
 v2:=Yq.zeroValue2
 t3:=Yq.underlying3
 a3:=Yq.isAgg3
 z3:=Yq.sizeOf3
 v3:=Yq.zeroValue3
 t4:=Yq.underlying4
 a4:=Yq.isAgg4
 z4:=Yq.sizeOf4
 v4:=Yq.zeroValue4
 t5:=Yq.underlying5
 a5:=Yq.isAgg5
 z5:=Yq.sizeOf5
 v5:=Yq.zeroValue5
 t9:=Yq.underlying9
 a9:=Yq.isAgg9
 z9:=Yq.sizeOf9
 v9:=Yq.zeroValue9
 t20:=Yq.underlying20
 a20:=Yq.isAgg20
 z20:=Yq.sizeOf20
 v20:=Yq.zeroValue20
 t37:=Yq.underlying48
 a37:=Yq.isAgg48
 z37:=Yq.sizeOf48
 v37:=Yq.zeroValue48
 t46:=Yq.underlying199
 a46:=Yq.isAgg199
 z46:=Yq.sizeOf199
 v46:=Yq.zeroValue199
 t51:=Yq.underlying222
 a51:=Yq.isAgg222
 z51:=Yq.sizeOf222
 v51:=Yq.zeroValue222
 t53:=Yq.underlying57
 a53:=Yq.isAgg57
 z53:=Yq.sizeOf57
 v53:=Yq.zeroValue57
 t171:=Yq.underlying239
 a171:=Yq.isAgg239
 z171:=Yq.sizeOf239
 v171:=Yq.zeroValue239
 t173:=Yq.underlying241
 a173:=Yq.isAgg241
 z173:=Yq.sizeOf241
 v173:=Yq.zeroValue241
 t212:=Yq.underlying249
 a212:=Yq.isAgg249
 z212:=Yq.sizeOf249
 v212:=Yq.zeroValue249
 t213:=Yq.underlying250
 a213:=Yq.isAgg250
 z213:=Yq.sizeOf250
 t232:=Yq.underlying253
 a232:=Yq.isAgg253
 z232:=Yq.sizeOf253
 v232:=Yq.zeroValue253
 t233:=Yq.underlying254
 a233:=Yq.isAgg254
 z233:=Yq.sizeOf254
 v233:=Yq.zeroValue254
 g17:=by kernel_rfl
 g18:=by kernel_rfl
 g19:=by kernel_rfl
 i0:=by kernel_rfl
 i2:=by kernel_rfl
 i3:=by kernel_rfl
 i4:=by kernel_rfl
 i5:=by kernel_rfl
 i9:=by kernel_rfl
 i20:=by kernel_rfl
 i37:=by kernel_rfl
 i46:=by kernel_rfl
 i51:=by kernel_rfl
 i53:=by kernel_rfl
 i171:=by kernel_rfl
 i173:=by kernel_rfl
 i212:=by kernel_rfl
 i232:=by kernel_rfl
 i233:=by kernel_rfl
 m17:=by kernel_rfl
 m18:=by kernel_rfl
 m19:=by kernel_rfl}
theorem Yq.strconv_Itoa (n : Int) (h0 : -9223372036854775808 ≤ n) (h1 : n ≤ 9223372036854775807) (w : World) (htab : Lib.TabIs Yq.prog w "internal/strconv.uint64pow10" .u64 Lib.pow10Tab) :
  Calls Yq.prog 121 #[.int .i64 n] w fun e w'=>e=.returned (.string ⟨(Lib.itoa n).toArray⟩)/\∃k os,w'=grow (w.drewN k) os:=Any.strconv_Itoa Yq.laysM171 n h0 h1 w htab
end
end Go.Proofs
namespace Go.Proofs.Qw
section
open Go
open Go.Conc Go.ConcX Go.ConcX.Gen Go.RowKit
theorem vi (i:Nat):Lib.itoa (i:Int)=Lib.decDigits i:=by simp [Lib.itoa]
theorem vj:∀ (k u:Nat),u<10 ^ (k+1)->(Lib.decDigits u).length<=k+1
 | 0,u,h=>by
  rw [Lib.decDigits,dif_pos (by simpa using h)];simp
 |k+1,u,h=>by
  rw [Lib.decDigits];split
  .simp
  .have h1:u / 10<10 ^ (k+1):=by rw [Nat.pow_succ] at h;omega
   have:=vj k (u / 10) h1;rw [lP,lS];omega
theorem vk {n:Int}(h0:0<=n)(h1:n<=9223372036854775807):(Lib.itoa n).length<=19:=by
 obtain ⟨u,rfl⟩:=Int.eq_ofNat_of_zero_le h0;have e:Lib.itoa ((u:Nat):Int)=Lib.decDigits u:=vi u;rw [e];exact vj 18 u (by have:(u:Int)<=9223372036854775807:=h1;omega)
def pX (w : World) : Prop := Lib.TabIs Yq.prog w "internal/strconv.uint64pow10" .u64 Lib.pow10Tab
theorem pX.on {w w':World}(h:pX w)(hb:∀b,b<w.heap.size->w'.heap[b]?=w.heap[b]?):pX w':=by
 unfold pX Lib.TabIs World.var? at *
 cases hg : Yq.prog.globalNamed "internal/strconv.uint64pow10" with
 |none=>rw [hg] at h;cases h
 |some g=>
  rw [hg] at h;simp only [Option.bind_some] at h ⊢;have hlt:g<w.heap.size:=by
   cases hh:w.heap[g]? with
   |none=>rw [hh] at h;cases h
   |some o=>exact (eS hh).1
  rw [hb g hlt];exact h
theorem oB (w:World)(k:Nat)(os:Array Obj):Below w.heap.size w (Sort.grow (w.drewN k) os):=
 ⟨rfl,rfl,rfl,by simp [Sort.grow,World.drewN],fun b hb=>by simp [Sort.grow,World.drewN,Array.getElem?_append_left hb]⟩
theorem DR (n pg:Int)(hn:0<=n/\n<=9223372036854775807)(hp:0<=pg/\pg<=9223372036854775807):kj pX n pg:=by
 intro l w hG hl;obtain ⟨num,root,vs,p,d,af,size,left⟩:=l;simp only at hl;subst hl;unfold jc;have h1:Hid (∀W,Below w.heap.size w W->Calls Yq.prog 121 #[.int .i64 num] W fun e w'=>e=.returned (.string ⟨(Lib.itoa num).toArray⟩)/\Below W.heap.size W w'):=fun W hb=>by
  refine (Yq.strconv_Itoa num (by omega) hn.2 W (hG.on hb.block)).mono ?_;rintro e w' ⟨rfl,k,os,rfl⟩;exact ⟨rfl,oB W k os⟩
 have h2:Hid (∀W,Below w.heap.size w W->Calls Yq.prog 121 #[.int .i64 pg] W fun e w'=>e=.returned (.string ⟨(Lib.itoa pg).toArray⟩)/\Below W.heap.size W w'):=fun W hb=>by
  refine (Yq.strconv_Itoa pg (by omega) hp.2 W (hG.on hb.block)).mono ?_;rintro e w' ⟨rfl,k,os,rfl⟩;exact ⟨rfl,oB W k os⟩
 have ha:=vk hn.1 hn.2;have hb:=vk hp.1 hp.2;generalize Lib.itoa num=a at *;generalize Lib.itoa pg=b at *;have HW:Hid (∀c,Below w.heap.size w (w.alloc c)):=fun c=>(bR _ _).alloc (lR _) _
 clear hG hn hp;unfold lV aD;go_enter Yq.func98,Tryz.ntmps98;go_wp2_with fail
 refine (h1.out _ (HW.out _)).mono ?_;rintro e w1 ⟨rfl,b1⟩;have HB1:Hid (Below w.heap.size w w1):=(HW.out _).trans (b1.mono (by simp));clear b1;go_wp2_with fail
 all_goals try (exfalso;rename_i hx;simp [ByteArray.size_append,ByteArray.size,maxLen] at hx;omega)
 refine (h2.out _ HB1.out).mono ?_;rintro e w2 ⟨rfl,b2⟩;have HB2:Hid (Below w.heap.size w w2):=HB1.out.trans (b2.mono HB1.out.size);clear b2;go_wp2_with fail
 all_goals try (exfalso;rename_i hx;simp [ByteArray.size_append,ByteArray.size,maxLen] at hx;omega)
 go_ret;refine ⟨?_,HB2.out⟩;have e:(⟨a.toArray⟩:ByteArray)++⟨#[46]⟩++⟨b.toArray⟩=⟨(a++46::b).toArray⟩:=by
  apply ByteArray.ext;simp
 rw [<-e];rfl
end
section
open Go
open Go.RowKit
open Go.Conc Go.ConcX Go.ConcX.Gen
def ER (P:Program)(u:TypeId):Bool:=match P.underlying u with|some (.int _)=>true|_=>false
theorem BH {P:Program}{w:World}{r:_root_.Go.Reach}{base:Nat}{u:TypeId}{v:Value}(hu:ER P u=true)(h:Cell.ok P w r base u v):lj v=true:=by
 unfold ER at hu;unfold Cell.ok at h;cases hx:P.underlying u with
 |none=>rw [hx] at hu;cases hu
 |some t=>
  rw [hx] at hu h;cases t<;>first|(cases hu;done)|skip
  cases v<;>first|rfl|(exact h.elim)
theorem DS {P:Program}{w:World}{t:TypeId}{cs:Array Value}(ht:(P.cellTypes P.depth t).map (fun ts=>ts.all (ER P))=some true)(h:Row.ok P w .any 0 t cs):∀ (i:Nat) v,cs[i]?=some v->lj v=true:=by
 obtain ⟨ts,h1,-,h3⟩:=h;rw [h1] at ht;have ht':ts.all (ER P)=true:=oJ ht;intro i v hv;obtain ⟨u,hu,hc⟩:=h3 i v hv;exact BH (List.all_eq_true.1 ht' u (List.mem_of_getElem? hu)) hc
theorem BI {α β:Type}{x:Option (α×β)}{t:β}(h:x.map (·.2)=some t):∃z,x=some (z,t):=by
 cases x with
 |none=>cases h
 |some a=>obtain ⟨z,y⟩:=a;cases h;exact ⟨z,rfl⟩
theorem rU {W:World}(h:W.ShapedOpen Tryz.prog):∀b,b<Tryz.prog.globals.size->∃c e z,W.heap[b]?=some (.cells c e z)/\∀ (i:Nat) v,c[i]?=some v->lj v=true:=by
 have hg:Tryz.prog.globals.size=4:=by kernel_rfl
 intro b hb;have key:∀t,((((begin Tryz.prog (fun _ _=>0) default).world.heap[b]?).bind Obj.row?).map (·.2)=some t)->(Tryz.prog.cellTypes Tryz.prog.depth t).map (fun ts=>ts.all (ER Tryz.prog))=some true->Tryz.prog.buildable t=true->∃c e z,W.heap[b]?=some (.cells c e z)/\∀ (i:Nat) v,c[i]?=some v->lj v=true:=fun t h1 h2 h3=>by
  obtain ⟨z,hz⟩:=BI h1;obtain ⟨cs,e1,-,e3⟩:=h.1 b z t hb hz;exact ⟨cs,t,(0,0),e1,DS h2 (e3 h3)⟩
 rw [hg] at hb;have hb4:b=0\/b=1\/b=2\/b=3:=by omega
 rcases hb4 with rfl|rfl|rfl|rfl
 .exact key 3 (by kernel_rfl) (by kernel_rfl) (by kernel_rfl)
 .exact key 249 (by kernel_rfl) (by kernel_rfl) (by kernel_rfl)
 .exact key 253 (by kernel_rfl) (by kernel_rfl) (by kernel_rfl)
 .exact key 254 (by kernel_rfl) (by kernel_rfl) (by kernel_rfl)
theorem BJ {W:World}(h:W.ShapedOpen Tryz.prog){X:Nat->Prop}(hX:∀b,X b->∃c e z,W.heap[b]?=some (.cells c e z)):Start W (fun b=>b<Tryz.prog.globals.size\/X b):=
 ⟨fun b hb=>by
  rcases hb with hb|hb
  .obtain ⟨c,e,z,h1,-⟩:=rU h b hb;exact ⟨c,e,z,h1⟩
  .exact hX b hb,fun g hg=>.inl hg⟩
theorem Clean.glob {W V:World}{D0:Nat->Prop}(hc:Clean D0 W V)(h:W.ShapedOpen Tryz.prog):∀b,b<Tryz.prog.globals.size->V.heap[b]?=W.heap[b]?:=fun b hb=>by
 by_cases hd:D0 b
 .obtain ⟨c,e,z,h1,h2⟩:=rU h b hb;obtain ⟨c',c0,e',z',k1,k2,k3,k4⟩:=hc.row b hd;rw [h1] at k1;cases k1;rw [h1,k2];refine congrArg (fun x=>some (Obj.cells x e z)) (Array.ext_getElem? fun i=>?_);by_cases hi:i<c.size
  .obtain ⟨u,q1,q2⟩:=k4 i _ (eG hi);rw [q1,q2.one (h2 i _ (eG hi)),eG hi]
  .rw [Array.getElem?_eq_none (by rw [k3];omega),Array.getElem?_eq_none (by omega)]
 .exact hc.rest b hd
theorem DT {W:World}(h:W.ShapedOpen Tryz.prog):cU W:=by
 have hg:0<Tryz.prog.globals.size:=jb;have h1:(((begin Tryz.prog (fun _ _=>0) default).world.heap[0]?).bind Obj.row?).map (fun x=>(x.1.size,x.2))=some (1,3):=by kernel_rfl
 have hu:Tryz.prog.underlying 3=some (.int .i64):=Tryz.underlying3;cases hx:((begin Tryz.prog (fun _ _=>0) default).world.heap[0]?).bind Obj.row? with
 |none=>rw [hx] at h1;cases h1
 |some x=>
  obtain ⟨z,t⟩:=x;rw [hx] at h1;simp only [Option.map_some,oI,Prod.mk.injEq] at h1;obtain ⟨hz,rfl⟩:=h1;obtain ⟨cs,e1,e2,e3⟩:=h.1 0 z 3 hg hx;obtain ⟨ts,k1,-,k3⟩:=e3 (by kernel_rfl);have hs:cs.size=1:=by omega
  have hts:ts=[3]:=oJ (k1.symm.trans (show Tryz.prog.cellTypes Tryz.prog.depth 3=some [3] by kernel_rfl));subst hts;obtain ⟨u,hu1,hc⟩:=k3 0 cs[0] (eG (by omega));simp at hu1;subst hu1;unfold Cell.ok at hc;rw [hu] at hc;have hcell:W.cell? ⟨0,0,none⟩=some cs[0]:=by simp [World.cell?,e1]
  generalize cs[0]=v at *;cases v<;>first|(exact hc.elim)|skip
  rename_i k m;obtain ⟨rfl,-⟩:=hc;exact ⟨m,hcell⟩
theorem cU.glob {W V:World}(h:cU W)(hb:∀b,b<Tryz.prog.globals.size->V.heap[b]?=W.heap[b]?):cU V:=by
 obtain ⟨m,hm⟩:=h;exact ⟨m,(cB (a:=⟨0,0,none⟩) (hb 0 jb)).trans hm⟩
theorem rl.frame {W w':World}(h:rl W w')(may:MemPlace->Prop):W.keptBut w' may:=by
 refine ⟨h.os,h.output,fun i hi=>?_⟩;rw [h.block i hi];split<;>simp_all
theorem rl.trod {H:Type}{enc:TypeId×Value->H}{P:Program}{t:TypeId}(hl:laidOutB P=true)(hr:P.readableRec t=true)(hrow:t<P.types.size){W W':World}{v:Value}{d:DataW H}{ps:List MemPlace}(h:DataW.Trod enc P W 0 (fun _=>true) true t v d ps)(hb:rl W W')(hlt:∀x∈ps,x.block<W.heap.size):DataW.Trod enc P W' 0 (fun b=>decide (b<W.heap.size)) true t v d ps:=by
 have:=Below.trod (W':={W' with tape:=W.tape}) hl hr hrow h ⟨hb.os,rfl,hb.output,hb.size,hb.block⟩ hlt;exact DataW.Trod.of_heap (w:={W' with tape:=W.tape}) (w':=W') rfl this
theorem kW {P:Program}{w:World}{x:String×DataW Unit}{l:List (String×DataW Unit)}(h:laidMet P (x::l) w):laidMet P l w:=by
 obtain ⟨ps,⟨g,t,cs,fuel,p,q,-,-,-,-,hq,rfl⟩,hn,hm⟩:=h;exact ⟨q,hq,(List.nodup_append.1 hn).2.1,fun b off hb=>hm b off (List.mem_append_right _ hb)⟩
end
section
open Go.RowKit
def dR (st:St)(key:ByteArray)(n:Int):Ver×Int:=
 if aU key=false then (dE,2)
 else match dP (st.f key.data.toList) n with
  |none=>(dE,5)
  |some r=>match (st.f key.data.toList)[r]? with
   |none=>(dE,5)
   |some v=>if v.mark then (dE,6) else (v,0)
structure ES (w W0:World):Prop where
 below:Below w.heap.size w W0
 c0:W0.cell? ⟨w.heap.size,0,none⟩=some (.int .i64 0)
 c1:W0.cell? ⟨w.heap.size,1,none⟩=some (.string ⟨#[]⟩)
 c2:W0.cell? ⟨w.heap.size,2,none⟩=some (.bool false)
 fz:∀j,W0.frozen? ⟨w.heap.size,j,none⟩=false
theorem FA (w:World):ES w (w.alloc (.cells #[.int .i64 0,.string ⟨#[]⟩,.bool false] 81)):=
 ⟨(bR _ w).alloc (lR _) _,by rw [cA (w:=w) _ _ w.heap.size 0 rfl];rfl,by rw [cA (w:=w) _ _ w.heap.size 1 rfl];rfl,by rw [cA (w:=w) _ _ w.heap.size 2 rfl];rfl,fun j=>World.frozen?_alloc_at (w:=w) _ _ w.heap.size j rfl⟩
theorem ES.on {w W0 w1:World}(h:ES w W0)(hb:Below W0.heap.size W0 w1):ES w w1:=
 ⟨h.below.trans (hb.mono h.below.size),ai hb h.c0,ai hb h.c1,ai hb h.c2,fun j=>(hb.frozen (p:=⟨w.heap.size,j,none⟩) (show w.heap.size<W0.heap.size from bC W0 ⟨w.heap.size,0,none⟩ h.c0)).trans (h.fz j)⟩
theorem zF (A:Nat->Prop)(k0:Nat)(st:St)(s:Nat)(key:ByteArray)(n:Int)(w:World)(hk:key.size<=maxLen)(S:az A w k0 st)(hI:Inv st s)(hs:s<=2199023255552):
  Calls Yq.prog 37 #[.pointer (some ⟨k0,0,none⟩),.string key,.int .i64 n] w fun e w'=>e=.returned (.tuple #[bN (dR st key n).1,.int .i64 (dR st key n).2])/\Below w.heap.size w w':=by
 have R0:=FA w;have HF:=rH A k0 st s key n _ hk (S.on R0.below) hI hs;have HR0:Hid (ES w (w.alloc (.cells #[.int .i64 0,.string ⟨#[]⟩,.bool false] 81))):=R0;have hle:=hI.len key.data.toList;clear R0 S;go_enter Yq.func37,Tryz.ntmps37;go_wp2_with fail
 refine HF.mono ?_;generalize w.alloc (.cells #[.int .i64 0,.string ⟨#[]⟩,.bool false] 81)=W0 at *;rintro e w1 ⟨hb1,hcase⟩;have R1:=HR0.out.on hb1;have d0:=R1.c0;have d1:=R1.c1;have d2:=R1.c2;have g0:=R1.fz 0;have g1:=R1.fz 1;have g2:=R1.fz 2;have HB:Hid (Below w.heap.size w w1):=R1.below;clear R1 HR0 HF hb1;rcases hcase with ⟨hkey,rfl⟩|⟨hkey,hpl,rfl⟩|⟨hkey,r,ha,hc,hpl,hr,hh,rfl⟩
 .have HR:Hid (dR st key n=(dE,2)):=show dR st key n=(dE,2) by simp [dR,hkey]
  clear hkey;go_wp2;refine bodyPost_ret (v:=.tuple #[bN (dR st key n).1,.int .i64 (dR st key n).2]) (by rw [HR.out];simp [results,Tryz.results37,go_sem,bN,dE,d0,d1,d2]) rfl ⟨rfl,?_⟩;exact ((HB.out.setCell (lR _) _).setCell (lR _) _).setCell (lR _) _
 .have HR:Hid (dR st key n=(dE,5)):=show dR st key n=(dE,5) by simp [dR,hkey,hpl]
  clear hkey hpl;go_wp2;refine bodyPost_ret (v:=.tuple #[bN (dR st key n).1,.int .i64 (dR st key n).2]) (by rw [HR.out];simp [results,Tryz.results37,go_sem,bN,dE,d0,d1,d2]) rfl ⟨rfl,?_⟩;exact ((HB.out.setCell (lR _) _).setCell (lR _) _).setCell (lR _) _
 .have hne:st.f key.data.toList≠[]:=by intro e;rw [e] at hr;simp at hr
  obtain ⟨g,cap,he,-,-,hcc,-⟩:=hh.cells hne;cases he;obtain ⟨x0,x1,x2⟩:=hcc r hr;have HR:Hid (dR st key n=if (st.f key.data.toList)[r].mark then (dE,6) else ((st.f key.data.toList)[r],0)):=show dR st key n=_ by simp [dR,hkey,hpl,hr]
  generalize (st.f key.data.toList)[r]=v at *;obtain ⟨nm,bd,mk⟩:=v;simp only at x0 x1 x2;clear hcc hh hkey hpl hne;generalize (st.f key.data.toList).length=m at *;have hri:(r:Int)<(m:Int):=by omega
  cases mk with
  |true=>
   go_wp2;refine bodyPost_ret (v:=.tuple #[bN (dR st key n).1,.int .i64 (dR st key n).2]) (by rw [HR.out];simp [results,Tryz.results37,go_sem,bN,dE,d0,d1,d2]) rfl ⟨rfl,?_⟩;exact ((HB.out.setCell (lR _) _).setCell (lR _) _).setCell (lR _) _
  |false=>
   go_wp2;refine bodyPost_ret (v:=.tuple #[bN (dR st key n).1,.int .i64 (dR st key n).2]) (by rw [HR.out];simp [results,Tryz.results37,go_sem,bN,d0,d1,d2]) rfl ⟨rfl,?_⟩;exact ((HB.out.setCell (lR _) _).setCell (lR _) _).setCell (lR _) _
structure jL (w W0:World):Prop where
 below:Below w.heap.size w W0
 lt:w.heap.size+1<W0.heap.size
 c0:W0.cell? ⟨w.heap.size+1,0,none⟩=some (.int .i64 0)
 c1:W0.cell? ⟨w.heap.size+1,1,none⟩=some (.int .i64 0)
 c2:W0.cell? ⟨w.heap.size+1,2,none⟩=some (.string ⟨#[]⟩)
 c3:W0.cell? ⟨w.heap.size+1,3,none⟩=some (.slice none 0 0)
 c4:W0.cell? ⟨w.heap.size+1,4,none⟩=some (.string ⟨#[]⟩)
 fz:∀j,W0.frozen? ⟨w.heap.size+1,j,none⟩=false
theorem ET (w:World)(cs:Array Value):jL w ((w.alloc (.cells cs 31)).alloc (.cells #[.int .i64 0,.int .i64 0,.string ⟨#[]⟩,.slice none 0 0,.string ⟨#[]⟩] 36)):=by
 have h:∀j,((w.alloc (.cells cs 31)).alloc (.cells #[.int .i64 0,.int .i64 0,.string ⟨#[]⟩,.slice none 0 0,.string ⟨#[]⟩] 36)).cell? ⟨w.heap.size+1,j,none⟩=(#[.int .i64 0,.int .i64 0,.string ⟨#[]⟩,.slice none 0 0,.string ⟨#[]⟩]:Array Value)[j]?:=fun j=>
  cA (w:=w.alloc (.cells cs 31)) _ _ (w.heap.size+1) j (by simp)
 refine ⟨((bR _ w).alloc (lR _) _).alloc (by simp) _,by simp,h 0,h 1,h 2,h 3,h 4,fun j=>World.frozen?_alloc_at (w:=w.alloc (.cells cs 31)) _ _ (w.heap.size+1) j (by simp)⟩
theorem jL.on {w W0 w1:World}{k0:Nat}(h:jL w W0)(hk:k0<w.heap.size)(hg:W0.grownBy w1 (some k0)):
  (w1.cell? ⟨w.heap.size+1,0,none⟩=some (.int .i64 0)/\w1.cell? ⟨w.heap.size+1,1,none⟩=some (.int .i64 0)/\w1.cell? ⟨w.heap.size+1,2,none⟩=some (.string ⟨#[]⟩)/\w1.cell? ⟨w.heap.size+1,3,none⟩=some (.slice none 0 0)/\w1.cell? ⟨w.heap.size+1,4,none⟩=some (.string ⟨#[]⟩)) /\
  (w1.frozen? ⟨w.heap.size+1,0,none⟩=false/\w1.frozen? ⟨w.heap.size+1,1,none⟩=false/\w1.frozen? ⟨w.heap.size+1,2,none⟩=false/\w1.frozen? ⟨w.heap.size+1,3,none⟩=false/\w1.frozen? ⟨w.heap.size+1,4,none⟩=false):=by
 have hne:∀o,some (⟨w.heap.size+1,o,none⟩:Addr).block≠some k0:=fun o e=>by simp at e;omega
 have hf:∀j,w1.frozen? ⟨w.heap.size+1,j,none⟩=false:=fun j=>(fk hg ⟨w.heap.size+1,j,none⟩ h.lt (hne j)).trans (h.fz j)
 exact ⟨⟨hg.cell h.c0 (hne 0),hg.cell h.c1 (hne 1),hg.cell h.c2 (hne 2),hg.cell h.c3 (hne 3),hg.cell h.c4 (hne 4)⟩,hf 0,hf 1,hf 2,hf 3,hf 4⟩
theorem jL.drew {w W0:World}(h:jL w W0):jL w W0.drew:=⟨h.below.drew,h.lt,h.c0,h.c1,h.c2,h.c3,h.c4,h.fz⟩
def put5 (w1:World)(b:Nat)(x0 x1 x2 x3 x4:Value):World:=((((w1.setCell ⟨b,0,none⟩ x0).setCell ⟨b,1,none⟩ x1).setCell ⟨b,2,none⟩ x2).setCell ⟨b,3,none⟩ x3).setCell ⟨b,4,none⟩ x4
theorem ni {A:Nat->Prop}{w W0 w1:World}{k0:Nat}{st':St}{v:Value}(hk:k0<w.heap.size)(ha:∀b,A b->b≠k0)(hW:Below w.heap.size w W0)(hlt:w.heap.size+1<W0.heap.size)(S1:az (Grow (fun b=>A b/\b<w.heap.size) W0) w1 k0 st')(hg:cw W0 w1 k0)(x0 x1 x2 x3 x4:Value):
  cZ A w k0 st' v (.returned v) (put5 w1 (w.heap.size+1) x0 x1 x2 x3 x4):=by
 have hne:w.heap.size+1≠k0:=by omega
 have hg1:cw w w1 k0:=pQ (dQ hk hW) hg;refine ⟨rfl,?_,?_⟩
 .obtain ⟨p,C,hN⟩:=S1.cells;unfold put5;refine fS (p:=p) (((((C.far _ _ _ hne).far _ _ _ hne).far _ _ _ hne).far _ _ _ hne).far _ _ _ hne) ?_ (fT ha hk);refine aj.keep (fun b hb _=>?_) 41 p st'.f hN;have hb1:b≠w.heap.size+1:=by
   rcases hb with ⟨⟨_,h⟩,_⟩|h<;>omega
  have hb2:Grow A w b:=by
   rcases hb with ⟨⟨h1,h2⟩,_⟩|h
   .exact Or.inl ⟨h1,h2⟩
   .exact Or.inr (by omega)
  refine ⟨hb2,?_⟩;rw [bS _ _ _ _ hb1,bS _ _ _ _ hb1,bS _ _ _ _ hb1,bS _ _ _ _ hb1,bS _ _ _ _ hb1]
 .unfold put5;exact rI (rI (rI (rI (rI hg1 (by omega) _ _) (by omega) _ _) (by omega) _ _) (by omega) _ _) (by omega) _ _
theorem az.cut {A:Nat->Prop}{w W0:World}{k0:Nat}{st:St}(S:az A w k0 st)(hW:Below w.heap.size w W0):az (fun b=>A b/\b<w.heap.size) W0 k0 st:=by
 obtain ⟨p,C,hN⟩:=S.cells;exact fS (p:=p) (C.on hW) (aj.keep (fun b h1 h2=>⟨⟨h1,h2⟩,hW.block b h2⟩) 41 p st.f hN) (fun b h=>S.avoid b h.1)
theorem wZ (A:Nat->Prop)(k0:Nat)(st:St)(s:Nat)(o:OpD)(w:World)(hk:o.key.size<=maxLen)(hbd:o.body.size<=maxLen)(S:az A w k0 st)(hI:Inv st s)(hs:s<2199023255552)(hkind:o.kind=1):
  Calls Yq.prog 33 #[.pointer (some ⟨k0,0,none⟩),dk o] w (cZ A w k0 (oz st o.key o.body).1 (di ⟨(oz st o.key o.body).2.2,(oz st o.key o.body).2.1,⟨#[]⟩⟩)):=by
 obtain ⟨kind,key,body,delim,past,n,src⟩:=o;simp only at hkind hk hbd;subst hkind;have R0:=(ET w #[.int .i64 1,.string key,.string body,.string delim,.string past,.int .i64 n,.int .i64 src]).drew;have HC:=BD _ k0 st s key body _ hk hbd (S.cut R0.below) hI hs;have HS:Hid (k0<w.heap.size/\∀b,A b->b≠k0):=⟨S.lt,S.avoid⟩;have HR0:Hid (jL w ((w.alloc (.cells #[.int .i64 1,.string key,.string body,.string delim,.string past,.int .i64 n,.int .i64 src] 31)).alloc (.cells #[.int .i64 0,.int .i64 0,.string ⟨#[]⟩,.slice none 0 0,.string ⟨#[]⟩] 36)).drew):=R0;clear R0 S;simp only [dk];generalize oz st key body=pr at *;go_enter Yq.func33,Tryz.ntmps33;go_wp2_with fail
 go_region_with (go_at_call 35;refine HC.mono ?_;rintro e w1 ⟨rfl,S1,hg1⟩;obtain ⟨⟨d0,d1,d2,d3,d4⟩,g0,g1,g2,g3,g4⟩:=HR0.out.on HS.out.1 hg1.g;have HX:Hid (_/\_):=And.intro S1 hg1;clear S1 hg1 HC)
 all_goals
  go_wp2;refine bodyPost_ret (v:=di ⟨pr.2.2,pr.2.1,⟨#[]⟩⟩) (by simp [results,Tryz.results33,go_sem,di,d0,d1,d2,d3,d4]) rfl ?_;exact ni HS.out.1 HS.out.2 HR0.out.below HR0.out.lt HX.out.1 HX.out.2 _ _ _ _ _
theorem tX (A:Nat->Prop)(k0:Nat)(st:St)(s:Nat)(o:OpD)(w:World)(hk:o.key.size<=maxLen)(S:az A w k0 st)(hI:Inv st s)(hs:s<2199023255552)(hkind:o.kind=4):
  Calls Yq.prog 33 #[.pointer (some ⟨k0,0,none⟩),dk o] w (cZ A w k0 (gI st o.key).1 (di ⟨(gI st o.key).2.2,(gI st o.key).2.1,⟨#[]⟩⟩)):=by
 obtain ⟨kind,key,body,delim,past,n,src⟩:=o;simp only at hkind hk;subst hkind;have R0:=(ET w #[.int .i64 4,.string key,.string body,.string delim,.string past,.int .i64 n,.int .i64 src]).drew;have HC:=zz _ k0 st s key _ hk (S.cut R0.below) hI hs;have HS:Hid (k0<w.heap.size/\∀b,A b->b≠k0):=⟨S.lt,S.avoid⟩;have HR0:Hid (jL w ((w.alloc (.cells #[.int .i64 4,.string key,.string body,.string delim,.string past,.int .i64 n,.int .i64 src] 31)).alloc (.cells #[.int .i64 0,.int .i64 0,.string ⟨#[]⟩,.slice none 0 0,.string ⟨#[]⟩] 36)).drew):=R0;clear R0 S;simp only [dk];generalize gI st key=pr at *;go_enter Yq.func33,Tryz.ntmps33;go_wp2_with fail
 go_region_with (go_at_call 38;refine HC.mono ?_;rintro e w1 ⟨rfl,S1,hg1⟩;obtain ⟨⟨d0,d1,d2,d3,d4⟩,g0,g1,g2,g3,g4⟩:=HR0.out.on HS.out.1 hg1.g;have HX:Hid (_/\_):=And.intro S1 hg1;clear S1 hg1 HC)
 all_goals
  go_wp2;refine bodyPost_ret (v:=di ⟨pr.2.2,pr.2.1,⟨#[]⟩⟩) (by simp [results,Tryz.results33,go_sem,di,d0,d1,d2,d3,d4]) rfl ?_;exact ni HS.out.1 HS.out.2 HR0.out.below HR0.out.lt HX.out.1 HX.out.2 _ _ _ _ _
theorem rV (A:Nat->Prop)(k0:Nat)(st:St)(s:Nat)(o:OpD)(w:World)(hk:o.key.size<=maxLen)(S:az A w k0 st)(hI:Inv st s)(hs:s<2199023255552)(hkind:o.kind=5):
  Calls Yq.prog 33 #[.pointer (some ⟨k0,0,none⟩),dk o] w (cZ A w k0 (dN st o.key o.n).1 (di ⟨(dN st o.key o.n).2,0,⟨#[]⟩⟩)):=by
 obtain ⟨kind,key,body,delim,past,n,src⟩:=o;simp only at hkind hk;subst hkind;have R0:=(ET w #[.int .i64 5,.string key,.string body,.string delim,.string past,.int .i64 n,.int .i64 src]).drew;have HC:=wX _ k0 st s key n _ hk (S.cut R0.below) hI hs;have HS:Hid (k0<w.heap.size/\∀b,A b->b≠k0):=⟨S.lt,S.avoid⟩;have HR0:Hid (jL w ((w.alloc (.cells #[.int .i64 5,.string key,.string body,.string delim,.string past,.int .i64 n,.int .i64 src] 31)).alloc (.cells #[.int .i64 0,.int .i64 0,.string ⟨#[]⟩,.slice none 0 0,.string ⟨#[]⟩] 36)).drew):=R0;clear R0 S;simp only [dk];generalize dN st key n=pr at *;go_enter Yq.func33,Tryz.ntmps33;go_wp2_with fail
 go_region_with (go_at_call 39;refine HC.mono ?_;rintro e w1 ⟨rfl,S1,hg1⟩;obtain ⟨⟨d0,d1,d2,d3,d4⟩,g0,g1,g2,g3,g4⟩:=HR0.out.on HS.out.1 hg1.g;have HX:Hid (_/\_):=And.intro S1 hg1;clear S1 hg1 HC)
 all_goals
  go_wp2;refine bodyPost_ret (v:=di ⟨pr.2,0,⟨#[]⟩⟩) (by simp [results,Tryz.results33,go_sem,di,d0,d1,d2,d3,d4]) rfl ?_;exact ni HS.out.1 HS.out.2 HR0.out.below HR0.out.lt HX.out.1 HX.out.2 _ _ _ _ _
theorem rW (A:Nat->Prop)(k0:Nat)(st:St)(o:OpD)(w:World)(S:az A w k0 st)(h:o.kind<1\/12<o.kind):
  Calls Yq.prog 33 #[.pointer (some ⟨k0,0,none⟩),dk o] w (cZ A w k0 st (di ⟨1,0,⟨#[]⟩⟩)):=by
 obtain ⟨kind,key,body,delim,past,n,src⟩:=o;simp only at h;have b1:(kind==1)=false:=by simp;omega
 have b2:(kind==2)=false:=by simp;omega
 have b3:(kind==3)=false:=by simp;omega
 have b4:(kind==4)=false:=by simp;omega
 have b5:(kind==5)=false:=by simp;omega
 have b6:(kind==6)=false:=by simp;omega
 have b7:(kind==7)=false:=by simp;omega
 have b8:(kind==8)=false:=by simp;omega
 have b9:(kind==9)=false:=by simp;omega
 have b10:(kind==10)=false:=by simp;omega
 have b11:(kind==11)=false:=by simp;omega
 have b12:(kind==12)=false:=by simp;omega
 have HS:Hid (az A w k0 st):=S;clear h S;simp only [dk];go_enter Yq.func33,Tryz.ntmps33;go_wp2;refine bodyPost_ret (v:=di ⟨1,0,⟨#[]⟩⟩) (by simp [results,Tryz.results33,go_sem,di]) rfl ?_;exact aZ HS.out (((bR _ w).alloc (lR _) _).alloc (by simp) _)
end
