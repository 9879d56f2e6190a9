/- A part. -/
import Derived.Test.YtnapepbdohidgaaGreatDoorQS19
import Derived.RangeFuncBox
set_option maxHeartbeats 4000000
set_option maxRecDepth 100000
open Go renaming World->Wz,Value->Wq,Frame->Wv,Addr->Ww,undef->Wy
namespace Go.Proofs.Qw
section
open Go.RowKit
theorem cs {w:Wz}{a:Ww}{v u:Wq}(h:w.cell? a=some u):(w.setCell a v).cell? a=some v:=by first|exact World.cell?_setCell_same w a v h|exact World.cell?_setCell_same _ _ _ h
theorem co {w:Wz}{a b:Ww}{v u:Wq}(hne:a≠b)(h:w.cell? b=some u):(w.setCell a v).cell? b=some u:=(cO w a b v hne).trans h
theorem fs {w:Wz}{a b:Ww}{v:Wq}(h:w.frozen? b=false):(w.setCell a v).frozen? b=false:=by simpa using h
structure bL (w:Wz)(b:Nat)(x y z:Wq):Prop where
 c0:w.cell? ⟨b,0,none⟩=some x
 c1:w.cell? ⟨b,1,none⟩=some y
 c2:w.cell? ⟨b,2,none⟩=some z
 fz:∀j,w.frozen? ⟨b,j,none⟩=false
theorem bL.on {w w':Wz}{b:Nat}{x y z:Wq}(h:bL w b x y z)(hb:Below w.heap.size w w'):bL w' b x y z:=
 ⟨ak hb h.c0,ak hb h.c1,ak hb h.c2,fun j=>(hb.frozen (p:=⟨b,j,none⟩) (show b<w.heap.size from bC w ⟨b,0,none⟩ h.c0)).trans (h.fz j)⟩
theorem bL.set0 {w:Wz}{b:Nat}{x y z:Wq}(h:bL w b x y z)(v:Wq):bL (w.setCell ⟨b,0,none⟩ v) b v y z:=
 ⟨cs h.c0,co (by simp) h.c1,co (by simp) h.c2,fun j=>fs (h.fz j)⟩
theorem bL.set1 {w:Wz}{b:Nat}{x y z:Wq}(h:bL w b x y z)(v:Wq):bL (w.setCell ⟨b,1,none⟩ v) b x v z:=
 ⟨co (by simp) h.c0,cs h.c1,co (by simp) h.c2,fun j=>fs (h.fz j)⟩
theorem bL.set2 {w:Wz}{b:Nat}{x y z:Wq}(h:bL w b x y z)(v:Wq):bL (w.setCell ⟨b,2,none⟩ v) b x y v:=
 ⟨co (by simp) h.c0,co (by simp) h.c1,cs h.c2,fun j=>fs (h.fz j)⟩
theorem bL.far {w:Wz}{b:Nat}{x y z:Wq}(h:bL w b x y z)(b' o:Nat)(v:Wq)(hne:b'≠b):bL (w.setCell ⟨b',o,none⟩ v) b x y z:=
 ⟨co (fun e=>hne (congrArg Addr.block e)) h.c0,co (fun e=>hne (congrArg Addr.block e)) h.c1,co (fun e=>hne (congrArg Addr.block e)) h.c2,fun j=>fs (h.fz j)⟩
theorem kn (w:Wz)(x y z:Wq)(T:TypeId):bL (w.alloc (.cells #[x,y,z] T)) w.heap.size x y z:=
 ⟨by rw [cA (w:=w) _ _ w.heap.size 0 rfl];rfl,by rw [cA (w:=w) _ _ w.heap.size 1 rfl];rfl,by rw [cA (w:=w) _ _ w.heap.size 2 rfl];rfl,fun j=>World.frozen?_alloc_at (w:=w) _ _ w.heap.size j rfl⟩
theorem az.cells {A:Nat->Prop}{w:Wz}{k0:Nat}{st:St}(S:az A w k0 st):∃p,bL w k0 (.pointer p) (.int .i64 st.count) (.int .i64 st.last)/\ai A 41 w p st.f:=by
 obtain ⟨p,c0,hN⟩:=S.tree;exact ⟨p,⟨c0,S.count,S.last,S.frozen⟩,hN⟩
theorem fP {A:Nat->Prop}{w:Wz}{k0:Nat}{st:St}{p:Option Ww}(h:bL w k0 (.pointer p) (.int .i64 st.count) (.int .i64 st.last))(hN:ai A 41 w p st.f)(ha:∀b,A b->b≠k0):az A w k0 st:=
 ⟨ha,⟨p,h.c0,hN⟩,h.c1,h.c2,h.fz⟩
structure cy (w w':Wz)(k0:Nat):Prop where
 g:w.grownBy w' (some k0)
 lt:k0<w.heap.size
 t:∀j,3<=j->w'.cell? ⟨k0,j,none⟩=w.cell? ⟨k0,j,none⟩
theorem dQ {w w':Wz}{k0:Nat}(hk:k0<w.heap.size)(hb:Below w.heap.size w w'):cy w w' k0:=
 ⟨dA hb _,hk,fun j _=>cB (w:=w) (w':=w') (a:=⟨k0,j,none⟩) (hb.block k0 hk)⟩
theorem DW {w:Wz}{k0:Nat}(hk:k0<w.heap.size):cy w w k0:=dQ hk (bR _ _)
theorem pL {a b c:Wz}{k0:Nat}(h:cy a b k0)(h':cy b c k0):cy a c k0:=⟨bU h.g h'.g,h.lt,fun j hj=>(h'.t j hj).trans (h.t j hj)⟩
theorem fj {w w1 w2:Wz}{k0:Nat}(h:cy w w1 k0)(hb:Below w1.heap.size w1 w2):cy w w2 k0:=pL h (dQ (by have:=h.g.size;have:=h.lt;omega) hb)
theorem BJ {w w1:Wz}{k0:Nat}(h:cy w w1 k0)(o:Obj):cy w (w1.alloc o) k0:=fj h ((bR _ _).alloc (lR _) _)
theorem oA {w w1:Wz}{k0:Nat}(h:cy w w1 k0)(o:Nat)(v:Wq)(ho:o<3:=by decide):cy w (w1.setCell ⟨k0,o,none⟩ v) k0:=
 ⟨pJ h.g _ _,h.lt,fun j hj=>(cO w1 ⟨k0,o,none⟩ ⟨k0,j,none⟩ v (fun e=>by have:=congrArg Addr.off e;simp at this;omega)).trans (h.t j hj)⟩
theorem rC {w w1:Wz}{k0:Nat}(h:cy w w1 k0){b:Nat}(hb:w.heap.size<=b)(o:Nat)(v:Wq):cy w (w1.setCell ⟨b,o,none⟩ v) k0:=
 ⟨pK h.g hb _ _,h.lt,fun j hj=>(cO w1 ⟨b,o,none⟩ ⟨k0,j,none⟩ v (fun e=>by have h1:=congrArg Addr.block e;have h2:=h.lt;simp at h1;omega)).trans (h.t j hj)⟩
theorem nf {A:Nat->Prop}{w w3 w4:Wz}{k0:Nat}{p:Option Ww}{F:List UInt8->List Ver}(hw3:w.heap.size<=w3.heap.size)(ha:∀b,A b->b≠k0)(hk:k0<w.heap.size)(h:ai (Grow (fun b=>(A b/\b<w.heap.size)\/w.heap.size<=b) w3) 41 w4 p F)(o:Nat)(v:Wq):
  ai (Grow A w) 41 (w4.setCell ⟨k0,o,none⟩ v) p F:=by
 refine ai.keep (fun b hb _=>?_) 41 p F h;rcases hb with ⟨⟨hA,hlt⟩|hge,_⟩|hge
 .exact ⟨Or.inl ⟨hA,hlt⟩,bS _ _ _ _ (ha b hA)⟩
 .exact ⟨Or.inr hge,bS _ _ _ _ (by show b≠k0;omega)⟩
 .exact ⟨Or.inr (by omega),bS _ _ _ _ (by show b≠k0;omega)⟩
theorem fQ {A:Nat->Prop}{w:Wz}{k0:Nat}(ha:∀b,A b->b≠k0)(hk:k0<w.heap.size):∀b,Grow A w b->b≠k0:=by
 rintro b (⟨h,_⟩|h)
 .exact ha b h
 .omega
theorem vj (A:Nat->Prop)(k0:Nat)(st:St)(s:Nat)(key:ByteArray)(nm0:Int)(bd:ByteArray)(mk:Bool)(w:Wz)(hk:key.size<41)(S:az A w k0 st)(hI:Inv st s)(hs:s<2199023255552):
  Calls Yq.prog 61 #[.pointer (some ⟨k0,0,none⟩),.string key,.agg #[.int .i64 nm0,.string bd,.bool mk]] w fun e w'=>e=.returned (.int .i64 (st.last+1))/\az (Grow A w) w' k0 (dB st key bd mk)/\cy w w' k0:=by
 obtain ⟨p,C,hN⟩:=S.cells;have c0:=C.c0;have c1:=C.c1;have c2:=C.c2;have f0:=C.fz 0;have f1:=C.fz 1;have f2:=C.fz 2;have hk0:=S.lt;have l0:=hI.last0;have l1:=hI.lastS;have l2:=hI.countL;have l3:=hI.countU;have hle:=hI.len key.data.toList;have hne:¬w.heap.size=k0:=by omega
 have hne':¬k0=w.heap.size:=by omega
 obtain ⟨W1,hW1⟩:∃W1,W1=((w.setCell ⟨k0,2,none⟩ (.int .i64 (st.last+1))).setCell ⟨k0,1,none⟩ (.int .i64 (st.count+1))).alloc (.cells #[.int .i64 (st.last+1),.string bd,.bool mk] 81):=⟨_,rfl⟩;have hg0:cy w ((w.setCell ⟨k0,2,none⟩ (.int .i64 (st.last+1))).setCell ⟨k0,1,none⟩ (.int .i64 (st.count+1))) k0:=oA (oA (DW hk0) _ _) _ _;have hz0:((w.setCell ⟨k0,2,none⟩ (.int .i64 (st.last+1))).setCell ⟨k0,1,none⟩ (.int .i64 (st.count+1))).heap.size=w.heap.size:=by simp [World.setCell]
 have hg1:cy w W1 k0:=by rw [hW1];exact BJ hg0 _
 have C1:bL W1 k0 (.pointer p) (.int .i64 (st.count+1)) (.int .i64 (st.last+1)):=by
  rw [hW1];exact ((C.set2 _).set1 _).on ((bR _ _).alloc (lR _) _)
 have X1:bL W1 w.heap.size (.int .i64 (st.last+1)) (.string bd) (.bool mk):=by
  rw [hW1,<-hz0];exact kn _ _ _ _ _
 have hN1:ai A 41 W1 p st.f:=ai.keep (DV hg1.g S.avoid) 41 p st.f hN;have HG:=mg A 41 p st.f key W1 hk (by simp only [maxLen];omega) hN1;have HS:Hid (az A w k0 st/\ai A 41 w p st.f/\cy w W1 k0/\bL W1 k0 (.pointer p) (.int .i64 (st.count+1)) (.int .i64 (st.last+1))/\bL W1 w.heap.size (.int .i64 (st.last+1)) (.string bd) (.bool mk)):=⟨S,hN,hg1,C1,X1⟩;have HW1:Hid (W1=((w.setCell ⟨k0,2,none⟩ (.int .i64 (st.last+1))).setCell ⟨k0,1,none⟩ (.int .i64 (st.count+1))).alloc (.cells #[.int .i64 (st.last+1),.string bd,.bool mk] 81)):=hW1;clear hN S C hg0 hz0 hg1 C1 X1 hN1 hW1;go_enter (Yq.nq Tryz.func61),Tryz.ntmps61;go_wp2_with fail
 rw [<-HW1.out];refine HG.mono ?_;rintro e w2 ⟨hv,rfl,hh,hb2⟩;obtain ⟨ha,hc,rfl,-⟩:=id hh;obtain ⟨S,hN,hg1,C1,X1⟩:=HS.out;have C2:=C1.on hb2;have X2:=X1.on hb2;have hg2:cy w w2 k0:=fj hg1 hb2;have a0:=C2.c0;have q0:=X2.c0;have q1:=X2.c1;have q2:=X2.c2;have HW:Hid (Calls Yq.prog 89 #[.slice ha (st.f key.data.toList).length hc,.agg #[.int .i64 (st.last+1),.string bd,.bool mk]] w2.drew fun e w'=>∃va vl vc,e=.returned (.slice va vl vc)/\aU (fun b=>w2.heap.size<=b) w' (.slice va vl vc) (st.f key.data.toList++[⟨st.last+1,bd,mk⟩])/\Below w2.heap.size w2 w'):=by
  refine (zw A _ _ (st.last+1) bd mk w2.drew (bH.keep hh (fun b h1 h2=>⟨h1,rfl⟩)) (by omega)).mono ?_;rintro e w' ⟨va,vl,vc,h1,h2,h3⟩;exact ⟨va,vl,vc,h1,h2,(bR _ w2).drew.trans h3⟩
 have HT:Hid (∀ (w3:Wz) (va:Option Ww) (vl vc:Nat),Below w2.heap.size w2 w3->aU (fun b=>w2.heap.size<=b) w3 (.slice va vl vc) (st.f key.data.toList++[⟨st.last+1,bd,mk⟩]) ->
   Calls Yq.prog 67 #[.agg #[.pointer p],.string key,.slice va vl vc] w3 fun e w'=>∃q,e=.returned (.agg #[.pointer q])/\Below w3.heap.size w3 w'/\ai (Grow (fun b=>(A b/\b<w.heap.size)\/w.heap.size<=b) w3) 41 w' q (upd st.f key.data.toList (st.f key.data.toList++[⟨st.last+1,bd,mk⟩]))):=fun w3 va vl vc hb3 hh3=>by
  refine rx _ 41 p st.f key _ _ w3 (ai.keep (fun b h1 h2=>⟨Or.inl ⟨h1,h2⟩,(fj hg2 hb3).g.block b h2 (by intro e;cases e;exact S.avoid k0 h1 rfl)⟩) 41 p st.f hN) hk (by omega) (bH.keep hh3 (fun b h1 h2=>⟨Or.inr ?_,rfl⟩)) (by simp);have:=hg2.g.size;omega
 have HC:Hid (bL w2 k0 (.pointer p) (.int .i64 (st.count+1)) (.int .i64 (st.last+1))/\bL w2 w.heap.size (.int .i64 (st.last+1)) (.string bd) (.bool mk)/\cy w w2 k0):=⟨C2,X2,hg2⟩;clear S hN hg1 C1 X1 C2 X2 hg2 hh hb2 HG;go_wp2_with fail
 go_region_with (first
  |(go_at_call 89;refine HW.out.mono ?_;rintro e w3 ⟨va,vl,vc,rfl,hh3,hb3⟩;have b0:=ak hb3 a0)
  |(go_at_call 67;refine (HT.out _ va vl vc hb3 hh3).mono ?_;rintro e w4 ⟨q,rfl,hb4,hN4⟩;have d0:=ak hb4 b0;have D4:=(HC.out.2.1.on hb3).on hb4;have E4:=(HC.out.1.on hb3).on hb4;have r0:=D4.c0;have r1:=E4.c0;have r2:=E4.fz 0))
 all_goals
  go_wp2;go_ret;refine ⟨rfl,?_,?_⟩
  .refine fP (p:=q) ?_ ?_ (fQ HS.out.1.avoid hk0)
   .exact E4.set0 _
   .exact nf (by have:=HC.out.2.2.g.size;have:=hb3.size;omega) HS.out.1.avoid hk0 hN4 _ _
  .exact oA (fj (fj HC.out.2.2 hb3) hb4) _ _
end
section
open Go
open Go.Conc Go.ConcX Go.ConcX.Gen Go.RowKit
structure ItD where
 kind:Int
 text:ByteArray
 ver:Int
def itVal (i:ItD):Wq:=.agg #[.int .i64 i.kind,.string i.text,.int .i64 i.ver]
def ax (l:List ItD):List Wq:=l.flatMap fun i=>[.int .i64 i.kind,.string i.text,.int .i64 i.ver]
theorem ng (l:List ItD):(ax l).length=l.length * 3:=by
 induction l with
 |nil=>rfl
 |cons i l ih=>simp [ax] at ih ⊢;omega
theorem kZ (l:List ItD)(i:ItD):ax (l++[i])=ax l++[.int .i64 i.kind,.string i.text,.int .i64 i.ver]:=by simp [ax]
theorem Yq.infoItem:(Yq.prog.info? 41).map (fun i=>(i.zero,i.size,i.bytes))=some (some (.agg #[.int .i64 0,.string ⟨#[]⟩,.int .i64 0]),3,32):=by kernel_rfl
def cJ (n:Nat)(l:Lst)(pn:Int)(c:Nat)(cnt:Int)(u:Nat->Wq):Array Wq:=
 #[lV l,.int .i64 pn,ptr n,Wy,ptr (n+1),ptr (n+2),.int .i64 (IntKind.i64.wrap (pn * l.size)),.int .i64 cnt,u 8,.int .i64 pn,.pointer (some ⟨n,6,none⟩),.int .i64 l.size,.int .i64 (IntKind.i64.wrap (pn * l.size)),.pointer (some ⟨n,2,none⟩),qV l.vs l.p l.d l.af,.pointer (some ⟨n,1,none⟩),sV l.root,.chan (some c),u 18,u 19,u 20,u 21,u 22,u 23,u 24,u 25,u 26,u 27,u 28,u 29,u 30,u 31,u 32,u 33,u 34,u 35,u 36,u 37,u 38,u 39,Wy,Wy,Wy,Wy,Wy,Wy,Wy,Wy,Wy]
theorem iN {P:Program}{b:Wv}{a:Act}{k:List Item}{cs:List Wv}{w w':Wz}{main:Bool}{ops:Array Oper}{i:Nat}{rest:List Nat}{o:Oper}{cases:Array CommCase}{blocking:Bool}{shape:CommShape}(ho:ops[i]?=some o)(hw:Region.wanted o (yielded ops a.tmps)=true)
  (hr:(execOp a.eval o).run P w=.ok (.comm cases blocking shape) w'):
  ∃es,stepG P main (G (b.at a (.inRegion ops (i::rest)::k)) cs) w=.comm (G (b.at a (.inRegion ops (i::rest)::k)) cs) cases blocking shape w' es:=by
 rw [stepG_oper ho hw];simp only [stepG.apply,G,Frame.at,GStep.after,if_true];have h1:((execOp a.eval o).runT P w #[]).1=.ok (.comm cases blocking shape) w':=by rw [Sem.runT_eq];exact hr
 generalize (execOp a.eval o).runT P w #[]=x at h1;obtain ⟨x1,x2⟩:=x;subst h1;exact ⟨_,rfl⟩
theorem DX {a:Act}{w:Wz}{c k s q:Nat}{v:Wq}{rest:List Wq}{Q:Exit->Act->Wz->Prop}(h17:a.eval (.tmp 17)=.chan (some c))(hsz:a.tmps.size=49)(hrow:w.heap[c]?=some (.chan k (v::rest).toArray true s q false))
  (h:Q .normal ((a.put (some 18) (.tuple #[v,.bool true])).put (some 19) (.bool true)) (w.setChan c k rest.toArray true s (q+1) false)):(Code.region 5 eh false).wp Yq.prog Q a w:=by
 intro b kk cs;refine ⟨.normal,_,_,h,?_⟩;refine Steps.head step_region ?_;have hr:List.range eh.size=[0,1]:=rfl;rw [hr];obtain ⟨es,hcomm⟩:∃es,stepG Yq.prog true (G (b.at a (.inRegion eh [0,1]::kk)) cs) w=.comm (G (b.at a (.inRegion eh [0,1]::kk)) cs) #[rcase c (.agg #[.int .i64 0,.string ⟨#[]⟩,.int .i64 0])] true (.recv true) w es:=by
  refine iN (o := { dst := some 18, op := .recv 165 (.tmp 17) true, type := 0, pos := "listing.go:108", after := #[], guard := none }) rfl rfl ?_
  have e : execOp a.eval { dst := some 18, op := .recv 165 (.tmp 17) true, type := 0, pos := "listing.go:108", after := #[], guard := none } = (do
   let .chan _ elem ← underlying 165 | stuck "receive: channel type expected"
   pure (.comm #[{chan:=a.eval (.tmp 17),send:=none,zero:=<-zeroValue elem}] true (.recv true))):=rfl
  rw [e,h17];simp [go_sem,rcase]
 have st1:=step_lone_recv_buf true hcomm hrow (by simp);have e1:(v::rest).toArray.extract 1 (v::rest).toArray.size=rest.toArray:=by simp
 have e2:(v::rest).toArray.getD 0 Wy=v:=rfl;rw [e1,e2,Frame.finish_at] at st1;refine Steps.head st1 ?_;have hput:(a.put ((eh[0]?).bind (·.dst)) (got true v true))=a.put (some 18) (.tuple #[v,.bool true]):=rfl;rw [hput];have h18:(a.put (some 18) (.tuple #[v,.bool true])).eval (.tmp 18)=.tuple #[v,.bool true]:=by
  simp [Act.put,Act.eval,hsz]
 have st2 := tK (P := Yq.prog) (ops := eh) (a := a.put (some 18) (.tuple #[v, .bool true])) (i := 1) (rest := []) (b := b) (k := kk) (cs := cs) (w := w.setChan c k rest.toArray true s (q + 1) false) (w' := w.setChan c k rest.toArray true s (q + 1) false) (v := .bool true) (o := { dst := some 19, op := .extract (.tmp 18) 1, type := 4, pos := "listing.go:108", after := #[{ on := 0, ground := .data }], guard := none }) rfl rfl (by
  have e : execOp (a.put (some 18) (.tuple #[v, .bool true])).eval { dst := some 19, op := .extract (.tmp 18) 1, type := 4, pos := "listing.go:108", after := #[{ on := 0, ground := .data }], guard := none } = (do let v ← Instr.extract ((a.put (some 18) (.tuple #[v, .bool true])).eval (.tmp 18)) 1; pure (.value v)) := rfl
  rw [e,h18];rfl)
 exact Steps.head st2 (.one step_region_end)
structure PgI (w0 w:Wz)(n c:Nat)(items:List ItD)(rest:List Wq):Prop where
 os:w.os=w0.os
 size:w0.heap.size<=w.heap.size
 block:∀b,b<w0.heap.size->b≠c->b≠n+2->w.heap[b]?=w0.heap[b]?
 ch:∃k s q,w.heap[c]?=some (.chan k rest.toArray true s q false)
 row:∃sv,w.cell? ⟨n+2,0,none⟩=some sv/\w.ownsRow w0.heap.size 41 3 sv items.length (ax items)
 tok:w.cell? ⟨n+2,1,none⟩=some (.string ⟨#[]⟩)
 fz:∀j,w.frozen? ⟨n+2,j,none⟩=false
def gC (l:Lst)(pn:Int)(k:Int):Bool:=decide (IntKind.i64.wrap (IntKind.i64.wrap (pn * l.size)-l.size)<k)&&decide (k<=IntKind.i64.wrap (pn * l.size))
theorem PgI.setChan {w0 w:Wz}{n c k s q:Nat}{items:List ItD}{v:Wq}{rest:List Wq}(I:PgI w0 w n c items (v::rest))(hc:c<w0.heap.size)(hn:n+2<c):PgI w0 (w.setChan c k rest.toArray true s q false) n c items rest:=by
 have hcw:c<w.heap.size:=lL hc I.size;have hoth:∀b,b≠c->(w.setChan c k rest.toArray true s q false).heap[b]?=w.heap[b]?:=fun b hb=>aG _ _ _ _ _ _ _ _ hb
 have hcell:∀b j,b≠c->(w.setChan c k rest.toArray true s q false).cell? ⟨b,j,none⟩=w.cell? ⟨b,j,none⟩:=fun b j hb=>cB (a:=⟨b,j,none⟩) (hoth b hb)
 refine ⟨I.os,by rw [size_setChan];exact I.size,fun b h1 h2 h3=>(hoth b h2).trans (I.block b h1 h2 h3),⟨_,_,_,heap_setChan _ _ _ _ _ _ _ _ hcw⟩,?_,(hcell _ _ (by omega)).trans I.tok,fun j=>(fB (a:=⟨n+2,j,none⟩) (hoth _ (by simp;omega))).trans (I.fz j)⟩;obtain ⟨sv,h1,h2⟩:=I.row;refine ⟨sv,(hcell _ _ (by omega)).trans h1,h2.1,?_⟩;rcases h2.2 with h|⟨g,cap,cur,rfl,hb,hg,rest⟩
 .exact .inl h
 .exact .inr ⟨g,cap,cur,rfl,hb,(hoth g (by omega)).trans hg,rest⟩
theorem PgI.alloc {w0 w:Wz}{n c:Nat}{items:List ItD}{rest:List Wq}(I:PgI w0 w n c items rest)(hc:c<w0.heap.size)(hn:n+2<c)(o:Obj):PgI w0 (w.alloc o) n c items rest:=by
 have hoth:∀b,b<w0.heap.size->(w.alloc o).heap[b]?=w.heap[b]?:=fun b hb=>bA w o b (lL hb I.size)
 obtain ⟨k,s,q,h⟩:=I.ch;obtain ⟨sv,h1,h2⟩:=I.row;refine ⟨I.os,lT I.size (by simp),fun b h1 h2 h3=>(hoth b h1).trans (I.block b h1 h2 h3),⟨k,s,q,(hoth c hc).trans h⟩,⟨sv,(cB (a:=⟨n+2,0,none⟩) (hoth _ (by simp;omega))).trans h1,h2.alloc o⟩,(cB (a:=⟨n+2,1,none⟩) (hoth _ (by simp;omega))).trans I.tok,fun j=>(fB (a:=⟨n+2,j,none⟩) (hoth _ (by simp;omega))).trans (I.fz j)⟩
theorem PgI.app {w0 w w3:Wz}{n c:Nat}{items:List ItD}{rest:List Wq}{i:ItD}{sv v':Wq}(I:PgI w0 w n c items rest)(hc:c<w0.heap.size)(hn:n+2<c)(hg:w.grownBy w3 sv.ownBlock)(hb:∀k,sv.ownBlock=some k->w0.heap.size<=k)(ho:w3.ownsRow w0.heap.size 41 3 v' (items.length+1) (ax items++[.int .i64 i.kind,.string i.text,.int .i64 i.ver])):PgI w0 (w3.setCell ⟨n+2,0,none⟩ v') n c (items++[i]) rest:=by
 have hoth:∀b,b<w0.heap.size->w3.heap[b]?=w.heap[b]?:=fun b h=>hg.block b (lL h I.size) (fun e=>by have:=hb b e.symm;omega)
 have hset:∀b,b≠n+2->(w3.setCell ⟨n+2,0,none⟩ v').heap[b]?=w3.heap[b]?:=fun b h=>bS _ _ _ _ h
 obtain ⟨k,s,q,h⟩:=I.ch;obtain ⟨sv0,h1,h2⟩:=I.row;have hc0:w3.cell? ⟨n+2,0,none⟩=some sv0:=(cB (a:=⟨n+2,0,none⟩) (hoth _ (by simp;omega))).trans h1;have hsz:(w3.setCell ⟨n+2,0,none⟩ v').heap.size=w3.heap.size:=by simp
 refine ⟨((bR 0 w3).setCell (p:=⟨n+2,0,none⟩) (Nat.zero_le _) v').os.trans (hg.os.trans I.os),by rw [hsz];exact lT I.size hg.size,fun b h1 h2 h3=>(hset b h3).trans ((hoth b h1).trans (I.block b h1 h2 h3)),⟨k,s,q,(hset c (by omega)).trans ((hoth c hc).trans h)⟩,⟨v',cs hc0,?_⟩,co (by simp) ((cB (a:=⟨n+2,1,none⟩) (hoth _ (by simp;omega))).trans I.tok),fun j=>fs ((fB (a:=⟨n+2,j,none⟩) (hoth _ (by simp;omega))).trans (I.fz j))⟩;rw [kZ,lP,lS];refine ⟨ho.1,?_⟩;rcases ho.2 with h|⟨g,cap,cur,rfl,hb,hg,rest⟩
 .exact .inl h
 .exact .inr ⟨g,cap,cur,rfl,hb,(hset g (by omega)).trans hg,rest⟩
theorem wZ (w:Wz)(x0 x1 x2:Wq)(T:TypeId):∀j u,[x0,x1,x2][j]?=some u->(w.alloc (.cells #[x0,x1,x2] T)).cell? ((⟨w.heap.size,0,none⟩:Ww).add j)=some u:=by
 intro j u hj;rw [Addr.add_lit,cA (w:=w) _ _ w.heap.size _ rfl];simpa using hj
theorem ko (n:Int):IntKind.i64.wrap n=wrap64 n:=by unfold wrap64;exact IntKind.wrap_i64 n
def DY (l:Lst)(pn:Int)(n c cnt:Nat)(i:ItD)(rest:List Wq)(items:List ItD)(w0:Wz)(e:Exit)(a:Act)(w':Wz):Prop:=
 e=.normal/\a=⟨cJ n l pn c ((cnt:Int)+1) (fun i=>a.tmps.getD i Wy),[]⟩/\PgI w0 w' n c (if gC l pn ((cnt:Int)+1) then items++[i] else items) rest
theorem rD (l:Lst)(pn:Int)(n c:Nat)(cnt:Nat)(i:ItD)(rest:List Wq)(items:List ItD)(u:Nat->Wq)(w0 w:Wz)(hn:n+2<c)(hc:c<w0.heap.size)(hsize:w0.cell? ⟨n,6,none⟩=some (.int .i64 l.size))(I:PgI w0 w n c items (itVal i::rest))(hlen:items.length<=1000)(hcnt:cnt<=1000):
  cw.wp Yq.prog (DY l pn n c cnt i rest items w0) ⟨cJ n l pn c cnt u,[]⟩ w:=by
 obtain ⟨kc,sc,qc,hrow⟩:=I.ch;show (Code.seq (.region 5 eh false) (bM cw)).wp Yq.prog _ _ _;refine wp_seq (DX (c:=c) rfl rfl hrow ?_);have I1:=I.setChan (k:=kc) (s:=sc) (q:=qc+1) hc hn;generalize w.setChan c kc rest.toArray true sc (qc+1) false=w1 at I1 ⊢;clear hrow I;have hI1:Hid (PgI w0 w1 n c items rest):=I1;obtain ⟨sv,hsv,hown⟩:=I1.row;have hfz:=I1.fz 0;have hsz1:w1.cell? ⟨n,6,none⟩=some (.int .i64 l.size):=(cB (a:=⟨n,6,none⟩) (I1.block n (by omega) (by omega) (by omega))).trans hsize;clear I1;obtain ⟨num,root,vs,p,d,af,size,left⟩:=l;obtain ⟨kind,text,ver⟩:=i;simp only at hsz1;obtain ⟨i0,hi,hz0,hz1,hz2⟩:=info_parts Yq.infoItem;obtain ⟨so,sn,sc,rfl⟩:∃so sn sc,sv=.slice so sn sc:=by
  rcases hown.2 with ⟨rfl,-⟩|⟨g,cap,cur,rfl,-⟩
  .exact ⟨_,_,_,rfl⟩
  .exact ⟨_,_,_,rfl⟩
 have hbk:Hid (∀k,(Value.slice so sn sc).ownBlock=some k->w0.heap.size<=k):=fun k h=>(hown.lt k h).1
 have hnl:n<w1.heap.size:=lL (by omega) hI1.out.size;have hnl2:n+2<w1.heap.size:=lL (by omega) hI1.out.size;obtain ⟨O1,hO1⟩:∃O1,O1=Obj.cells #[.int .i64 kind,.string text,.int .i64 ver] 41:=⟨_,rfl⟩;have HO1:Hid (O1=Obj.cells #[.int .i64 kind,.string text,.int .i64 ver] 41):=hO1;have hI3:Hid (PgI w0 (w1.alloc O1) n c items rest):=hI1.out.alloc hc hn _;have hI4:Hid (PgI w0 ((w1.alloc O1).alloc O1) n c items rest):=hI3.out.alloc hc hn _;have kA:(w1.alloc O1).cell? ⟨n,6,none⟩=some (.int .i64 size):=ak ((bR _ _).alloc (lR _) _) hsz1;have kB:(w1.alloc O1).cell? ⟨n+2,0,none⟩=some (.slice so sn sc):=ak ((bR _ _).alloc (lR _) _) hsv;have HOW:Hid (((w1.alloc O1).alloc O1).ownsRow w0.heap.size 41 3 (.slice so sn sc) items.length (ax items)):=(hown.alloc _).alloc _;clear hown;rw [hO1] at kA kB;show Code.wp Yq.prog (bM cw) _ _ _;unfold cJ qV sV ptr lV aE itVal;simp only [Act.put];dsimp only [cw,cIn,bm,bK,Tryz.f69,fD,bM,nL,Option.getD];go_wp2_with (at_builtin;rw [<-HO1.out];refine wpList_append_own _ rfl _ _ 34 rfl w0.heap.size 41 i0 _ 3 32 (Yq.u Tryz.underlying34) hi hz0 hz1 hz2 rfl (by decide) _ _ _ rfl HOW.out ⟨(w1.alloc O1).heap.size,0,none⟩ 1 1 [.int .i64 kind,.string text,.int .i64 ver] ?qa rfl ?qb ?qc ?qd ?qe ?qf ?_)
 case qc=>simp [Value.oneCell']
 case qd=>simp only [maxLen];omega
 case qe=>omega
 case qf=>have:=hI1.out.size;omega
 .intro v' w3 ho hg _;rw [<-HO1.out] at hg;obtain ⟨g',cap',rfl⟩:=ownsRow_succ ho;have hcel:w3.cell? ⟨n+2,0,none⟩=some (.slice so sn sc):=by
   refine hg.cell (ak ((bR _ _).alloc (lR _) _) (by rw [HO1.out];exact kB)) (fun e=>?_);have:=hbk.out _ e.symm;simp at this;omega
  have hfr:w3.frozen? ⟨n+2,0,none⟩=false:=by
   rw [fi hg ⟨n+2,0,none⟩ (by simp;omega) (fun e=>by have:=hbk.out _ e.symm;simp at this;omega)];exact hI4.out.fz 0
  have HPG:Hid (PgI w0 (w3.setCell ⟨n+2,0,none⟩ (.slice (some ⟨g',0,none⟩) (items.length+1) cap')) n c (items++[⟨kind,text,ver⟩]) rest):=hI4.out.app hc hn hg hbk.out ho;clear ho hg hfz;go_wp2_with fail
  refine ⟨rfl,by simp only [cJ,ko];rfl,?_⟩;rw [if_pos (by simp only [gC,ko,bT,decide_eq_true_eq];exact ⟨by assumption,by assumption⟩)];exact HPG.out
 .refine ⟨rfl,by simp only [cJ,ko];rfl,?_⟩;rw [if_neg (by simp only [gC,ko,bT,decide_eq_true_eq];rintro ⟨h1,h2⟩;omega)];rw [<-HO1.out];exact hI3.out
 .refine ⟨rfl,by simp only [cJ,ko];rfl,?_⟩;rw [if_neg (by simp only [gC,ko,bT,decide_eq_true_eq];rintro ⟨h1,h2⟩;omega)];rw [<-HO1.out];exact hI3.out
def dL (l:Lst)(pn:Int):Nat->List ItD->List ItD
 |_,[]=>[]
 |k,i::r=>(if gC l pn ((k:Int)+1) then [i] else [])++dL l pn (k+1) r
noncomputable def nh (a:Act):Wv:=(base 69).at a [.code cw,.inLoop cw,.inBlock 0,.code (bM bK)]
theorem EY (n c:Nat)(l:Lst)(pn:Int)(cs:List Wv)(w:Wz):Steps Yq.prog (lone (pF2 n l pn c) cs w) (lone (nh ⟨cJ n l pn c 0 (fun _=>Wy),[]⟩) cs w):=
 .head step_region_end (.head (step_block (id:=0) (c:=.loop cw)) (.one step_loop))
theorem EZ (a:Act)(cs:List Wv)(w:Wz):Steps Yq.prog (lone (nh a) cs w) (lone (jy a [0,1]) cs w):=
 .head (step_seq (x:=.region 5 eh false) (y:=bM cw)) (.one step_region)
theorem BK (l:Lst)(pn:Int)(n c:Nat)(w0:Wz)(cs:List Wv)(hn:n+2<c)(hc:c<w0.heap.size)(hsize:w0.cell? ⟨n,6,none⟩=some (.int .i64 l.size)):
  ∀ (rest:List ItD) (cnt:Nat) (items:List ItD) (u:Nat->Wq) (w:Wz),PgI w0 w n c items (rest.map itVal)->items.length<=cnt->cnt+rest.length<=1000 ->
   ∃u' w',Steps Yq.prog (lone (nh ⟨cJ n l pn c cnt u,[]⟩) cs w) (lone (nh ⟨cJ n l pn c ((cnt+rest.length:Nat):Int) u',[]⟩) cs w')/\PgI w0 w' n c (items++dL l pn cnt rest) []:=by
 intro rest;induction rest with
 |nil=>exact fun cnt items u w I _ _=>⟨u,w,by simpa using Steps.refl _ _,by simpa [dL] using I⟩
 |cons i r ih=>
  intro cnt items u w I hi hl;have hl:cnt+(r.length+1)<=1000:=hl;obtain ⟨e,a,w1,⟨rfl,ha,I1⟩,hs⟩:=rD l pn n c cnt i (r.map itVal) items u w0 w hn hc hsize I (by omega) (by omega) (base 69) [.inLoop cw,.inBlock 0,.code (bM bK)] cs;have hs:Steps Yq.prog (lone (nh ⟨cJ n l pn c cnt u,[]⟩) cs w) (lone ((base 69).at a [.inLoop cw,.inBlock 0,.code (bM bK)]) cs w1):=hs;rw [ha] at hs;obtain ⟨u',w',hs',I'⟩:=ih (cnt+1) _ _ w1 I1 (by split<;>(try simp only [lP,lS])<;>omega) (by omega);refine ⟨u',w',Steps.trans hs (.head step_inLoop ?_),?_⟩
  .have e:(((cnt+1:Nat):Int))=(cnt:Int)+1:=rfl;rw [e] at hs';have e2:cnt+(i::r).length=cnt+1+r.length:=by simp;omega
   rw [e2];exact hs'
  .rw [dL];by_cases h:gC l pn ((cnt:Int)+1)=true
   .rw [if_pos h] at I' ⊢;simpa using I'
   .rw [if_neg h] at I' ⊢;simpa using I'
theorem BL (L:List Wq)(h:∀v∈L,∃ (a b:Int)(s:ByteArray),v=.agg #[.int .i64 a,.string s,.int .i64 b]):∃its:List ItD,L=its.map itVal:=by
 induction L with
 |nil=>exact ⟨[],rfl⟩
 |cons v L ih=>
  obtain ⟨a,b,s,rfl⟩:=h v (by simp);obtain ⟨its,rfl⟩:=ih (fun v hv=>h v (by simp [hv]));exact ⟨⟨a,s,b⟩::its,rfl⟩
theorem rE {w:Wz}{n c:Nat}{its:List ItD}(hrow:w.heap[n+2]?=some (.cells #[.slice none 0 0,.string ⟨#[]⟩] 88))(hch:∃k s q,w.heap[c]?=some (.chan k (its.map itVal).toArray true s q false)):PgI w w n c [] (its.map itVal):=
 ⟨rfl,lR _,fun _ _ _ _=>rfl,hch,⟨_,by simp [World.cell?,hrow],World.ownsRow_nil _ _ _ _⟩,by simp [World.cell?,hrow],fun j=>by simp [World.frozen?,hrow]⟩
theorem DZ:uW:=by
 intro l pn L n c w cs hL hlen hn h0 _ h2 hch;obtain ⟨its,rfl⟩:=BL L hL;have hc:c<w.heap.size:=by
  obtain ⟨k,s,q,h⟩:=hch;exact (eS h).1
 have hlen:its.length<=1000:=by simpa using hlen
 obtain ⟨u',w',hs,I⟩:=BK l pn n c w cs hn hc (by simp [World.cell?,h0,aE]) its 0 [] (fun _=>Wy) w (rE h2 hch) (by simp) (by omega);exact ⟨_,w',Steps.trans (EY n c l pn cs w) (Steps.trans hs (EZ _ cs w')),rfl,I.ch⟩
structure Qy where
 vs:Bool
 p:ByteArray
 d:ByteArray
 af:ByteArray
def iF (h:List Ver):Ver:=h.getLast?.getD ⟨0,⟨#[]⟩,false⟩
def lH (af key:ByteArray):Bool:=!Op.bytesLess key.toList af.toList && !decide (key.toList=af.toList)
def iG (q:Qy)(k:List UInt8)(h:List Ver):Bool:=lH q.af ⟨k.toArray⟩&&(q.vs || !(iF h).mark)
def dg (d:List UInt8):List UInt8->Option Nat
 | []=>if d=[] then some 0 else none
 |b::r=>if d.isPrefixOf (b::r) then some 0 else (dg d r).map (·+1)
def bf (q:Qy)(k:List UInt8):Option (List UInt8):=if q.d.size=0 then none else (dg q.d.data.toList (k.drop q.p.size)).map fun i=>k.take (q.p.size+i+q.d.size)
def fv (k:List UInt8)(v:Ver):ItD:=⟨if v.mark then 4 else 3,⟨k.toArray⟩,v.num⟩
def dv (vs:Bool)(k:List UInt8)(h:List Ver):List ItD:=if vs then h.reverse.map (fv k) else [⟨1,⟨k.toArray⟩,(iF h).num⟩]
def bJ (q:Qy)(s:List ItD×List UInt8)(kh:List UInt8×List Ver):List ItD×List UInt8:=
 if iG q kh.1 kh.2 then
  match bf q kh.1 with
  |none=>(s.1++dv q.vs kh.1 kh.2,s.2)
  |some c=>if c=s.2 then s else (s.1++[⟨2,⟨c.toArray⟩,0⟩],c)
 else s
def aw (q:Qy)(l:List (List UInt8×List Ver)):List ItD×List UInt8:=l.foldl (bJ q) ([],[])
def bF (q:Qy)(l:List (List UInt8×List Ver)):List ItD:=(aw q l).1
theorem lh (q:Qy)(l:List (List UInt8×List Ver))(x:List UInt8×List Ver):aw q (l++[x])=bJ q (aw q l) x:=by simp [aw]
theorem pM (q:Qy)(s:List ItD×List UInt8)(x:List UInt8×List Ver)(hx:x.2≠[]):s.1.length<=(bJ q s x).1.length/\(bJ q s x).1.length<=s.1.length+x.2.length:=by
 have h1:0<x.2.length:=List.length_pos_iff.2 hx;unfold bJ;split
 .split
  .simp only [lP,dv];split<;>simp<;>omega
  .split<;>simp<;>omega
 .omega
def fV (l:List (List UInt8×List Ver)):Nat:=(l.map fun x=>x.2.length).sum
theorem oB (q:Qy)(l:List (List UInt8×List Ver))(hl:∀x∈l,x.2≠[]):∀s,s.1.length<=(l.foldl (bJ q) s).1.length/\(l.foldl (bJ q) s).1.length<=s.1.length+fV l:=by
 induction l with
 |nil=>intro s;simp [fV]
 |cons x r ih=>
  intro s;have h1:=pM q s x (hl x (by simp));have h2:=ih (fun y hy=>hl y (by simp [hy])) (bJ q s x);simp only [List.foldl_cons,fV,List.map_cons,List.sum_cons] at h2 ⊢;omega
theorem pN (q:Qy)(l:List (List UInt8×List Ver))(hl:∀x∈l,x.2≠[]):(bF q l).length<=fV l:=by
 have:=(oB q l hl ([],[])).2;simpa [bF,aw] using this
theorem xb (q:Qy)(l pre:List (List UInt8×List Ver))(hl:∀x∈l,x.2≠[])(h:pre <+:l):(aw q pre).1.length<=(bF q l).length:=by
 obtain ⟨r,rfl⟩:=h;unfold bF aw;rw [List.foldl_append];exact (oB q r (fun x hx=>hl x (by simp [hx])) _).1
theorem fR (n:Nat):∀ (f:List UInt8->List Ver)(bs:List UInt8),∀x∈cx n f bs,x.2≠[]:=by
 induction n with
 |zero=>intro f bs x hx;simp [cx] at hx
 |succ n ih=>
  intro f bs x hx;simp only [cx,List.mem_append,List.mem_flatMap] at hx;rcases hx with hx|⟨b,-,hx⟩
  .split at hx
   .simp at hx
   .simp at hx;subst hx;simp_all
  .exact ih _ _ x hx
theorem ja (a b:List (List UInt8×List Ver)):fV (a++b)=fV a+fV b:=by simp [fV]
theorem rF {α:Type}(l:List α)(g:α->List (List UInt8×List Ver)):fV (l.flatMap g)=(l.map fun a=>fV (g a)).sum:=by
 induction l with
 |nil=>rfl
 |cons a r ih=>simp [ja,ih]
def tot (n:Nat)(f:List UInt8->List Ver):Nat:=fV (cx n f [])
theorem ni (n:Nat):∀ (f:List UInt8->List Ver)(bs cs:List UInt8),fV (cx n f bs)=fV (cx n f cs):=by
 induction n with
 |zero=>intro f bs cs;rfl
 |succ n ih=>
  intro f bs cs;simp only [cx,ja,rF];refine congr (congrArg HAdd.hAdd ?_) (congrArg List.sum (List.map_congr_left fun b _=>ih _ _ _));split<;>simp [fV]
theorem pP (n:Nat)(f:List UInt8->List Ver):tot (n+1) f=(f []).length+(xZ.map fun b=>tot n (fun k=>f (b::k))).sum:=by
 unfold tot;simp only [cx,ja,rF];refine congr (congrArg HAdd.hAdd ?_) (congrArg List.sum (List.map_congr_left fun b _=>ni _ _ _ _));split<;>simp_all [fV]
theorem E1 (l:List UInt8)(g:UInt8->Nat)(b:UInt8)(h:b∈l):g b<=(l.map g).sum:=by
 induction l with
 |nil=>simp at h
 |cons a r ih=>
  rcases List.mem_cons.1 h with rfl|h
  .simp
  .have:=ih h;simp;omega
theorem D1 (l:List UInt8)(g g':UInt8->Nat)(b:UInt8)(hn:l.Nodup)(h:b∈l)(ho:∀c,c≠b->g' c=g c):(l.map g').sum+g b=(l.map g).sum+g' b:=by
 induction l with
 |nil=>simp at h
 |cons a r ih=>
  obtain ⟨h1,h2⟩:=List.nodup_cons.1 hn;rcases List.mem_cons.1 h with rfl|h
  .have e:r.map g'=r.map g:=List.map_congr_left fun c hc=>ho c (fun e=>h1 (e▸hc))
   simp [e];omega
  .have:=ih h2 h;have e:=ho a (fun e=>h1 (e▸h));simp [e];omega
theorem xc:xZ.Nodup:=i8.imp (fun h e=>by subst e;exact absurd h (by simp))
theorem zy (n:Nat):∀ (f:List UInt8->List Ver)(key:List UInt8)(h:List Ver),key.length<n->tot n (upd f key h)+(f key).length=tot n f+h.length:=by
 induction n with
 |zero=>intro f key h hk;omega
 |succ n ih=>
  intro f key h hk;rw [pP,pP];cases key with
  |nil=>
   have e:(xZ.map fun b=>tot n fun k=>upd f [] h (b::k))=xZ.map fun b=>tot n fun k=>f (b::k):=by simp [upd]
   rw [e];simp [upd];omega
  |cons c r=>
   have e0:upd f (c::r) h []=f []:=by simp [upd]
   have e1:(fun k=>upd f (c::r) h (c::k))=upd (fun k=>f (c::k)) r h:=by funext k;simp [upd]
   have e2:=ih (fun k=>f (c::k)) r h (by simp at hk;omega);have e3:=D1 xZ (fun b=>tot n fun k=>f (b::k)) (fun b=>tot n fun k=>upd f (c::r) h (b::k)) c xc (pB c) (fun b hb=>by simp [upd,hb]);simp only [e1] at e3;rw [e0];omega
theorem zz (p:List UInt8):∀ (n:Nat)(f:List UInt8->List Ver),tot (n-p.length) (fun k=>f (p++k))<=tot n f:=by
 induction p with
 |nil=>intro n f;exact lR _
 |cons b p ih=>
  intro n f;cases n with
  |zero=>simp [tot,cx,fV]
  |succ n=>
   have h1:=ih n (fun k=>f (b::k));have h2:=E1 xZ (fun b=>tot n fun k=>f (b::k)) b (pB b);have e:n+1-(b::p).length=n-p.length:=by simp
   rw [e,pP];simp only [List.cons_append] at h2 ⊢;omega
theorem D2 (n:Nat):tot n (fun _=>[])=0:=by rw [tot,mY _ _ _ (fun _=>rfl)];rfl
theorem vk {h:List Ver}(hne:h≠[]):iF h=h.getLast hne:=by simp [iF,List.getLast?_eq_some_getLast hne]
theorem zB (nm:Int)(bd:ByteArray)(mk:Bool)(w:Wz):(Instr.field 81 (.agg #[.int .i64 nm,.string bd,.bool mk]) 0).run Yq.prog w=.ok (.int .i64 nm) w:=by kernel_rfl
theorem BM (A:Nat->Prop)(q:Qy)(k:List UInt8)(hv:Wq)(h:List Ver)(w:Wz)(hh:aU A w hv h)(hne:h≠[])(hl:h.length<=2199023255552):
  Calls Yq.prog 138 #[qV q.vs q.p q.d q.af,.string ⟨k.toArray⟩,hv] w fun e w'=>e=.returned (.bool (iG q k h))/\Below w.heap.size w w':=by
 obtain ⟨vs,p,d,af⟩:=q;have HB:Hid (Below w.heap.size w (w.alloc (.cells #[.bool vs,.string p,.string d,.string af] 93))):=(bR _ _).alloc (lR _) _;have HN:=km A hv h _ (hh.on HB.out) hne hl;have HW:Hid (∀b,b=iG ⟨vs,p,d,af⟩ k h↔b=(lH af ⟨k.toArray⟩&&(vs || !(h.getLast hne).mark))):=fun b=>by rw [iG,vk hne]
 generalize iG ⟨vs,p,d,af⟩ k h=B at *;obtain ⟨v,hv0⟩:∃v,h.getLast hne=v:=⟨_,rfl⟩;rw [hv0] at HN HW;obtain ⟨nm,bd,mk⟩:=v;simp only [bV] at HN;unfold qV;clear hv0 hh;have hfm:=oz nm bd mk;cases vs
 .go_enter (Yq.nq Tryz.func138),Tryz.ntmps138;go_wp2_with (go_at_call 64;refine HN.mono ?_;clear HN;rintro e w1 ⟨rfl,hb⟩)
  .go_ret;exact ⟨by rw [(HW.out _).1 rfl];simp_all [lH],HB.out.trans (hb.mono HB.out.size)⟩
  .go_ret;exact ⟨by rw [(HW.out _).1 rfl];rename_i hx;simp [lH];exact fun a b=>absurd ⟨a,b⟩ hx,HB.out⟩
 .go_enter (Yq.nq Tryz.func138),Tryz.ntmps138;go_wp2_with (go_at_call 64;refine HN.mono ?_;clear HN;rintro e w1 ⟨rfl,hb⟩)
  .go_ret;exact ⟨by rw [(HW.out _).1 rfl];simp_all [lH],HB.out⟩
  .go_ret;exact ⟨by rw [(HW.out _).1 rfl];rename_i hx;simp [lH];exact fun a=>Classical.byContradiction fun b=>hx ⟨a,b⟩,HB.out⟩
theorem tZ (vs:Bool)(p af key:ByteArray)(w:Wz):
  Calls Yq.prog 139 #[qV vs p ⟨#[]⟩ af,.string key] w fun e w'=>e=.returned (.tuple #[.string ⟨#[]⟩,.bool false])/\Below w.heap.size w w':=by
 unfold qV;go_enter (Yq.nq Tryz.func139),Tryz.ntmps139;go_wp2_with fail
 go_ret2
 exact ⟨rfl,(bR _ _).alloc (lR _) _⟩
theorem zC (root:Option Ww)(p:ByteArray)(w:Wz):
  Calls Yq.prog 101 #[sV root,.string p] w fun e w'=>e=.returned (.func (.func 122) #[] #[ptr w.heap.size,ptr (w.heap.size+1)])/\w'=(w.alloc (.cells #[.pointer root] 56)).alloc (.cells #[.string p] 9):=by
 unfold sV ptr;go_enter (Yq.nq Tryz.func101),Tryz.ntmps101;go_wp2_with fail
 go_ret;exact ⟨rfl,rfl⟩
def nj (ops:Array Oper)(listed:Array Bool):Prop:=∀ (j:Nat)(o:Oper),ops[j]?=some o->listed.getD j false=true->∀e∈o.after,Region.binds .any e=true->listed.getD e.on false=true
theorem vm {listed:Array Bool}{i k:Nat}(h:listed.getD k false=true):(listed.setIfInBounds i true).getD k false=true:=by
 rw [gD,Array.getElem?_setIfInBounds];rw [gD] at h;split
 .split
  .rfl
  .simp_all
 .exact h
theorem nj.set {ops:Array Oper}{listed:Array Bool}{i:Nat}(h:nj ops listed)(hi:i∈Region.ready .any ops listed):nj ops (listed.setIfInBounds i true):=by
 intro j o ho hj e he hb;by_cases hji:j=i
 .subst hji;exact vm (j7 hi ho e he hb)
 .have:listed.getD j false=true:=by
   rw [gD,Array.getElem?_setIfInBounds,if_neg (fun e=>hji e.symm)] at hj;rw [gD];exact hj
  exact vm (h j o ho this e he hb)
def FQ (ops:Array Oper)(j k:Nat):Bool:=((ops[j]?).map fun o=>o.after.toList.any fun e=>e.on==k&&Region.binds .any e).getD false
theorem nj.dep {ops:Array Oper}{listed:Array Bool}(h:nj ops listed){j k:Nat}(hd:FQ ops j k=true)(hj:listed.getD j false=true):listed.getD k false=true:=by
 unfold FQ at hd;cases ho:ops[j]? with
 |none=>simp [ho] at hd
 |some o=>
  simp only [ho,Option.map_some,Option.getD_some,List.any_eq_true,bT,beq_iff_eq] at hd;obtain ⟨e,he,rfl,hb⟩:=hd;exact h j o ho hj e (Array.mem_toList_iff.1 he) hb
section
variable {P:Program} {ops:Array Oper} {ro:Option Nat}
theorem fk {id n:Nat}{Q:Exit->Act->Wz->Prop}{a0:Act}{w0:Wz}(hm:P.follows .mixedOrders=true)(base lim:Nat)(vals:Nat->Wq)(Wd:(Nat->Bool)->Wz->Prop)(hsz:base+lim<=a0.tmps.size)
  (hdst:DL ops base lim=true) (hdep:zk ops=true)
  (hstep:∀ (listed:Array Bool) (a:Act) (w:Wz) (i:Nat) (o:Oper),i∈Region.ready .any ops listed->ops[i]?=some o->Vals a0 base lim vals Wd ops.size listed a w->(∀e∈o.after,Region.binds .any e=true->listed.getD e.on false=true)->nj ops listed ->
   wJ P ops ro i a w (fun a' w'=>∃v,a'=a.put o.dst v/\(i<lim->v=vals i)/\Wd (dH (fun j=>listed.getD j false) i) w'))
  (hend:∀a w,a.tmps.size=a0.tmps.size->a.defers=a0.defers->(∀t,t<base->a.eval (.tmp t)=a0.eval (.tmp t))->(∀i,i<lim->i<ops.size->a.eval (.tmp (base+i))=vals i)->(∃d,(∀i,i<ops.size->d i=true)/\Wd d w)->Q .normal a w)
  (h0:Wd (fun _=>false) {w0 with drawn:=w0.drawn+1}):(Code.region id ops true).wpIn (wf ro) n P Q a0 w0:=by
 have hf:∀i,(Array.replicate ops.size false).getD i false=false:=fun i=>by
  rw [gD,Array.getElem?_replicate];split<;>rfl
 refine oq hm (fun listed a w=>Vals a0 base lim vals Wd ops.size listed a w/\nj ops listed) (fun listed a w i V hi=>?_) (fun listed a w V hr=>?_) ⟨⟨rfl,rfl,fun _ _=>rfl,fun i _ h=>?_,by rw [show (fun i=>(Array.replicate ops.size false).getD i false)=fun _=>false from funext hf];exact h0,by simp⟩,fun j o _ h=>?_⟩
 .have hlt:=(cq hi).1;have ho:=eG hlt;refine (hstep listed a w i _ hi ho V.1 (j7 hi ho) V.2).mono ?_;rintro a' w' ⟨v,rfl,hv,hw⟩;exact ⟨V.1.step hi ho (uZ hdst i _ ho).1 (uZ hdst i _ ho).2 hsz hv hw,V.2.set hi⟩
 .have h1:=uY hdep V.1.len hr;exact hend a w V.1.size V.1.defers V.1.old (fun i hi hi2=>V.1.new i hi (h1 i hi2)) ⟨_,h1,V.1.world⟩
 .rw [hf i] at h;cases h
 .rw [hf j] at h;cases h
end
def E2:Code->Code
 | .cond _ a _=>a
 |c=>c
noncomputable def E3:Array Oper:=nL (fD (E2 (bM (fD (bM (bm Tryz.f140))))))
structure WdS (W1:Wz)(c:Nat)(buf:List Wq)(it:Wq)(d:Nat->Bool)(w:Wz):Prop where
 below:d 6=false->Below W1.heap.size W1 w
 done:d 6=true->∃w1,Below W1.heap.size W1 w1/\w=w1.setChan c 1000 (buf++[it]).toArray false (buf.length+1) 0 false
section
variable {W1:Wz} {c:Nat} {buf:List Wq} {it:Wq} {d:Nat->Bool} {w:Wz}
theorem WdS.other (h:WdS W1 c buf it d w){i:Nat}(hi:6≠i):WdS W1 c buf it (dH d i) w:=⟨fun e=>h.below (by rwa [dz hi] at e),fun e=>h.done (by rwa [dz hi] at e)⟩
theorem WdS.more (h:WdS W1 c buf it d w)(h6:d 6=false){X:Wz}(hX:Below w.heap.size w X):WdS W1 c buf it (dH d 3) X:=⟨fun _=>(h.below h6).trans (hX.mono (h.below h6).size),fun e=>by rw [dz (by omega),h6] at e;cases e⟩
theorem WdS.sent (h:WdS W1 c buf it d w)(hw:d 6=false):WdS W1 c buf it (dH d 6) (w.setChan c 1000 (buf.toArray.push it) false (buf.length+1) 0 false):=⟨fun e=>by simp [dH] at e,fun _=>⟨w,h.below hw,by simp⟩⟩
end
theorem zD (A:Nat->Prop){id n:Nat}{Q:Exit->Act->Wz->Prop}{a0:Act}{W:Wz}{b5 b7 c:Nat}{key:ByteArray}{hv:Wq}{h:List Ver}{buf:List Wq}(hs:a0.tmps.size=27)(e2:a0.eval (.tmp 2)=hv)(e5:a0.eval (.tmp 5)=ptr b5)(e7:a0.eval (.tmp 7)=ptr b7)
  (c5:W.cell? ⟨b5,0,none⟩=some (.string key)) (c7:W.cell? ⟨b7,0,none⟩=some (.chan (some c))) (hh:aU A W hv h) (hne:h≠[]) (hl:h.length<=2199023255552) (hc:W.heap[c]?=some (.chan 1000 buf.toArray false buf.length 0 false)) (hroom:buf.length<1000)
  (hend:∀a w1,a.tmps.size=27->a.defers=a0.defers->Below W.heap.size W w1->Q .normal a (w1.setChan c 1000 (buf++[itVal ⟨1,key,(h.getLast hne).num⟩]).toArray false (buf.length+1) 0 false)):
  (Code.region id E3 true).wpIn (wf none) n Yq.prog Q a0 W:=by
 obtain ⟨W1,hW1⟩:∃W1:Wz,W1={W with drawn:=W.drawn+1}:=⟨_,rfl⟩;have hb1:Below W.heap.size W W1:=by rw [hW1];exact ⟨rfl,rfl,rfl,lR _,fun _ _=>rfl⟩
 have hsz:W1.heap.size=W.heap.size:=by rw [hW1]
 have k5:W1.cell? ⟨b5,0,none⟩=some (.string key):=ak hb1 c5;have k7:W1.cell? ⟨b7,0,none⟩=some (.chan (some c)):=ak hb1 c7;have hcL:c<W1.heap.size:=by rw [hsz];exact (eS hc).1
 have hc:W1.heap[c]?=some (.chan 1000 buf.toArray false buf.length 0 false):=by rw [hW1];exact hc
 have hh:aU A W1 hv h:=hh.on hb1;have hroom:buf.toArray.size<1000:=by simpa using hroom
 refine fk (ro:=none) (a0:=a0) (w0:=W) mixed 13 6
   (fun i=>match i with| 0=>.chan (some c)| 1=>.string key| 2=>hv| 3=>bV (h.getLast hne)| 4=>.int .i64 (h.getLast hne).num|_=>itVal ⟨1,key,(h.getLast hne).num⟩)
   (WdS W1 c buf (itVal ⟨1,key,(h.getLast hne).num⟩)) (by omega) (by rfl) (by rfl) (fun listed a w i o hi ho V hdep hcl=>?_) (fun a w h1 h2 h3 h4 h5=>?_) ⟨fun _=>by rw [<-hW1];exact bR _ _,fun e=>by cases e⟩
 .have hlt:i<7:=(cq hi).1;have h60:listed.getD 6 false=false:=by
   cases h:listed.getD 6 false with
   |false=>rfl
   |true=>
    exfalso;have l5:=hcl.dep (j:=6) (k:=5) (by rfl) h;have l0:=hcl.dep (j:=6) (k:=0) (by rfl) h;have l4:=hcl.dep (j:=5) (k:=4) (by rfl) l5;have l1:=hcl.dep (j:=5) (k:=1) (by rfl) l5;have l3:=hcl.dep (j:=4) (k:=3) (by rfl) l4;have l2:=hcl.dep (j:=3) (k:=2) (by rfl) l3;have hi2:=(cq hi).2;have hall:∀j,j<7->listed.getD j false=true:=fun j hj=>by
     rcases j with - | - | - | - | - | - | - |j;all_goals first|assumption|omega
    have h7:=hall i hlt;have hsz7:i<listed.size:=by rw [V.len];exact hlt
    simp only [gD,eG hsz7,Option.getD_some] at hi2 h7;rw [hi2] at h7;cases h7
  have hw:Below W1.heap.size W1 w:=V.world.below h60;rcases i with - | - | - | - | - | - | - |i;all_goals first|omega|(have ho1:=ho;dsimp only [E3,E2,bm,Tryz.f140,fD,bM,nL,Option.getD] at ho1;simp only [gA,gS,gZ,oI,Nat.reduceAdd,zA] at ho1;subst ho1)
  .have q0:a.eval (.tmp 7)=ptr b7:=(V.old 7 (by omega)).trans e7;refine am ho rfl (fun c h=>by cases h) (v:=.chan (some c)) (w':=w) (by generalize a.eval=ρ at q0 ⊢;simp [go_sem,q0,ptr,ak hw k7]) ⟨_,rfl,fun _=>rfl,V.world.other (by omega)⟩
  .have q0:a.eval (.tmp 5)=ptr b5:=(V.old 5 (by omega)).trans e5;refine am ho rfl (fun c h=>by cases h) (v:=.string key) (w':=w) (by generalize a.eval=ρ at q0 ⊢;simp [go_sem,q0,ptr,ak hw k5]) ⟨_,rfl,fun _=>rfl,V.world.other (by omega)⟩
  .have q0:a.eval (.tmp 2)=hv:=(V.old 2 (by omega)).trans e2;refine am ho rfl (fun c h=>by cases h) (v:=hv) (w':=w) (by generalize a.eval=ρ at q0 ⊢;simp [go_sem,q0]) ⟨_,rfl,fun _=>rfl,V.world.other (by omega)⟩
  .have q0:a.eval (.tmp 15)=hv:=V.new 2 (by omega) (hdep ⟨2,.data⟩ (by simp) rfl);refine g7 (f:=64) (args:=#[hv]) (w':=w) ho rfl (fun c h=>by cases h) (by have qf:=hfun a rfl 64;generalize a.eval=ρ at q0 qf ⊢;simp [go_sem,q0,qf]) ((km A hv h w (hh.on hw) hne hl).mono ?_);rintro e X ⟨rfl,hX⟩;exact ⟨_,rfl,_,rfl,fun _=>rfl,V.world.more h60 hX⟩
  .have q0:a.eval (.tmp 16)=bV (h.getLast hne):=V.new 3 (by omega) (hdep ⟨3,.data⟩ (by simp) rfl);refine am ho rfl (fun c h=>by cases h) (v:=.int .i64 (h.getLast hne).num) (w':=w) (by generalize a.eval=ρ at q0 ⊢;simp [go_sem,q0,bV,zB]) ⟨_,rfl,fun _=>rfl,V.world.other (by omega)⟩
  .have q0:a.eval (.tmp 14)=.string key:=V.new 1 (by omega) (hdep ⟨1,.data⟩ (by simp) rfl);have q1:a.eval (.tmp 17)=.int .i64 (h.getLast hne).num:=V.new 4 (by omega) (hdep ⟨4,.data⟩ (by simp) rfl);have q2:a.eval (.const (.int .i64 1))=.int .i64 1:=rfl;refine am ho rfl (fun c h=>by cases h) (v:=itVal ⟨1,key,(h.getLast hne).num⟩) (w':=w) (by generalize a.eval=ρ at q0 q1 q2 ⊢;simp [go_sem,q0,q1,q2,itVal]) ⟨_,rfl,fun _=>rfl,V.world.other (by omega)⟩
  .have q0:a.eval (.tmp 13)=.chan (some c):=V.new 0 (by omega) (hdep ⟨0,.data⟩ (by simp) rfl);have q1:a.eval (.tmp 18)=itVal ⟨1,key,(h.getLast hne).num⟩:=V.new 5 (by omega) (hdep ⟨5,.data⟩ (by simp) rfl);refine mX ho rfl rfl q0 ((hw.block c hcL).trans hc) hroom ?_;exact ⟨_,rfl,fun h=>absurd h (by omega),by rw [q1];exact V.world.sent h60⟩
 .obtain ⟨d,hd,hw⟩:=h5;obtain ⟨w1,hb,rfl⟩:=hw.done (hd 6 (by decide));exact hend a w1 (h1.trans hs) h2 (hb1.trans (by rw [hsz] at hb;exact hb))
end
section
open Go
open Go.RowKit
def cn (w:Wz)(b:Nat):Prop:=∃o:Obj,w.heap[b]?=some o/\o.isCells=true
theorem cn.of_cell {w:Wz}{b j:Nat}{v:Wq}(h:w.cell? ⟨b,j,none⟩=some v):cn w b:=by
 unfold World.cell? at h;cases ho:w.heap[b]? with
 |none=>simp [ho] at h
 |some o=>
  cases o with
  |cells c e z=>exact ⟨_,ho,rfl⟩
  |_=>simp [ho] at h
theorem cn.lt {w:Wz}{b:Nat}(h:cn w b):b<w.heap.size:=by
 obtain ⟨o,h,-⟩:=h;exact (eS h).1
theorem bH.inCells {A:Nat->Prop}{w:Wz}{v:Wq}{n:Nat}{xs:List Wq}(h:bH A w v n xs):bH (fun b=>A b/\cn w b) w v n xs:=by
 obtain ⟨a,cap,hv,ha0,hx⟩:=h;refine ⟨a,cap,hv,ha0,fun hne=>?_⟩;obtain ⟨g,ha,hA,hg,hc⟩:=hx hne;have h0:0<xs.length:=List.length_pos_iff.2 hne;exact ⟨g,ha,⟨hA,.of_cell ((hc 0 h0).trans (eL h0))⟩,hg,hc⟩
theorem ai.inCells {A:Nat->Prop}{w:Wz}:∀ (n:Nat)(p:Option Ww)(f:List UInt8->List Ver),ai A n w p f->ai (fun b=>A b/\cn w b) n w p f:=by
 intro n;induction n with
 |zero=>intro p f h;exact h
 |succ n ih=>
  intro p f h;rcases h with h|⟨g,hv,kv,ks,hp,hA,c0,c1,c2,hh,hks,hs,hch,hno⟩
  .exact Or.inl h
  .exact Or.inr ⟨g,hv,kv,ks,hp,⟨hA,.of_cell c0⟩,c0,c1,c2,bH.inCells hh,bH.inCells hks,hs,fun c q hq=>ih q _ (hch c q hq),hno⟩
theorem ai.weak {A A':Nat->Prop}{w:Wz}(h:∀b,A b->A' b){n:Nat}{p:Option Ww}{f:List UInt8->List Ver}(hN:ai A n w p f):ai A' n w p f:=ai.keep (fun b hb _=>⟨h b hb,rfl⟩) n p f hN
def rH (w:Wz)(p:Option Ww)(f:List UInt8->List Ver):Prop:=ai (cn w) 41 w p f
theorem rH.of {A:Nat->Prop}{w:Wz}{p:Option Ww}{f:List UInt8->List Ver}(h:ai A 41 w p f):rH w p f:=(ai.inCells 41 p f h).weak fun _ h=>h.2
end
