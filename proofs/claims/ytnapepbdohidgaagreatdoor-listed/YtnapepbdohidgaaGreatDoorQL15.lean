/- A part. -/
import Derived.Test.YtnapepbdohidgaaGreatDoorQL14
set_option maxHeartbeats 4000000
set_option maxRecDepth 100000
open Go renaming World->Wj,Value->Wx
namespace Go.Proofs.Qw
section
open Go.Conc Go.ConcX Go.ConcX.Gen Go.RowKit
theorem oX (c:Int)(a:Option Addr)(b sc:Nat)(t:ByteArray)(w:Wj):(Instr.build 36 #[(0,.int .i64 c),(3,.slice a b sc),(4,.string t)]).run Yq.prog w=.ok (.agg #[.int .i64 c,.int .i64 0,.string ⟨#[]⟩,.slice a b sc,.string t]) w:=by kernel_rfl
section
variable {A:Nat->Prop} {B k0:Nat} {w:Wj} {st:St} {L:Lg}
def gR (w:Wj)(o:OpD):Wj:=(w.alloc (.cells #[.int .i64 o.kind,.string o.key,.string o.body,.string o.delim,.string o.past,.int .i64 o.n,.int .i64 o.src] 31)).alloc (.cells #[.int .i64 0,.int .i64 0,.string ⟨#[]⟩,.slice none 0 0,.string ⟨#[]⟩] 36)
theorem dk (o:OpD):au w (gR w o):=(au.refl.alloc _).alloc _
theorem ce (o:OpD):(gR w o).heap.size=w.heap.size+2:=by simp [gR]
theorem mO (o:OpD):(gR w o).heap[w.heap.size+1]?=some (.cells #[.int .i64 0,.int .i64 0,.string ⟨#[]⟩,.slice none 0 0,.string ⟨#[]⟩] 36):=by
 have:=aN (w.alloc (.cells #[.int .i64 o.kind,.string o.key,.string o.body,.string o.delim,.string o.past,.int .i64 o.n,.int .i64 o.src] 31)) (.cells #[.int .i64 0,.int .i64 0,.string ⟨#[]⟩,.slice none 0 0,.string ⟨#[]⟩] 36)
 rwa [World.size_alloc] at this
theorem nQ (o:OpD)(h:fJ A B w k0 L):∀g,jW k0 (gR w o) g->g<w.heap.size:=fun g hg=>by
 obtain ⟨v,h1,h2⟩:=hg;obtain ⟨v4,c4,zs,z1,z2,-⟩:=h.opened;rw [(dk o).cell c4] at h1;cases h1;exact (z2.lt g h2).2
theorem Dr (o:OpD)(h:fJ A B w k0 L){w1:Wj}(hf:FrC k0 (gR w o) w1):w1.heap[w.heap.size+1]?=some (.cells #[.int .i64 0,.int .i64 0,.string ⟨#[]⟩,.slice none 0 0,.string ⟨#[]⟩] 36):=by
 have hlt:=h.lt;rw [hf.keep _ ⟨_,mO o,rfl⟩ (by omega) (fun hx=>by have:=nQ o h _ hx;omega)];exact mO o
def Box5 (w1:Wj)(r:Nat):Prop:=
  (w1.cell? ⟨r,0,none⟩=some (.int .i64 0)/\w1.cell? ⟨r,1,none⟩=some (.int .i64 0)/\w1.cell? ⟨r,2,none⟩=some (.string ⟨#[]⟩)/\w1.cell? ⟨r,3,none⟩=some (.slice none 0 0)/\w1.cell? ⟨r,4,none⟩=some (.string ⟨#[]⟩)) /\
  (w1.frozen? ⟨r,0,none⟩=false/\w1.frozen? ⟨r,1,none⟩=false/\w1.frozen? ⟨r,2,none⟩=false/\w1.frozen? ⟨r,3,none⟩=false/\w1.frozen? ⟨r,4,none⟩=false)
theorem box5 {w1:Wj}{r:Nat}(e:w1.heap[r]?=some (.cells #[.int .i64 0,.int .i64 0,.string ⟨#[]⟩,.slice none 0 0,.string ⟨#[]⟩] 36)):Box5 w1 r:=by
 refine ⟨⟨?_,?_,?_,?_,?_⟩,?_,?_,?_,?_,?_⟩<;>simp [World.cell?,World.frozen?,e]
end
section
variable {A:Nat->Prop} {B k0:Nat} {w W w2:Wj} {st st':St} {L L':Lg} {o:OpD} {its:List ItD} {sv:Wx}
theorem Ds (h:fJ A B w k0 L)(hl:au (gR w o) W)(hp:cQ A B k0 W L' its sv w2):w2.heap[w.heap.size+1]?=some (.cells #[.int .i64 0,.int .i64 0,.string ⟨#[]⟩,.slice none 0 0,.string ⟨#[]⟩] 36):=by
 obtain ⟨A',-,-,-,-,-,hf⟩:=hp;have hlt:=h.lt;exact Dr o h ((FrC.left (by rw [ce];omega) hl).trans hf)
theorem AO (L:Lg)(f:List UInt8->List Ver)(q:Qy)(n:Int):(ez L f q n).1.tm=L.tm:=by
 unfold ez
 repeat' split
 all_goals rfl
theorem Dt (h:cK A B w k0 st L)(e:B<=w.heap.size)(hl:au (gR w o) W)(hp:cQ A B k0 W L' its sv w2)(a:jX)(ha:a.items=its)(ht:L'.tm=L.tm)(x0 x1 x2 c x4:Wx):dv A B k0 w st L' a (.returned (qH a sv)) (put5 w2 (w.heap.size+1) x0 x1 x2 c x4):=by
 subst ha;obtain ⟨A',a1,a2,a3,a4,a5,d⟩:=hp;have hlt:=h.ls.lt;have hdW:=h.left ((dk o).trans hl);have hsW:=hl.size;have d1:=hdW.step a4 a1 a3 ht;have hkw:k0<(gR w o).heap.size:=by rw [ce];omega
 obtain ⟨e1,e2,e3,e4⟩:=AN (A':=A') (sv:=sv) (its:=a.items) (r:=w.heap.size+1) (dk o) hlt e (by omega) (by rw [ce];omega) ⟨_,mO o,rfl⟩ a1 (fun b hb=>(a2 b hb).imp id (by omega)) h.ls.inn d1 ((js.left hkw hl).trans a4.weak) ((FrC.left hkw hl).trans d) (nQ o h.ls) a5 x0 x1 x2 c x4;exact ⟨_,rfl,A',a1,e1,e2,e3,e4⟩
theorem AP (h:cK A B w k0 st L)(s:B<=w.heap.size)(hl:au (gR w o) W)(hp:cQ A B k0 W L' its sv w2)(a:jX)(ha:a.items=its)(ht:L'.tm=L.tm)(bb:Nat)(hb1:w.heap.size+2<=bb)(hb2:bb<W.heap.size)(m:dY W bb)(y0 y1 x0 x1 x2 q x4:Wx):dv A B k0 w st L' a (.returned (qH a sv)) (put5 ((w2.setCell ⟨bb,0,none⟩ y0).setCell ⟨bb,1,none⟩ y1) (w.heap.size+1) x0 x1 x2 q x4):=by
 subst ha;obtain ⟨A',a1,a2,a3,a4,a5,p⟩:=hp;have hlt:=h.ls.lt;have hlow:=h.ls.low;have hdW:=h.left ((dk o).trans hl);have hsW:=hl.size;have d1:=hdW.step a4 a1 a3 ht;have hkw:k0<(gR w o).heap.size:=by rw [ce];omega
 have d:¬A' bb:=fun hx=>by
  rcases a2 bb hx with hx|hx
  .have:=h.ls.inn bb hx;omega
  .omega
 have k:¬jW k0 W bb:=by
  rintro ⟨v,h1,h2⟩;obtain ⟨v4,c4,zs,z1,z2,-⟩:=h.ls.opened;rw [((dk o).trans hl).cell c4] at h1;cases h1;have:=(z2.lt bb h2).2;omega
 have i:¬jW k0 w2 bb:=fun hx=>by
  rcases p.own bb hx with hx|hx
  .exact k hx
  .omega
 have hc2:dY w2 bb:=m.same (p.keep bb m (by omega) k);have n:¬jW k0 (w2.setCell ⟨bb,0,none⟩ y0) bb:=by
  rintro ⟨v,h1,h2⟩;exact i ⟨v,(cB (a:=⟨k0,4,none⟩) (bS _ _ _ _ (show k0≠bb by omega))).symm.trans h1,h2⟩
 have c:bb≠k0:=by omega
 have d2:=(d1.other (j:=0) (x:=y0) c d hc2 i (by omega)).other (j:=1) (x:=y1) c d hc2.set n (by omega);have hset:∀b,b≠bb->((w2.setCell ⟨bb,0,none⟩ y0).setCell ⟨bb,1,none⟩ y1).heap[b]?=w2.heap[b]?:=fun b hb=>by rw [bS _ _ _ _ hb,bS _ _ _ _ hb]
 have f:¬A bb:=fun hx=>d (a1 bb hx)
 have l:js A B k0 (gR w o) ((w2.setCell ⟨bb,0,none⟩ y0).setCell ⟨bb,1,none⟩ y1):=(((js.left hkw hl).trans a4.weak).trans (cf.other c f (by omega)).weak).trans (cf.other c f (by omega)).weak;have hfr:FrC k0 (gR w o) ((w2.setCell ⟨bb,0,none⟩ y0).setCell ⟨bb,1,none⟩ y1):=(((FrC.left hkw hl).trans p).fresh (by rw [ce];omega) c).fresh (by rw [ce];omega) c;obtain ⟨e1,e2,e3,e4⟩:=AN (A':=A') (sv:=sv) (its:=a.items) (r:=w.heap.size+1) (dk o) hlt s (by omega) (by rw [ce];omega) ⟨_,mO o,rfl⟩ a1 (fun b hb=>(a2 b hb).imp id (by omega)) h.ls.inn d2 l hfr (nQ o h.ls) (bO.keep a5 fun b hb _=>⟨hb,hset b (fun e=>d (e▸hb))⟩) x0 x1 x2 q x4;exact ⟨_,rfl,A',a1,e1,e2,e3,e4⟩
end
def Ee (a:List ByteArray)(b:Int)(body:ByteArray):ByteArray:=
 if 0<=b/\b<a.length then (if a[b.toNat]?.getD ⟨#[]⟩=⟨#[]⟩ then body else a[b.toNat]?.getD ⟨#[]⟩) else body
theorem dK {P:Program}{ops:Array Oper}{o:Oper}{a:Act}{w:Wj}{K:Act->Wj->Prop}{Q:Exit->Act->Wj->Prop}{E:Prop}
  (hg:o.guard=none) (f:FuncId) (xs:Array Operand) (ts:Array TypeId) (c:o.op=Op.call {callee:=Callee.value (.func f),args:=xs,argTypes:=ts})
  (args:Array Wx) (hx:xs.map a.eval=args) (b:(callFunc f args).run P w=.ok (.enter f args) w)
  (R:Wx->Wj->Prop) (h:Calls P f args w fun e w'=>∃v,e=.returned v/\R v w') (i:∀v w',R v w'->K (a.put o.dst v) w'):
  if Region.wanted o (yielded ops a.tmps)=true then Oper.wp P o a w K Q else E:=by
 have hw:Region.wanted o (yielded ops a.tmps)=true:=by simp [Region.wanted,hg]
 rw [if_pos hw];subst hx;unfold Oper.wp;have e:(execOp a.eval o).run P w=.ok (.enter f (xs.map a.eval)) w:=by
  have e1:execOp a.eval o=(do let d <-resolve a.eval {callee:=Callee.value (.func f),args:=xs,argTypes:=ts} o.type;invoke d.target d.args):=by simp only [execOp,c]
  rw [e1];simpa [resolve,Deferred.ofValue,Act.eval,invoke] using b
 rw [e,Oper.upon_enter];refine h.mono ?_;rintro e w' ⟨v,rfl,hr⟩;exact i v w' hr
theorem aw {w:Wj}{b j:Nat}{v:Wx}(h:w.cell? ⟨b,j,none⟩=some v)(O:Obj):(w.alloc O).cell? ⟨b,j,none⟩=some v:=by
 exact (au.refl.alloc O).cell h
theorem aX {w:Wj}{b j:Nat}{v:Wx}{f:Bool}(h:w.cell? ⟨b,j,none⟩=some v)(hf:w.frozen? ⟨b,j,none⟩=f)(O:Obj):(w.alloc O).frozen? ⟨b,j,none⟩=f:=by
 have hlt:b<w.heap.size:=by
  rcases Nat.lt_or_ge b w.heap.size with h1|h1
  .exact h1
  .simp [World.cell?,Array.getElem?_eq_none h1] at h
 have e:=(au.refl.alloc O (w:=w)).block b hlt;rw [<-hf];simp only [World.frozen?,e]
theorem cQ.alloc {A:Nat->Prop}{B k0:Nat}{w w':Wj}{L':Lg}{its:List ItD}{sv:Wx}(h:cQ A B k0 w L' its sv w')(O:Obj):cQ A B k0 w L' its sv (w'.alloc O):=by
 obtain ⟨A',a1,a2,a3,a4,a5,a⟩:=h;have hl:au w' (w'.alloc O):=au.refl.alloc O;have hlt:=a3.lt;exact ⟨A',a1,a2,a3.left hl,a4.trans (cf.left hlt hl),bO.keep a5 fun b hb hlt=>⟨hb,hl.block b hlt⟩,a.trans (FrC.left hlt hl)⟩
section
variable {A:Nat->Prop} {B k0:Nat} {w:Wj} {st:St} {L:Lg}
structure G4 (A:Nat->Prop)(B k0:Nat)(w:Wj)(st:St)(o:OpD)(R:Lg×List ItD×ByteArray×Int):Prop where
 bx:∀W w2 bb,au (gR w o) W->∀ {its:List ItD} {sv:Wx} {L':Lg},cQ A B k0 W L' its sv w2->w.heap.size+2<=bb->W.heap[bb]?=some (.cells #[.slice none 0 0,.string ⟨#[]⟩] 88)->w2.cell? ⟨bb,0,none⟩=some (.slice none 0 0)/\w2.cell? ⟨bb,1,none⟩=some (.string ⟨#[]⟩)/\w2.frozen? ⟨bb,0,none⟩=false/\w2.frozen? ⟨bb,1,none⟩=false
 b5:∀W w2,au (gR w o) W->∀ {sv:Wx},cQ A B k0 W R.1 R.2.1 sv w2->Box5 w2 (w.heap.size+1)
 la:∀W w2 so sn sc,au (gR w o) W->cQ A B k0 W R.1 R.2.1 (.slice so sn sc) w2->∀x0 x1 x2 x3 x4 O,dv A B k0 w st R.1 ⟨R.2.2.2,0,⟨#[]⟩,R.2.1,R.2.2.1⟩ (.returned (qH ⟨R.2.2.2,0,⟨#[]⟩,R.2.1,R.2.2.1⟩ (.slice so sn sc))) (put5 (w2.alloc O) (w.heap.size+1) x0 x1 x2 x3 x4)
 lb:∀W w2 so sn sc,au (gR w o) W->cQ A B k0 W R.1 R.2.1 (.slice so sn sc) w2->∀bb,w.heap.size+2<=bb->W.heap[bb]?=some (.cells #[.slice none 0 0,.string ⟨#[]⟩] 88)->∀y0 y1 x0 x1 x2 x3 x4,dv A B k0 w st R.1 ⟨R.2.2.2,0,⟨#[]⟩,R.2.1,R.2.2.1⟩ (.returned (qH ⟨R.2.2.2,0,⟨#[]⟩,R.2.1,R.2.2.1⟩ (.slice so sn sc))) (put5 ((w2.setCell ⟨bb,0,none⟩ y0).setCell ⟨bb,1,none⟩ y1) (w.heap.size+1) x0 x1 x2 x3 x4)
theorem Ef (h:cK A B w k0 st L)(c:B<=w.heap.size)(o:OpD)(R:Lg×List ItD×ByteArray×Int)(htm:R.1.tm=L.tm):G4 A B k0 w st o R where
 bx:=fun W w2 bb hl its sv L' hp hbb a=>by
  obtain ⟨A',-,-,-,-,-,hf⟩:=hp;have hlt:=h.ls.lt;have e:w2.heap[bb]?=some (.cells #[.slice none 0 0,.string ⟨#[]⟩] 88):=by
   rw [hf.keep bb ⟨_,a,rfl⟩ (by omega) ?_]
   .exact a
   .rintro ⟨v,h1,h2⟩;obtain ⟨v4,c4,zs,z1,z2,-⟩:=h.ls.opened;rw [((dk o).trans hl).cell c4] at h1;cases h1;have:=(z2.lt bb h2).2;omega
  exact ⟨by simp [World.cell?,e],by simp [World.cell?,e],by simp [World.frozen?,e],by simp [World.frozen?,e]⟩
 b5:=fun W w2 hl sv hp=>box5 (Ds h.ls hl hp)
 la:=fun W w2 f d sc hl hp x0 x1 x2 b x4 O=>Dt h c hl (hp.alloc O) _ rfl htm x0 x1 x2 b x4
 lb:=fun W w2 f d sc hl hp bb h1 h2 y0 y1 x0 x1 x2 b x4=>AP h c hl hp _ rfl htm bb h1 (eS h2).1 ⟨_,h2,rfl⟩ y0 y1 x0 x1 x2 b x4
end
section
variable {A:Nat->Prop} {B k0:Nat} {w w':Wj} {st st':St} {L:Lg}
theorem fJ.grown (h:fJ A B w k0 L)(hg:cH w w' k0)(hf:∀j,w'.frozen? ⟨k0,j,none⟩=false){A':Nat->Prop}(h1:∀b,A b->A' b)(h2:∀b,A' b->A b\/w.heap.size<=b)(h3:∀b,A' b->b<w'.heap.size):fJ A' B w' k0 L:=by
 have hlt:=h.lt;have hlow:=h.low;have hne:∀b,b<w.heap.size->b≠k0->w'.heap[b]?=w.heap[b]?:=fun b hb hk=>hg.g.block b hb (fun e=>hk (oJ e))
 have hno:∀g,g<w.heap.size->¬A g->¬A' g:=fun g hg ha hx=>by
  rcases h2 g hx with h|h
  .exact ha h
  .omega
 obtain ⟨v,c4,zs,z1,z2,z3,z4⟩:=h.opened;obtain ⟨f,c6,hm⟩:=h.told;refine ⟨⟨v,(hg.t 4 (by omega)).trans c4,zs,z1,dA z2 fun g h1 hg=>hne g hg (by omega),fun g hg=>hno g (z2.lt g hg).2 (z3 g hg),fun z hz=>ak.keep (fun b hb hlt=>⟨h1 b hb,hne b hlt (fun e=>h.avoid (e▸hb))⟩) 41 _ _ (z4 z hz)⟩,(hg.t 5 (by omega)).trans h.begun,⟨f,(hg.t 6 (by omega)).trans c6,?_⟩,hf,hno k0 hlt h.avoid,h.low,h3⟩;rcases hm with hm|⟨m,es,a,m1,m2,m3,d,c⟩
 .exact .inl hm
 .have hml:=(eS m2).1;exact .inr ⟨m,es,a,m1,(hne m hml (by omega)).trans m2,m3,hno m hml d,c⟩
theorem Du (h:cK A B w k0 st L){r:St×yU}{e:Ending}(hp:dq A w k0 r.1 (aA r.2) e w'):dv A B k0 w r.1 L ⟨r.2.code,r.2.ver,r.2.body,[],⟨#[]⟩⟩ e w':=by
 obtain ⟨rfl,hS,hg⟩:=hp;have hlt:=h.ls.lt;have hsz:=hg.g.size;have c:∀b,A b->Grow A w b/\b<w'.heap.size:=fun b hb=>⟨.inl ⟨hb,h.ls.inn b hb⟩,by have:=h.ls.inn b hb;omega⟩
 have a:∀b,(Grow A w b/\b<w'.heap.size)->A b\/w.heap.size<=b:=fun b hb=>hb.1.imp (·.1) id
 have hne:∀b,b<w.heap.size->b≠k0->w'.heap[b]?=w.heap[b]?:=fun b hb hk=>hg.g.block b hb (fun e=>hk (oJ e))
 have c3:=h.time;obtain ⟨p,c0,d⟩:=hS.tree;refine ⟨.slice none 0 0,rfl,fun b=>Grow A w b/\b<w'.heap.size,c,a,⟨⟨fun b hb=>hS.avoid b hb.1,⟨p,c0,ak.keep (fun b hb hlt=>⟨⟨hb,hlt⟩,rfl⟩) 41 _ _ d⟩,hS.count,hS.last,hS.frozen⟩,h.ls.grown hg hS.frozen c a (fun b hb=>hb.2),(hg.t 3 (by omega)).trans c3⟩,⟨hg.g.os,hsz,fun b _ h2 h3=>hne b h2 h3,fun b hb h2=>hne b h2 (fun e=>h.ls.avoid (e▸hb)),fun j hj=>hg.t j (by omega),fun j=>(hS.frozen j).trans (h.store.frozen j).symm⟩,none,0,rfl,fun _=>rfl,fun hx=>absurd rfl hx⟩
theorem yl (h:cK A B w k0 st L)(s:Nat)(o:OpD)(hk:o.key.size<=maxLen)(a:o.body.size<=maxLen)(b:Inv st s)(hs:s<2199023255340)(h6:o.kind<6\/12<o.kind):
  Calls Yq.prog 33 #[.pointer (some ⟨k0,0,none⟩),bh o] w (dv A B k0 w (ay st o).1 L ⟨(ay st o).2.code,(ay st o).2.ver,(ay st o).2.body,[],⟨#[]⟩⟩):=
 (yi A k0 st s o w hk a h.store b hs h6).mono fun _ _ hp=>Du h hp
end
end
