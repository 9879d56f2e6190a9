/- A part. -/
import Derived.Test.YtnapepbdohidgaaGreatDoorQT15
import Derived.Lib.AppendStr
import Derived.OwnWalkIn
import Derived.Shelf.SlSortCmp.WholeK
import Derived.Shelf.SlSortCmp.NoneTotal
import Derived.Deep.QuietTactic
import Derived.BigQuiet
import Derived.Laws.AppendOwn
set_option maxHeartbeats 4000000
set_option maxRecDepth 100000
open Go renaming World->Wz,Value->Wq,TypeId->Wk,Addr->Ww,undef->Wy
namespace Go.Proofs.Qw
section
open Go.RowKit
theorem jV (ops:List OpD)(i j:Nat)(hi:i<ops.length)(a:j<7):(ops.flatMap aD)[i * 7+j]?=(aD ops[i])[j]?:=ey 7 aD (fun _=>rfl) ops i j hi a
theorem oA (w:Wz)(ops:List OpD)(cs:Array Wq)(T:Wk)(hcs:cs=(ops.flatMap aD).toArray)(m:Nat)(hm:m=ops.length)(hz:Sized ops)(hl:ops.length<=2199023255552):cN (w.alloc (.cells cs T)) (.slice (some ⟨w.heap.size,0,none⟩) m m) ops:=by
 subst hcs;subst hm;refine ⟨⟨_,ops.length,rfl,fun _=>⟨w.heap.size,0,rfl,fun i hi=>?_⟩⟩,hz,hl⟩;have h:∀j,j<7->(w.alloc (.cells (ops.flatMap aD).toArray T)).cell? ⟨w.heap.size,0+i * 7+j,none⟩=(aD ops[i])[j]?:=fun j a=>by
  rw [zA,cA (w:=w) _ _ w.heap.size _ rfl,<-jV ops i j hi a];simp
 exact ⟨h 0 (by omega),h 1 (by omega),h 2 (by omega),h 3 (by omega),h 4 (by omega),h 5 (by omega),h 6 (by omega)⟩
theorem Yq.infoOp:(Yq.prog.info? 31).map (fun i=>(i.zero,i.size,i.bytes))=some (some (.agg #[.int .i64 0,.string ⟨#[]⟩,.string ⟨#[]⟩,.string ⟨#[]⟩,.string ⟨#[]⟩,.int .i64 0,.int .i64 0]),7,88):=by kernel_rfl
theorem fX (ops:List OpD):(ops.flatMap aD).length=ops.length * 7:=eZ 7 _ (fun _=>rfl) ops
theorem iW (ops:List OpD):∀u∈ops.flatMap aD,u.oneCell'=true:=by
 intro u a;obtain ⟨o,_,a⟩:=List.mem_flatMap.1 a;simp [aD] at a;rcases a with rfl|rfl|rfl|rfl|rfl|rfl|rfl<;>rfl
theorem jW {w:Wz}{base:Nat}{v:Wq}{n:Nat}{ops:List OpD}(h:w.ownsRow base 31 7 v n (ops.flatMap aD))(hn:n=ops.length)(hz:Sized ops)(hl:ops.length<=2199023255552):cN w v ops:=by
 subst hn;rcases h.2 with ⟨rfl,h0⟩|⟨g,cap,cur,rfl,hbg,hg,hnc,hcm,hcs,htake⟩
 .have:ops=[]:=List.length_eq_zero_iff.1 h0;subst this;exact ⟨⟨none,0,rfl,fun h=>absurd rfl h⟩,hz,hl⟩
 .refine ⟨⟨_,cap,rfl,fun _=>⟨g,0,rfl,fun i hi=>?_⟩⟩,hz,hl⟩;have hc:∀j,j<7->w.cell? ⟨g,0+i * 7+j,none⟩=(aD ops[i])[j]?:=fun j a=>by
   rw [zA,<-jV ops i j hi a];exact h.cellAt _ (by omega)
  exact ⟨hc 0 (by omega),hc 1 (by omega),hc 2 (by omega),hc 3 (by omega),hc 4 (by omega),hc 5 (by omega),hc 6 (by omega)⟩
theorem BI {w:Wz}{v:Wq}{ops:List OpD}(h:cN w v ops):(∃cap,v=.slice none 0 cap/\ops=[])\/∃d cap,v=.slice (some d) ops.length cap/\∀j u,(ops.flatMap aD)[j]?=some u->w.cell? (d.add j)=some u:=by
 obtain ⟨a,cap,rfl,hx⟩:=h.form;cases a with
 |none=>
  by_cases hne:ops=[]
  .subst hne;exact Or.inl ⟨cap,rfl,rfl⟩
  .obtain ⟨b,off,e,_⟩:=hx hne;cases e
 |some d=>
  refine Or.inr ⟨d,cap,rfl,fun j u i=>?_⟩;have hne:ops≠[]:=by intro e;subst e;simp at i
  obtain ⟨b,off,e,hS⟩:=hx hne;cases e;have hlt:=(sL i).1;rw [fX] at hlt;have hi:j / 7<ops.length:=by omega
  have f:j=j / 7 * 7+j % 7:=by omega
  have h7:j % 7<7:=Nat.mod_lt _ (by omega);obtain ⟨c0,c1,c2,c3,c4,c5,c6⟩:=hS (j / 7) hi;have hg:=jV ops (j / 7) (j % 7) hi h7;rw [<-f,i] at hg;rw [Addr.add_lit];generalize ops[j / 7]=o at *;have c:off+j=off+j / 7 * 7+j % 7:=by omega
  rw [c];generalize j % 7=r at *;have hr:r=0\/r=1\/r=2\/r=3\/r=4\/r=5\/r=6:=by omega
  rcases hr with rfl|rfl|rfl|rfl|rfl|rfl|rfl<;>simp only [aD,gZ,gS,oI] at hg<;>subst hg<;>assumption
theorem pS (w:Wz)(o:OpD)(T:Wk):∀j u,(aD o)[j]?=some u->(w.alloc (.cells #[.int .i64 o.kind,.string o.key,.string o.body,.string o.delim,.string o.past,.int .i64 o.n,.int .i64 o.src] T)).cell? ((⟨w.heap.size,0,none⟩:Ww).add j)=some u:=by
 intro j u a;rw [Addr.add_lit,cA (w:=w) _ _ w.heap.size _ rfl];simpa [aD] using a
theorem one7 (o:OpD):∀u∈aD o,u.oneCell'=true:=by
 intro u a;simp [aD] at a;rcases a with rfl|rfl|rfl|rfl|rfl|rfl|rfl<;>rfl
structure Gb (w:Wz)(v:Wq)(w':Wz)(v':Wq):Prop where
 grown:w.grownBy w' v.ownBlock
 at_:∀g,v'.ownBlock=some g->v.ownBlock=some g\/w.heap.size<=g
theorem Gb.refl (w:Wz)(v:Wq):Gb w v w v:=⟨World.grownBy.refl _ _,fun _ h=>.inl h⟩
theorem Gb.trans {w w1 w2:Wz}{v v1 v2:Wq}(h:Gb w v w1 v1)(a:Gb w1 v1 w2 v2):Gb w v w2 v2:=by
 refine ⟨⟨a.grown.os.trans h.grown.os,a.grown.tape.trans h.grown.tape,a.grown.output.trans h.grown.output,lT h.grown.size a.grown.size,fun b hb hne=>?_⟩,fun g hg=>?_⟩
 .rw [a.grown.block b (lL hb h.grown.size) ?_,h.grown.block b hb hne];intro e;rcases h.at_ b e.symm with e'|e'
  .exact hne e'.symm
  .omega
 .rcases a.at_ g hg with e|e
  .exact h.at_ g e
  .exact .inr (lT h.grown.size e)
theorem Gb.alloc {w w':Wz}{v v':Wq}{o:Obj}(h:Gb (w.alloc o) v w' v'):Gb w v w' v':=
 Gb.trans ⟨World.grownBy_alloc _ _ _,fun _ h=>.inl h⟩ h
section
variable {P:Program}
theorem vV (w:Wz)(base:Nat)(t u ty e:Wk)(i:TypeInfo)(ht:P.underlying t=some (.slice e))(l:P.underlying u=some .string)(hi:P.info? e=some i)(hz:i.zero=some (.int .u8 0))
  (a:i.size=1) (d:i.bytes=1) (v:Wq) (n:Nat) (xs:List Wq) (hown:w.ownsRow base e 1 v n xs) (s:ByteArray)
  (f:n+s.size<=maxLen) (b:n+s.size<=140737488355328) (c:base<=w.heap.size):
  ∃v' w',(Builtin.append_ #[t,u] ty #[v,.string s]).run P w=.ok v' w'/\w'.ownsRow base e 1 v' (n+s.size) (xs++Lib.strCells s)/\Gb w v w' v':=by
 obtain ⟨v',w',hr,ho,hg,-⟩:=Lib.run_append_own_string (P:=P) w base t u ty e i ht l hi hz a d v n xs hown s f b c;refine ⟨v',w',hr,ho,hg,fun g h=>?_⟩;have hxl:xs.length=n:=by simpa using hown.1
 rcases hown.2 with ⟨rfl,rfl⟩|⟨g0,cap,o,rfl,hb0,k,hnc,hcm,hcs,-⟩
 .obtain ⟨v2,w2,hr2,m,-⟩:=Lib.run_append_own_string (P:=P) w w.heap.size t u ty e i ht l hi hz a d (.slice none 0 0) 0 xs ⟨hown.1,.inl ⟨rfl,rfl⟩⟩ s f b (lR _);rw [hr] at hr2;cases hr2;exact .inr (m.lt g h).1
 .by_cases hf:n+s.size<=cap
  .have hr2:=Lib.run_append_room_string (P:=P) w t u ty e i ht l hi a g0 n cap o k s hf (by omega);rw [hr] at hr2;cases hr2;exact .inl h
  .have hr2:=Lib.run_append_grow_string (P:=P) w t u ty e i (.int .u8 0) ht l hi hz ⟨g0,0,none⟩ n cap xs (by rw [a];omega) (fun j u p=>hown.cells (g:=g0) rfl j u p) s (by omega) (by simp only [maxLen] at f;omega) (by rw [d];exact growslice_fits (by omega) (by omega));rw [hr] at hr2;cases hr2;cases h;exact .inr (lR _)
theorem jC (w:Wz){ops:Array Oper}{rest:List Oper}{o:Oper}{a:Act}{Q:Exit->Act->Wz->Prop}(l:o.guard=none)(s x:Operand)(t:Wk)
  (ho:o.op=.call {callee:=.builtin .append,args:=#[s,x],argTypes:=#[t,t]})
  (base:Nat) (e:Wk) (i:TypeInfo) (z:Wq) (size bytes:Nat) (ht:P.underlying t=some (.slice e)) (hi:P.info? e=some i) (hz:i.zero=some z)
  (f:i.size=size) (p:i.bytes=bytes) (y:z.cells.size=size) (hsz:0<size)
  (v:Wq) (n:Nat) (xs:List Wq) (hs:a.eval s=v) (hown:w.ownsRow base e size v n xs)
  (r:Ww) (m c:Nat) (news:List Wq) (hx:a.eval x=.slice (some r) m c) (hl:news.length=m * size) (k:∀j u,news[j]?=some u->w.cell? (r.add j)=some u) (h1:∀u∈news,u.oneCell'=true)
  (q:n+m<=maxLen) (b:(n+m) * bytes<=140737488355328) (d:base<=w.heap.size)
  (h:∀v' w',w'.ownsRow base e size v' (n+m) (xs++news)->Gb w v w' v'->wpList P ops Q rest (a.put o.dst v') w'):wpList P ops Q (o::rest) a w:=by
 obtain ⟨v',w',hr,h2,h3,h4⟩:=jT (P:=P) w base t o.type e i z size bytes ht hi hz f p y hsz v n xs hown r m c news hl k h1 q b d;exact Lib.wpList_append_run w l s x t t ho v _ hs hx v' w' hr (h v' w' h2 ⟨h3,h4⟩)
theorem kG (w:Wz){ops:Array Oper}{rest:List Oper}{o:Oper}{a:Act}{Q:Exit->Act->Wz->Prop}(j:o.guard=none)(s x:Operand)(t u:Wk)
  (ho:o.op=.call {callee:=.builtin .append,args:=#[s,x],argTypes:=#[t,u]})
  (base:Nat) (e:Wk) (i:TypeInfo) (ht:P.underlying t=some (.slice e)) (m:P.underlying u=some .string) (hi:P.info? e=some i) (hz:i.zero=some (.int .u8 0))
  (f:i.size=1) (k:i.bytes=1) (v:Wq) (n:Nat) (xs:List Wq) (hs:a.eval s=v) (hown:w.ownsRow base e 1 v n xs) (b:ByteArray) (hx:a.eval x=.string b)
  (l:n+b.size<=maxLen) (c:n+b.size<=140737488355328) (d:base<=w.heap.size)
  (h:∀v' w',w'.ownsRow base e 1 v' (n+b.size) (xs++Lib.strCells b)->Gb w v w' v'->wpList P ops Q rest (a.put o.dst v') w'):wpList P ops Q (o::rest) a w:=by
 obtain ⟨v',w',hr,h2,h3⟩:=vV (P:=P) w base t u o.type e i ht m hi hz f k v n xs hown b l c d;exact Lib.wpList_append_run w j s x t u ho v _ hs hx v' w' hr (h v' w' h2 h3)
end
theorem xG (w:Wz)(v:Wq)(T:Wk):∀j u,[v][j]?=some u->(w.alloc (.cells #[v] T)).cell? ((⟨w.heap.size,0,none⟩:Ww).add j)=some u:=by
 intro j u a;rw [Addr.add_lit,cA (w:=w) _ _ w.heap.size _ rfl];simpa using a
theorem pT (n:Int):∀u∈[Value.int .u8 n],u.oneCell'=true:=by
 intro u a;simp at a;subst a;rfl
def mV (s:ByteArray):List Wq:=[.int .u8 ((s.size:Int) % 256)]++Lib.strCells s
theorem tX (s:ByteArray):(mV s).length=1+s.size:=by simp [mV,Lib.strCells_length];omega
theorem rq (base n:Nat)(d:Option Ww)(i:Nat)(xs:List Wq)(s:ByteArray)(w:Wz)(h:w.ownsRow base 5 1 (.slice d n i) n xs)(hb:base<=w.heap.size)(hn:n+1+s.size<=100000000000):
  Calls Yq.prog 105 #[.slice d n i,.string s] w fun e w'=>∃v',e=.returned v'/\w'.ownsRow base 5 1 v' (n+1+s.size) (xs++mV s)/\Gb w (.slice d n i) w' v':=by
 obtain ⟨i0,j,f,b,c⟩:=info_parts Yq.infoByte;have HO:Hid (w.ownsRow base 5 1 (.slice d n i) n xs/\base<=w.heap.size):=⟨h,hb⟩;clear h hb;go_enter (Yq.nq Tryz.func105),Tryz.ntmps105;go_wp2_with (first
  |(at_builtin;refine jC _ rfl _ _ 48 rfl base 5 i0 _ 1 1 (Yq.u Tryz.underlying48) j f b c rfl (by decide) _ n _ rfl (HO.out.1.alloc _) ⟨w.heap.size,0,none⟩ 1 1 [.int .u8 ((s.size:Int) % 256)] rfl rfl (xG w _ _) (pT _) (by simp only [maxLen];omega) (by omega) (by have:=HO.out.2;simp;omega) ?_;intro v1 w1 ho1 hg1;have a:Hid (w1.ownsRow base 5 1 v1 (n+1) (xs++[.int .u8 ((s.size:Int) % 256)])/\Gb w (.slice d n i) w1 v1):=⟨ho1,hg1.alloc⟩;clear ho1 hg1)
  |(at_builtin;refine kG _ rfl _ _ 48 9 rfl base 5 i0 (Yq.u Tryz.underlying48) (Yq.u Tryz.underlying9) j f b c _ (n+1) _ rfl a.out.1 s rfl (by simp only [maxLen];omega) (by omega) (lT HO.out.2 a.out.2.grown.size) ?_;intro v2 w2 k l))
 go_ret;refine ⟨_,rfl,?_,a.out.2.trans l⟩;rw [mV,<-pA];exact k
def num8 (m:Int)(k:Nat):List Wq:=(List.range k).map fun i=>.int .u8 (m / 2 ^ (8 * (7-i)) % 256)
theorem tY (m:Int)(k:Nat):num8 m (k+1)=num8 m k++[.int .u8 (m / 2 ^ (8 * (7-k)) % 256)]:=by
 simp [num8,List.range_succ]
theorem rr (m:Int)(k:Nat):(num8 m k).length=k:=by simp [num8]
theorem oB (base n:Nat)(a:Option Ww)(b:Nat)(xs:List Wq)(m:Int)(w:Wz)(h:w.ownsRow base 5 1 (.slice a n b) n xs)(hb:base<=w.heap.size)(hn:n+8<=100000000000):
  Calls Yq.prog 78 #[.slice a n b,.int .u64 m] w fun e w'=>∃v',e=.returned v'/\w'.ownsRow base 5 1 v' (n+8) (xs++num8 m 8)/\Gb w (.slice a n b) w' v':=by
 obtain ⟨i0,l,j,d,f⟩:=info_parts Yq.infoByte;generalize hv:Value.slice a n b=v at *;go_enter (Yq.nq Tryz.func78),Tryz.ntmps78;go_wp2_with fail
 go_loopw [0,6] (fun s0 s6 wr=>∃i:Nat,i<=8/\s6=.int .i64 i/\wr.ownsRow base 5 1 s0 (n+i) (xs++num8 m i)/\Gb w v wr s0) (fun _ s6 _=>8-(intOf s6).toNat)
 case atStart=>exact ⟨0,by omega,rfl,by simpa [num8] using h,Gb.refl _ _⟩
 case round=>
  obtain ⟨i,hin,rfl,hown,c⟩:=hrel;obtain ⟨a,b,rfl,-⟩:=az hown;have HX:Hid (wr.ownsRow base 5 1 (.slice a (n+i) b) (n+i) (xs++num8 m i)/\Gb w v wr (.slice a (n+i) b)/\base<=w.heap.size):=⟨hown,c,hb⟩;clear hown c h hb;by_cases hlt:i<8
  .go_wp2_with (at_builtin;refine jC _ rfl _ _ 48 rfl base 5 i0 _ 1 1 (Yq.u Tryz.underlying48) l j d f rfl (by decide) _ (n+i) _ rfl (HX.out.1.alloc _) ⟨wr.heap.size,0,none⟩ 1 1 [.int .u8 (m / 2 ^ (8 * (7-i)) % 256)] rfl rfl (xG wr _ _) (pT _) (by simp only [maxLen];omega) (by omega) (by have:=HX.out.2.2;have:=HX.out.2.1.grown.size;simp;omega) ?_;intro v1 w1 ho1 hg1)
   refine ⟨⟨i+1,by omega,by go_num,?_,HX.out.2.1.trans hg1.alloc⟩,by simp [intOf];omega⟩;rw [tY,<-pA];exact ho1
  .have k:i=8:=by omega
   subst k;go_wp2;go_ret;exact ⟨_,rfl,HX.out.1,HX.out.2.1⟩
def zw (k:ByteArray)(v:Ver):List Wq:=if v.mark then [.int .u8 2]++num8 v.num 8++mV k else [.int .u8 1]++num8 v.num 8++mV k++mV v.body
def vW (k:ByteArray)(v:Ver):Nat:=if v.mark then 10+k.size else 11+k.size+v.body.size
theorem Gb.box {w w1:Wz}{v v1:Wq}{base n:Nat}{xs:List Wq}{o:Obj}(ho:w.ownsRow base 5 1 v n xs)(h:Gb (w.alloc o) v w1 v1):w1.heap[w.heap.size]?=some o:=by
 rw [h.grown.block w.heap.size (by simp) (fun e=>by have:=(ho.lt _ e.symm).2;omega)];exact heap_alloc_new w o
def Box4 (g:Nat)(a b c d:Wq)(w:Wz):Prop:=w.cell? ⟨g,0,none⟩=some a/\w.cell? ⟨g,1,none⟩=some b/\w.cell? ⟨g,2,none⟩=some c/\w.cell? ⟨g,3,none⟩=some d
theorem BJ {g:Nat}{a b c d:Wq}{T:Wk}{w:Wz}(h:w.heap[g]?=some (.cells #[a,b,c,d] T)):Box4 g a b c d w:=by
 refine ⟨?_,?_,?_,?_⟩<;>simp [World.cell?,h]
theorem Gb.drew {w w':Wz}{v v':Wq}(h:Gb w v w' v'):Gb w v w'.drew v':=⟨⟨h.grown.os,h.grown.tape,h.grown.output,h.grown.size,h.grown.block⟩,h.at_⟩
theorem Gb.ofDrew {w w':Wz}{v v':Wq}(h:Gb w.drew v w' v'):Gb w v w' v':=⟨⟨h.grown.os,h.grown.tape,h.grown.output,h.grown.size,h.grown.block⟩,h.at_⟩
theorem tZ (base n:Nat)(v:Wq)(xs:List Wq)(s:ByteArray)(w:Wz)(h:w.ownsRow base 5 1 v n xs)(hb:base<=w.heap.size)(hn:n+1+s.size<=100000000000):
  Calls Yq.prog 105 #[v,.string s] w fun e w'=>∃v',e=.returned v'/\w'.ownsRow base 5 1 v' (n+1+s.size) (xs++mV s)/\Gb w v w' v':=by
 obtain ⟨b,a,rfl,-⟩:=az h;exact rq base n b a xs s w h hb hn
theorem gq (base n:Nat)(v:Wq)(xs:List Wq)(m:Int)(w:Wz)(h:w.ownsRow base 5 1 v n xs)(hb:base<=w.heap.size)(hn:n+8<=100000000000):
  Calls Yq.prog 78 #[v,.int .u64 m] w fun e w'=>∃v',e=.returned v'/\w'.ownsRow base 5 1 v' (n+8) (xs++num8 m 8)/\Gb w v w' v':=by
 obtain ⟨b,a,rfl,-⟩:=az h;exact oB base n b a xs m w h hb hn
theorem ru {m:Int}(h0:0<=m)(h1:m<=9223372036854775807):IntKind.u64.wrap m=m:=by
 simp [IntKind.wrap,IntKind.bits,IntKind.signed];omega
theorem oY (base n:Nat)(p:Option Ww)(q:Nat)(xs:List Wq)(k:ByteArray)(v:Ver)(w:Wz)(h:w.ownsRow base 5 1 (.slice p n q) n xs)(hb:base<=w.heap.size)(hn:n+vW k v<=100000000000)(h0:0<=v.num)(Q:v.num<=9223372036854775807):
  Calls Yq.prog 77 #[.slice p n q,.agg #[.string k,.int .i64 v.num,.string v.body,.bool v.mark]] w fun e w'=>∃v',e=.returned v'/\w'.ownsRow base 5 1 v' (n+vW k v) (xs++zw k v)/\Gb w (.slice p n q) w' v':=by
 obtain ⟨i0,M,L,K,J⟩:=info_parts Yq.infoByte;obtain ⟨r,body,mark⟩:=v;simp only at *;have HO:Hid (w.ownsRow base 5 1 (.slice p n q) n xs/\base<=w.heap.size):=⟨h,hb⟩;clear h hb;have D:Hid (∀ (f:Nat) (args:Array Wq) (R:Wz),(f=78\/f=105)->(callFunc f args).run Yq.prog R=.ok (.enter f args) R):=fun f args R hf=>by rcases hf with rfl|rfl<;>go_simp
 have B:Hid (∀ (O:Obj) (x:Wq) (j:Nat) (u:Wq),[x][j]?=some u->((((w.alloc O).drew).alloc (.cells #[x] 5)).cell? ((⟨w.heap.size+1,0,none⟩:Ww).add j))=some u):=fun O x j u S=>by
  have:=xG (w.alloc O).drew x 5 j u S;simpa using this
 have F:Hid (∀ (O X:Obj),(((w.alloc O).drew).alloc X).ownsRow base 5 1 (.slice p n q) n xs):=fun O X=>((aZ (HO.out.1.alloc O) fun g _ _=>rfl).alloc X)
 have E:Hid (∀ (w1:Wz) (v1 a b c d:Wq) (T:Wk) (X:Obj),Gb (((w.alloc (.cells #[a,b,c,d] T)).drew).alloc X) (.slice p n q) w1 v1->Gb (w.alloc (.cells #[a,b,c,d] T)) (.slice p n q) w1 v1/\Box4 w.heap.size a b c d w1):=fun w1 v1 a b c d T X h=>⟨h.alloc.ofDrew,BJ (h.alloc.ofDrew.box HO.out.1)⟩
 have H:Hid (∀ (w1:Wz) (v1 a b c d:Wq) (T:Wk),Gb (w.alloc (.cells #[a,b,c,d] T)) (.slice p n q) w1 v1->Box4 w.heap.size a b c d w1):=fun w1 v1 a b c d T h=>BJ (h.box HO.out.1)
 have o:Hid (∀ (w1:Wz) (v1:Wq) (O:Obj),Gb (w.alloc O) (.slice p n q) w1 v1->base<=w1.heap.size):=fun w1 v1 O h=>by
  have:=h.alloc.grown.size;have:=HO.out.2;omega
 have G:Hid (∀ (w1:Wz) (v1:Wq) (t:Nat) (i:List Wq),w1.ownsRow base 5 1 v1 t i->base<=w1.heap.size->t+8<=100000000000->Calls Yq.prog 78 #[v1,.int .u64 (IntKind.u64.wrap r)] w1 fun e w'=>∃v',e=.returned v'/\w'.ownsRow base 5 1 v' (t+8) (i++num8 r 8)/\Gb w1 v1 w' v'):=fun w1 v1 t i h1 h2 h3=>by
  rw [ru h0 Q];exact gq base t v1 i r w1 h1 h2 h3
 have I:Hid (∀ (w1:Wz) (v1:Wq) (t:Nat) (i:List Wq) (s:ByteArray),w1.ownsRow base 5 1 v1 t i->base<=w1.heap.size->t+1+s.size<=100000000000->Calls Yq.prog 105 #[v1,.string s] w1 fun e w'=>∃v',e=.returned v'/\w'.ownsRow base 5 1 v' (t+1+s.size) (i++mV s)/\Gb w1 v1 w' v'):=fun w1 v1 t i s=>tZ base t v1 i s w1
 cases mark
 .have P:n+(11+k.size+body.size)<=100000000000:=by simpa [vW] using hn
  go_enter (Yq.nq Tryz.func77),Tryz.ntmps77;go_wp2_with fail
  go_region_law (first
   |(refine cP rfl (.tmp 20) (.tmp 21) 48 rfl base 5 i0 _ 1 1 (Yq.u Tryz.underlying48) M L K J rfl (by decide) (.slice p n q) n xs (by first|(simp [Act.eval];done)|(simp [Act.eval,Act.put];done)|go_simp) (F.out _ _) ⟨w.heap.size+1,0,none⟩ 1 1 [.int .u8 1] (by first|(simp [Act.eval];done)|(simp [Act.eval,Act.put];done)|go_simp) rfl (B.out _ _) (pT _) (by simp only [maxLen];omega) (by omega) (by have:=HO.out.2;simp;omega) ?_;intro v1 w1 ho1 hg1 l;obtain ⟨m,c0,c1,c2,c3⟩:=E.out _ v1 _ _ _ _ _ _ ⟨hg1,l⟩;clear hg1 l)
   |(refine bj rfl 78 #[.tmp 22,.tmp 26] #[48,57] rfl #[v1,.int .u64 (IntKind.u64.wrap r)] (by first|(simp [Act.eval];done)|(simp [Act.eval,Act.put];done)|go_simp) (D.out _ _ _ (Or.inl rfl)) _ (G.out w1 v1 _ _ ho1 (o.out _ _ _ m) (by omega)) ?_;rintro v2 w2 ⟨A,y⟩;have hG2:=m.trans y;obtain ⟨d0,d1,d2,d3⟩:=H.out _ v2 _ _ _ _ _ hG2;clear y c0 c1 c2 c3 m ho1))
  all_goals clear E B F G
  all_goals go_wp2_with fail
  all_goals go_region_law (first
   |(refine bj rfl 105 #[.tmp 28,.tmp 30] #[48,9] rfl #[v2,.string k] (by first|(simp [Act.eval];done)|(simp [Act.eval,Act.put];done)|go_simp) (D.out _ _ _ (Or.inr rfl)) _ (I.out w2.drew v2 (n+1+8) _ k A (o.out _ _ _ hG2.drew) (by omega)) ?_;rintro v3 w3 ⟨z,C⟩;have hG3:=hG2.trans C.ofDrew;obtain ⟨e0,e1,e2,e3⟩:=H.out _ v3 _ _ _ _ _ hG3;clear C d0 d1 d2 d3 hG2 A)
   |(refine bj rfl 105 #[.tmp 31,.tmp 34] #[48,9] rfl #[v3,.string body] (by first|(simp [Act.eval];done)|(simp [Act.eval,Act.put];done)|go_simp) (D.out _ _ _ (Or.inr rfl)) _ (I.out w3 v3 (n+1+8+1+k.size) _ body z (o.out _ _ _ hG3) (by omega)) ?_;rintro v4 w4 ⟨ho4,N⟩;have hG4:=(hG3.trans N).alloc;clear N e0 e1 e2 e3 hG3 z))
  all_goals go_wp2
  all_goals go_ret
  all_goals refine ⟨v4,rfl,?_,hG4⟩
  all_goals
   simp only [vW,zw,Bool.false_eq_true,if_false];have e1:n+(11+k.size+body.size)=n+1+8+1+k.size+1+body.size:=by omega
   rw [e1];simpa only [pA] using ho4
 .have P:n+(10+k.size)<=100000000000:=by simpa [vW] using hn
  go_enter (Yq.nq Tryz.func77),Tryz.ntmps77;go_wp2_with fail
  go_region_law (first
   |(refine cP rfl (.tmp 8) (.tmp 9) 48 rfl base 5 i0 _ 1 1 (Yq.u Tryz.underlying48) M L K J rfl (by decide) (.slice p n q) n xs (by first|(simp [Act.eval];done)|(simp [Act.eval,Act.put];done)|go_simp) (F.out _ _) ⟨w.heap.size+1,0,none⟩ 1 1 [.int .u8 2] (by first|(simp [Act.eval];done)|(simp [Act.eval,Act.put];done)|go_simp) rfl (B.out _ _) (pT _) (by simp only [maxLen];omega) (by omega) (by have:=HO.out.2;simp;omega) ?_;intro v1 w1 ho1 hg1 l;obtain ⟨m,c0,c1,c2,c3⟩:=E.out _ v1 _ _ _ _ _ _ ⟨hg1,l⟩;clear hg1 l)
   |(refine bj rfl 78 #[.tmp 10,.tmp 14] #[48,57] rfl #[v1,.int .u64 (IntKind.u64.wrap r)] (by first|(simp [Act.eval];done)|(simp [Act.eval,Act.put];done)|go_simp) (D.out _ _ _ (Or.inl rfl)) _ (G.out w1 v1 _ _ ho1 (o.out _ _ _ m) (by omega)) ?_;rintro v2 w2 ⟨A,y⟩;have hG2:=m.trans y;obtain ⟨d0,d1,d2,d3⟩:=H.out _ v2 _ _ _ _ _ hG2;clear y c0 c1 c2 c3 m ho1))
  all_goals clear E B F G
  all_goals go_wp2_with (go_at_call 105;refine (I.out w2 v2 (n+1+8) _ k A (o.out _ _ _ hG2) (by omega)).mono ?_;rintro e w3 ⟨v3,rfl,z,C⟩;have hG3:=(hG2.trans C).alloc)
  all_goals go_ret
  all_goals refine ⟨v3,rfl,?_,hG3⟩
  all_goals
   simp only [vW,zw,if_true];have e1:n+(10+k.size)=n+1+8+1+k.size:=by omega
   rw [e1];simpa only [pA] using z
theorem D1 (x:Int)(w:Wz):Calls Yq.prog 126 #[.int .i64 x] w fun e w'=>e=.returned (.bool false)/\w'=w:=by
 go_enter (Yq.nq Tryz.func126),Tryz.ntmps126;go_wp2;go_ret;exact ⟨by simp,rfl⟩
def Gw (x y:Int):Int:=if x<y then -1 else if y<x then 1 else 0
theorem zy (x y:Int)(w:Wz):Calls Yq.prog 104 #[.int .i64 x,.int .i64 y] w fun e w'=>e=.returned (.int .i64 (Gw x y))/\w'=w:=by
 have H1:Hid (∀ (z:Int) (w1:Wz),Calls Yq.prog 126 #[.int .i64 z] w1 fun e w'=>e=.returned (.bool false)/\w'=w1):=D1;unfold Gw;by_cases h1:x<y
 .rw [if_pos h1];go_enter (Yq.nq Tryz.func104),Tryz.ntmps104;go_wp2_with (go_at_call 126;refine (H1.out _ _).mono ?_;rintro e w1 ⟨rfl,rfl⟩)
  go_ret;exact ⟨rfl,rfl⟩
 .rw [if_neg h1];by_cases h2:y<x
  .rw [if_pos h2];go_enter (Yq.nq Tryz.func104),Tryz.ntmps104;go_wp2_with (go_at_call 126;refine (H1.out _ _).mono ?_;rintro e w1 ⟨rfl,rfl⟩)
   go_ret;exact ⟨rfl,rfl⟩
  .rw [if_neg h2];go_enter (Yq.nq Tryz.func104),Tryz.ntmps104;go_wp2_with (go_at_call 126;refine (H1.out _ _).mono ?_;rintro e w1 ⟨rfl,rfl⟩)
   go_ret;exact ⟨rfl,rfl⟩
def Hx (k:ByteArray)(v:Ver):Wq:=.agg #[.string k,.int .i64 v.num,.string v.body,.bool v.mark]
def uA (k:ByteArray)(v:Ver):List Wq:=[.string k,.int .i64 v.num,.string v.body,.bool v.mark]
theorem BK (k1 k2:ByteArray)(v1 v2:Ver)(w:Wz):Calls Yq.prog 103 #[Hx k1 v1,Hx k2 v2] w fun e w'=>e=.returned (.int .i64 (Gw v1.num v2.num))/\w'=(w.alloc (.cells (uA k1 v1).toArray 137)).alloc (.cells (uA k2 v2).toArray 137):=by
 obtain ⟨n1,b1,m1⟩:=v1;obtain ⟨n2,b2,m2⟩:=v2;unfold Hx uA;have H1:Hid (∀ (x y:Int) (w1:Wz),Calls Yq.prog 104 #[.int .i64 x,.int .i64 y] w1 fun e w'=>e=.returned (.int .i64 (Gw x y))/\w'=w1):=zy;go_enter (Yq.nq Tryz.func103),Tryz.ntmps103;go_wp2_with (go_at_call 104;refine (H1.out _ _ _).mono ?_;rintro e w1 ⟨rfl,rfl⟩)
 go_ret;exact ⟨rfl,rfl⟩
def fe (L:List (ByteArray×Ver)):List Wq:=L.flatMap fun e=>zw e.1 e.2
def dw (L:List (ByteArray×Ver)):Nat:=(L.map fun e=>vW e.1 e.2).sum
def eQ (L:List (ByteArray×Ver)):List Wq:=L.flatMap fun e=>uA e.1 e.2
theorem zz {L:List (ByteArray×Ver)}{i:Nat}(h:i<L.length):dw (L.take (i+1))=dw (L.take i)+vW L[i].1 L[i].2:=by
 unfold dw;rw [tS h];simp only [List.map_append,List.sum_append,List.map_cons,List.map_nil,List.sum_cons,List.sum_nil,Nat.add_zero]
theorem zB {L:List (ByteArray×Ver)}{i:Nat}(h:i<L.length):fe (L.take (i+1))=fe (L.take i)++zw L[i].1 L[i].2:=by
 unfold fe;rw [tS h];simp only [List.flatMap_append,List.flatMap_cons,List.flatMap_nil,List.append_nil]
theorem D2 (L:List (ByteArray×Ver))(i:Nat):dw (L.take i)<=dw L:=by
 have:dw L=dw (L.take i)+dw (L.drop i):=by
  unfold dw;rw [<-List.sum_append,<-List.map_append,List.take_append_drop]
 omega
theorem BL {L:List (ByteArray×Ver)}{i:Nat}(h:i<L.length):(eQ L)[i * 4]?=some (.string L[i].1)/\(eQ L)[i * 4+1]?=some (.int .i64 L[i].2.num)/\(eQ L)[i * 4+2]?=some (.string L[i].2.body)/\(eQ L)[i * 4+3]?=some (.bool L[i].2.mark):=by
 induction L generalizing i with
 |nil=>simp at h
 |cons e L ih=>
  cases i with
  |zero=>simp [eQ,uA]
  |succ i=>
   have a:i<L.length:=by simpa using h
   have:=ih a;simp only [eQ,List.flatMap_cons,uA,List.cons_append,List.nil_append] at this ⊢;have e0:(i+1) * 4=i * 4+4:=by omega
   rw [e0];simpa using this
theorem BM {m:Int}(h0:0<=m)(h1:m<=9223372036854775808):IntKind.u64.wrap m=m:=by
 simp [IntKind.wrap,IntKind.bits,IntKind.signed];omega
theorem pU {w:Wz}{base:Nat}{T:Wk}{size n:Nat}{v:Wq}{xs:List Wq}(h:w.ownsRow base T size v n xs)(hn:0<n):∃g cap,v=.slice (some ⟨g,0,none⟩) n cap/\∀j u,xs[j]?=some u->w.cell? ⟨g,j,none⟩=some u:=by
 have hc:=fun g hg=>h.cells (g:=g) hg
 rcases h.2 with ⟨rfl,e0⟩|⟨g,cap,cur,rfl,-⟩
 .omega
 .refine ⟨g,cap,rfl,fun j u a=>?_⟩;have:=hc g rfl j u a;simpa only [Addr.add_lit,zA] using this
def BN (xs:List Wq):Prop:=∃l:List UInt8,xs=l.map fun b=>Value.int .u8 b.toNat
theorem BN.append {xs a:List Wq}(h:BN xs)(b:BN a):BN (xs++a):=by
 obtain ⟨l,rfl⟩:=h;obtain ⟨m,rfl⟩:=b;exact ⟨l++m,by rw [List.map_append]⟩
theorem jj {x:Int}(h0:0<=x)(h1:x<256):BN [.int .u8 x]:=by
 refine ⟨[UInt8.ofNat x.toNat],?_⟩;have:(UInt8.ofNat x.toNat).toNat=x.toNat:=by simp [UInt8.toNat_ofNat'];omega
 simp only [List.map_cons,List.map_nil,this];congr 2;omega
theorem ni (m:Int)(k:Nat):BN (num8 m k):=by
 induction k with
 |zero=>exact ⟨[],rfl⟩
 |succ k ih=>rw [tY];exact ih.append (jj (Int.emod_nonneg _ (by decide)) (Int.emod_lt_of_pos _ (by decide)))
theorem D3 (s:ByteArray):BN (Lib.strCells s):=⟨s.data.toList,rfl⟩
theorem oC (s:ByteArray):BN (mV s):=(jj (Int.emod_nonneg _ (by decide)) (Int.emod_lt_of_pos _ (by decide))).append (D3 s)
theorem D5 (k:ByteArray)(v:Ver):BN (zw k v):=by
 unfold zw;split
 .exact ((jj (by decide) (by decide)).append (ni _ _)).append (oC k)
 .exact (((jj (by decide) (by decide)).append (ni _ _)).append (oC k)).append (oC _)
theorem BO (L:List (ByteArray×Ver)):BN (fe L):=by
 induction L with
 |nil=>exact ⟨[],rfl⟩
 |cons e L ih=>exact (D5 e.1 e.2).append ih
theorem zC (L:List (ByteArray×Ver))(a tm:Int):BN (((((fe L++[.int .u8 3])++num8 (a+1) 8)++[.int .u8 4])++num8 tm 8)):=
 ((((BO L).append (jj (by decide) (by decide))).append (ni _ _)).append (jj (by decide) (by decide))).append (ni _ _)
theorem am.grown {w W w':Wz}{row:Option Nat}(h:am w W)(hg:W.grownBy w' row)(hr:∀g,row=some g->w.heap.size<=g):am w w':=
 ⟨hg.os.trans h.os,lT h.size hg.size,fun b hb=>(hg.block b (lL hb h.size) (fun e=>by have:=hr b e.symm;omega)).trans (h.block b hb)⟩
theorem F3 (k0:Nat)(L:List (ByteArray×Ver))(b tm:Int)(w:Wz)(c2:w.cell? ⟨k0,2,none⟩=some (.int .i64 b))(c3:w.cell? ⟨k0,3,none⟩=some (.int .u64 tm))
  (hE:Calls Yq.prog 76 #[.pointer (some ⟨k0,0,none⟩)] w fun e w'=>∃v,e=.returned v/\w'.ownsRow w.heap.size 137 4 v L.length (eQ L)/\am w w')
  (hN:dw L+18<=100000000000) (hL:L.length<=1000000) (y:∀e∈L,0<=e.2.num/\e.2.num<=9223372036854775807) (hl0:0<=b) (hl1:b<=9223372036854775807):
  Calls Yq.prog 48 #[.pointer (some ⟨k0,0,none⟩)] w fun e w'=>∃s,e=.returned (.string s)/\Lib.strCells s=fe L++([.int .u8 3]++num8 (b+1) 8++([.int .u8 4]++num8 tm 8))/\am w w':=by
 obtain ⟨i0,M,I,F,E⟩:=info_parts Yq.infoByte;have HE:Hid (Calls Yq.prog 76 #[.pointer (some ⟨k0,0,none⟩)] w fun e w'=>∃v,e=.returned v/\w'.ownsRow w.heap.size 137 4 v L.length (eQ L)/\am w w'):=hE;clear hE;go_enter (Yq.nq Tryz.func48),Tryz.ntmps48;go_wp2_with (go_at_call 76;refine HE.out.mono ?_;rintro e w1 ⟨v,rfl,ho1,hb1⟩;obtain ⟨va,vc,rfl,-⟩:=az ho1)
 go_loopw [3,9] (fun s3 s9 wr=>∃i:Nat,i<=L.length/\s9=.int .i64 i/\wr.ownsRow w1.heap.size 5 1 s3 (dw (L.take i)) (fe (L.take i))/\Below w1.heap.size w1 wr) (fun _ s9 _=>L.length-(intOf s9).toNat)
 case atStart=>exact ⟨0,Nat.zero_le _,rfl,by simpa [dw,fe] using World.ownsRow_nil _ _ _ _,bR _ _⟩
 case round=>
  obtain ⟨i,hin,rfl,hown,hb⟩:=hrel;obtain ⟨o,m,rfl,-⟩:=az hown;by_cases hlt:i<L.length
  .have S:∃g,va=some ⟨g,0,none⟩/\g<w1.heap.size:=by
    rcases ho1.2 with ⟨e,e0⟩|⟨g,cap,cur,e,-,hr,-⟩
    .omega
    .cases e;exact ⟨g,rfl,(eS hr).1⟩
   obtain ⟨g,rfl,hg⟩:=S;obtain ⟨q0,q1,q2,q3⟩:=BL hlt;have x0:=aj hb (ho1.cells (g:=g) rfl _ _ q0);have x1:=aj hb (ho1.cells (g:=g) rfl _ _ q1);have x2:=aj hb (ho1.cells (g:=g) rfl _ _ q2);have x3:=aj hb (ho1.cells (g:=g) rfl _ _ q3);simp only [Addr.add_lit,zA] at x0 x1 x2 x3;clear q0 q1 q2 q3;have p:Hid (dw (L.take (i+1))=dw (L.take i)+vW L[i].1 L[i].2/\fe (L.take (i+1))=fe (L.take i)++zw L[i].1 L[i].2/\dw (L.take (i+1))<=dw L):=⟨zz hlt,zB hlt,D2 L (i+1)⟩;have z:Hid (0<=L[i].2.num/\L[i].2.num<=9223372036854775807):=y _ (List.getElem_mem hlt);have HX:Hid (wr.ownsRow w1.heap.size 5 1 (.slice o (dw (L.take i)) m) (dw (L.take i)) (fe (L.take i))/\Below w1.heap.size w1 wr):=⟨hown,hb⟩;clear hown hb ho1 y;generalize L[i]=en at *;obtain ⟨O,f,d,c⟩:=en;simp only at x0 x1 x2 x3 p z;have HC:Hid (∀ (a:Wz) (o:Option Ww) (m n:Nat),a.ownsRow w1.heap.size 5 1 (.slice o n m) n (fe (L.take i))->w1.heap.size<=a.heap.size->n+vW O ⟨f,d,c⟩<=100000000000->0<=f->f<=9223372036854775807->Calls Yq.prog 77 #[.slice o n m,.agg #[.string O,.int .i64 f,.string d,.bool c]] a fun e w'=>∃v',e=.returned v'/\w'.ownsRow w1.heap.size 5 1 v' (n+vW O ⟨f,d,c⟩) (fe (L.take i)++zw O ⟨f,d,c⟩)/\Gb a (.slice o n m) w' v'):=fun a o m n h1 h2 h3 h4 h5=>oY w1.heap.size n o m _ O ⟨f,d,c⟩ a h1 h2 h3 h4 h5
   go_wp2_with (go_at_call 77;refine (HC.out _ _ _ _ (HX.out.1.alloc _) (by have:=HX.out.2.size;simp;omega) (by have:=p.out.1;have:=p.out.2.2;omega) z.out.1 z.out.2).mono ?_;rintro e w2 ⟨v2,rfl,h,q⟩)
   have hs2:=HX.out.2.size;refine ⟨⟨i+1,by omega,by go_num,?_,(HX.out.2.alloc hs2 _).grown q.grown (by simp;omega) (fun k e=>(HX.out.1.lt k e).1)⟩,by simp [intOf];omega⟩;rw [p.out.1,p.out.2.1];exact h
  .have V:i=L.length:=by omega
   subst V;rw [List.take_length] at hown;have hs1:=hb1.size;have hsr:=hb.size;have hk0:k0<w.heap.size:=bC w _ c2;have HX:Hid (wr.ownsRow w1.heap.size 5 1 (.slice o (dw L) m) (dw L) (fe L)/\Below w1.heap.size w1 wr/\am w wr):=⟨hown,hb,hb1.trans (.below hb)⟩;rw [List.take_length];have y2:=HX.out.2.2.cell c2;have y3:=HX.out.2.2.cell c3;have y2':=ak y2;have K:Hid (∀ (args:Array Wq) (a:Wz),(callFunc 78 args).run Yq.prog a=.ok (.enter 78 args) a):=fun args a=>by go_simp
   have Z:Hid (∀ (X:Obj),(wr.drew.alloc X).ownsRow w1.heap.size 5 1 (.slice o (dw L) m) (dw L) (fe L)):=fun X=>((aZ HX.out.1 fun g _ _=>rfl:wr.drew.ownsRow _ _ _ _ _ _).alloc X)
   have H:Hid (∀ (a:Wz) (x:Wq) (j:Nat) (u:Wq),[x][j]?=some u->((a.drew.alloc (.cells #[x] 5)).cell? ((⟨a.heap.size,0,none⟩:Ww).add j))=some u):=fun a x j u T=>xG a.drew x 5 j u T
   have HK:Hid (∀ (a wy:Wz) (v v':Wq) (n:Nat) (xs:List Wq),a.ownsRow w1.heap.size 5 1 v n xs->am w a->w1.heap.size<=a.heap.size->Gb a v wy v'->am w wy/\w1.heap.size<=wy.heap.size/\wy.cell? ⟨k0,2,none⟩=some (.int .i64 b)/\wy.cell? ⟨k0,3,none⟩=some (.int .u64 tm)):=fun a wy v v' n xs ho ad Y hg=>by
    have D:am w wy:=am.grown ad hg.grown (fun k e=>lT hs1 (ho.lt k e).1);exact ⟨D,lT Y hg.grown.size,D.cell c2,D.cell c3⟩
   have U:Hid (∀ (a:Wz) (v:Wq) (n:Nat) (xs:List Wq),a.ownsRow w1.heap.size 5 1 v n xs->w1.heap.size<=a.heap.size->n+8<=100000000000->Calls Yq.prog 78 #[v,.int .u64 (IntKind.u64.wrap (IntKind.u64.wrap b+1))] a fun e w'=>∃v',e=.returned v'/\w'.ownsRow w1.heap.size 5 1 v' (n+8) (xs++num8 (b+1) 8)/\Gb a v w' v'):=fun a v n xs h1 h2 h3=>by
    rw [ru hl0 hl1,BM (by omega) (by omega)];exact gq _ n v xs _ a h1 h2 h3
   have ab:Hid (∀ (a:Wz) (v:Wq) (n:Nat) (xs:List Wq),a.ownsRow w1.heap.size 5 1 v n xs->w1.heap.size<=a.heap.size->n+8<=100000000000->Calls Yq.prog 78 #[v,.int .u64 tm] a fun e w'=>∃v',e=.returned v'/\w'.ownsRow w1.heap.size 5 1 v' (n+8) (xs++num8 tm 8)/\Gb a v w' v'):=fun a v n xs h1 h2 h3=>gq _ n v xs _ a h1 h2 h3
   clear hown hb ho1 hb1;go_wp2_with fail
   go_region_law (first
    |(refine cP rfl (.tmp 17) (.tmp 18) 48 rfl w1.heap.size 5 i0 _ 1 1 (Yq.u Tryz.underlying48) M I F E rfl (by decide) (.slice o (dw L) m) (dw L) (fe L) (by first|(simp [Act.eval];done)|(simp [Act.eval,Act.put];done)|go_simp) (Z.out _) ⟨wr.heap.size,0,none⟩ 1 1 [.int .u8 3] (by first|(simp [Act.eval];done)|(simp [Act.eval,Act.put];done)|go_simp) rfl (H.out _ _) (pT _) (by simp only [maxLen];omega) (by omega) (by simp;omega) ?_;intro v1 w2 h q t;have hG2:Gb wr (.slice o (dw L) m) w2 v1:=Gb.ofDrew (Gb.alloc ⟨q,t⟩);obtain ⟨hb2,hs2,z2,z3⟩:=HK.out _ _ _ _ _ _ HX.out.1 HX.out.2.2 hsr hG2;clear q t)
    |(refine bj rfl 78 #[.tmp 19,.tmp 25] #[48,57] rfl #[v1,.int .u64 (IntKind.u64.wrap (IntKind.u64.wrap b+1))] (by first|(simp [Act.eval];done)|(simp [Act.eval,Act.put];done)|go_simp) (K.out _ _) _ (U.out w2 v1 _ _ h hs2 (by omega)) ?_;rintro v3 w3 ⟨A,J⟩;obtain ⟨hb3,hs3,x2,x3⟩:=HK.out _ _ _ _ _ _ h hb2 hs2 J;have x3':=ak x3;clear J z2 z3 h hb2 hs2 hG2))
   all_goals go_wp2_with fail
   all_goals go_region_law (first
    |(refine cP rfl (.tmp 27) (.tmp 28) 48 rfl w1.heap.size 5 i0 _ 1 1 (Yq.u Tryz.underlying48) M I F E rfl (by decide) v3 (dw L+1+8) _ (by first|(simp [Act.eval];done)|(simp [Act.eval,Act.put];done)|go_simp) ((aZ A fun g _ _=>rfl:w3.drew.ownsRow _ _ _ _ _ _).alloc _) ⟨w3.heap.size,0,none⟩ 1 1 [.int .u8 4] (by first|(simp [Act.eval];done)|(simp [Act.eval,Act.put];done)|go_simp) rfl (H.out _ _) (pT _) (by simp only [maxLen];omega) (by omega) (by simp;omega) ?_;intro v4 w4 ho4 P r;obtain ⟨hb4,C,z2,z3⟩:=HK.out _ _ _ _ _ _ A hb3 hs3 (Gb.ofDrew (Gb.alloc ⟨P,r⟩));clear P r x2 x3 x3' A hb3 hs3)
    |(refine bj rfl 78 #[.tmp 29,.tmp 33] #[48,57] rfl #[v4,.int .u64 tm] (by first|(simp [Act.eval];done)|(simp [Act.eval,Act.put];done)|go_simp) (K.out _ _) _ (ab.out w4 v4 _ _ ho4 C (by omega)) ?_;rintro v5 w5 ⟨B,R⟩;obtain ⟨N,-,-,-⟩:=HK.out _ _ _ _ _ _ ho4 hb4 C R;clear R z2 z3 ho4 hb4 C))
   all_goals obtain ⟨g5,Q,rfl,G⟩:=pU B (by omega)
   all_goals obtain ⟨bs,hbs⟩:=zC L b tm
   all_goals
    have l:bs.length=dw L+1+8+1+8:=by
     have:=B.1;rw [hbs,lM] at this;omega
    have hcv:(convert 48 9 (.slice (some ⟨g5,0,none⟩) (dw L+1+8+1+8) Q)).run Yq.prog w5=.ok (.string ⟨bs.toArray⟩) w5:=by
     rw [<-l];refine run_convert_bytes_back w5 48 9 5 ⟨g5,0,none⟩ Q bs (Yq.u Tryz.underlying48) (Yq.u Tryz.underlying5) (Yq.u Tryz.underlying9) fun j T=>?_
     rw [Addr.add_lit,zA];refine G j _ ?_;rw [hbs,List.getElem?_map,List.getElem?_eq_getElem T];rfl
    have HF:Hid (Lib.strCells ⟨bs.toArray⟩=fe L++([.int .u8 3]++num8 (b+1) 8++([.int .u8 4]++num8 tm 8))/\am w w5):=by
     refine ⟨?_,N⟩;rw [Lib.strCells];simp only [pA] at hbs ⊢;exact hbs.symm
    clear hbs G N B l;go_wp2;go_ret;exact ⟨_,rfl,HF.out.1,HF.out.2⟩
end
section
open Go.Conc Go.ConcX Go.ConcX.Gen Go.RowKit
theorem Yq.infoEnt:(Yq.prog.info? 137).map (fun i=>(i.zero,i.size,i.bytes))=some (some (.agg #[.string ⟨#[]⟩,.int .i64 0,.string ⟨#[]⟩,.bool false]),4,48):=by kernel_rfl
def cg (l:KVs):List (ByteArray×Ver):=l.flatMap fun x=>x.2.map fun v=>(⟨x.1.toArray⟩,v)
def vX (t:Nat)(X:Wz)(b:Nat):Prop:=∃v,X.cell? ⟨t,0,none⟩=some v/\v.ownBlock=some b
theorem vX.of {t:Nat}(X Y:Wz)(b:Nat)(h:Y.heap[t]?=X.heap[t]?):vX t Y b->vX t X b:=fun ⟨v,h1,h2⟩=>⟨v,(cB (a:=⟨t,0,none⟩) h).symm.trans h1,h2⟩
def jk (w:Wz)(root:Option Ww):Wz:=((w.alloc (.cells #[.slice none 0 0] 134)).alloc (.cells #[.pointer root] 56)).alloc (.cells #[.string ⟨#[]⟩] 9)
theorem dk (w:Wz)(root:Option Ww):(jk w root).heap.size=w.heap.size+3:=by simp only [jk,World.alloc,Array.size_push]
theorem rv (w:Wz)(root:Option Ww){b:Nat}(h:b<w.heap.size):(jk w root).heap[b]?=w.heap[b]?:=by
 simp only [jk,World.alloc,gP,Array.size_push]
 repeat rw [if_neg (by omega)]
theorem rx (w:Wz)(root:Option Ww)(i:Nat)(h:i<3):(jk w root).heap[w.heap.size+i]?=(#[.cells #[.slice none 0 0] 134,.cells #[.pointer root] 56,.cells #[.string ⟨#[]⟩] 9]:Array Obj)[i]?:=by
 simp only [jk,World.alloc,gP,Array.size_push];rcases i with - | - | - |i;all_goals first|omega|skip
 all_goals
  repeat rw [if_neg (by omega)]
  simp
structure rE (t:Nat)(w3:Wz)(E:List (ByteArray×Ver))(X:Wz):Prop where
 os:X.os=w3.os
 size:w3.heap.size<=X.heap.size
 block:∀b,b<w3.heap.size->b≠t->X.heap[b]?=w3.heap[b]?
 row:∃v,X.heap[t]?=some (.cells #[v] 134)/\X.ownsRow w3.heap.size 137 4 v E.length (eQ E)
section
variable {t:Nat} {w3 X Y:Wz} {E:List (ByteArray×Ver)}
theorem rE.own (I:rE t w3 E X)(b:Nat)(h:vX t X b):w3.heap.size<=b/\∃o:Obj,X.heap[b]?=some o/\o.isCells=true:=by
 obtain ⟨v,h1,h2⟩:=I.row;obtain ⟨v',h3,h4⟩:=h;have e:X.cell? ⟨t,0,none⟩=some v:=by simp [World.cell?,h1]
 rw [e] at h3;cases h3;refine ⟨(h2.lt b h4).1,?_⟩;rcases h2.2 with ⟨rfl,-⟩|⟨g,cap,cur,rfl,-,hr,-⟩
 .simp [Value.ownBlock] at h4
 .simp only [Value.ownBlock,oI] at h4;subst h4;exact ⟨_,hr,rfl⟩
theorem rE.stable (ht:t<w3.heap.size)(I:rE t w3 E X)(h1:∀b,b<w3.heap.size->Y.heap[b]?=X.heap[b]?)(h2:∀b,vX t X b->Y.heap[b]?=X.heap[b]?)(h3:X.heap.size<=Y.heap.size)(h4:Y.os=X.os):rE t w3 E Y:=by
 obtain ⟨v,r1,r2⟩:=I.row;exact ⟨h4.trans I.os,lT I.size h3,fun b hb hne=>(h1 b hb).trans (I.block b hb hne),v,(h1 t ht).trans r1,eO r2 fun g hg=>h2 g ⟨v,by simp [World.cell?,r1],hg⟩⟩
theorem rE.push (ht:t<w3.heap.size)(I:rE t w3 E X){v v':Wq}{w2:Wz}{k:ByteArray}{x:Ver}(hr:X.heap[t]?=some (.cells #[v] 134))(ho:w2.ownsRow w3.heap.size 137 4 v' (E.length+1) (eQ E++uA k x))(hG:Gb X v w2 v'):
  rE t w3 (E++[(k,x)]) (w2.setCell ⟨t,0,none⟩ v')/\eH (vX t) t t X (w2.setCell ⟨t,0,none⟩ v'):=by
 obtain ⟨v0,r1,r2⟩:=I.row;rw [hr] at r1;cases r1;have hcell:X.cell? ⟨t,0,none⟩=some v:=by simp [World.cell?,hr]
 have hlow:∀g,v.ownBlock=some g->w3.heap.size<=g:=fun g hg=>(r2.lt g hg).1
 have hX:=I.size;have hne:∀b,b<X.heap.size->v.ownBlock≠some b->w2.heap[b]?=X.heap[b]?:=fun b hb hn=>hG.grown.block b hb (fun e=>hn e.symm)
 have d:v.ownBlock≠some t:=fun e=>by have:=hlow t e;omega
 have f:w2.heap[t]?=some (.cells #[v] 134):=(hne t (by omega) d).trans hr;have a:∀b,b≠t->(w2.setCell ⟨t,0,none⟩ v').heap[b]?=w2.heap[b]?:=fun b hb=>bS _ _ _ _ hb
 have hst:(w2.setCell ⟨t,0,none⟩ v').heap[t]?=some (.cells #[v'] 134):=by
  obtain ⟨h1,h2⟩:=eS f;show (w2.heap.modify t _)[t]?=_;rw [eG (by rw [Array.size_modify];exact h1),Array.getElem_modify_self,h2];rfl
 have hsz:(w2.setCell ⟨t,0,none⟩ v').heap.size=w2.heap.size:=by simp
 have c:(w2.setCell ⟨t,0,none⟩ v').os=X.os:=hG.grown.os;have hg:=hG.grown.size;refine ⟨⟨c.trans I.os,by omega,fun b hb hbt=>?_,v',hst,?_⟩,by omega,c,fun b hb=>?_,fun b hb hbt _ hn=>?_⟩
 .rw [a b hbt,hne b (by omega) (fun e=>by have:=hlow b e;omega)];exact I.block b hb hbt
 .have e1:eQ (E++[(k,x)])=eQ E++uA k x:=by simp [eQ]
  rw [e1,lP,lS];exact eO ho fun g hg=>a g (fun e=>by have:=(ho.lt g hg).1;omega)
 .obtain ⟨v1,h1,h2⟩:=hb;have e:(w2.setCell ⟨t,0,none⟩ v').cell? ⟨t,0,none⟩=some v':=by simp [World.cell?,hst]
  rw [e] at h1;cases h1;rcases hG.at_ b h2 with h|h
  .exact .inl ⟨v,hcell,h⟩
  .exact .inr h
 .rw [a b hbt,hne b hb (fun e=>hn ⟨v,hcell,e⟩)]
end
theorem mW {F:Fence}{l:Nat}{P:Program}(w:Wz){ops:Array Oper}{rest:List Oper}{o:Oper}{a:Act}{Q:Exit->Act->Wz->Prop}
  (hg:o.guard=none) (s x:Operand) (t:Wk) (b:o.op=Op.call {callee:=Callee.builtin Builtin.append,args:=#[s,x],argTypes:=#[t,t]})
  (base:Nat) (e:Wk) (i:TypeInfo) (z:Wq) (size bytes:Nat) (h1:P.underlying t=some (.slice e)) (h2:P.info? e=some i) (h3:i.zero=some z) (h4:i.size=size) (h5:i.bytes=bytes) (h6:z.cells.size=size) (h7:0<size)
  (v:Wq) (k:Nat) (xs:List Wq) (hs:a.eval s=v) (hown:w.ownsRow base e size v k xs) (f:Ww) (m c:Nat) (news:List Wq) (hx:a.eval x=.slice (some f) m c) (hn:news.length=m * size)
  (hc:∀j u,news[j]?=some u->w.cell? (f.add j)=some u) (d:∀u∈news,u.oneCell'=true) (n:k+m<=maxLen) (b2:(k+m) * bytes<=140737488355328) (b3:base<=w.heap.size)
  (q:∀v' w',w'.ownsRow base e size v' (k+m) (xs++news)->Gb w v w' v'->wpListIn F l P ops Q rest (a.put o.dst v') w'):
  wpListIn F l P ops Q (o::rest) a w:=by
 refine wpListIn_plain hg fun K h=>?_
 obtain ⟨v',w',hrun,r1,r2,p⟩:=jT (P:=P) w base t o.type e i z size bytes h1 h2 h3 h4 h5 h6 h7 v k xs hown f m c news hn hc d n b2 b3;unfold Oper.wpIn;refine ⟨?_,?_⟩
 .simp [Oper.about,b,resolve,Target.leads,Sem.run_pure]
 .rw [Oper.semAt_plain F _ _ (by rw [b];intro c hc';cases hc')];simp [execOp,b,resolve,invoke,builtin,hs,hx,hrun,Result.andThen];exact h _ _ (q v' w' r1 ⟨r2,p⟩)
noncomputable def BP:Code:=zh (cIn (cy (gN (cy (cy (bu Tryz.f76))))))
def fF (w:Wz)(k0:Nat)(root:Option Ww)(c d a b:Wq):Array Wq:=
 #[.pointer (some ⟨k0,0,none⟩),Wy,.slice none 0 0,.pointer (some ⟨w.heap.size,0,none⟩),c,d,Wy,Wy,.pointer (some ⟨k0,0,none⟩),.pointer (some ⟨k0,0,none⟩),.pointer (some ⟨k0,0,none⟩),
  .agg #[.pointer root],.func (.func 122) #[] #[ptr (w.heap.size+1),ptr (w.heap.size+2)],a,b,Wy,Wy,Wy,Wy,Wy,Wy,Wy,Wy,Wy,Wy,Wy,Wy,Wy,Wy,Wy,Wy]
theorem eH.refl (O:Wz->Nat->Prop)(c t:Nat)(W:Wz):eH O c t W W:=⟨lR _,rfl,fun _ h=>.inl h,fun _ _ _ _ _=>rfl⟩
theorem eH.trans {O:Wz->Nat->Prop}{c t:Nat}{W W' W'':Wz}(h:eH O c t W W')(k:eH O c t W' W''):eH O c t W W'':=⟨lT h.1 k.1,k.2.1.trans h.2.1,A7 h.1 h.2.2.1 k.2.2.1,fun b h1 h2 h3 h4=>by
 have hb:b<W'.heap.size:=lL h1 h.1;have hx:∃o,W.heap[b]?=some o:=⟨_,eG h1⟩;obtain ⟨o,ho⟩:=hx;exact (k.2.2.2 b hb h2 h3 (sW h.2.2.1 ho h4)).trans (h.2.2.2 b h1 h2 h3 h4)⟩
theorem F4 (w:Wz)(a b c d:Wq)(T:Wk)(j:Nat)(u:Wq)(h:[a,b,c,d][j]?=some u):(w.alloc (.cells #[a,b,c,d] T)).cell? ((⟨w.heap.size,0,none⟩:Ww).add j)=some u:=by
 rw [Addr.add_lit,zA,cA (w:=w) _ _ w.heap.size j rfl];rw [<-h];rcases j with - | - | - | - |j<;>rfl
theorem F5 (k:ByteArray)(v:Ver):∀u∈uA k v,u.oneCell'=true:=fun u a=>by
 simp [uA] at a;rcases a with rfl|rfl|rfl|rfl<;>rfl
theorem zD (pre:KVs)(k:List UInt8)(h:List Ver):cg (pre++[(k,h)])=cg pre++h.map fun v=>(⟨k.toArray⟩,v):=by simp [cg]
section
attribute [local go_sem] Oper.semAt_some kD
theorem D6 (k0:Nat)(root:Option Ww)(w:Wz)(A:Nat->Prop)(hA:∀b,A b->b<w.heap.size)(l:Nat)(pre:KVs)(k:List UInt8)(h:List Ver)(hv:Wq)(W:Wz)(J:aU A (jk w root) hv h)(hne:h≠[])(hl:(cg pre).length+h.length<=1000000)(I:rE w.heap.size (jk w root) (cg pre) W):
  BP.wpIn (wf (some l)) 0 Yq.prog (fun e _ W'=>e=.normal/\eH (vX w.heap.size) w.heap.size w.heap.size W W'/\rE w.heap.size (jk w root) (cg (pre++[(k,h)])) W') ⟨fF w k0 root (.string ⟨k.toArray⟩) hv (.string ⟨k.toArray⟩) hv,[]⟩ W:=by
 obtain ⟨Q,hQ⟩:∃Q:Exit->Act->Wz->Prop,Q=fun e _ W'=>e=.normal/\eH (vX w.heap.size) w.heap.size w.heap.size W W'/\rE w.heap.size (jk w root) (cg (pre++[(k,h)])) W':=⟨_,rfl⟩
 rw [<-hQ];have HQ:Hid (Q=fun e _ W'=>e=.normal/\eH (vX w.heap.size) w.heap.size w.heap.size W W'/\rE w.heap.size (jk w root) (cg (pre++[(k,h)])) W'):=hQ;clear hQ;obtain ⟨i0,G,E,z,x⟩:=info_parts Yq.infoEnt;obtain ⟨g,cap,rfl,s,hgl,hcs,-⟩:=J.cells hne;have hgw:g<w.heap.size:=hA g s;obtain ⟨n,hn⟩:∃n,n=h.length:=⟨_,rfl⟩;have hszW:w.heap.size+3<=W.heap.size:=by have:=I.size;rwa [dk] at this
 have HI:Hid (rE w.heap.size (jk w root) (cg pre) W):=I;have HC:Hid (∀i (hi:i<h.length),(jk w root).cell? ⟨g,i * 3,none⟩=some (.int .i64 h[i].num)/\(jk w root).cell? ⟨g,i * 3+1,none⟩=some (.string h[i].body)/\(jk w root).cell? ⟨g,i * 3+2,none⟩=some (.bool h[i].mark)):=hcs;have HN:Hid (n=h.length/\(cg pre).length+h.length<=1000000/\g<w.heap.size):=⟨hn,hl,hgw⟩;rw [<-hn];clear I hcs J hne hl hgw hgl s hn;unfold fF;dsimp only [BP,zh,bu,Tryz.f76,cIn,gN,cy,nW,Option.getD]
 gi_wp2_with fail
 gi_loopw [17] (fun s17 wr=>∃i:Nat,i<=n/\s17=.int .i64 i/\rE w.heap.size (jk w root) (cg pre++(h.take i).map fun v=>(⟨k.toArray⟩,v)) wr/\eH (vX w.heap.size) w.heap.size w.heap.size W wr) (fun s17 _=>n-(intOf s17).toNat)
 case atStart=>exact ⟨0,Nat.zero_le _,rfl,by simpa using HI.out,eH.refl _ _ _ _⟩
 case round=>
  obtain ⟨i,hin,rfl,hE,K⟩:=hrel;have HE:Hid (rE w.heap.size (jk w root) (cg pre++(h.take i).map fun v=>(⟨k.toArray⟩,v)) wr/\eH (vX w.heap.size) w.heap.size w.heap.size W wr):=⟨hE,K⟩;by_cases hlt:i<n
  .obtain ⟨v,f,m⟩:=hE.row;obtain ⟨p,q,rfl,-⟩:=az m;have o:i<h.length:=by rw [<-HN.out.1];exact hlt
   have hwr:w.heap.size+3<=wr.heap.size:=by have:=hE.size;rwa [dk] at this
   have c:wr.heap[g]?=(jk w root).heap[g]?:=hE.block g (by rw [dk];have:=HN.out.2.2;omega) (by have:=HN.out.2.2;omega);obtain ⟨q0,q1,q2⟩:=HC.out i o;have c0:wr.cell? ⟨g,i * 3,none⟩=some (.int .i64 h[i].num):=(cB (a:=⟨g,i * 3,none⟩) c).trans q0;have c1:wr.cell? ⟨g,i * 3+1,none⟩=some (.string h[i].body):=(cB (a:=⟨g,i * 3+1,none⟩) c).trans q1;have c2:wr.cell? ⟨g,i * 3+2,none⟩=some (.bool h[i].mark):=(cB (a:=⟨g,i * 3+2,none⟩) c).trans q2;have d0:wr.cell? ⟨w.heap.size,0,none⟩=some (.slice p (cg pre++(h.take i).map fun v=>((⟨k.toArray⟩:ByteArray),v)).length q):=by simp [World.cell?,f]
   have hlen:(cg pre++(h.take i).map fun v=>((⟨k.toArray⟩:ByteArray),v)).length=(cg pre).length+i:=by rw [lP,lM,tL,Nat.min_eq_left (Nat.le_of_lt o)]
   have htk:cg pre++(h.take (i+1)).map (fun v=>((⟨k.toArray⟩:ByteArray),v))=(cg pre++(h.take i).map fun v=>((⟨k.toArray⟩:ByteArray),v))++[(⟨k.toArray⟩,h[i])]:=by
    rw [tS o,List.map_append,pA];rfl
   have hle:(cg pre++(h.take i).map fun v=>((⟨k.toArray⟩:ByteArray),v)).length+1<=1000000:=by have:=HN.out;omega
   clear hlen;have hi6:i+1<=1000000:=by have:=HN.out;omega
   generalize y:(cg pre++(h.take i).map fun v=>((⟨k.toArray⟩:ByteArray),v))=EE at *;have HT:Hid (cg pre++(h.take (i+1)).map (fun v=>((⟨k.toArray⟩:ByteArray),v))=EE++[(⟨k.toArray⟩,h[i])]):=htk;have HR:Hid (wr.heap[w.heap.size]?=some (.cells #[.slice p EE.length q] 134)/\wr.ownsRow (jk w root).heap.size 137 4 (.slice p EE.length q) EE.length (eQ EE)):=⟨f,m⟩;clear htk f m hE K y q0 q1 q2 c;generalize h[i]=M at *;obtain ⟨d,body,mark⟩:=M;simp only at c0 c1 c2;have d0':=ak d0;have D:Hid (∀ (B:Obj) (j:Nat) (u:Wq),(uA ⟨k.toArray⟩ ⟨d,body,mark⟩)[j]?=some u->((wr.alloc B).alloc (.cells #[.string ⟨k.toArray⟩,.int .i64 d,.string body,.bool mark] 137)).cell? ((⟨wr.heap.size+1,0,none⟩:Ww).add j)=some u):=fun B j u L=>by
    have:=F4 (wr.alloc B) (.string ⟨k.toArray⟩) (.int .i64 d) (.string body) (.bool mark) 137 j u L;simpa using this
   have H:Hid (∀ (B C:Obj) (w2:Wz) (v1:Wq),Gb ((wr.alloc B).alloc C) (.slice p EE.length q) w2 v1->w2.cell? ⟨w.heap.size,0,none⟩=some (.slice p EE.length q)/\w2.frozen? ⟨w.heap.size,0,none⟩=false):=fun B C w2 v1 hg=>by
    have hG:=hg.alloc.alloc;have e:w2.heap[w.heap.size]?=some (.cells #[.slice p EE.length q] 134):=(hG.grown.block _ (by omega) (fun e=>by have:=(HR.out.2.lt _ e.symm).1;rw [dk] at this;omega)).trans HR.out.1;exact ⟨by simp [World.cell?,e],by simp [World.frozen?,e]⟩
   gi_wp2_with (gi_at_builtin;refine mW _ rfl _ _ 134 rfl (jk w root).heap.size 137 i0 _ 4 48 (Yq.u Tryz.underlying134) G E z x rfl (by decide) _ EE.length (eQ EE) rfl ((HR.out.2.alloc _).alloc _) ⟨wr.heap.size+1,0,none⟩ 1 1 (uA ⟨k.toArray⟩ ⟨d,body,mark⟩) rfl rfl (D.out _) (F5 _ _) (by simp only [maxLen];omega) (by omega) (by rw [dk];simp;omega) ?_;intro v1 w2 r t;obtain ⟨va1,vc1,rfl,-⟩:=az r;obtain ⟨b0,b1⟩:=H.out _ _ _ _ t)
   obtain ⟨p1,p2⟩:=HE.out.1.push (by rw [dk];omega) HR.out.1 r t.alloc.alloc;exact ⟨⟨i+1,by omega,by go_num,by rw [HT.out];exact p1,HE.out.2.trans p2⟩,by simp [intOf];omega⟩
  .have F:i=n:=by omega
   subst F
   gi_wp2_with fail
   rw [HQ.out];refine ⟨rfl,HE.out.2,?_⟩;have:=HE.out.1;rw [tO (by rw [<-HN.out.1];exact lR _)] at this;rw [zD];exact this
end
end
end Go.Proofs.Qw
namespace Go.Proofs
section
open Go.Shelf Go.RowKit Go.Lib Go.Sort
def Yq.sortE_ren:Go.Shelf.Ren:=⟨fun| 6=>102| 15=>125| 14=>124| 28=>150| 29=>151| 20=>142| 21=>143| 22=>144| 23=>145| 24=>146| 25=>147| 26=>148| 27=>149| 46=>159| 47=>160| 48=>161| 49=>162| 50=>163| 57=>171|n=>n,fun| 22=>134| 24=>137| 25=>173| 3=>3| 39=>199| 0=>0| 53=>222| 55=>57| 4=>4| 46=>216| 45=>215| 50=>160| 5=>5| 9=>9| 66=>231| 70=>235| 76=>243| 77=>244|n=>n,fun n=>n⟩
theorem Yq.sortE:SlLaysF0.n6 Yq.prog Yq.sortE_ren:={
 mixed:=by kernel_rfl
 f6 := Exists.intro "slices.SortFunc[[]shelf/store.entry,shelf/store.entry]" ⟨by decide, (Yq.nq Tryz.func102).trans (congrArg some (by kernel_rfl))⟩
 f14 := Exists.intro "slices.pdqsortCmpFunc[shelf/store.entry]" ⟨by decide, (Yq.nq Tryz.func124).trans (congrArg some (by kernel_rfl))⟩
 f15:=(Yq.nq Tryz.func125).trans (congrArg some (by kernel_rfl))
 f20 := Exists.intro "slices.insertionSortCmpFunc[shelf/store.entry]" ⟨by decide, (Yq.nq Tryz.func142).trans (congrArg some (by kernel_rfl))⟩
 f21 := Exists.intro "slices.heapSortCmpFunc[shelf/store.entry]" ⟨by decide, (Yq.nq Tryz.func143).trans (congrArg some (by kernel_rfl))⟩
 f22 := Exists.intro "slices.breakPatternsCmpFunc[shelf/store.entry]" ⟨by decide, (Yq.nq Tryz.func144).trans (congrArg some (by kernel_rfl))⟩
 f23 := Exists.intro "slices.choosePivotCmpFunc[shelf/store.entry]" ⟨by decide, (Yq.nq Tryz.func145).trans (congrArg some (by kernel_rfl))⟩
 f24 := Exists.intro "slices.reverseRangeCmpFunc[shelf/store.entry]" ⟨by decide, (Yq.nq Tryz.func146).trans (congrArg some (by kernel_rfl))⟩
 f25 := Exists.intro "slices.partialInsertionSortCmpFunc[shelf/store.entry]" ⟨by decide, (Yq.nq Tryz.func147).trans (congrArg some (by kernel_rfl))⟩
 f26 := Exists.intro "slices.partitionEqualCmpFunc[shelf/store.entry]" ⟨by decide, (Yq.nq Tryz.func148).trans (congrArg some (by kernel_rfl))⟩
 f27 := Exists.intro "slices.partitionCmpFunc[shelf/store.entry]" ⟨by decide, (Yq.nq Tryz.func149).trans (congrArg some (by kernel_rfl))⟩
 f28:=(Yq.nq Tryz.func150).trans (congrArg some (by kernel_rfl))
 f29:=(Yq.nq Tryz.func151).trans (congrArg some (by kernel_rfl))
 f46 := Exists.intro "slices.siftDownCmpFunc[shelf/store.entry]" ⟨by decide, (Yq.nq Tryz.func159).trans (congrArg some (by kernel_rfl))⟩
 f47:=(Yq.nq Tryz.func160).trans (congrArg some (by kernel_rfl))
 f48:=(Yq.nq Tryz.func161).trans (congrArg some (by kernel_rfl))
 f49 := Exists.intro "slices.medianAdjacentCmpFunc[shelf/store.entry]" ⟨by decide, (Yq.nq Tryz.func162).trans (congrArg some (by kernel_rfl))⟩
 f50 := Exists.intro "slices.medianCmpFunc[shelf/store.entry]" ⟨by decide, (Yq.nq Tryz.func163).trans (congrArg some (by kernel_rfl))⟩
 f57 := Exists.intro "slices.order2CmpFunc[shelf/store.entry]" ⟨by decide, (Yq.nq Tryz.func171).trans (congrArg some (by kernel_rfl))⟩
 t0:=(Yq.u Tryz.underlying0)
 a0:=(fun w=>Yq.a (Tryz.isAgg0 w))
 z0:=(fun w=>Yq.s (Tryz.sizeOf0 w))
 v0:=(fun w=>Yq.z (Tryz.zeroValue0 w))
 t3:=(Yq.u Tryz.underlying3)
 a3:=(fun w=>Yq.a (Tryz.isAgg3 w))
 z3:=(fun w=>Yq.s (Tryz.sizeOf3 w))
 v3:=(fun w=>Yq.z (Tryz.zeroValue3 w))
 t4:=(Yq.u Tryz.underlying4)
 a4:=(fun w=>Yq.a (Tryz.isAgg4 w))
 z4:=(fun w=>Yq.s (Tryz.sizeOf4 w))
 v4:=(fun w=>Yq.z (Tryz.zeroValue4 w))
 t5:=(Yq.u Tryz.underlying5)
 a5:=(fun w=>Yq.a (Tryz.isAgg5 w))
 z5:=(fun w=>Yq.s (Tryz.sizeOf5 w))
 v5:=(fun w=>Yq.z (Tryz.zeroValue5 w))
 t9:=(Yq.u Tryz.underlying9)
 a9:=(fun w=>Yq.a (Tryz.isAgg9 w))
 z9:=(fun w=>Yq.s (Tryz.sizeOf9 w))
 v9:=(fun w=>Yq.z (Tryz.zeroValue9 w))
 t22:=(Yq.u Tryz.underlying134)
 a22:=(fun w=>Yq.a (Tryz.isAgg134 w))
 z22:=(fun w=>Yq.s (Tryz.sizeOf134 w))
 v22:=(fun w=>Yq.z (Tryz.zeroValue134 w))
 t25:=(Yq.u Tryz.underlying173)
 a25:=(fun w=>Yq.a (Tryz.isAgg173 w))
 z25:=(fun w=>Yq.s (Tryz.sizeOf173 w))
 v25:=(fun w=>Yq.z (Tryz.zeroValue173 w))
 t39:=(Yq.u Tryz.underlying199)
 a39:=(fun w=>Yq.a (Tryz.isAgg199 w))
 z39:=(fun w=>Yq.s (Tryz.sizeOf199 w))
 v39:=(fun w=>Yq.z (Tryz.zeroValue199 w))
 t45:=(Yq.u Tryz.underlying215)
 a45:=(fun w=>Yq.a (Tryz.isAgg215 w))
 z45:=(fun w=>Yq.s (Tryz.sizeOf215 w))
 v45:=(fun w=>Yq.z (Tryz.zeroValue215 w))
 t46:=(Yq.u Tryz.underlying216)
 a46:=(fun w=>Yq.a (Tryz.isAgg216 w))
 z46:=(fun w=>Yq.s (Tryz.sizeOf216 w))
 v46:=(fun w=>Yq.z (Tryz.zeroValue216 w))
 t50:=(Yq.u Tryz.underlying160)
 a50:=(fun w=>Yq.a (Tryz.isAgg160 w))
 z50:=(fun w=>Yq.s (Tryz.sizeOf160 w))
 v50:=(fun w=>Yq.z (Tryz.zeroValue160 w))
 t53:=(Yq.u Tryz.underlying222)
 a53:=(fun w=>Yq.a (Tryz.isAgg222 w))
 z53:=(fun w=>Yq.s (Tryz.sizeOf222 w))
 v53:=(fun w=>Yq.z (Tryz.zeroValue222 w))
 t55:=(Yq.u Tryz.underlying57)
 a55:=(fun w=>Yq.a (Tryz.isAgg57 w))
 z55:=(fun w=>Yq.s (Tryz.sizeOf57 w))
 v55:=(fun w=>Yq.z (Tryz.zeroValue57 w))
 t66:=(Yq.u Tryz.underlying231)
 a66:=(fun w=>Yq.a (Tryz.isAgg231 w))
 z66:=(fun w=>Yq.s (Tryz.sizeOf231 w))
 v66:=(fun w=>Yq.z (Tryz.zeroValue231 w))
 t70:=(Yq.u Tryz.underlying235)
 a70:=(fun w=>Yq.a (Tryz.isAgg235 w))
 z70:=(fun w=>Yq.s (Tryz.sizeOf235 w))
 v70:=(fun w=>Yq.z (Tryz.zeroValue235 w))
 t76:=(Yq.u Tryz.underlying243)
 a76:=(fun w=>Yq.a (Tryz.isAgg243 w))
 z76:=(fun w=>Yq.s (Tryz.sizeOf243 w))
 v76:=(fun w=>Yq.z (Tryz.zeroValue243 w))
 t77:=(Yq.u Tryz.underlying244)
 a77:=(fun w=>Yq.a (Tryz.isAgg244 w))
 z77:=(fun w=>Yq.s (Tryz.sizeOf244 w))
 v77:=(fun w=>Yq.z (Tryz.zeroValue244 w))}
end
end Go.Proofs
namespace Go.Proofs.Qw
section
open Go.Shelf Go.RowKit Go.Sort
@[reducible] def D7:Inhabited (ByteArray×Ver):=⟨(⟨#[]⟩,⟨0,⟨#[]⟩,false⟩)⟩
def BQ (e:ByteArray×Ver):List Wq:=uA e.1 e.2
def cfE (x y:ByteArray×Ver):Int:=Gw x.2.num y.2.num
def gJ (E:List (ByteArray×Ver)):List (ByteArray×Ver):=(@Sort.pdq _ D7 (ltOf cfE) E.toArray 0 E.length (Lib.bitLen E.length) true true).toList
theorem ltE (x y:ByteArray×Ver):ltOf cfE x y=decide (x.2.num<y.2.num):=by
 unfold ltOf cfE Gw;by_cases h1:x.2.num<y.2.num
 .simp [h1]
 .by_cases h2:y.2.num<x.2.num<;>simp [h1,h2]
theorem H8:SWO (ltOf cfE) where
 irrefl x:=by rw [ltE];simp
 trans x y z h1 h2:=by rw [ltE] at *;simp at *;omega
 ntrans x y z h1 h2:=by rw [ltE] at *;simp at *;omega
theorem oD (E:List (ByteArray×Ver)):@PermIn _ D7 0 E.length E.toArray (gJ E).toArray/\@SortedIn _ D7 (ltOf cfE) 0 E.length (gJ E).toArray:=by
 letI:=D7
 have h:=pdq_sorts (ltOf cfE) H8 E.toArray 0 E.length (Lib.bitLen E.length) true true (Nat.zero_le _) (by simp) (Or.inl rfl);unfold gJ;rw [Array.toArray_toList];exact h
theorem gK (E:List (ByteArray×Ver)):(gJ E).Perm E:=by
 letI:=D7
 have h:=(oD E).1;have h1:(gJ E).length=E.length:=by simpa using h.1
 have h2:=h.2.2;rw [List.extract_toArray,List.extract_toArray] at h2;have h3:List.take E.length (gJ E)=gJ E:=tO (by omega);simpa [List.extract,h3] using h2
theorem eI (E:List (ByteArray×Ver)):(gJ E).length=E.length:=(gK E).length_eq
theorem G7 (E:List (ByteArray×Ver)):(@flatK _ D7 BQ 4 E.toArray).toList=eQ E:=by
 letI:=D7
 refine List.ext_getElem? fun j=>?_
 by_cases a:j<E.length * 4
 .have hq:j / 4<E.length:=by omega
  have e:j=j / 4 * 4+j % 4:=by omega
  have h1:(flatK BQ 4 E.toArray).toList[j]?=some (flatK BQ 4 E.toArray)[j]!:=by
   rw [gT,eG (by simpa using a),getElem!_pos _ j (by simpa using a)]
  rw [h1,get_flatK _ _ _ _ (by simpa using a)];have h2:=ey 4 (fun e:ByteArray×Ver=>uA e.1 e.2) (fun _=>rfl) E (j / 4) (j % 4) hq (by omega);rw [<-e] at h2;show _=(E.flatMap fun e=>uA e.1 e.2)[j]?;have a0:E.toArray[j / 4]! =E[j / 4]:=by rw [getElem!_pos _ _ (by simpa using hq)];simp
  rw [h2,a0];have hm:j % 4=0\/j % 4=1\/j % 4=2\/j % 4=3:=by omega
  rcases hm with h|h|h|h<;>rw [h]<;>rfl
 .rw [List.getElem?_eq_none (by simp;omega),List.getElem?_eq_none (by rw [show (eQ E).length=E.length * 4 from eZ 4 _ (fun _=>rfl) E];omega)]
theorem F6 (base:Nat)(E:List (ByteArray×Ver))(v:Wq)(w:Wz)(h:w.ownsRow base 137 4 v E.length (eQ E))(hE:E.length<=1000000):
  Calls Yq.prog 102 #[v,.func (.func 103) #[] #[]] w fun e w'=>e=.returned (.tuple #[])/\w'.ownsRow base 137 4 v E.length (eQ (gJ E))/\(∀b,b<w.heap.size->v.ownBlock≠some b->w'.heap[b]?=w.heap[b]?)/\w.heap.size<=w'.heap.size/\w'.os=w.os:=by
 letI:=D7
 rcases h.2 with ⟨rfl,h0⟩|⟨g,cap,c,rfl,hb,hr,hle,i,hsz,f⟩
 .have hcon:=AnyF.slices_SortFunc_none Yq.sortE none 0 (.func (.func 103) #[] #[]) w;change Calls Yq.prog 102 _ _ _ at hcon;refine hcon.mono ?_;rintro e w' ⟨rfl,rfl⟩;have e1:E=[]:=List.length_eq_zero_iff.1 h0;subst e1;have e2:gJ []=[]:=List.length_eq_zero_iff.1 (eI []);refine ⟨rfl,?_,fun _ _ _=>rfl,lR _,rfl⟩;rw [e2];exact h
 .have r:∀args w,(callFunc 103 args).run Yq.prog w=.ok (.enter 103 args) w:=fun args w=>by go_simp
  have hlt:g<w.heap.size:=(eS hr).1;have hcell:∀j,w.cell? ⟨g,j,none⟩=c[j]?:=fun j=>cell_of_row w g j c 137 (0,0) hr
  have hx:(eQ E).length=E.length * 4:=eZ 4 _ (fun _=>rfl) E;have q:HoldsK BQ 4 w g 0 E.toArray:=by
   intro j d;have hj':j<E.length * 4:=by simpa using d
   have e1:(flatK BQ 4 E.toArray)[j]?=(eQ E)[j]?:=by rw [<-G7,gT]
   have e2:c[j]?=(eQ E)[j]?:=by
    rw [<-f,List.getElem?_take_of_lt hj',gT]
   refine ⟨?_,?_⟩
   .rw [zA,hcell,e2,<-e1,getElem!_pos _ j d,eG d];rfl
   .rw [zA];simp [World.frozen?,hr]
  have n:CmpLays Yq.prog 103 #[] BQ 4 cfE g 0 E.toArray.size w:=fun _ _ _ _ x y=>by
   refine (BK x.1 y.1 x.2 y.2 _).mono ?_;rintro e w' ⟨rfl,rfl⟩;exact ⟨rfl,0,_,by rw [alloc_eq_grow,alloc_eq_grow,grow_grow];rfl⟩
  have hcon:=AnyQ.slices_SortFunc_eq Yq.sortE 4 (fun w=>Yq.a (Tryz.isAgg137 w)) (fun w=>Yq.s (Tryz.sizeOf137 w)) BQ (fun _=>rfl) (fun x v hv=>by simp [BQ,uA] at hv;rcases hv with rfl|rfl|rfl|rfl<;>rfl) cfE H8 103 #[] g 0 cap E.toArray w r n q hlt (by simp;omega);change Calls Yq.prog 102 _ _ _ at hcon;have es:E.toArray.size=E.length:=by simp
  rw [es] at hcon;refine hcon.mono ?_;rintro e w' ⟨rfl,m,os,rfl⟩;have hd:(pdq (ltOf cfE) E.toArray 0 E.length (Lib.bitLen E.length) true true)=(gJ E).toArray:=by unfold gJ;rw [Array.toArray_toList]
  rw [hd];have k:(sortWorldK BQ 4 w g 0 m (gJ E).toArray os).heap[g]?=some (.cells (putCells id 0 (flatK BQ 4 (gJ E).toArray) c) 137 (0,0)):=by
   show ((w.heap.modify g _)++os)[g]?=_;rw [Array.getElem?_append_left (by rw [Array.size_modify];exact hlt),eG (by rw [Array.size_modify];exact hlt),Array.getElem_modify_self];obtain ⟨h1,h2⟩:=eS hr;rw [h2];rfl
  have hl:(eQ (gJ E)).length=E.length * 4:=by rw [<-eI E];exact eZ 4 _ (fun _=>rfl) _
  refine ⟨rfl,⟨hl,.inr ⟨g,cap,_,rfl,hb,k,hle,i,by simp [putCells,hsz],?_⟩⟩,fun b p hne=>?_,?_,rfl⟩
  .refine List.ext_getElem? fun j=>?_
   by_cases d:j<E.length * 4
   .have o:j<c.size:=by rw [hsz];exact lL d (Nat.mul_le_mul_right 4 hle)
    have l:j<(flatK BQ 4 (gJ E).toArray).size:=by simp [eI,d]
    rw [List.getElem?_take_of_lt d,gT,putCells,Array.getElem?_mapIdx,eG o,Option.map_some,if_pos ⟨Nat.zero_le _,by omega⟩,<-G7,gT,Nat.sub_zero,getElem!_pos _ j l,eG l];rfl
   .rw [List.getElem?_eq_none (by simp;omega),List.getElem?_eq_none (by omega)]
  .show ((w.heap.modify g _)++os)[b]?=_;rw [Array.getElem?_append_left (by rw [Array.size_modify];exact p),Array.getElem?_modify,if_neg (fun e=>hne (by rw [e];rfl))]
  .show w.heap.size<=((w.heap.modify g _)++os).size;rw [Array.size_append,Array.size_modify];omega
end
section
open Go.Conc Go.ConcX Go.ConcX.Gen Go.RowKit
theorem iX (l:KVs):(cg l).length=gt l:=by
 simp [cg,gt,List.length_flatMap]
section
attribute [local go_sem] Oper.semAt_some kD
theorem zE (k0:Nat)(root:Option Ww)(f:List UInt8->List Ver)(w:Wz)(c0:w.cell? ⟨k0,0,none⟩=some (.pointer root))(N:tF w root f)(d:gt (cu f [])<=1000):
  Calls Yq.prog 76 #[.pointer (some ⟨k0,0,none⟩)] w fun e w'=>∃v,e=.returned v/\w'.ownsRow w.heap.size 137 4 v (gJ (cg (cu f []))).length (eQ (gJ (cg (cu f []))))/\am w w':=by
 obtain ⟨c,j⟩:∃c,cu f []=c:=⟨_,rfl⟩;have i:∀x∈c,x.2≠[]:=by rw [<-j];exact gI _ _ _
 have hA:∀b,cw w b->b<w.heap.size:=fun b hb=>hb.lt
 have q:ai (cw w) 41 (jk w root) root f:=ai.keep (fun b hb hlt=>⟨hb,rv w root hlt⟩) 41 root f N;rw [j] at d ⊢;have m:rE w.heap.size (jk w root) (cg []) (jk w root):=⟨rfl,lR _,fun _ _ _=>rfl,_,rx w root 0 (by omega),World.ownsRow_nil _ _ _ _⟩;refine (callsIn_wide (n:=0)).1 (callsIn_of_wp_marks (F:=Fence.wide) (Yq.nq Tryz.func76) rfl trivial ?_);refine (wpIn_wide (n:=0)).2 ?_;generalize hQ:bodyPostM Fence.wide 0 Yq.prog Tryz.f76 _=Q;simp only [Tryz.ntmps76,lZ,List.length_cons,lN,Nat.reduceAdd,Nat.reduceSub,Array.replicate_succ,Array.replicate_zero,List.push_toArray,List.append_toArray,List.nil_append,List.cons_append];have HQ:Hid (bodyPostM Fence.wide 0 Yq.prog Tryz.f76 _=Q):=hQ;have HX:Hid (ai (cw w) 41 (jk w root) root f/\rE w.heap.size (jk w root) (cg []) (jk w root)/\(∀x∈c,x.2≠[])/\gt c<=1000):=⟨q,m,i,d⟩;have c0':=ak c0;clear hQ q m i N d;go_wp2_with (go_at_call 101;refine (Bl root _ _).mono ?_;rintro e w6 ⟨rfl,rfl⟩)
 rename_i K1 hK1;refine wpIn_wide.1 (show Code.wpIn (wf none) 0 Yq.prog _ (Exit.inBlock 0 (Exit.then K1 Q)) ⟨fF w k0 root Wy Wy Wy Wy,[]⟩ (jk w root) from ?_);obtain ⟨q,m,i,d⟩:=HX.out;have B:w.heap.size<(jk w root).heap.size:=by rw [dk];omega
 refine sY (α:=List UInt8×List Ver) (β:=List UInt8×List Ver×Wq) (encs:=fun x=>#[.string ⟨x.1.toArray⟩,x.2.2]) (gf:=122) (lb:=#[ptr (w.heap.size+1),ptr (w.heap.size+2)]) (fun x=>(x.1,x.2.1)) rfl (fun args wx=>by go_simp) (fun _=>rfl) w.heap.size w.heap.size B (vX w.heap.size) vX.of
  (fun pre X=>rE w.heap.size (jk w root) (cg pre) X) (fun pre x=>pre++[(x.1,x.2.1)] <+:c/\aU (cw w) (jk w root) x.2.2 x.2.1/\x.2.1≠[]) c (fun pre X b I h=>I.own b h) (fun pre X Y I h1 h2 h3 h4=>I.stable B h1 h2 h3 h4) (fun pre X I=>⟨.inl rfl,.inl rfl⟩) m
  (fun x=>⟨fF w k0 root (.string ⟨x.1.toArray⟩) x.2.2 (.string ⟨x.1.toArray⟩) x.2.2,[]⟩) ?call ?assign ?body ?done
 case call=>
  intro l J W hW1 y G hst hsz hy E;have C:qQ (cw w) (jk w root) ((jk w root).heap.size+2) w.heap.size l (vX w.heap.size) c J:=⟨fun b hb=>by
    have h1:=hb.lt;obtain ⟨o,h3,h4⟩:=hb;exact ⟨by rw [dk];omega,by omega,o,(rv w root h1).trans h3,h4⟩,by omega,vX.of,G,hst,hsz,fun pre k h hv X h1 h2 h3 h4=>hy pre (k,h,hv) X ⟨h1,h2,h3⟩ h4⟩
  exact xc C root f ⟨#[]⟩ W (w.heap.size+1) (w.heap.size+2) q j.symm (fun b hb=>y b (by have:=hb.lt;rw [dk];omega))
   (by rw [cB (a:=⟨w.heap.size+1,0,none⟩) (y _ (by rw [dk];show w.heap.size+1<_;omega))];simp [World.cell?,rx w root 1 (by omega)])
   (by rw [cB (a:=⟨w.heap.size+2,0,none⟩) (y _ (by rw [dk];show w.heap.size+2<_;omega))];simp [World.cell?,rx w root 2 (by omega)]) (by decide) E
 case assign=>
  intro l x W K A;obtain ⟨k,h,hv⟩:=x;have e:(#[13,14].zip #[Value.string ⟨k.toArray⟩,hv]).foldl (fun t x=>match x with|(p,v)=>t.setIfInBounds p v) (fF w k0 root Wy Wy Wy Wy)=fF w k0 root Wy Wy (.string ⟨k.toArray⟩) hv:=by
   simp [fF]
  show Code.wpIn _ _ _ _ _ ⟨(#[13,14].zip #[Value.string ⟨k.toArray⟩,hv]).foldl (fun t x=>match x with|(p,v)=>t.setIfInBounds p v) (fF w k0 root Wy Wy Wy Wy),[]⟩ _;rw [e];unfold fF;unfold fF at A;gi_wp2;exact A
 case body=>
  rintro l pre ⟨k,h,hv⟩ W ⟨h1,h2,h3⟩ I;have h5:(cg pre).length+h.length<=1000:=by
   obtain ⟨r,hr⟩:=h1;rw [<-hr] at d;rw [iX];simp only [gt,List.map_append,List.sum_append,List.map_cons,List.map_nil,List.sum_cons,List.sum_nil] at d ⊢;omega
  exact D6 k0 root w (cw w) hA l pre k h hv W h2 h3 (by omega) I
 case done=>
  intro D W hD I A;obtain ⟨v,H,s⟩:=I.row;obtain ⟨u,z,rfl,-⟩:=az s;have hlen:(cg c).length<=1000:=by rw [iX];exact d
  have HS:=F6 (jk w root).heap.size (cg c) _ W s (by omega);have d0:W.cell? ⟨w.heap.size,0,none⟩=some (.slice u (cg c).length z):=by simp [World.cell?,H]
  have HB:Hid (∀w':Wz,w'.ownsRow (jk w root).heap.size 137 4 (.slice u (cg c).length z) (cg c).length (eQ (gJ (cg c)))->(∀b,b<W.heap.size->(Value.slice u (cg c).length z).ownBlock≠some b->w'.heap[b]?=W.heap[b]?)->w'.cell? ⟨w.heap.size,0,none⟩=some (.slice u (cg c).length z)/\w'.heap[D]?=some (.deferred (some []))):=fun w' ho hb=>by
   have hs:=I.size;refine ⟨?_,?_⟩
   .rw [cB (a:=⟨w.heap.size,0,none⟩) (hb w.heap.size (by omega) (fun e=>by have:=(s.lt _ e).1;omega))];exact d0
   .refine (hb D (eS A).1 (fun e=>?_)).trans A;obtain ⟨-,o,h1,h2⟩:=I.own D ⟨_,d0,e⟩;rw [A] at h1;cases h1;cases h2
  show K1 _ _;refine hK1 _ _ ?_;unfold fF;clear hK1;go_wp2_with (go_at_call 102;refine HS.mono ?_;clear HS;rintro e w' ⟨rfl,o1,o2,o3,O⟩;obtain ⟨p0,p1⟩:=HB.out w' o1 o2)
  have hQ:=HQ.out;subst hQ;refine ⟨by simp,.inl ⟨_,_,rfl,run_takeDeferred p1,?_⟩⟩;have hne:∀b,b≠D->(w'.putObj D (.deferred none)).heap[b]?=w'.heap[b]?:=fun b hb=>pO hb
  have hs:=I.size;have L:∀g,(Value.slice u (cg c).length z).ownBlock=some g->g≠D:=fun g hg e=>by
   subst e;obtain ⟨-,o,h1,h2⟩:=I.own g ⟨_,d0,hg⟩;rw [A] at h1;cases h1;cases h2
  have hlow:∀b,b<w.heap.size->(Value.slice u (cg c).length z).ownBlock≠some b:=fun b hb e=>by have:=(s.lt _ e).1;omega
  refine ⟨.slice u (cg c).length z,by simp [results,Tryz.results76,go_sem],⟨_,rfl,?_,?_⟩⟩
  .rw [eI];have h1:=eO o1 (w':=w'.putObj D (.deferred none)) fun g hg=>hne g (L g hg)
   exact ⟨h1.1,h1.2.imp id fun ⟨g,cap,M,e,hb,r⟩=>⟨g,cap,M,e,by omega,r⟩⟩
  .refine ⟨O.trans I.os,by simp;omega,fun b hb=>?_⟩;rw [hne b (by omega),o2 b (by omega) (hlow b hb),I.block b (by omega) (by omega),rv w root hb]
end
def bytesOf (xs:List Wq):ByteArray:=⟨(xs.map fun v=>UInt8.ofNat (intOf v).toNat).toArray⟩
theorem vY {s:ByteArray}{xs:List Wq}(h:Lib.strCells s=xs):s=bytesOf xs:=by
 subst h;obtain ⟨d⟩:=s;unfold bytesOf Lib.strCells;simp only [List.map_map];congr 1;have:((fun v=>UInt8.ofNat (intOf v).toNat)∘fun b:UInt8=>Value.int .u8 (b.toNat:Int))=id:=by
  funext b;simp [intOf]
 rw [this,List.map_id,Array.toArray_toList]
def bg (st:St):List (ByteArray×Ver):=gJ (cg (cu st.f []))
def ci (st:St)(tm:Int):ByteArray:=bytesOf (fe (bg st)++([.int .u8 3]++num8 (st.last+1) 8++([.int .u8 4]++num8 tm 8)))
theorem iY (n:Nat):∀ (f:List UInt8->List Ver)(bs:List UInt8),∀x∈bV n f bs,∃k,x.1=bs++k/\x.2=f k:=by
 induction n with
 |zero=>intro f bs x hx;simp [bV] at hx
 |succ n ih=>
  intro f bs x hx;simp only [bV,List.mem_append,List.mem_flatMap] at hx;rcases hx with hx|⟨b,-,hx⟩
  .split at hx
   .simp at hx
   .simp only [List.mem_singleton] at hx;subst hx;exact ⟨[],by simp,rfl⟩
  .obtain ⟨k,h1,h2⟩:=ih _ _ x hx;exact ⟨b::k,by rw [h1];simp,h2⟩
theorem fo {st:St}{e:ByteArray×Ver}(h:e∈bg st):e.1.size<=40/\∃k,e.2∈st.f k:=by
 have h1:=(gK _).mem_iff.1 h;simp only [cg,List.mem_flatMap,List.mem_map] at h1;obtain ⟨x,hx,v,hv,rfl⟩:=h1;obtain ⟨k,-,hk⟩:=iY _ _ _ x hx;have:=(tI hx).2;exact ⟨by simpa [ByteArray.size] using this,k,by simpa [hk] using hv⟩
theorem ub {E:List (ByteArray×Ver)}(h:∀e∈E,e.1.size<=40/\e.2.body.size<=100):dw E<=E.length * 200:=by
 induction E with
 |nil=>simp [dw]
 |cons e E ih=>
  have h1:=ih fun x hx=>h x (by simp [hx])
  have h2:=h e (by simp);have h3:vW e.1 e.2<=200:=by unfold vW;split<;>omega
  simp only [dw,List.map_cons,List.sum_cons,List.length_cons] at h1 ⊢;omega
section
variable {A:Nat->Prop} {B k0:Nat} {w:Wz} {st:St} {L:Lg}
theorem BR (S:aw A w k0 st){tm:Int}(c:w.cell? ⟨k0,3,none⟩=some (.int .u64 tm)){s:Nat}(d:Inv st s)(b:dY st):
  Calls Yq.prog 48 #[.pointer (some ⟨k0,0,none⟩)] w fun e w'=>e=.returned (.string (ci st tm))/\am w w':=by
 obtain ⟨root,c0,h⟩:=S.tree;have a:gt (cu st.f [])<=1000:=by
  have h3:gt (cu st.f [])=tot 41 st.f:=rfl;have:=b.cnt;have:=b.le;omega
 have hlen:(bg st).length<=1000:=by rw [bg,eI,iX];exact a
 have hn:=ub (E:=bg st) fun e he=>⟨(fo he).1,by obtain ⟨k,hk⟩:=(fo he).2;exact b.body k _ hk⟩
 have hl0:=d.last0;have hl1:=d.lastS;refine (F3 k0 (bg st) st.last tm w S.last c (zE k0 root st.f w c0 (.of h) a) (by omega) (by omega) (fun e he=>?_) hl0 (by omega)).mono ?_
 .obtain ⟨k,hk⟩:=(fo he).2;obtain ⟨i,hi,e1⟩:=gM hk;have:=d.bounds k i hi;rw [gg hi,e1] at this;omega
 .rintro e w' ⟨sb,rfl,h1,h2⟩;rw [vY h1];exact ⟨rfl,h2⟩
theorem BS (h:aI A B w k0 st L){s:Nat}(a:Inv st s)(b:dY st):
  Calls Yq.prog 48 #[.pointer (some ⟨k0,0,none⟩)] w fun e w'=>e=.returned (.string (ci st L.tm))/\am w w':=BR h.store h.time a b
theorem zF (b:ByteArray)(w:Wz):(Instr.build 36 #[(2,.string b)]).run Yq.prog w=.ok (.agg #[.int .i64 0,.int .i64 0,.string b,.slice none 0 0,.string ⟨#[]⟩]) w:=by kernel_rfl
theorem vZ (h:aI A B w k0 st L)(k:B<=w.heap.size){s:Nat}(f:Inv st s)(d:dY st)(_hs:s<2199023255340)(o:OpD)(hk:o.kind=11):
  Calls Yq.prog 33 #[.pointer (some ⟨k0,0,none⟩),cE o] w (bi A B k0 w st L ⟨0,0,ci st L.tm,[],⟨#[]⟩⟩):=by
 have hd:=h.left (aK o);have a:k0<(cI w o).heap.size:=by have:=h.ls.lt;rw [aL];omega
 have HT:=BS hd f d;have HB:Hid (∀w1,am (cI w o) w1->_):=fun w1 hb=>box5 (kF o h.ls (FrC.left a hb))
 have HF:Hid (∀w1 x0 x1 x2 x3 c,am (cI w o) w1->bi A B k0 w st L ⟨0,0,ci st L.tm,[],⟨#[]⟩⟩ (.returned (ji ⟨0,0,ci st L.tm,[],⟨#[]⟩⟩ (.slice none 0 0))) (put5 w1 (w.heap.size+1) x0 x1 x2 x3 c)):=fun w1 x0 x1 x2 x3 c hl=>by
  obtain ⟨e1,e2,e3,e4⟩:=ma (A':=A) (sv:=.slice none 0 0) (its:=[]) (r:=w.heap.size+1) (aK o) h.ls.lt k (by omega) (by rw [aL];omega) ⟨_,fW o,rfl⟩ (fun _ h=>h) (fun b hb=>.inl hb) h.ls.inn (hd.left hl) (em.left a hl) (FrC.left a hl) (fE o h.ls) ⟨none,0,rfl,fun _=>rfl,fun h=>absurd rfl h⟩ x0 x1 x2 x3 c;exact ⟨_,rfl,A,fun _ h=>h,e1,e2,e3,e4⟩
 have hb1:=zF;generalize ci st L.tm=i at *;clear hd a;obtain ⟨kind,key,body,delim,past,n,src⟩:=o;simp only at hk;subst hk;unfold cI at HT HF HB;clear h f d;unfold cE;go_enter (Yq.nq Tryz.func33),Tryz.ntmps33;go_wp2_with (go_at_call 48;refine HT.mono ?_;clear HT;rintro e w1 ⟨rfl,hb⟩;obtain ⟨⟨b0,j,b2,b3,b4⟩,f0,f1,f2,f3,f4⟩:=HB.out w1 hb)
 exact bodyPost_ret (v:=ji ⟨0,0,i,[],⟨#[]⟩⟩ (.slice none 0 0)) (by simp [results,Tryz.results33,go_sem,ji,b0,j,b2,b3,b4]) rfl (HF.out w1 _ _ _ _ _ hb)
end
def tkB (s:ByteArray)(n:Nat):ByteArray:=s.extract 0 (min n s.size)
def rsB (s:ByteArray)(n:Nat):ByteArray:=s.extract (min n s.size) s.size
theorem BT (r n:Nat)(s:ByteArray)(w:Wz)(hs:s.size<=maxLen)(hn:n<=1000)(c0:w.cell? ⟨r,0,none⟩=some (.string s))(f0:w.frozen? ⟨r,0,none⟩=false):
  Calls Yq.prog 152 #[.pointer (some ⟨r,0,none⟩),.int .i64 n] w fun e w'=>e=.returned (.string (tkB s n))/\w'=w.setCell ⟨r,0,none⟩ (.string (rsB s n)):=by
 unfold maxLen at hs;unfold tkB rsB;have e:(min (n:Int) s.size).toNat=min n s.size:=by omega
 go_enter (Yq.nq Tryz.func152),Tryz.ntmps152;go_wp2_with fail
 go_ret;exact ⟨rfl,rfl⟩
def rF (l:List UInt8):Nat:=l.foldl (fun a b=>a * 256+b.toNat) 0
theorem BU (l:List UInt8)(b:UInt8):rF (l++[b])=rF l * 256+b.toNat:=by simp [rF]
theorem xH:∀ (l:List UInt8)(a:Nat),l.foldl (fun a b=>a * 256+b.toNat) a<(a+1) * 256 ^ l.length
 | [],a=>by simp
 |b::l,a=>by
  have h1:=xH l (a * 256+b.toNat);have h2:=b.toNat_lt;have h3:(a * 256+b.toNat+1) * 256 ^ l.length<=((a+1) * 256) * 256 ^ l.length:=Nat.mul_le_mul_right _ (by omega);rw [List.foldl_cons,List.length_cons,Nat.pow_succ,Nat.mul_comm (256 ^ l.length) 256,<-Nat.mul_assoc];omega
theorem wd (l:List UInt8):rF l<256 ^ l.length:=by
 have:=xH l 0
 rwa [zA,Nat.one_mul] at this
structure zW (r:Nat)(w w':Wz)(s:ByteArray):Prop where
 os:w'.os=w.os
 size:w.heap.size<=w'.heap.size
 block:∀b,b<w.heap.size->b≠r->w'.heap[b]?=w.heap[b]?
 cell:w'.cell? ⟨r,0,none⟩=some (.string s)
 frozen:w'.frozen? ⟨r,0,none⟩=false
theorem nj (s:ByteArray)(n:Nat):(tkB s n).size<=n:=by simp [tkB];omega
theorem F7 (a b:Nat)(ha:a<256 ^ 7)(hb:b<256):bits BinOp.or IntKind.u64 ((a:Int) * 256) ((b:Nat):Int)=((a * 256+b:Nat):Int):=by
 have h1:((a:Int) * 256 % 2 ^ IntKind.u64.bits).toNat=a * 256:=by simp [IntKind.bits];omega
 have h2:b % 2 ^ IntKind.u64.bits=b:=by simp [IntKind.bits];omega
 have h3:a * 256 ||| b=a * 256+b:=by
  have:=Nat.shiftLeft_add_eq_or_of_lt (i:=8) (b:=b) (by omega) a;rw [Nat.shiftLeft_eq] at this;simpa using this.symm
 unfold bits;simp only [BitVec.toNat_or,BitVec.toNat_ofInt];have h4:((b:Int) % ((2 ^ IntKind.u64.bits:Nat):Int)).toNat=b:=by simp [IntKind.bits];omega
 have h5:((a:Int) * 256 % ((2 ^ IntKind.u64.bits:Nat):Int)).toNat=a * 256:=by simp [IntKind.bits];omega
 rw [h4,h5,h3];simp [IntKind.wrap,IntKind.bits,IntKind.signed];omega
theorem oE (r n:Nat)(s:ByteArray)(w:Wz)(hs:s.size<=maxLen)(hn:n<=8)(c0:w.cell? ⟨r,0,none⟩=some (.string s))(f0:w.frozen? ⟨r,0,none⟩=false):
  Calls Yq.prog 127 #[.pointer (some ⟨r,0,none⟩),.int .i64 n] w fun e w'=>e=.returned (.int .u64 (rF (tkB s n).data.toList))/\zW r w w' (rsB s n):=by
 have HT:=BT r n s w hs (by omega) c0 f0;have hr:r<w.heap.size:=bC w _ c0;obtain ⟨p,hp⟩:∃p,p=tkB s n:=⟨_,rfl⟩;have hps:p.size<=8:=by rw [hp];exact lT (nj s n) hn
 rw [<-hp] at HT ⊢;obtain ⟨W,d⟩:∃W,W=w.setCell ⟨r,0,none⟩ (.string (rsB s n)):=⟨_,rfl⟩;rw [<-d] at HT;have HW:Hid (W=w.setCell ⟨r,0,none⟩ (.string (rsB s n))/\w.cell? ⟨r,0,none⟩=some (.string s)/\w.frozen? ⟨r,0,none⟩=false/\r<w.heap.size):=⟨d,c0,f0,hr⟩;have hcv:=run_bytes_of_string (P:=Yq.prog) W 9 48 5 p (Yq.u Tryz.underlying9) (Yq.u Tryz.underlying48) (Yq.u Tryz.underlying5);have hkr:=pD (B:=0) W p (grownCap W p.size 0 5) (Nat.zero_le _) (grownCap_ge W p.size 0 5);obtain ⟨W1,hW1⟩:∃W1,W1=W.drew.alloc (.cells (bytesRow p (grownCap W p.size 0 5)) 5 ((bytesRow p (grownCap W p.size 0 5)).size,(bytesRow p (grownCap W p.size 0 5)).size+1)):=⟨_,rfl⟩;rw [<-hW1] at hcv hkr;have c:Hid (W1=W.drew.alloc (.cells (bytesRow p (grownCap W p.size 0 5)) 5 ((bytesRow p (grownCap W p.size 0 5)).size,(bytesRow p (grownCap W p.size 0 5)).size+1))):=hW1;clear hp d c0 f0 hr hW1;go_enter (Yq.nq Tryz.func127),Tryz.ntmps127;go_wp2_with (go_at_call 152;refine HT.mono ?_;clear HT;rintro e w1 ⟨rfl,rfl⟩)
 go_loopw [5,13] (fun s5 s13 wr=>∃i:Nat,i<=p.size/\s13=.int .i64 i/\s5=.int .u64 (rF (p.data.toList.take i))/\wr=W1) (fun _ s13 _=>p.size-(intOf s13).toNat)
 case atStart=>exact ⟨0,Nat.zero_le _,rfl,rfl,rfl⟩
 case round=>
  obtain ⟨i,hi,rfl,rfl,rfl⟩:=hrel;by_cases hlt:i<p.size
  .have hl:i<p.data.toList.length:=by simpa using hlt
   have cb:wr.cell? ⟨w1.heap.size,i,none⟩=some (.int .u8 (p.data.toList[i].toNat:Int)):=hkr.cells i hl;have htk:p.data.toList.take (i+1)=p.data.toList.take i++[p.data.toList[i]]:=tS hl;have h:rF (p.data.toList.take i)<256 ^ 7:=by
    have h1:=wd (p.data.toList.take i);have h2:(p.data.toList.take i).length<=7:=by rw [tL];omega
    exact lL h1 (Nat.pow_le_pow_right (by decide) h2)
   have f:Hid (rF (p.data.toList.take (i+1))=rF (p.data.toList.take i) * 256+p.data.toList[i].toNat):=by
    show rF (p.data.toList.take (i+1))=_;rw [htk,BU]
   have hbl:=p.data.toList[i].toNat_lt;clear htk;generalize p.data.toList[i].toNat=b at *;generalize rF (p.data.toList.take i)=acc at *;go_wp2_with fail
   exact ⟨⟨i+1,by omega,by go_num,by rw [F7 _ _ h (by omega),f.out],trivial⟩,by simp [intOf];omega⟩
  .have j:i=p.size:=by omega
   subst j;go_wp2_with fail
   go_ret;have e1:p.data.toList.take p.size=p.data.toList:=tO (by simp);refine ⟨by rw [e1];rfl,?_⟩;obtain ⟨h1,h2,h3,h4⟩:=HW.out;have hsz:w1.heap.size=w.heap.size:=by rw [h1];simp
   have hb:∀b,b<w1.heap.size->wr.heap[b]?=w1.heap[b]?:=fun b hb=>by rw [c.out,bA _ _ _ (by exact hb)];rfl
   refine ⟨by rw [c.out,h1];rfl,by rw [c.out];simp;show w.heap.size<=w1.heap.size+1;omega,fun b hb1 hb2=>?_,?_,?_⟩
   .rw [hb b (by omega),h1];exact bS _ _ _ _ hb2
   .rw [cB (a:=⟨r,0,none⟩) (hb r (by omega)),h1];exact cS _ _ _ (by rw [h2];rfl)
   .rw [fB (a:=⟨r,0,none⟩) (hb r (by omega)),h1,World.frozen?_setCell];exact h3
theorem zW.trans {r:Nat}{w w' w'':Wz}{s s':ByteArray}(h:zW r w w' s)(k:zW r w' w'' s'):zW r w w'' s':=
 ⟨k.os.trans h.os,lT h.size k.size,fun b hb hr=>(k.block b (lL hb h.size) hr).trans (h.block b hb hr),k.cell,k.frozen⟩
theorem dF (s:ByteArray)(n:Nat):(rsB s n).size<=s.size:=by simp [rsB]
def txL (s:ByteArray):Nat:=rF (tkB s 1).data.toList
theorem EF (s:ByteArray):txL s<256:=by
 have h1:=wd (tkB s 1).data.toList;have h2:(tkB s 1).data.toList.length<=1:=by simpa using nj s 1
 exact lL h1 (lT (Nat.pow_le_pow_right (by decide) h2) (by decide))
theorem we (r:Nat)(s:ByteArray)(w:Wz)(hs:s.size<=maxLen)(c0:w.cell? ⟨r,0,none⟩=some (.string s))(f0:w.frozen? ⟨r,0,none⟩=false):
  Calls Yq.prog 128 #[.pointer (some ⟨r,0,none⟩)] w fun e w'=>e=.returned (.string (tkB (rsB s 1) (txL s)))/\zW r w w' (rsB (rsB s 1) (txL s)):=by
 have HN:=oE r 1 s w hs (by omega) c0 f0;have hlt:=EF s;have HT:Hid (∀w1,zW r w w1 (rsB s 1)->Calls Yq.prog 152 #[.pointer (some ⟨r,0,none⟩),.int .i64 (txL s)] w1 fun e w'=>e=.returned (.string (tkB (rsB s 1) (txL s)))/\zW r w w' (rsB (rsB s 1) (txL s))):=fun w1 h=>by
  refine (BT r (txL s) (rsB s 1) w1 (lT (dF s 1) hs) (by omega) h.cell h.frozen).mono ?_;rintro e w' ⟨rfl,rfl⟩;refine ⟨rfl,h.trans ⟨rfl,by simp,fun b _ hb=>bS _ _ _ _ hb,cS _ _ _ (by rw [h.cell];rfl),by rw [World.frozen?_setCell];exact h.frozen⟩⟩
 change Calls _ _ _ _ (fun e w'=>e=.returned (.int .u64 (txL s))/\zW r w w' (rsB s 1)) at HN;clear c0 f0;generalize txL s=k at *;have hw:wrap64 (k:Int)=k:=by unfold wrap64;omega
 have hw2:IntKind.i64.wrap (k:Int)=k:=by simp [IntKind.wrap,IntKind.bits,IntKind.signed];omega
 go_enter (Yq.nq Tryz.func128),Tryz.ntmps128;go_wp2_with (first
  |(go_at_call 127;refine HN.mono ?_;clear HN;rintro e w1 ⟨rfl,h1⟩)
  |(go_at_call 152;refine (HT.out w1 h1).mono ?_;clear HT;rintro e w2 ⟨rfl,h2⟩))
 go_ret;exact ⟨rfl,h2⟩
def kH (a:Int)(m:Nat):Option Int:=if (m:Int)<=a\/9223372036854775808<m then none else some (m-1)
theorem oF (k0 m:Nat)(a:Int)(w:Wz)(h0:0<=a)(h1:a<=9223372036854775807)(hm:m<18446744073709551616)(c2:w.cell? ⟨k0,2,none⟩=some (.int .i64 a))(f2:w.frozen? ⟨k0,2,none⟩=false):
  Calls Yq.prog 129 #[.pointer (some ⟨k0,0,none⟩),.int .u64 m] w fun e w'=>(kH a m=none/\e=.returned (.bool false)/\w'=w)\/∃l,kH a m=some l/\e=.returned (.bool true)/\w'=w.setCell ⟨k0,2,none⟩ (.int .i64 l):=by
 have hw:=ru h0 h1;unfold kH;by_cases ha:(m:Int)<=a
 .rw [if_pos (.inl ha)];go_enter (Yq.nq Tryz.func129),Tryz.ntmps129;go_wp2_with fail
  go_ret;first|exact .inl ⟨trivial,rfl,rfl⟩|exact ⟨rfl,rfl⟩
 .by_cases hb:(9223372036854775808:Int)<m
  .rw [if_pos (.inr (by omega))];go_enter (Yq.nq Tryz.func129),Tryz.ntmps129;go_wp2_with fail
   go_ret;first|exact .inl ⟨trivial,rfl,rfl⟩|exact ⟨rfl,rfl⟩
  .rw [if_neg (by omega)];go_enter (Yq.nq Tryz.func129),Tryz.ntmps129;go_wp2_with fail
   go_ret;exact ⟨rfl,rfl⟩
theorem F8 (n:Nat)(f:List UInt8->List Ver)(k:List UInt8)(h:k.length<n):(f k).length<=tot n f:=by
 have h1:=Bj k n f;obtain ⟨m,hm⟩:∃m,n-k.length=m+1:=⟨n-k.length-1,by omega⟩;rw [hm] at h1;refine lT ?_ h1;simp only [tot,bV,List.append_nil];by_cases h0:f k=[]
 .simp [h0]
 .have e:(f k).isEmpty=false:=by simpa using h0
  simp [e,gt]
theorem Inv.norm {st:St}{s:Nat}(h:Inv st s)(a:dY st):Inv st 0:=by
 have h1:=a.cnt;have h2:=a.le;refine ⟨h.last0,h.lastS,by omega,by omega,fun k=>?_,h.sorted,h.bounds⟩;by_cases hk:40<k.length
 .rw [a.long k hk];simp
 .have:=F8 41 st.f k (by omega);omega
def lastSt (st:St)(l:Int):St:=⟨st.f,st.count,l⟩
theorem Inv.lastSt {st:St}{s:Nat}(h:Inv st s){l:Int}(h1:st.last<=l)(h2:l<=9223372036854775807):Inv (lastSt st l) s:=
 ⟨Int.le_trans h.last0 h1,h2,h.countL,h.countU,h.len,h.sorted,fun k i hi=>⟨(h.bounds k i hi).1,Int.le_trans (h.bounds k i hi).2 h1⟩⟩
theorem dY.lastSt {st:St}(h:dY st)(l:Int):dY (lastSt st l):=⟨h.cnt,h.le,h.long,h.body⟩
theorem eA {a:Int}{m:Nat}{l:Int}(h:kH a m=some l):a<=l/\l<=9223372036854775807:=by
 unfold kH at h;split at h
 .cases h
 .cases h;omega
theorem xI {st:St}{s:Nat}(h:Inv st s)(a:dY st)(key body:ByteArray):Inv (jq st key body).1 (s+1)/\dY (jq st key body).1:=by
 have e:=jg st ⟨1,key,body,⟨#[]⟩,⟨#[]⟩,0,0⟩ rfl;have h1:=h.step ⟨1,key,body,⟨#[]⟩,⟨#[]⟩,0,0⟩;have h2:=a.step ⟨1,key,body,⟨#[]⟩,⟨#[]⟩,0,0⟩;rw [e] at h1 h2;exact ⟨h1,h2⟩
theorem ud {st:St}{s:Nat}(h:Inv st s)(a:dY st)(key:ByteArray):Inv (dropR st key).1 (s+1)/\dY (dropR st key).1:=by
 have e:=ik st ⟨4,key,⟨#[]⟩,⟨#[]⟩,⟨#[]⟩,0,0⟩ rfl;have h1:=h.step ⟨4,key,⟨#[]⟩,⟨#[]⟩,⟨#[]⟩,0,0⟩;have h2:=a.step ⟨4,key,⟨#[]⟩,⟨#[]⟩,⟨#[]⟩,0,0⟩;rw [e] at h1 h2;exact ⟨h1,h2⟩
def nm8 (s:ByteArray):Nat:=rF (tkB s 8).data.toList
def txB (s:ByteArray):ByteArray:=tkB (rsB s 1) (txL s)
def txR (s:ByteArray):ByteArray:=rsB (rsB s 1) (txL s)
def cx (st:St)(tm:Int)(s:ByteArray):Option (St×Int×ByteArray):=
 if txL s=1 then
  match kH st.last (nm8 (rsB s 1)) with
  |none=>none
  |some l=>if (jq (lastSt st l) (txB (rsB (rsB s 1) 8)) (txB (txR (rsB (rsB s 1) 8)))).2.2=0 then some ((jq (lastSt st l) (txB (rsB (rsB s 1) 8)) (txB (txR (rsB (rsB s 1) 8)))).1,tm,txR (txR (rsB (rsB s 1) 8))) else none
 else if txL s=2 then
  match kH st.last (nm8 (rsB s 1)) with
  |none=>none
  |some l=>if (dropR (lastSt st l) (txB (rsB (rsB s 1) 8))).2.2=0 then some ((dropR (lastSt st l) (txB (rsB (rsB s 1) 8))).1,tm,txR (rsB (rsB s 1) 8)) else none
 else if txL s=3 then
  match kH st.last (nm8 (rsB s 1)) with
  |none=>none
  |some l=>some (lastSt st l,tm,rsB (rsB s 1) 8)
 else if txL s=4 then some (st,nm8 (rsB s 1),rsB (rsB s 1) 8)
 else none
structure kQ (A:Nat->Prop)(w:Wz)(k r:Nat)(st:St)(tm:Int)(s:ByteArray):Prop where
 store:aw A w k st
 time:w.cell? ⟨k,3,none⟩=some (.int .u64 tm)
 rd:w.cell? ⟨r,0,none⟩=some (.string s)
 fz:w.frozen? ⟨r,0,none⟩=false
 ne:k≠r
 avoid:¬A r
theorem kQ.rdTo {A:Nat->Prop}{w w':Wz}{k r:Nat}{st:St}{tm:Int}{s s':ByteArray}(h:kQ A w k r st tm s)(hr:zW r w w' s'):kQ A w' k r st tm s':=by
 obtain ⟨p,C,c⟩:=h.store.cells;have hk:w'.heap[k]?=w.heap[k]?:=hr.block k h.store.lt h.ne;have hc:∀j,w'.cell? ⟨k,j,none⟩=w.cell? ⟨k,j,none⟩:=fun j=>cB (a:=⟨k,j,none⟩) hk
 refine ⟨dM (p:=p) ⟨(hc 0).trans C.c0,(hc 1).trans C.c1,(hc 2).trans C.c2,fun j=>(fB (a:=⟨k,j,none⟩) hk).trans (C.fz j)⟩ (ai.keep (fun b h1 h2=>⟨h1,hr.block b h2 (fun e=>h.avoid (e▸h1))⟩) 41 p st.f c) h.store.avoid,(hc 3).trans h.time,hr.cell,hr.frozen,h.ne,h.avoid⟩
structure Two2 (k r:Nat)(w w':Wz):Prop where
 os:w'.os=w.os
 size:w.heap.size<=w'.heap.size
 block:∀b,b<w.heap.size->b≠k->b≠r->w'.heap[b]?=w.heap[b]?
theorem Two2.refl {k r:Nat}{w:Wz}:Two2 k r w w:=⟨rfl,lR _,fun _ _ _ _=>rfl⟩
theorem Two2.trans {k r:Nat}{a b c:Wz}(h:Two2 k r a b)(d:Two2 k r b c):Two2 k r a c:=
 ⟨d.os.trans h.os,lT h.size d.size,fun x hx h1 h2=>(d.block x (lL hx h.size) h1 h2).trans (h.block x hx h1 h2)⟩
theorem zW.two {k r:Nat}{w w':Wz}{s:ByteArray}(h:zW r w w' s):Two2 k r w w':=⟨h.os,h.size,fun b hb _ h2=>h.block b hb h2⟩
theorem bU.two {k r:Nat}{w w':Wz}(h:bU w w' k):Two2 k r w w':=⟨h.g.os,h.g.size,fun b hb h1 _=>h.g.block b hb (fun e=>h1 (oJ e))⟩
theorem ue (a c:Int)(w:Wz):Calls Yq.prog 130 #[.int .i64 a,.int .i64 c] w fun e w'=>e=.returned (.bool (c==0))/\w'=w:=by
 go_enter (Yq.nq Tryz.func130),Tryz.ntmps130;go_wp2;go_ret;exact ⟨rfl,rfl⟩
theorem kQ.lt {A:Nat->Prop}{w:Wz}{k r:Nat}{st:St}{tm:Int}{s:ByteArray}(h:kQ A w k r st tm s):r<w.heap.size:=bC w _ h.rd
theorem kQ.setLast {A:Nat->Prop}{w:Wz}{k r:Nat}{st:St}{tm:Int}{s:ByteArray}(h:kQ A w k r st tm s)(l:Int):kQ A (w.setCell ⟨k,2,none⟩ (.int .i64 l)) k r (lastSt st l) tm s:=by
 obtain ⟨p,C,c⟩:=h.store.cells;have hb:∀b,b≠k->(w.setCell ⟨k,2,none⟩ (.int .i64 l)).heap[b]?=w.heap[b]?:=fun b hne=>bS _ _ _ _ hne
 exact ⟨dM (st:=lastSt st l) (C.set2 _) (ai.keep (fun b h1 _=>⟨h1,hb b (h.store.avoid b h1)⟩) 41 p st.f c) h.store.avoid,
  (cO w ⟨k,2,none⟩ ⟨k,3,none⟩ _ (by simp)).trans h.time,(cB (a:=⟨r,0,none⟩) (hb r (Ne.symm h.ne))).trans h.rd,(fB (a:=⟨r,0,none⟩) (hb r (Ne.symm h.ne))).trans h.fz,h.ne,h.avoid⟩
theorem kQ.setTime {A:Nat->Prop}{w:Wz}{k r:Nat}{st:St}{tm:Int}{s:ByteArray}(h:kQ A w k r st tm s)(x:Int):kQ A (w.setCell ⟨k,3,none⟩ (.int .u64 x)) k r st x s:=by
 obtain ⟨p,C,c⟩:=h.store.cells;have hb:∀b,b≠k->(w.setCell ⟨k,3,none⟩ (.int .u64 x)).heap[b]?=w.heap[b]?:=fun b hne=>bS _ _ _ _ hne
 exact ⟨dM ⟨co (by simp) C.c0,co (by simp) C.c1,co (by simp) C.c2,fun j=>fs (C.fz j)⟩ (ai.keep (fun b h1 _=>⟨h1,hb b (h.store.avoid b h1)⟩) 41 p st.f c) h.store.avoid,
  cs h.time,(cB (a:=⟨r,0,none⟩) (hb r (Ne.symm h.ne))).trans h.rd,(fB (a:=⟨r,0,none⟩) (hb r (Ne.symm h.ne))).trans h.fz,h.ne,h.avoid⟩
theorem ry {w:Wz}{k r:Nat}(o:Nat)(v:Wq):Two2 k r w (w.setCell ⟨k,o,none⟩ v):=
 ⟨rfl,by simp [World.setCell],fun b _ h1 _=>bS _ _ _ _ h1⟩
theorem kQ.grow {A:Nat->Prop}{w w':Wz}{k r:Nat}{st b:St}{tm:Int}{s:ByteArray}(h:kQ A w k r st tm s)(hS:aw (Grow A w) w' k b)(hg:bU w w' k):kQ (Grow A w) w' k r b tm s:=by
 have hb:w'.heap[r]?=w.heap[r]?:=hg.g.block r h.lt (fun e=>h.ne (oJ e).symm);exact ⟨hS,(hg.t 3 (by omega)).trans h.time,(cB (a:=⟨r,0,none⟩) hb).trans h.rd,(fB (a:=⟨r,0,none⟩) hb).trans h.fz,h.ne,fun ha=>ha.elim (fun h1=>h.avoid h1.1) (fun h1=>by have:=h.lt;omega)⟩
def D8 (A:Nat->Prop)(w:Wz)(k r:Nat)(st:St)(tm:Int)(s:ByteArray)(e:Ending)(w':Wz):Prop:=
 Two2 k r w w'/\((cx st tm s=none/\e=.returned (.bool false))\/∃a c s',cx st tm s=some (a,c,s')/\e=.returned (.bool true)/\∃A':Nat->Prop,(∀b,A' b->A b\/w.heap.size<=b)/\kQ A' w' k r a c s'/\Inv a 0/\dY a)
theorem EG (s:ByteArray):nm8 s<18446744073709551616:=by
 have h1:=wd (tkB s 8).data.toList;have h2:(tkB s 8).data.toList.length<=8:=by simpa using nj s 8
 exact lL h1 (lT (Nat.pow_le_pow_right (by decide) h2) (by decide))
theorem rz (s:ByteArray):(txB s).size<=1000:=by
 have h1:=nj (rsB s 1) (txL s);have h2:=EF s;unfold txB;omega
theorem F9 {A:Nat->Prop}{w:Wz}{k r:Nat}{st:St}{tm:Int}{s:ByteArray}(h:kQ A w k r st tm s)(hs:s.size<=maxLen)(x:Inv st 0)(u:dY st):
  Calls Yq.prog 106 #[.pointer (some ⟨k,0,none⟩),.pointer (some ⟨r,0,none⟩)] w (D8 A w k r st tm s):=by
 have HH:Hid (kQ A w k r st tm s/\s.size<=maxLen/\Inv st 0/\dY st):=⟨h,hs,x,u⟩;have HN1:=oE r 1 s w hs (by omega) h.rd h.fz;clear h hs x u;go_enter (Yq.nq Tryz.func106),Tryz.ntmps106;go_wp2_with fail
 refine HN1.mono ?_;rintro e w1 ⟨rfl,r1⟩;have H1:Hid (kQ A w1 k r st tm (rsB s 1)/\Two2 k r w w1/\(rsB s 1).size<=maxLen):=⟨HH.out.1.rdTo r1,r1.two,by have:=HH.out.2.1;exact lT (dF s 1) this⟩;have v:rF (tkB s 1).data.toList=txL s:=rfl;rw [v];have HP:Hid (cx st tm s=cx st tm s):=rfl;have c:Hid (Calls Yq.prog 127 #[.pointer (some ⟨r,0,none⟩),.int .i64 8] w1 fun e w'=>e=.returned (.int .u64 (nm8 (rsB s 1)))/\Hid (kQ A w' k r st tm (rsB (rsB s 1) 8)/\Two2 k r w w'/\(rsB (rsB s 1) 8).size<=maxLen)):=
  (oE r 8 (rsB s 1) w1 H1.out.2.2 (by omega) H1.out.1.rd H1.out.1.fz).mono fun e w2 h=>⟨h.1,H1.out.1.rdTo h.2,H1.out.2.1.trans h.2.two,lT (dF _ _) H1.out.2.2⟩
 have hm:=EG (rsB s 1);clear r1 HN1 v;by_cases t1:txL s=1
 .go_wp2_with fail
  refine c.out.mono ?_;rintro e w2 ⟨rfl,H2⟩;clear c;have HT2:=we r (rsB (rsB s 1) 8) w2 H2.out.2.2 H2.out.1.rd H2.out.1.fz;go_wp2_with fail
  refine HT2.mono ?_;rintro e w3 ⟨rfl,j⟩;have H3:Hid (kQ A w3 k r st tm (txR (rsB (rsB s 1) 8))/\Two2 k r w w3/\(txR (rsB (rsB s 1) 8)).size<=maxLen):=⟨H2.out.1.rdTo j,H2.out.2.1.trans j.two,lT (dF _ _) (lT (dF _ _) H2.out.2.2)⟩;have d:tkB (rsB (rsB (rsB s 1) 8) 1) (txL (rsB (rsB s 1) 8))=txB (rsB (rsB s 1) 8):=rfl;rw [d];clear j HT2 d;have HT3:=we r (txR (rsB (rsB s 1) 8)) w3 H3.out.2.2 H3.out.1.rd H3.out.1.fz;go_wp2_with fail
  refine HT3.mono ?_;rintro e n ⟨rfl,p⟩;have H4:Hid (kQ A n k r st tm (txR (txR (rsB (rsB s 1) 8)))/\Two2 k r w n/\(txR (txR (rsB (rsB s 1) 8))).size<=maxLen):=⟨H3.out.1.rdTo p,H3.out.2.1.trans p.two,lT (dF _ _) (lT (dF _ _) H3.out.2.2)⟩;have o:tkB (rsB (txR (rsB (rsB s 1) 8)) 1) (txL (txR (rsB (rsB s 1) 8)))=txB (txR (rsB (rsB s 1) 8)):=rfl;rw [o];clear p HT3 o;have HP4:=oF k (nm8 (rsB s 1)) st.last n HH.out.2.2.1.last0 HH.out.2.2.1.lastS hm H4.out.1.store.last (H4.out.1.store.frozen 2);go_wp2_with fail
  refine HP4.mono ?_;clear HP4;rintro e q (⟨hp,rfl,rfl⟩|⟨l,hp,rfl,rfl⟩)
  .have hn:cx st tm s=none:=by simp [cx,t1,hp]
   have HR:Hid (cx st tm s=none):=hn;clear hn hp;go_wp2;go_ret;exact ⟨H4.out.2.1,.inl ⟨HR.out,rfl⟩⟩
  .have a:Hid (kQ A (n.setCell ⟨k,2,none⟩ (.int .i64 l)) k r (lastSt st l) tm (txR (txR (rsB (rsB s 1) 8)))/\Two2 k r w (n.setCell ⟨k,2,none⟩ (.int .i64 l))/\Inv (lastSt st l) 0/\dY (lastSt st l)):=⟨H4.out.1.setLast l,H4.out.2.1.trans (ry 2 _),HH.out.2.2.1.lastSt (eA hp).1 (eA hp).2,HH.out.2.2.2.lastSt l⟩;have HR:Hid (cx st tm s=if (jq (lastSt st l) (txB (rsB (rsB s 1) 8)) (txB (txR (rsB (rsB s 1) 8)))).2.2=0 then some ((jq (lastSt st l) (txB (rsB (rsB s 1) 8)) (txB (txR (rsB (rsB s 1) 8)))).1,tm,(txR (txR (rsB (rsB s 1) 8)))) else none):=show cx st tm s=_ by simp [cx,t1,hp]
   clear hp;generalize n.setCell ⟨k,2,none⟩ (.int .i64 l)=w5 at *;go_wp2_with fail
   refine (xm A k (lastSt st l) 0 (txB (rsB (rsB s 1) 8)) (txB (txR (rsB (rsB s 1) 8))) w5 (lT (rz _) (by decide)) (lT (rz _) (by decide)) a.out.1.store a.out.2.2.1 (by omega)).mono ?_;rintro e w6 ⟨rfl,S6,m⟩;have HV:=xI a.out.2.2.1 a.out.2.2.2 (txB (rsB (rsB s 1) 8)) (txB (txR (rsB (rsB s 1) 8)));have H6:Hid (kQ (Grow A w5) w6 k r (jq (lastSt st l) (txB (rsB (rsB s 1) 8)) (txB (txR (rsB (rsB s 1) 8)))).1 tm (txR (txR (rsB (rsB s 1) 8)))/\Two2 k r w w6/\Inv (jq (lastSt st l) (txB (rsB (rsB s 1) 8)) (txB (txR (rsB (rsB s 1) 8)))).1 0/\dY (jq (lastSt st l) (txB (rsB (rsB s 1) 8)) (txB (txR (rsB (rsB s 1) 8)))).1):=⟨a.out.1.grow S6 m,a.out.2.1.trans m.two,HV.1.norm HV.2,HV.2⟩;have i:Hid (w.heap.size<=w5.heap.size):=a.out.2.1.size;clear S6 m HV;generalize jq (lastSt st l) (txB (rsB (rsB s 1) 8)) (txB (txR (rsB (rsB s 1) 8)))=R at *;obtain ⟨f,y,c6⟩:=R;go_wp2_with fail
   refine (ue _ _ w6).mono ?_;rintro e z ⟨rfl,h7⟩;obtain rfl:=h7.symm;clear h7;go_wp2_with fail
   go_ret;refine ⟨H6.out.2.1,?_⟩;by_cases hc:c6=0
   .refine .inr ⟨f,tm,_,?_,by simp [hc],Grow A w5,fun b hb=>?_,H6.out.1,H6.out.2.2.1,H6.out.2.2.2⟩
    .rw [HR.out,if_pos hc]
    .rcases hb with ⟨hb,-⟩|hb
     .exact .inl hb
     .have:=i.out;exact .inr (by omega)
   .refine .inl ⟨?_,by simp [hc]⟩;rw [HR.out,if_neg hc]
 by_cases t2:txL s=2
 .go_wp2_with fail
  refine c.out.mono ?_;rintro e w2 ⟨rfl,H2⟩;clear c;have HT2:=we r (rsB (rsB s 1) 8) w2 H2.out.2.2 H2.out.1.rd H2.out.1.fz;go_wp2_with fail
  refine HT2.mono ?_;rintro e w3 ⟨rfl,j⟩;have H3:Hid (kQ A w3 k r st tm (txR (rsB (rsB s 1) 8))/\Two2 k r w w3/\(txR (rsB (rsB s 1) 8)).size<=maxLen):=⟨H2.out.1.rdTo j,H2.out.2.1.trans j.two,lT (dF _ _) (lT (dF _ _) H2.out.2.2)⟩;have d:tkB (rsB (rsB (rsB s 1) 8) 1) (txL (rsB (rsB s 1) 8))=txB (rsB (rsB s 1) 8):=rfl;rw [d];clear j HT2 d;have HP3:=oF k (nm8 (rsB s 1)) st.last w3 HH.out.2.2.1.last0 HH.out.2.2.1.lastS hm H3.out.1.store.last (H3.out.1.store.frozen 2);go_wp2_with fail
  refine HP3.mono ?_;clear HP3;rintro e q (⟨hp,rfl,rfl⟩|⟨l,hp,rfl,rfl⟩)
  .have hn:cx st tm s=none:=by simp [cx,t2,hp]
   have HR:Hid (cx st tm s=none):=hn;clear hn hp;go_wp2;go_ret;exact ⟨H3.out.2.1,.inl ⟨HR.out,rfl⟩⟩
  .have a:Hid (kQ A (w3.setCell ⟨k,2,none⟩ (.int .i64 l)) k r (lastSt st l) tm (txR (rsB (rsB s 1) 8))/\Two2 k r w (w3.setCell ⟨k,2,none⟩ (.int .i64 l))/\Inv (lastSt st l) 0/\dY (lastSt st l)):=⟨H3.out.1.setLast l,H3.out.2.1.trans (ry 2 _),HH.out.2.2.1.lastSt (eA hp).1 (eA hp).2,HH.out.2.2.2.lastSt l⟩;have HR:Hid (cx st tm s=if (dropR (lastSt st l) (txB (rsB (rsB s 1) 8))).2.2=0 then some ((dropR (lastSt st l) (txB (rsB (rsB s 1) 8))).1,tm,(txR (rsB (rsB s 1) 8))) else none):=show cx st tm s=_ by simp [cx,t2,hp]
   clear hp;generalize w3.setCell ⟨k,2,none⟩ (.int .i64 l)=w5 at *;go_wp2_with fail
   refine (tJ A k (lastSt st l) 0 (txB (rsB (rsB s 1) 8)) w5 (lT (rz _) (by decide)) a.out.1.store a.out.2.2.1 (by omega)).mono ?_;rintro e w6 ⟨rfl,S6,m⟩;have HV:=ud a.out.2.2.1 a.out.2.2.2 (txB (rsB (rsB s 1) 8));have H6:Hid (kQ (Grow A w5) w6 k r (dropR (lastSt st l) (txB (rsB (rsB s 1) 8))).1 tm (txR (rsB (rsB s 1) 8))/\Two2 k r w w6/\Inv (dropR (lastSt st l) (txB (rsB (rsB s 1) 8))).1 0/\dY (dropR (lastSt st l) (txB (rsB (rsB s 1) 8))).1):=⟨a.out.1.grow S6 m,a.out.2.1.trans m.two,HV.1.norm HV.2,HV.2⟩;have i:Hid (w.heap.size<=w5.heap.size):=a.out.2.1.size;clear S6 m HV;generalize dropR (lastSt st l) (txB (rsB (rsB s 1) 8))=R at *;obtain ⟨f,y,c6⟩:=R;go_wp2_with fail
   refine (ue _ _ w6).mono ?_;rintro e z ⟨rfl,h7⟩;obtain rfl:=h7.symm;clear h7;go_wp2_with fail
   go_ret;refine ⟨H6.out.2.1,?_⟩;by_cases hc:c6=0
   .refine .inr ⟨f,tm,_,?_,by simp [hc],Grow A w5,fun b hb=>?_,H6.out.1,H6.out.2.2.1,H6.out.2.2.2⟩
    .rw [HR.out,if_pos hc]
    .rcases hb with ⟨hb,-⟩|hb
     .exact .inl hb
     .have:=i.out;exact .inr (by omega)
   .refine .inl ⟨?_,by simp [hc]⟩;rw [HR.out,if_neg hc]
 by_cases t3:txL s=3
 .go_wp2_with fail
  refine c.out.mono ?_;rintro e w2 ⟨rfl,H2⟩;clear c;have HP2:=oF k (nm8 (rsB s 1)) st.last w2 HH.out.2.2.1.last0 HH.out.2.2.1.lastS hm H2.out.1.store.last (H2.out.1.store.frozen 2);go_wp2_with fail
  refine HP2.mono ?_;clear HP2;rintro e q (⟨hp,rfl,rfl⟩|⟨l,hp,rfl,rfl⟩)
  .have hn:cx st tm s=none:=by simp [cx,t3,hp]
   have HR:Hid (cx st tm s=none):=hn;clear hn hp;go_wp2;go_ret;exact ⟨H2.out.2.1,.inl ⟨HR.out,rfl⟩⟩
  .have HR:Hid (cx st tm s=some (lastSt st l,tm,rsB (rsB s 1) 8)):=show cx st tm s=_ by simp [cx,t3,hp]
   have a:Hid (kQ A (w2.setCell ⟨k,2,none⟩ (.int .i64 l)) k r (lastSt st l) tm (rsB (rsB s 1) 8)/\Two2 k r w (w2.setCell ⟨k,2,none⟩ (.int .i64 l))/\Inv (lastSt st l) 0/\dY (lastSt st l)):=⟨H2.out.1.setLast l,H2.out.2.1.trans (ry 2 _),HH.out.2.2.1.lastSt (eA hp).1 (eA hp).2,HH.out.2.2.2.lastSt l⟩;clear hp;go_wp2_with fail
   go_ret;exact ⟨a.out.2.1,.inr ⟨_,_,_,HR.out,rfl,A,fun b h=>.inl h,a.out.1,a.out.2.2.1,a.out.2.2.2⟩⟩
 by_cases t4:txL s=4
 .go_wp2_with fail
  refine c.out.mono ?_;rintro e w2 ⟨rfl,H2⟩;clear c;have HR:Hid (cx st tm s=some (st,((nm8 (rsB s 1):Nat):Int),rsB (rsB s 1) 8)):=show cx st tm s=_ by simp [cx,t4]
  have c3:=H2.out.1.time;have f3:=H2.out.1.store.frozen 3;go_wp2_with fail
  go_ret;exact ⟨H2.out.2.1.trans (ry 3 _),.inr ⟨_,_,_,HR.out,rfl,A,fun b h=>.inl h,H2.out.1.setTime _,HH.out.2.2.1,HH.out.2.2.2⟩⟩
 .have hn:cx st tm s=none:=by simp [cx,t1,t2,t3,t4]
  have HR:Hid (cx st tm s=none):=hn;clear hn hm c;generalize txL s=t at *;go_wp2;go_ret;exact ⟨H1.out.2.1,.inl ⟨HR.out,rfl⟩⟩
def ep:Nat->St->Int->ByteArray->Option (St×Int)
 | 0,_,_,_=>none
 |n+1,st,tm,s=>if s.size=0 then some (st,tm) else match cx st tm s with
  |none=>none
  |some x=>ep n x.1 x.2.1 x.2.2
def eJ (a:ByteArray):Option (St×Int):=match ep (a.size+1) st0 0 a with
 |none=>none
 |some x=>if ci x.1 x.2=a then some x else none
theorem D9 (s:ByteArray)(n:Nat)(hn:0<n)(hs:s.size≠0):(rsB s n).size<s.size:=by
 have:(rsB s n).size=s.size-min n s.size:=by simp [rsB]
 omega
theorem BV {st:St}{tm:Int}{s:ByteArray}{x:St×Int×ByteArray}(hs:s.size≠0)(h:cx st tm s=some x):x.2.2.size<s.size:=by
 have h1:=D9 s 1 (by omega) hs;have h2:=dF (rsB s 1) 8;have h3:∀s,(txR s).size<=s.size:=fun s=>lT (dF _ _) (dF _ _)
 have h4:=h3 (rsB (rsB s 1) 8);have h5:=h3 (txR (rsB (rsB s 1) 8));unfold cx at h
 repeat' split at h
 all_goals first
  |(exfalso;revert h;simp;done)
  |(have e:=oJ h;rw [<-e];dsimp only;omega)
theorem zG {t:ByteArray}(h:t≠⟨#[]⟩):t.toList.isEmpty=false:=by
 rw [ByteArray.toList_eq];cases e:t.data.toList with
 |nil=>exact absurd (ByteArray.ext (Array.toList_inj.1 (e.trans rfl))) h
 |cons a r=>rfl
def Hj (w:Wz)(r:Nat):Nat:=match w.cell? ⟨r,0,none⟩ with
 |some (.string s)=>s.size
 |_=>0
theorem BW (w:Wz):(Instr.build 59 #[]).run Yq.prog w=.ok (.agg #[.pointer none,.int .i64 0,.int .i64 0,.int .u64 0]) w:=by kernel_rfl
theorem Ea (s:ByteArray)(w:Wz):(Instr.build 176 #[(0,.string s)]).run Yq.prog w=.ok (.agg #[.string s]) w:=by kernel_rfl
def Eb (a:ByteArray)(w:Wz)(e:Ending)(w':Wz):Prop:=
 am w w'/\((eJ a=none/\e=.returned (.tuple #[.agg #[.pointer none,.int .i64 0,.int .i64 0,.int .u64 0],.int .i64 12])) \/
  ∃ (st:St) (tm:Int) (p:Option Ww) (A:Nat->Prop),eJ a=some (st,tm)/\e=.returned (.tuple #[.agg #[.pointer p,.int .i64 st.count,.int .i64 st.last,.int .u64 tm],.int .i64 0])/\ai A 41 w' p st.f/\(∀b,A b->w.heap.size<=b)/\Inv st 0/\dY st)
structure LdI (saved:ByteArray)(W wr:Wz)(k r:Nat)(A:Nat->Prop)(st:St)(tm:Int)(s:ByteArray)(n:Nat):Prop where
 ld:kQ A wr k r st tm s
 size:s.size<=maxLen
 fuel:s.size<n
 eq:ep n st tm s=ep (saved.size+1) st0 0 saved
 inv:Inv st 0
 invT:dY st
 two:Two2 k r W wr
 far:∀b,A b->W.heap.size<=b
theorem Ec (w:Wz)(x y z:Array Wq)(T U V:Wk)(j:Nat):(((w.alloc (.cells x T)).alloc (.cells y U)).alloc (.cells z V)).cell? ⟨w.heap.size,j,none⟩=x[j]?/\(((w.alloc (.cells x T)).alloc (.cells y U)).alloc (.cells z V)).frozen? ⟨w.heap.size,j,none⟩=false:=by
 have hb:(((w.alloc (.cells x T)).alloc (.cells y U)).alloc (.cells z V)).heap[w.heap.size]?=(w.alloc (.cells x T)).heap[w.heap.size]?:=by
  rw [bA _ _ _ (by simp;omega),bA _ _ _ (by simp)]
 exact ⟨(cB (a:=⟨w.heap.size,j,none⟩) hb).trans (fU w _ _ j),(fB (a:=⟨w.heap.size,j,none⟩) hb).trans (World.frozen?_alloc_at (w:=w) _ _ w.heap.size j rfl)⟩
theorem BX (w:Wz)(x y z:Array Wq)(T U V:Wk)(j:Nat):(((w.alloc (.cells x T)).alloc (.cells y U)).alloc (.cells z V)).cell? ⟨w.heap.size+1,j,none⟩=y[j]?/\(((w.alloc (.cells x T)).alloc (.cells y U)).alloc (.cells z V)).frozen? ⟨w.heap.size+1,j,none⟩=false:=by
 have e:(w.alloc (.cells x T)).heap.size=w.heap.size+1:=by simp
 have hb:(((w.alloc (.cells x T)).alloc (.cells y U)).alloc (.cells z V)).heap[w.heap.size+1]?=((w.alloc (.cells x T)).alloc (.cells y U)).heap[w.heap.size+1]?:=by
  rw [bA _ _ _ (by simp)]
 have h1:=fU (w.alloc (.cells x T)) y U j;have h2:=World.frozen?_alloc_at (w:=w.alloc (.cells x T)) y U (w.alloc (.cells x T)).heap.size j rfl;rw [e] at h1 h2;exact ⟨(cB (a:=⟨w.heap.size+1,j,none⟩) hb).trans h1,(fB (a:=⟨w.heap.size+1,j,none⟩) hb).trans h2⟩
theorem Ed (w:Wz)(x y z:Array Wq)(T U V:Wk)(j:Nat):(((w.alloc (.cells x T)).alloc (.cells y U)).alloc (.cells z V)).cell? ⟨w.heap.size+1+1,j,none⟩=z[j]?/\(((w.alloc (.cells x T)).alloc (.cells y U)).alloc (.cells z V)).frozen? ⟨w.heap.size+1+1,j,none⟩=false:=by
 have e:((w.alloc (.cells x T)).alloc (.cells y U)).heap.size=w.heap.size+1+1:=by simp
 have h1:=fU ((w.alloc (.cells x T)).alloc (.cells y U)) z V j;have h2:=World.frozen?_alloc_at (w:=(w.alloc (.cells x T)).alloc (.cells y U)) z V ((w.alloc (.cells x T)).alloc (.cells y U)).heap.size j rfl;rw [e] at h1 h2;exact ⟨h1,h2⟩
theorem Ga (c:ByteArray)(w:Wz)(hs:c.size<=maxLen):Calls Yq.prog 79 #[.string c] w (Eb c w):=by
 have hb1:=BW;have hb2:=Ea;have HS:Hid (c.size<=maxLen):=hs;clear hs;go_enter (Yq.nq Tryz.func79),Tryz.ntmps79;go_wp2_with fail
 obtain ⟨t,ht⟩:∃t,t=w.heap.size:=⟨_,rfl⟩;obtain ⟨W3,k⟩:∃W3,W3=((w.alloc (.cells #[.pointer none,.int .i64 0,.int .i64 0,.int .u64 0] 59)).alloc (.cells #[.pointer none,.int .i64 0,.int .i64 0,.int .u64 0] 59)).alloc (.cells #[.string c] 176):=⟨_,rfl⟩;rw [<-k,<-ht];have z:Hid (am w W3/\W3.heap.size=t+3/\t=w.heap.size):=⟨by rw [k];exact ((am.refl.alloc _).alloc _).alloc _,by rw [k,ht];simp,ht⟩;have x:∀j,W3.cell? ⟨t,j,none⟩=(#[.pointer none,.int .i64 0,.int .i64 0,.int .u64 0]:Array Wq)[j]?/\W3.frozen? ⟨t,j,none⟩=false:=fun j=>by
  rw [k,ht];exact Ec w _ _ _ _ _ _ j
 have i:∀j,W3.cell? ⟨t+1,j,none⟩=(#[.pointer none,.int .i64 0,.int .i64 0,.int .u64 0]:Array Wq)[j]?/\W3.frozen? ⟨t+1,j,none⟩=false:=fun j=>by
  rw [k,ht];exact BX w _ _ _ _ _ _ j
 have l:∀j,W3.cell? ⟨t+1+1,j,none⟩=(#[.string c]:Array Wq)[j]?/\W3.frozen? ⟨t+1+1,j,none⟩=false:=fun j=>by
  rw [k,ht];exact Ed w _ _ _ _ _ _ j
 have B:Hid (LdI c W3 W3 (t+1) (t+1+1) (fun _=>False) st0 0 c (c.size+1)):=
  ⟨⟨⟨fun _ h=>h.elim,⟨none,(i 0).1,ai.nil (fun _=>rfl)⟩,(i 1).1,(i 2).1,fun j=>(i j).2⟩,(i 3).1,(l 0).1,(l 0).2,by omega,fun h=>h⟩,HS.out,by omega,rfl,inv0,Dz,Two2.refl,fun _ h=>h.elim⟩
 have D:Hid (∀wr w1,Two2 (t+1) (t+1+1) W3 wr->Two2 (t+1) (t+1+1) wr w1->(w1.cell? ⟨t,0,none⟩=some (.pointer none)/\w1.frozen? ⟨t,0,none⟩=false)/\(w1.cell? ⟨t,1,none⟩=some (.int .i64 0)/\w1.frozen? ⟨t,1,none⟩=false)/\(w1.cell? ⟨t,2,none⟩=some (.int .i64 0)/\w1.frozen? ⟨t,2,none⟩=false)/\(w1.cell? ⟨t,3,none⟩=some (.int .u64 0)/\w1.frozen? ⟨t,3,none⟩=false)/\Hid (∀x0 x1 x2 x3,am w ((((w1.setCell ⟨t,0,none⟩ x0).setCell ⟨t,1,none⟩ x1).setCell ⟨t,2,none⟩ x2).setCell ⟨t,3,none⟩ x3))):=fun wr w1 t0 t1=>by
  have h1:=z.out;have h2:=t0.trans t1;have h3:=h1.1.size;have hbt:=h2.block t (by omega) (by omega) (by omega);have hz:∀j,w1.cell? ⟨t,j,none⟩=(#[.pointer none,.int .i64 0,.int .i64 0,.int .u64 0]:Array Wq)[j]?/\w1.frozen? ⟨t,j,none⟩=false:=fun j=>⟨(cB (a:=⟨t,j,none⟩) hbt).trans (x j).1,(fB (a:=⟨t,j,none⟩) hbt).trans (x j).2⟩
  have hl:am w w1:=⟨h2.os.trans h1.1.os,lT h3 h2.size,fun b hb=>by rw [h2.block b (by omega) (by omega) (by omega),h1.1.block b hb]⟩;exact ⟨hz 0,hz 1,hz 2,hz 3,fun x0 x1 x2 x3=>(((hl.set (by omega) _ _).set (by omega) _ _).set (by omega) _ _).set (by omega) _ _⟩
 clear x i l k ht
 go_loopw [8] (fun _ wr=>∃ (A:Nat->Prop) (st:St) (tm:Int) (s:ByteArray) (n:Nat),LdI c W3 wr (t+1) (t+1+1) A st tm s n) (fun _ wr=>Hj wr (t+1+1))
 case atStart=>exact ⟨_,_,_,_,_,B.out⟩
 case round=>
  obtain ⟨A,st,tm,s,n,I⟩:=hrel;have d:Hid (LdI c W3 wr (t+1) (t+1+1) A st tm s n):=I;have c0:=I.ld.rd;clear I B;by_cases h0:s.size=0
  .obtain rfl:s=⟨#[]⟩:=ByteArray.ext (Array.toList_inj.1 (List.eq_nil_of_length_eq_zero (by simpa using h0)));clear h0;go_wp2_with fail
   refine (BR d.out.ld.store d.out.ld.time d.out.inv d.out.invT).mono ?_;rintro e w1 ⟨rfl,l1⟩;obtain ⟨⟨z0,y0⟩,⟨z1,y1⟩,⟨z2,y2⟩,⟨z3,y3⟩,q⟩:=D.out wr w1 d.out.two ⟨l1.os,l1.size,fun b hb _ _=>l1.block b hb⟩;obtain ⟨p,C,K⟩:=d.out.ld.store.cells;have e0:=l1.cell C.c0;have e1:=l1.cell C.c1;have e2:=l1.cell C.c2;have e3:=l1.cell d.out.ld.time;have HN:Hid (ai A 41 wr p st.f/\am wr w1):=⟨K,l1⟩;have E:Hid (ep (c.size+1) st0 0 c=some (st,tm)):=by
    show ep (c.size+1) st0 0 c=some (st,tm);rw [<-d.out.eq];have:=d.out.fuel;obtain ⟨m,rfl⟩:∃m,n=m+1:=⟨n-1,by omega⟩;rw [ep,if_pos (by decide)]
   clear C K l1;by_cases o:ci st tm=c
   .have HF:Hid (eJ c=some (st,tm)):=by show eJ c=some (st,tm);rw [eJ,E.out];simp [o]
    rw [o];go_wp2_with fail
    refine bodyPost_ret (v:=.tuple #[.agg #[.pointer p,.int .i64 st.count,.int .i64 st.last,.int .u64 tm],.int .i64 0]) (by simp [results,Tryz.results79,go_sem,z0,z1,z2,z3]) rfl ⟨q.out _ _ _ _,.inr ⟨st,tm,p,A,HF.out,rfl,?_,fun b hb=>?_,d.out.inv,d.out.invT⟩⟩
    .have h1:=z.out;have h2:=d.out;refine ai.keep (fun b hb hlt=>⟨hb,?_⟩) 41 _ _ HN.out.1;have hbt:b≠t:=by have:=h2.far b hb;omega
     rw [bS _ _ _ _ hbt,bS _ _ _ _ hbt,bS _ _ _ _ hbt,bS _ _ _ _ hbt];exact HN.out.2.block b hlt
    .have h1:=z.out;have:=d.out.far b hb;omega
   .have HF:Hid (eJ c=none):=by show eJ c=none;rw [eJ,E.out];simp [o]
    have r:¬(ci st tm).toList=c.toList:=fun e=>o (ByteArray.ext (Array.toList_inj.1 (by rw [<-ByteArray.toList_eq,<-ByteArray.toList_eq];exact e)))
    have hne:((ci st tm).toList==c.toList)=false:=by simpa using r
    clear r;clear o;generalize ci st tm=sb at *;go_wp2_with fail
    exact bodyPost_ret (v:=.tuple #[.agg #[.pointer none,.int .i64 0,.int .i64 0,.int .u64 0],.int .i64 12]) (by simp [results,Tryz.results79,go_sem,z0,z1,z2,z3]) rfl ⟨q.out _ _ _ _,.inl ⟨HF.out,rfl⟩⟩
  .have hem:=zG (t:=s) (fun e=>h0 (by rw [e];rfl));have u:Hid (s.size≠0):=h0;clear h0;go_wp2_with fail
   refine (F9 d.out.ld d.out.size d.out.inv d.out.invT).mono ?_;rintro e w1 ⟨t1,⟨hp,rfl⟩|⟨G,H,s',hp,rfl,A',F,y,i',L⟩⟩
   .have HF:Hid (eJ c=none):=by
     show eJ c=none;rw [eJ,<-d.out.eq];have:=d.out.fuel;obtain ⟨m,rfl⟩:∃m,n=m+1:=⟨n-1,by omega⟩;rw [ep,if_neg u.out,hp]
    obtain ⟨⟨z0,y0⟩,⟨z1,y1⟩,⟨z2,y2⟩,⟨z3,y3⟩,q⟩:=D.out wr w1 d.out.two t1;clear hp t1;go_wp2_with fail
    exact bodyPost_ret (v:=.tuple #[.agg #[.pointer none,.int .i64 0,.int .i64 0,.int .u64 0],.int .i64 12]) (by simp [results,Tryz.results79,go_sem,z0,z1,z2,z3]) rfl ⟨q.out _ _ _ _,.inl ⟨HF.out,rfl⟩⟩
   .have J:Hid ((∃A st tm s n,LdI c W3 w1 (t+1) (t+1+1) A st tm s n)/\Hj w1 (t+1+1)<Hj wr (t+1+1)):=by
     have hls:=BV u.out hp;simp only at hls;have h:=d.out;have hf:=h.fuel;have hsz:=h.size;obtain ⟨m,rfl⟩:∃m,n=m+1:=⟨n-1,by omega⟩;refine ⟨⟨A',G,H,s',m,y,by omega,by omega,?_,i',L,h.two.trans t1,fun b hb=>?_⟩,?_⟩
     .have:=h.eq;rw [ep,if_neg u.out,hp] at this;exact this
     .rcases F b hb with h1|h1
      .exact h.far b h1
      .have:=h.two.size;omega
     .simp only [Hj,y.rd,h.ld.rd];exact hls
    clear hp t1 F y i' L;go_wp2_with fail
    exact J.out
def cQ (ks:List Int)(bs:List ByteArray)(src:Int)(body:ByteArray):ByteArray:=
 if 0<=src/\src<bs.length then (if ks[src.toNat]?.getD 0=11 then bs[src.toNat]?.getD ⟨#[]⟩ else body) else body
def cF (st:St)(L:Lg)(b:ByteArray):St×Lg×js:=match eJ b with
 |none=>(st,L,⟨12,0,⟨#[]⟩,[],⟨#[]⟩⟩)
 |some x=>(x.1,{L with opened:=[],tm:=x.2},⟨0,0,⟨#[]⟩,[],⟨#[]⟩⟩)
theorem uf {st:St}{tm:Int}{s:ByteArray}{x:St×Int×ByteArray}(a:Inv st 0)(b:dY st)(h:cx st tm s=some x):Inv x.1 0/\dY x.1:=by
 have hl:∀l,kH st.last (nm8 (rsB s 1))=some l->Inv (lastSt st l) 0/\dY (lastSt st l):=fun l e=>⟨a.lastSt (eA e).1 (eA e).2,b.lastSt l⟩
 unfold cx at h;split at h
 .split at h
  .exact absurd h (by simp)
  .rename_i l e;split at h
   .rw [<-oJ h];dsimp only;have:=xI (hl l e).1 (hl l e).2 (txB (rsB (rsB s 1) 8)) (txB (txR (rsB (rsB s 1) 8)));exact ⟨this.1.norm this.2,this.2⟩
   .exact absurd h (by simp)
 .split at h
  .split at h
   .exact absurd h (by simp)
   .rename_i l e;split at h
    .rw [<-oJ h];dsimp only;have:=ud (hl l e).1 (hl l e).2 (txB (rsB (rsB s 1) 8));exact ⟨this.1.norm this.2,this.2⟩
    .exact absurd h (by simp)
  .split at h
   .split at h
    .exact absurd h (by simp)
    .rename_i l e;rw [<-oJ h];dsimp only;exact hl l e
   .split at h
    .rw [<-oJ h];dsimp only;exact ⟨a,b⟩
    .exact absurd h (by simp)
theorem ug:∀ (n:Nat)(st:St)(tm:Int)(s:ByteArray)(x:St×Int),Inv st 0->dY st->ep n st tm s=some x->Inv x.1 0/\dY x.1
 | 0,_,_,_,_,_,_,h=>by simp [ep] at h
 |n+1,st,tm,s,x,hI,hT,h=>by
  unfold ep at h;split at h
  .cases h;exact ⟨hI,hT⟩
  .split at h
   .exact absurd h (by simp)
   .rename_i y e;have:=uf hI hT e;exact ug n _ _ _ x this.1 this.2 h
theorem pV {b:ByteArray}{x:St×Int}(h:eJ b=some x):ep (b.size+1) st0 0 b=some x/\ci x.1 x.2=b:=by
 unfold eJ at h;split at h
 .exact absurd h (by simp)
 .rename_i y e;split at h
  .rename_i hs;cases h;exact ⟨e,hs⟩
  .exact absurd h (by simp)
theorem BY {b:ByteArray}{x:St×Int}(h:eJ b=some x):Inv x.1 0/\dY x.1:=
 ug _ _ _ _ x inv0 Dz (pV h).1
theorem uh (xs:List Wq):(bytesOf xs).size=xs.length:=by simp [bytesOf,ByteArray.size]
theorem Ee (k:ByteArray)(v:Ver):(zw k v).length=vW k v:=by
 unfold zw vW;split
 .simp only [lP,lS,rr,tX];omega
 .simp only [lP,lS,rr,tX];omega
theorem BZ (E:List (ByteArray×Ver)):(fe E).length=dw E:=by
 induction E with
 |nil=>rfl
 |cons e E ih=>
  simp only [fe,dw,List.flatMap_cons,lP,List.map_cons,List.sum_cons] at ih ⊢;rw [ih,Ee]
theorem zH {st:St}(a:dY st):(bg st).length<=200:=by
 have h3:gt (cu st.f [])=tot 41 st.f:=rfl;have:=a.cnt;have:=a.le;rw [bg,eI,iX];omega
theorem pW {st:St}(a:dY st)(tm:Int):(ci st tm).size<=maxLen:=by
 have hn:=ub (E:=bg st) fun e he=>⟨(fo he).1,by obtain ⟨k,hk⟩:=(fo he).2;exact a.body k _ hk⟩
 have hl:=zH a;rw [ci,uh];simp only [lP,lS,rr,BZ,maxLen];omega
structure EH (w:Wz)(k0 g0 s:Nat)(ks:List Int)(bs:List ByteArray):Prop where
 kl:ks.length=s
 bl:bs.length=s
 small:∀b∈bs,b.size<=maxLen
 script:∃sb so sn sc,w.cell? ⟨k0,7,none⟩=some (.slice (some ⟨sb,so,none⟩) sn sc)/\s<=sn/\∀i (hi:i<ks.length),w.cell? ⟨sb,so+i * 7,none⟩=some (.int .i64 ks[i])
 bodies:∀i (hi:i<bs.length),w.cell? ⟨g0,i * 5+2,none⟩=some (.string bs[i])
theorem EH.left {w w':Wz}{k0 g0 s:Nat}{ks:List Int}{bs:List ByteArray}(h:EH w k0 g0 s ks bs)(hl:am w w'):EH w' k0 g0 s ks bs:=by
 obtain ⟨a,so,b,sc,h1,h2,h3⟩:=h.script;exact ⟨h.kl,h.bl,h.small,⟨a,so,b,sc,hl.cell h1,h2,fun i hi=>hl.cell (h3 i hi)⟩,fun i hi=>hl.cell (h.bodies i hi)⟩
section
variable {A:Nat->Prop} {B k0:Nat} {w:Wz} {st:St} {L:Lg}
theorem ui (h:aI A B w k0 st L)(p:B<=w.heap.size)(k:L.opened.length<=3)(o:OpD)(hk:o.kind=10):
  Calls Yq.prog 33 #[.pointer (some ⟨k0,0,none⟩),cE o] w (bi A B k0 w st L ⟨0,st.count,⟨#[]⟩,L.opened.map jB,⟨#[]⟩⟩):=by
 have c:aI A B (cI w o).drew k0 st L:=h.left ((aK o).drew);have HT:=Bz (cI w o).drew c.ls k;have HN:=DR k0 st.count (cI w o).drew c.store.count;obtain ⟨its,b⟩:∃its,its=L.opened.map jB:=⟨_,rfl⟩;rw [<-b] at HT ⊢;have d:am (cI w o) (cI w o).drew:=am.refl.drew;have f:k0<(cI w o).heap.size:=by have:=h.ls.lt;rw [aL];omega
 have HB:Hid (∀w1,Below (cI w o).drew.heap.size (cI w o).drew w1->_):=fun w1 hb=>box5 (kF o h.ls (FrC.left f (d.trans (.below hb))))
 have HF:Hid (∀w1 so i sc x0 x1 x2 x3 j,Below (cI w o).drew.heap.size (cI w o).drew w1->w1.ownsRow (cI w o).drew.heap.size 41 3 (.slice so i sc) its.length (ax its)->bi A B k0 w st L ⟨0,st.count,⟨#[]⟩,its,⟨#[]⟩⟩ (.returned (ji ⟨0,st.count,⟨#[]⟩,its,⟨#[]⟩⟩ (.slice so i sc))) (put5 w1 (w.heap.size+1) x0 x1 x2 x3 j)):=fun w1 so i sc x0 x1 x2 x3 j hb a=>by
  have hl:am (cI w o) w1:=d.trans (.below hb);obtain ⟨A',l,a2,a3,a4,a5,q⟩:=ba.page (h.ls.left (aK o)) hl a (lR _) (fun _ _ _=>rfl);have d1:=(h.left (aK o)).step a4 l a3 rfl;obtain ⟨e1,e2,e3,e4⟩:=ma (A':=A') (sv:=.slice so i sc) (its:=its) (r:=w.heap.size+1) (aK o) h.ls.lt p (by omega) (by rw [aL];omega) ⟨_,fW o,rfl⟩ l a2 h.ls.inn d1 a4.weak q (fE o h.ls) a5 x0 x1 x2 x3 j;exact ⟨_,rfl,A',l,e1,e2,e3,e4⟩
 have hb1:=zu;clear b c d f;obtain ⟨kind,key,body,delim,past,n,src⟩:=o;simp only at hk;subst hk;unfold cI at HT HF HB HN;clear h;unfold cE;go_enter (Yq.nq Tryz.func33),Tryz.ntmps33;go_wp2_with fail
 go_region_with (first
  |(go_at_call 46;refine HN.mono ?_;rintro e w1 ⟨rfl,rfl⟩)
  |(go_at_call 47;refine HT.mono ?_;rintro e w1 ⟨sv,rfl,a,hb⟩;obtain ⟨so,sc,rfl,-⟩:=az a;obtain ⟨⟨b0,m,b2,b3,b4⟩,f0,f1,f2,f3,f4⟩:=HB.out w1 hb))
 all_goals
  go_wp2;exact bodyPost_ret (v:=ji ⟨0,st.count,⟨#[]⟩,its,⟨#[]⟩⟩ (.slice so its.length sc)) (by simp [results,Tryz.results33,go_sem,ji,b0,m,b2,b3,b4]) rfl (HF.out w1 _ _ _ _ _ _ _ _ hb a)
end
def wg (R:Lg×List ItD×ByteArray×Int):js:=⟨R.2.2.2,0,⟨#[]⟩,R.2.1,R.2.2.1⟩
def stepA (st:St)(L:Lg)(a:List ByteArray)(o:OpD):St×Lg×js:=
 if o.kind=6 then (st,(eP L st.f ⟨false,o.key,o.delim,o.past⟩ o.n).1,wg (eP L st.f ⟨false,o.key,o.delim,o.past⟩ o.n))
 else if o.kind=7 then (st,(eP L st.f ⟨true,o.key,o.delim,o.past⟩ o.n).1,wg (eP L st.f ⟨true,o.key,o.delim,o.past⟩ o.n))
 else if o.kind=8 then (st,(fD L (ix a o.src o.body)).1,wg (fD L (ix a o.src o.body)))
 else if o.kind=9 then (st,(cX L o.n).1,⟨(cX L o.n).2,0,⟨#[]⟩,[],⟨#[]⟩⟩)
 else if o.kind=10 then (st,L,⟨0,st.count,⟨#[]⟩,L.opened.map jB,⟨#[]⟩⟩)
 else if o.kind=11 then (st,L,⟨0,0,ci st L.tm,[],⟨#[]⟩⟩)
 else ((bf st o).1,L,⟨(bf st o).2.code,(bf st o).2.ver,(bf st o).2.body,[],⟨#[]⟩⟩)
def kI (st:St)(L:Lg)(a:List ByteArray)(b:ByteArray)(o:OpD):St×Lg×js:=if o.kind=12 then cF st L b else stepA st L a o
structure oG (Qok:Qy->Prop)(o:OpD):Prop where
 q:o.kind=6->Qok ⟨false,o.key,o.delim,o.past⟩
 q7:o.kind=7->Qok ⟨true,o.key,o.delim,o.past⟩
structure G8 (Qok:Qy->Prop)(o:OpD):Prop where
 k12:o.kind≠12
 q:o.kind=6->Qok ⟨false,o.key,o.delim,o.past⟩
 q7:o.kind=7->Qok ⟨true,o.key,o.delim,o.past⟩
structure oQ (Qok:Qy->Prop)(L:Lg)(s:Nat):Prop where
 len:L.opened.length<=3
 left:∀x∈L.opened,0<=x.left/\x.left<=10
 ok:∀x∈L.opened,Qok x.q/\gt (cu x.f x.q.p.data.toList)<=1000/\x.q.p.size<=maxLen
 begun:0<=L.begun/\L.begun<=s
 told:∀tok n pg,eN tok L.told=some (n,pg)->(0<=n/\n<=s)/\0<=pg/\pg<=s+1
theorem pX (k k':ByteArray)(x:Int×Int)(t:Told):eN k (mF k' x t)=if k=k' then some x else eN k t:=by
 induction t with
 |nil=>simp [mF,eN]
 |cons a r ih=>
  obtain ⟨b,a2⟩:=a;by_cases h:k'=b
  .subst h;simp only [mF,if_true,eN];by_cases h2:k=k'<;>simp [h2]
  .simp only [mF,if_neg h,eN,ih];by_cases h2:k=b
   .subst h2;rw [if_pos rfl,if_neg (fun e=>h e.symm),if_pos rfl]
   .rw [if_neg h2,if_neg h2]
theorem dY.sum {st:St}(h:dY st)(p:List UInt8):gt (cu st.f p)<=1000:=by
 have h2:=Bj p 41 st.f;have h3:gt (cu st.f p)=tot (41-p.length) fun k=>st.f (p++k):=tE _ _ _ _
 have:=h.cnt;have:=h.le;omega
section
variable {Qok:Qy->Prop} {L:Lg} {s:Nat} {st:St}
theorem oQ.mono (h:oQ Qok L s){s':Nat}(hs:s<=s'):oQ Qok L s':=
 ⟨h.len,h.left,h.ok,⟨h.begun.1,by have:=h.begun.2;omega⟩,fun a n pg e=>by have:=h.told a n pg e;omega⟩
theorem oQ.beg (h:oQ Qok L s)(c:dY st)(q:Qy)(n:Int)(hq:Qok q)(hp:q.p.size<=maxLen):oQ Qok (eP L st.f q n).1 (s+1):=by
 have hb:=h.begun;unfold eP;split
 .exact h.mono (by omega)
 .split
  .exact h.mono (by omega)
  .split
   .exact h.mono (by omega)
   .refine ⟨by simp only [lP,lS];omega,fun x hx=>?_,fun x hx=>?_,⟨by simp only;omega,by simp only;omega⟩,fun a b pg e=>?_⟩
    .rcases List.mem_append.1 hx with hx|hx
     .exact h.left x hx
     .simp only [List.mem_singleton] at hx;subst hx;exact ⟨by simp [gp],by simp [gp]⟩
    .rcases List.mem_append.1 hx with hx|hx
     .exact h.ok x hx
     .simp only [List.mem_singleton] at hx;subst hx;exact ⟨hq,c.sum _,hp⟩
    .simp only [pX] at e;split at e
     .cases e;omega
     .have:=h.told a b pg e;omega
theorem oQ.next (h:oQ Qok L s)(c:ByteArray):oQ Qok (fD L c).1 (s+1):=by
 unfold fD;split
 .exact h.mono (by omega)
 .rename_i n pg e1;split
  .exact h.mono (by omega)
  .split
   .exact h.mono (by omega)
   .rename_i i e2 x e3;have hx:x∈L.opened:=List.mem_of_getElem? e3;have hb:=h.begun;refine ⟨by simpa using h.len,fun y hy=>?_,fun y hy=>?_,⟨hb.1,by simp only;omega⟩,fun a d b e=>?_⟩
    .rcases List.mem_or_eq_of_mem_set hy with hy|rfl
     .exact h.left y hy
     .exact ⟨by simp [LsA.again],by simp [LsA.again]⟩
    .rcases List.mem_or_eq_of_mem_set hy with hy|rfl
     .exact h.ok y hy
     .exact h.ok x hx
    .simp only at e;split at e
     .have:=h.told a d b e;omega
     .rw [pX] at e;split at e
      .cases e;have:=h.told c n pg e1;omega
      .have:=h.told a d b e;omega
theorem oQ.tick (h:oQ Qok L s)(u:Int):oQ Qok (cX L u).1 (s+1):=by
 unfold cX;split
 .exact h.mono (by omega)
 .rename_i hu;have hb:=h.begun;refine ⟨?_,fun y hy=>?_,fun y hy=>?_,⟨hb.1,by simp only [jr];omega⟩,fun a n pg e=>by have:=h.told a n pg e;omega⟩
  .have:=List.length_filter_le (fun x:LsA=>!decide (x.left<=0)) (L.opened.map fun x=>x.again (x.left-u));rw [lM] at this;exact lT this h.len
  .simp only [jr,List.mem_filter,List.mem_map] at hy;obtain ⟨⟨x,hx,rfl⟩,hy⟩:=hy;have:=h.left x hx;have hy':¬(x.left-u<=0):=fun e=>by simp [LsA.again,e] at hy
   show 0<=x.left-u/\x.left-u<=10;omega
  .simp only [jr,List.mem_filter,List.mem_map] at hy;obtain ⟨⟨x,hx,rfl⟩,hy⟩:=hy;exact h.ok x hx
theorem oQ.step (h:oQ Qok L s)(b:dY st)(a:List ByteArray)(o:OpD)(hk:oG Qok o)(hp:o.key.size<=maxLen):oQ Qok (stepA st L a o).2.1 (s+1):=by
 unfold stepA;split
 .rename_i h6;exact h.beg b _ _ (hk.q h6) hp
 .split
  .rename_i h7;exact h.beg b _ _ (hk.q7 h7) hp
  .split
   .exact h.next _
   .split
    .exact h.tick _
    .split
     .exact h.mono (by omega)
     .split
      .exact h.mono (by omega)
      .exact h.mono (by omega)
theorem dY.stepA (b:dY st)(a:List ByteArray)(o:OpD):dY (stepA st L a o).1:=by
 unfold Go.Proofs.Qw.stepA
 repeat' split
 all_goals first|exact b|exact b.step o
theorem Inv.stepA (b:Inv st s)(a:List ByteArray)(o:OpD):Inv (stepA st L a o).1 (s+1):=by
 have hm:Inv st (s+1):=b.mono (by omega);unfold Go.Proofs.Qw.stepA
 repeat' split
 all_goals first|exact hm|exact b.step o
end
def Hk (_:OpD):Prop:=True
def uj (Qok:Qy->Prop)(K:OpD->Prop)(G:Wz->Prop)(N:Nat):Prop:=
 ∀ {A:Nat->Prop} {B k0:Nat} {w:Wz} {st:St} {L:Lg} (_:aI A B w k0 st L) (_:B<=w.heap.size) (_:∀w',aJ A B k0 w w'->G w') (o:OpD) (_:K o) (_:oG Qok o) (_:o.key.size<=maxLen) (_:o.body.size<=maxLen) {s:Nat} (_:Inv st s) (_:dY st) (_:oQ Qok L s) (_:s<N)
  (g0 cp:Nat) (a:List ByteArray) (_:a.length=s) (_:w.cell? ⟨k0,8,none⟩=some (.slice (some ⟨g0,0,none⟩) s cp)) (_:∀i (hi:i<a.length),w.cell? ⟨g0,i * 5+4,none⟩=some (.string a[i])) (ks:List Int) (bs:List ByteArray) (_:EH w k0 g0 s ks bs),
  Calls Yq.prog 33 #[.pointer (some ⟨k0,0,none⟩),cE o] w fun e w'=>bi A B k0 w (kI st L a (cQ ks bs o.src o.body) o).1 (kI st L a (cQ ks bs o.src o.body) o).2.1 (kI st L a (cQ ks bs o.src o.body) o).2.2 e w'\/Stop Qok e w'
structure Dk where
 st:St
 L:Lg
 al:List js
def Dk.toks (d:Dk):List ByteArray:=d.al.map (·.tok)
def bE (d:Dk)(o:OpD):Dk:=⟨(stepA d.st d.L d.toks o).1,(stepA d.st d.L d.toks o).2.1,d.al++[(stepA d.st d.L d.toks o).2.2]⟩
def dk0:Dk:=⟨st0,⟨[],0,[],0⟩,[]⟩
theorem B3 (ops:List OpD):∀d:Dk,(ops.foldl bE d).al.length=d.al.length+ops.length:=by
 induction ops with
 |nil=>intro d;rfl
 |cons o r ih=>intro d;rw [List.foldl_cons,ih];simp [bE];omega
structure Hl (Qok:Qy->Prop)(d:Dk)(s:Nat):Prop where
 i:Inv d.st s
 t:dY d.st
 l:oQ Qok d.L s
 n:d.al.length=s
theorem Hy (Qok:Qy->Prop):Hl Qok dk0 0:=⟨inv0,Dz,⟨by simp [dk0],by simp [dk0],by simp [dk0],by simp [dk0],by simp [dk0,eN]⟩,rfl⟩
def Dk.bods (d:Dk):List ByteArray:=d.al.map (·.body)
def iz (a:List OpD)(d:Dk)(o:OpD):St×Lg×js:=kI d.st d.L d.toks (cQ (a.map (·.kind)) d.bods o.src o.body) o
def gL (a:List OpD)(d:Dk)(o:OpD):Dk:=⟨(iz a d o).1,(iz a d o).2.1,d.al++[(iz a d o).2.2]⟩
def jt (ops:List OpD)(x:List OpD×Dk):List OpD×Dk:=ops.foldl (fun x o=>(x.1++[o],gL x.1 x.2 o)) x
def bP (ops:List OpD):Dk:=(jt ops ([],dk0)).2
theorem B4 (ops:List OpD):∀x,(jt ops x).1=x.1++ops:=by
 induction ops with
 |nil=>intro x;simp [jt]
 |cons o r ih=>intro x;show (jt r _).1=_;rw [ih];simp
theorem mG (a b:List OpD)(x:List OpD×Dk):jt (a++b) x=jt b (jt a x):=by simp [jt]
theorem dW (a:List OpD)(o:OpD):bP (a++[o])=gL a (bP a) o:=by
 rw [bP,mG];show gL (jt a ([],dk0)).1 _ o=_;rw [B4];rfl
theorem B5 (ops:List OpD):∀x,(jt ops x).2.al.length=x.2.al.length+ops.length:=by
 induction ops with
 |nil=>intro x;rfl
 |cons o r ih=>intro x;show (jt r _).2.al.length=_;rw [ih];simp [gL];omega
theorem eD (ops:List OpD):(bP ops).al.length=ops.length:=by rw [bP,B5];simp [dk0]
theorem xJ {a:List OpD}{d:Dk}{o:OpD}(h:o.kind≠12):gL a d o=bE d o:=by simp only [gL,iz,kI,if_neg h,bE]
structure EI (Qok:Qy->Prop)(d:Dk)(s:Nat):Prop extends Hl Qok d s where
 small:∀b∈d.bods,b.size<=maxLen
theorem B6 {st:St}{L:Lg}{s:Nat}{Qok:Qy->Prop}(b:ByteArray)(d:Inv st s)(f:dY st)(a:oQ Qok L s):Inv (cF st L b).1 (s+1)/\dY (cF st L b).1/\oQ Qok (cF st L b).2.1 (s+1)/\(cF st L b).2.2.body=⟨#[]⟩:=by
 unfold cF;cases h:eJ b with
 |none=>exact ⟨d.mono (by omega),f,a.mono (by omega),rfl⟩
 |some x=>
  obtain ⟨h1,h2⟩:=BY h;have hb:=a.begun;exact ⟨h1.mono (by omega),h2,⟨by simp,by simp,by simp,⟨hb.1,by simp only;omega⟩,fun c n pg e=>by have:=a.told c n pg e;omega⟩,rfl⟩
theorem wh {st:St}{L:Lg}(b:dY st)(a:List ByteArray)(o:OpD):(stepA st L a o).2.2.body.size<=maxLen:=by
 have h0:(⟨#[]⟩:ByteArray).size<=maxLen:=Nat.zero_le _;have hv:∀k,∀v∈st.f k,v.body.size<=maxLen:=fun k v hv=>lT (b.body k v hv) (by simp only [maxLen];decide)
 unfold stepA
 repeat' split
 all_goals first
  |exact h0
  |exact pW b _
  |skip
 unfold bf;simp only
 repeat' split
 all_goals first
  |exact h0
  |(rename_i e _;exact hv _ _ (List.mem_of_getLast? e))
  |(rename_i e _;exact hv _ _ (List.mem_of_getElem? e))
theorem EI.step {Qok:Qy->Prop}{d:Dk}{s:Nat}{a:List OpD}(h:EI Qok d s)(o:OpD)(hk:oG Qok o)(hp:o.key.size<=maxLen):EI Qok (gL a d o) (s+1):=by
 by_cases c:o.kind=12
 .obtain ⟨h1,h2,h3,h4⟩:=B6 (cQ (a.map (·.kind)) d.bods o.src o.body) h.i h.t h.l;have e:iz a d o=cF d.st d.L (cQ (a.map (·.kind)) d.bods o.src o.body):=by simp only [iz,kI,if_pos c]
  refine ⟨⟨by rw [gL,e];exact h1,by rw [gL,e];exact h2,by rw [gL,e];exact h3,by simp [gL,h.n]⟩,fun b hb=>?_⟩;simp only [Dk.bods,gL,List.map_append,List.mem_append,List.map_cons,List.map_nil,List.mem_singleton] at hb;rcases hb with hb|rfl
  .exact h.small b hb
  .rw [e,h4];exact Nat.zero_le _
 .rw [xJ c];refine ⟨⟨h.i.stepA _ o,h.t.stepA _ o,h.l.step h.t _ o hk hp,by simp [bE,h.n]⟩,fun b hb=>?_⟩;simp only [Dk.bods,bE,List.map_append,List.mem_append,List.map_cons,List.map_nil,List.mem_singleton] at hb;rcases hb with hb|rfl
  .exact h.small b hb
  .exact wh h.t _ o
theorem kJ {Qok:Qy->Prop}(ops:List OpD)(hk:∀o∈ops,oG Qok o/\o.key.size<=maxLen):EI Qok (bP ops) ops.length:=by
 have:∀ (ops:List OpD) (x:List OpD×Dk) (s:Nat),(∀o∈ops,oG Qok o/\o.key.size<=maxLen)->EI Qok x.2 s->EI Qok (jt ops x).2 (s+ops.length):=fun ops=>by
  induction ops with
  |nil=>intro x s _ h;exact h
  |cons o r ih=>
   intro x s hk h;have:=ih (x.1++[o],gL x.1 x.2 o) (s+1) (fun y hy=>hk y (by simp [hy])) (h.step o (hk o (by simp)).1 (hk o (by simp)).2);rw [List.length_cons,show s+(r.length+1)=s+1+r.length by omega];exact this
 have:=this ops ([],dk0) 0 hk ⟨Hy Qok,by simp [Dk.bods,dk0]⟩
 rwa [zA] at this
def cJ (zs:List (js×Wq)):List Wq:=zs.flatMap fun z=>[.int .i64 z.1.code,.int .i64 z.1.ver,.string z.1.body,z.2,.string z.1.tok]
theorem pY (zs:List (js×Wq)):(cJ zs).length=zs.length * 5:=eZ 5 _ (fun _=>rfl) zs
theorem wi (zs:List (js×Wq))(z:js×Wq):cJ (zs++[z])=cJ zs++[.int .i64 z.1.code,.int .i64 z.1.ver,.string z.1.body,z.2,.string z.1.tok]:=by simp [cJ]
theorem kK:∀ (zs:List (js×Wq))(i:Nat)(hi:i<zs.length),(cJ zs)[i * 5]?=some (.int .i64 zs[i].1.code)/\(cJ zs)[i * 5+1]?=some (.int .i64 zs[i].1.ver)/\(cJ zs)[i * 5+2]?=some (.string zs[i].1.body)/\(cJ zs)[i * 5+3]?=some zs[i].2/\(cJ zs)[i * 5+4]?=some (.string zs[i].1.tok)
 | [],i,hi=>by simp at hi
 |z::zs,0,hi=>by simp [cJ]
 |z::zs,i+1,hi=>by
  have ih:=kK zs i (by simpa using hi);have e:cJ (z::zs)=[.int .i64 z.1.code,.int .i64 z.1.ver,.string z.1.body,z.2,.string z.1.tok]++cJ zs:=by simp [cJ]
  have a:∀j,(cJ (z::zs))[(i+1) * 5+j]?=(cJ zs)[i * 5+j]?:=fun j=>by
   rw [e,aR (by simp;omega)];congr 1;simp;omega
  simp only [List.getElem_cons_succ];exact ⟨(a 0).trans ih.1,(a 1).trans ih.2.1,(a 2).trans ih.2.2.1,(a 3).trans ih.2.2.2.1,(a 4).trans ih.2.2.2.2⟩
def EJ (A:Nat->Prop)(w:Wz)(zs:List (js×Wq)):Prop:=∀z∈zs,bG A w z.2 z.1.items.length (ax z.1.items)
def kL (ops:List OpD)(w:Wz)(e:Ending)(w':Wz):Prop:=
 ∃ (A:Nat->Prop) (zs:List (js×Wq)),e=.returned (.slice (some ⟨w.heap.size,0,none⟩) ops.length ops.length)/\zs.map (·.1)=(bP ops).al/\w'.ownsRow w.heap.size 36 5 (.slice (some ⟨w.heap.size,0,none⟩) ops.length ops.length) ops.length (cJ zs)/\EJ A w' zs/\(∀b,A b->w.heap.size<b)/\am w w'
section
variable {A:Nat->Prop} {B k0:Nat} {w w':Wz} {st:St} {L:Lg}
theorem aI.apart {g0:Nat}(h:aI A B w k0 st L)(hsz:w.heap.size<=w'.heap.size)(hne:∀b,b<w.heap.size->b≠k0->b≠g0->w'.heap[b]?=w.heap[b]?)(hA:¬A g0)(hgB:g0<B)(hc:∀j,j<7->w'.cell? ⟨k0,j,none⟩=w.cell? ⟨k0,j,none⟩)(hf:∀j,w'.frozen? ⟨k0,j,none⟩=w.frozen? ⟨k0,j,none⟩):aI A B w' k0 st L:=by
 have hAk:=h.ls.avoid;have hlow:=h.ls.low;have c:∀n p f,ai A n w p f->ai A n w' p f:=fun n p f hn=>ai.keep (fun b hb hlt=>⟨hb,hne b hlt (fun e=>hAk (e▸hb)) (fun e=>hA (e▸hb))⟩) n p f hn
 have c3:=h.time;obtain ⟨p,c0,hp⟩:=h.store.tree;obtain ⟨v,c4,zs,z1,z2,z3,z4⟩:=h.ls.opened;obtain ⟨i,c6,hm⟩:=h.ls.told;refine ⟨⟨h.store.avoid,⟨p,(hc 0 (by omega)).trans c0,c _ _ _ hp⟩,(hc 1 (by omega)).trans h.store.count,(hc 2 (by omega)).trans h.store.last,fun j=>(hf j).trans (h.store.frozen j)⟩,⟨⟨v,(hc 4 (by omega)).trans c4,zs,z1,aZ z2 fun g h1 hg=>hne g hg (by omega) (by omega),z3,fun z hz=>c _ _ _ (z4 z hz)⟩,(hc 5 (by omega)).trans h.ls.begun,⟨i,(hc 6 (by omega)).trans c6,?_⟩,fun j=>(hf j).trans (h.ls.frozen j),h.ls.avoid,h.ls.low,fun b hb=>by have:=h.ls.inn b hb;omega⟩,(hc 3 (by omega)).trans c3⟩;rcases hm with hm|⟨m,es,a,m1,m2,m3,k,d⟩
 .exact .inl hm
 .have hml:=(eS m2).1;exact .inr ⟨m,es,a,m1,(hne m hml (by omega) (by omega)).trans m2,m3,k,d⟩
theorem B7 {a c8:Wq}{T:Wk}:aI (fun _=>False) (w.heap.size+1) (w.alloc (.cells #[.pointer none,.int .i64 0,.int .i64 0,.int .u64 0,.slice none 0 0,.int .i64 0,.map none,a,c8] T)) w.heap.size st0 ⟨[],0,[],0⟩:=by
 have hd:∀j,(w.alloc (.cells #[.pointer none,.int .i64 0,.int .i64 0,.int .u64 0,.slice none 0 0,.int .i64 0,.map none,a,c8] T)).cell? ⟨w.heap.size,j,none⟩=(#[.pointer none,.int .i64 0,.int .i64 0,.int .u64 0,.slice none 0 0,.int .i64 0,.map none,a,c8]:Array Wq)[j]?:=fun j=>cA (w:=w) _ _ w.heap.size j rfl
 have hf:∀j,(w.alloc (.cells #[.pointer none,.int .i64 0,.int .i64 0,.int .u64 0,.slice none 0 0,.int .i64 0,.map none,a,c8] T)).frozen? ⟨w.heap.size,j,none⟩=false:=fun j=>World.frozen?_alloc_at (w:=w) _ _ w.heap.size j rfl
 refine ⟨⟨fun _ h=>h.elim,⟨none,hd 0,ai.nil (fun _=>rfl)⟩,hd 1,hd 2,hf⟩,⟨⟨_,hd 4,[],rfl,⟨by simp [aT],.inl ⟨rfl,rfl⟩⟩,fun g h=>by simp [Value.ownBlock] at h,fun z hz=>by simp at hz⟩,hd 5,⟨_,hd 6,.inl ⟨rfl,rfl⟩⟩,hf,fun h=>h,by omega,fun _ h=>h.elim⟩,hd 3⟩
theorem Gc {zs:List (js×Wq)}{a:List js}(hz:zs.map (·.1)=a){base n cap g:Nat}{T:Wk}(h:w.ownsRow base T 5 (.slice (some ⟨g,0,none⟩) n cap) n (cJ zs)):∀i (hi:i<(a.map (·.body)).length),w.cell? ⟨g,i * 5+2,none⟩=some (.string (a.map (·.body))[i]):=by
 subst hz;intro i hi;have b:i<zs.length:=by simpa using hi
 have:=(kK zs i b).2.2.1;rw [h.cellAt _ (by have:=h.1;rw [pY] at this;omega)];simpa using this
theorem Gd {zs:List (js×Wq)}{a:List js}(hz:zs.map (·.1)=a){base n cap g:Nat}{T:Wk}(h:w.ownsRow base T 5 (.slice (some ⟨g,0,none⟩) n cap) n (cJ zs)):∀i (hi:i<(a.map (·.tok)).length),w.cell? ⟨g,i * 5+4,none⟩=some (.string (a.map (·.tok))[i]):=by
 subst hz;intro i hi;have b:i<zs.length:=by simpa using hi
 have:=(kK zs i b).2.2.2.2;rw [h.cellAt _ (by have:=h.1;rw [pY] at this;omega)];simpa using this
end
theorem zI {A:Nat->Prop}{B k0:Nat}{w w':Wz}(h:em A B k0 w w'){base n cap g:Nat}{T:Wk}{xs:List Wq}(ho:w.ownsRow base T 5 (.slice (some ⟨g,0,none⟩) n cap) n xs)(b:g<B)(hk:g≠k0):w'.ownsRow base T 5 (.slice (some ⟨g,0,none⟩) n cap) n xs:=
 eO ho fun g' a=>by
  simp [Value.ownBlock] at a;subst a;exact h.low _ b (ho.lt _ rfl).2 hk
structure Cr (Qok:Qy->Prop)(ops:List OpD)(sc:Wq)(n k0:Nat)(w wr:Wz)(i:Nat)(A:Nat->Prop)(zs:List (js×Wq)):Prop where
 desk:aI A (k0+1) wr k0 (bP (ops.take i)).st (bP (ops.take i)).L
 above:∀b,A b->w.heap.size<b
 c7:wr.cell? ⟨k0,7,none⟩=some sc
 c8:wr.cell? ⟨k0,8,none⟩=some (.slice (some ⟨w.heap.size,0,none⟩) i n)
 own:wr.ownsRow w.heap.size 36 5 (.slice (some ⟨w.heap.size,0,none⟩) i n) i (cJ zs)
 al:zs.map (·.1)=(bP (ops.take i)).al
 rows:EJ A wr zs
 left:am w wr
 k0:w.heap.size<k0
theorem Cr.leftD {Qok:Qy->Prop}{ops:List OpD}{sc:Wq}{n k0 i:Nat}{w wr W1 w':Wz}{A:Nat->Prop}{zs:List (js×Wq)}(h:Cr Qok ops sc n k0 w wr i A zs)(hl:am wr W1)(hd:aJ A (k0+1) k0 W1 w'):am w w':=by
 have h0:=h.left;have hk:=h.k0;have hs:=h0.size;have hs1:=hl.size;refine ⟨hd.os.trans (hl.os.trans h0.os),by have:=hd.size;omega,fun b hb=>?_⟩;rw [hd.low b (by omega) (by omega) (by omega),hl.block b (by omega),h0.block b hb]
theorem Cr.next {Qok:Qy->Prop}{ops:List OpD}{sc:Wq}{n k0 i:Nat}{w wr W1 w2 w3:Wz}{A:Nat->Prop}{zs:List (js×Wq)}(h:Cr Qok ops sc n k0 w wr i A zs)(hi:i<ops.length)(hl:am wr W1){sv:Wq}{X:Obj}(hp:bi A (k0+1) k0 W1 (iz (ops.take i) (bP (ops.take i)) ops[i]).1 (iz (ops.take i) (bP (ops.take i)) ops[i]).2.1 (iz (ops.take i) (bP (ops.take i)) ops[i]).2.2 (.returned (ji (iz (ops.take i) (bP (ops.take i)) ops[i]).2.2 sv)) w2)
  (ho:w3.ownsRow w.heap.size 36 5 (.slice (some ⟨w.heap.size,0,none⟩) (i+1) n) (i+1) (cJ (zs++[((iz (ops.take i) (bP (ops.take i)) ops[i]).2.2,sv)]))) (hg:(w2.alloc X).grownBy w3 (some w.heap.size)) (hfz:w3.cell? ⟨k0,8,none⟩=some (.slice (some ⟨w.heap.size,0,none⟩) i n)):
  ∃A',Cr Qok ops sc n k0 w (w3.setCell ⟨k0,8,none⟩ (.slice (some ⟨w.heap.size,0,none⟩) (i+1) n)) (i+1) A' (zs++[((iz (ops.take i) (bP (ops.take i)) ops[i]).2.2,sv)]):=by
 obtain ⟨o,he,A',r,a2,hd,hw,k⟩:=hp;have p:o=sv:=by
  simp [ji] at he;exact he.symm
 subst p;have htk:ops.take (i+1)=ops.take i++[ops[i]]:=tS hi;have l:bP (ops.take (i+1))=gL (ops.take i) (bP (ops.take i)) ops[i]:=by rw [htk,dW]
 have hk:=h.k0;have hs0:=h.left.size;have hs1:=hl.size;have hs2:=hw.size;have hs3:=hg.size;simp at hs3;have hne:∀b,b<w2.heap.size->b≠k0->b≠w.heap.size->(w3.setCell ⟨k0,8,none⟩ (.slice (some ⟨w.heap.size,0,none⟩) (i+1) n)).heap[b]?=w2.heap[b]?:=fun b hb h1 h2=>by
  rw [bS _ _ _ _ h1,hg.block b (by simp;omega) (fun e=>h2 (oJ e)),bA _ _ _ hb]
 have hlk:k0<w2.heap.size:=hd.ls.lt;have hk3:w3.heap[k0]?=w2.heap[k0]?:=by
  rw [hg.block k0 (by simp;omega) (fun e=>by have:=oJ e;omega),bA _ _ _ hlk]
 have d:∀b,A' b->w.heap.size<b:=fun b hb=>by
  rcases a2 b hb with h1|h1
  .exact h.above b h1
  .have:=h.desk.ls.lt;omega
 have hc:∀j,j≠8->(w3.setCell ⟨k0,8,none⟩ (.slice (some ⟨w.heap.size,0,none⟩) (i+1) n)).cell? ⟨k0,j,none⟩=w2.cell? ⟨k0,j,none⟩:=fun j q=>by
  rw [cO _ _ _ _ (aW (fun e=>q e.symm))];exact cB (a:=⟨k0,j,none⟩) hk3
 have hf:∀j,(w3.setCell ⟨k0,8,none⟩ (.slice (some ⟨w.heap.size,0,none⟩) (i+1) n)).frozen? ⟨k0,j,none⟩=w2.frozen? ⟨k0,j,none⟩:=fun j=>by
  rw [World.frozen?_setCell];exact fB (a:=⟨k0,j,none⟩) hk3
 refine ⟨A',?_,d,(hc 7 (by omega)).trans ((hw.cells 7 (by omega)).trans (hl.cell h.c7)),cS _ _ _ (by rw [hfz];rfl),?_,?_,?_,?_,h.k0⟩
 .rw [l];show aI A' (k0+1) _ k0 (iz _ _ _).1 (iz _ _ _).2.1;exact hd.apart (g0:=w.heap.size) (by simp;omega) hne (fun hx=>by have:=d _ hx;omega) (by omega) (fun j q=>hc j (by omega)) hf
 .exact eO ho fun g f=>by
   simp [Value.ownBlock] at f;subst f;exact bS _ _ _ _ (by show w.heap.size≠k0;omega)
 .rw [l,List.map_append,h.al];rfl
 .intro z hz;have c:∀ {v:Wq} {m:Nat} {xs:List Wq},bG A' w2 v m xs->bG A' (w3.setCell ⟨k0,8,none⟩ (.slice (some ⟨w.heap.size,0,none⟩) (i+1) n)) v m xs:=fun hr=>bG.keep hr fun b hb hlt=>⟨hb,hne b hlt (fun e=>hd.ls.avoid (e▸hb)) (fun e=>by have:=d b hb;omega)⟩
  rcases List.mem_append.1 hz with hz|hz
  .refine c (bG.keep (h.rows z hz) fun b hb hlt=>⟨r b hb,?_⟩);rw [hw.tree b hb (by omega),hl.block b hlt]
  .simp only [List.mem_singleton] at hz;subst hz;exact c k
 .refine ⟨?_,by simp;omega,fun b hb=>?_⟩
  .show w3.os=w.os;rw [hg.os];exact hw.os.trans (hl.os.trans h.left.os)
  .have hkk:=h.desk.ls.lt;rw [hne b (by omega) (by omega) (by omega),hw.low b (by omega) (by omega) (by omega),hl.block b (by omega),h.left.block b hb]
theorem B8 (Qok:Qy->Prop)(K:OpD->Prop)(G:Wz->Prop)(N:Nat)(O:uj Qok K G N)(b off cap:Nat)(ops:List OpD)(w:Wz)(hG:∀w',am w w'->G w')(hS:rj w b off ops)(hz:Sized ops)(hn:ops.length<=N)(hN:N<2199023255300)(Z:∀o∈ops,oG Qok o)(hkk:∀o∈ops,K o):
  Calls Yq.prog 18 #[.slice (some ⟨b,off,none⟩) ops.length cap] w fun e w'=>kL ops w e w'\/Stop Qok e w':=by
 obtain ⟨i0,ap,bo,af,bb⟩:=info_parts Yq.infoAns;have L:Hid (rj w b off ops/\Sized ops):=⟨hS,hz⟩;have T:Hid (∀o∈ops,oG Qok o):=Z;have a7:Hid (uj Qok K G N):=O;have bx:Hid (∀w',am w w'->G w'):=hG;have bp:Hid (∀o∈ops,K o):=hkk;have b0:Hid (∀e w',kL ops w e w'↔kL ops w e w'):=fun _ _=>Iff.rfl
 obtain ⟨P,hP⟩:∃P:Ending->Wz->Prop,P=fun e w'=>kL ops w e w'\/Stop Qok e w':=⟨_,rfl⟩
 have bd:Hid (∀e w',kL ops w e w'->P e w'):=fun e w' h=>by rw [hP];exact .inl h
 have HP2:Hid (∀e w',Stop Qok e w'->P e w'):=fun e w' h=>by rw [hP];exact .inr h
 rw [<-hP];obtain ⟨n,S⟩:∃n,ops.length=n:=⟨_,rfl⟩;have HN:Hid (ops.length=n):=S;rw [S] at hn ⊢;clear hS hz S Z O hP b0 hkk hG;go_enter (Yq.nq Tryz.func18),Tryz.ntmps18;go_wp2_with (at_make;refine wpList_make_own _ rfl _ _ 27 rfl w.heap.size 36 i0 _ 5 (Yq.u Tryz.underlying27) ap bo af _ _ _ n rfl rfl (by omega) ?qb1 ?qb2 ?qb3 ?_)
 case qb1=>rw [bb];omega
 case qb2=>simp only [maxLen];omega
 case qb3=>simp
 intro w1 C f;have ab:w.heap.size<w1.heap.size:=(C.lt w.heap.size rfl).2;have b1:Below w.heap.size w w1:=⟨f.os,f.tape,f.output,f.size,fun k hk=>f.block k hk (by simp)⟩;go_wp2_with fail
 obtain ⟨W0,R⟩:∃W0,W0=w1.alloc (.cells #[.pointer none,.int .i64 0,.int .i64 0,.int .u64 0,.slice none 0 0,.int .i64 0,.map none,.slice (some ⟨b,off,none⟩) n cap,.slice (some ⟨w.heap.size,0,none⟩) 0 n] 65):=⟨_,rfl⟩;have V:Hid (Cr Qok ops (.slice (some ⟨b,off,none⟩) n cap) n w1.heap.size w W0 0 (fun _=>False) []):=by
  rw [R];exact ⟨B7,fun _ h=>h.elim,by rw [fU];rfl,by rw [fU];rfl,C.alloc _,rfl,fun z hz=>by simp at hz,(am.below b1).alloc _,ab⟩
 rw [<-R];generalize w1.heap.size=k0 at *;clear b1 C f R
 go_loopw [5,13] (fun _ s12 wr=>∃ (i:Nat) (A:Nat->Prop) (zs:List (js×Wq)),i<=n/\s12=.int .i64 i/\Cr Qok ops (.slice (some ⟨b,off,none⟩) n cap) n k0 w wr i A zs) (fun _ s12 _=>n-(intOf s12).toNat)
 case atStart=>exact ⟨0,fun _=>False,[],Nat.zero_le _,rfl,V.out⟩
 case round=>
  obtain ⟨i,A,zs,hin,rfl,a0⟩:=hrel;have HR:Hid (Cr Qok ops (.slice (some ⟨b,off,none⟩) n cap) n k0 w wr i A zs):=a0;clear a0 V;by_cases hlt:i<n
  .have E:i<ops.length:=by rw [HN.out];exact hlt
   have hb:=HR.out.left;obtain ⟨c0,c1,c2,c3,c4,c5,c6⟩:=L.out.1 i E;replace c0:=hb.cell c0;replace c1:=hb.cell c1;replace c2:=hb.cell c2;replace c3:=hb.cell c3;replace c4:=hb.cell c4;replace c5:=hb.cell c5;replace c6:=hb.cell c6;obtain ⟨I,M⟩:=L.out.2 ops[i] (List.getElem_mem E);have hk1:=T.out ops[i] (List.getElem_mem E);have hk2:=bp.out ops[i] (List.getElem_mem E);have B:EI Qok (bP (ops.take i)) i:=by
    have:=kJ (Qok:=Qok) (ops.take i) (fun o ho=>⟨T.out o (List.mem_of_mem_take ho),(L.out.2 o (List.mem_of_mem_take ho)).1⟩)
    rwa [tL,Nat.min_eq_left (by omega)] at this
   have F:∀ (W1 w2 w3:Wz) (sv:Wq) (X:Obj),am wr W1->bi A (k0+1) k0 W1 (iz (ops.take i) (bP (ops.take i)) ops[i]).1 (iz (ops.take i) (bP (ops.take i)) ops[i]).2.1 (iz (ops.take i) (bP (ops.take i)) ops[i]).2.2 (.returned (ji (iz (ops.take i) (bP (ops.take i)) ops[i]).2.2 sv)) w2->w3.ownsRow w.heap.size 36 5 (.slice (some ⟨w.heap.size,0,none⟩) (i+1) n) (i+1) (cJ (zs++[((iz (ops.take i) (bP (ops.take i)) ops[i]).2.2,sv)]))->(w2.alloc X).grownBy w3 (some w.heap.size)->w3.cell? ⟨k0,8,none⟩=some (.slice (some ⟨w.heap.size,0,none⟩) i n)->∃A' zs',Cr Qok ops (.slice (some ⟨b,off,none⟩) n cap) n k0 w (w3.setCell ⟨k0,8,none⟩ (.slice (some ⟨w.heap.size,0,none⟩) (i+1) n)) (i+1) A' zs':=
    fun W1 w2 w3 sv X hl hp ho hg hc=>by
     obtain ⟨A',h⟩:=HR.out.next E hl hp ho hg hc
     exact ⟨A',_,h⟩
   obtain ⟨o,ho⟩:∃o,o=ops[i]:=⟨_,rfl⟩;rw [<-ho] at F c0 c1 c2 c3 c4 c5 c6 I M hk1 hk2;obtain ⟨p,key,body,d,m,H,src⟩:=o;simp only at c0 c1 c2 c3 c4 c5 c6 I M;obtain ⟨W1,hW1⟩:∃W1,W1=wr.alloc (.cells #[.int .i64 p,.string key,.string body,.string d,.string m,.int .i64 H,.int .i64 src] 31):=⟨_,rfl⟩;have s:am wr W1.drew:=by rw [hW1];exact (am.refl.alloc _).drew
   have hkl:k0<wr.heap.size:=HR.out.desk.ls.lt;have a8:W1.drew.cell? ⟨k0,8,none⟩=some (.slice (some ⟨w.heap.size,0,none⟩) i n):=s.cell HR.out.c8;have bk:EH W1.drew k0 w.heap.size i ((ops.take i).map (·.kind)) (bP (ops.take i)).bods:=by
    refine ⟨by simp;omega,by rw [Dk.bods,lM];exact B.n,B.small,⟨b,off,n,cap,s.cell HR.out.c7,by omega,fun j U=>?_⟩,fun j U=>s.cell (Gc HR.out.al HR.out.own j U)⟩;have hj':j<ops.length:=by simp at U;omega
    have:=(HR.out.left.trans s).cell (L.out.1 j hj').1;simpa using this
   have HAN:=a7.out (HR.out.desk.left s) (by have:=s.size;omega) (fun w' hd=>bx.out w' (HR.out.leftD s hd)) ⟨p,key,body,d,m,H,src⟩ hk2 hk1 I M B.i B.t B.l (by omega) w.heap.size n (bP (ops.take i)).toks (by rw [Dk.toks,lM];exact B.n) a8 (fun j U=>s.cell (Gd HR.out.al HR.out.own j U)) ((ops.take i).map (·.kind)) (bP (ops.take i)).bods bk;change Calls _ _ _ _ (fun e w'=>bi A (k0+1) k0 W1.drew (iz (ops.take i) (bP (ops.take i)) ⟨p,key,body,d,m,H,src⟩).1 (iz (ops.take i) (bP (ops.take i)) ⟨p,key,body,d,m,H,src⟩).2.1 (iz (ops.take i) (bP (ops.take i)) ⟨p,key,body,d,m,H,src⟩).2.2 e w'\/Stop Qok e w') at HAN;generalize iz (ops.take i) (bP (ops.take i)) ⟨p,key,body,d,m,H,src⟩=sr at HAN F;obtain ⟨J,L',ad⟩:=sr;obtain ⟨code,ver,c,its,q⟩:=ad;simp only [cE] at HAN F;have a9:Hid (∀ (w2 w3:Wz) (sv:Wq) (X:Obj),bi A (k0+1) k0 W1.drew J L' ⟨code,ver,c,its,q⟩ (.returned (ji ⟨code,ver,c,its,q⟩ sv)) w2->w3.ownsRow w.heap.size 36 5 (.slice (some ⟨w.heap.size,0,none⟩) (i+1) n) (i+1) (cJ zs++[.int .i64 code,.int .i64 ver,.string c,sv,.string q])->(w2.alloc X).grownBy w3 (some w.heap.size)->w3.cell? ⟨k0,8,none⟩=some (.slice (some ⟨w.heap.size,0,none⟩) i n)->∃A' zs',Cr Qok ops (.slice (some ⟨b,off,none⟩) n cap) n k0 w (w3.setCell ⟨k0,8,none⟩ (.slice (some ⟨w.heap.size,0,none⟩) (i+1) n)) (i+1) A' zs'):=
    fun w2 w3 sv X hp ho hg hc=>F _ w2 w3 sv X s hp (by rw [wi];exact ho) hg hc
   have be:Hid (Calls Yq.prog 33 #[.pointer (some ⟨k0,0,none⟩),.agg #[.int .i64 p,.string key,.string body,.string d,.string m,.int .i64 H,.int .i64 src]] W1.drew fun e w'=>(∃v,e=.returned v/\∃so Q sc,v=.agg #[.int .i64 code,.int .i64 ver,.string c,.slice so Q sc,.string q]/\bi A (k0+1) k0 W1.drew J L' ⟨code,ver,c,its,q⟩ (.returned (ji ⟨code,ver,c,its,q⟩ (.slice so Q sc))) w')\/∃ch,e=.panicked ch/\Stop Qok (.panicked ch) w'):=
    HAN.mono fun e w' h=>by
     rcases h with ⟨sv,rfl,A',a1,a2,a3,a4,a5⟩|hst
     .obtain ⟨so,sc,rfl,a6⟩:=a5;exact .inl ⟨_,rfl,so,_,sc,rfl,_,rfl,A',a1,a2,a3,a4,so,sc,rfl,a6⟩
     .obtain ⟨x,y,r,rfl,hst⟩:=hst;exact .inr ⟨_,rfl,x,y,r,rfl,hst⟩
   have b3:Hid (∀w2 sv,bi A (k0+1) k0 W1.drew J L' ⟨code,ver,c,its,q⟩ (.returned (ji ⟨code,ver,c,its,q⟩ sv)) w2->w2.cell? ⟨k0,8,none⟩=some (.slice (some ⟨w.heap.size,0,none⟩) i n)/\(∀X:Obj,(w2.alloc X).ownsRow w.heap.size 36 5 (.slice (some ⟨w.heap.size,0,none⟩) i n) i (cJ zs))/\∀ (w3:Wz) (X:Obj),(w2.alloc X).grownBy w3 (some w.heap.size)->w3.cell? ⟨k0,8,none⟩=some (.slice (some ⟨w.heap.size,0,none⟩) i n)/\w3.frozen? ⟨k0,8,none⟩=false):=fun w2 sv hp=>by
    obtain ⟨_,-,A',-,-,hd,hw,-⟩:=hp;have hk0:=HR.out.k0;have e2:w2.cell? ⟨k0,8,none⟩=some (.slice (some ⟨w.heap.size,0,none⟩) i n):=(hw.cells 8 (by omega)).trans a8;have hlt2:=hd.ls.lt;refine ⟨e2,fun X=>(zI hw (aZ HR.out.own fun g _ hg=>s.block g hg) (by omega) (by omega)).alloc X,fun w3 X D=>?_⟩;have hk3:w3.heap[k0]?=w2.heap[k0]?:=by
     rw [D.block k0 (by simp;omega) (fun e=>by have:=oJ e;omega),bA _ _ _ hlt2]
    exact ⟨(cB (a:=⟨k0,8,none⟩) hk3).trans e2,(fB (a:=⟨k0,8,none⟩) hk3).trans (hd.ls.frozen 8)⟩
   have bv:Hid (W1=wr.alloc (.cells #[.int .i64 p,.string key,.string body,.string d,.string m,.int .i64 H,.int .i64 src] 31)):=hW1;have W1c:∀j,W1.drew.cell? ⟨wr.heap.size,j,none⟩=(#[.int .i64 p,.string key,.string body,.string d,.string m,.int .i64 H,.int .i64 src]:Array Wq)[j]?:=fun j=>by rw [hW1];exact fU wr _ _ j
   have q0:=W1c 0;have q1:=W1c 1;have q2:=W1c 2;have q3:=W1c 3;have q4:=W1c 4;have q5:=W1c 5;have q6:=W1c 6;have bq:Hid (∀ (args:Array Wq) (wx:Wz),(callFunc 33 args).run Yq.prog wx=.ok (.enter 33 args) wx):=fun args wx=>by go_simp
   have k8n:=HR.out.c8;clear W1c hW1 hb B F HAN hk1 hk2 I M ho s;simp only [gA,gZ,gS] at q0 q1 q2 q3 q4 q5 q6
   go_upto_region 5 with fail
   rw [<-bv.out]
   go_region_law (first
    |(refine bW rfl 33 #[.tmp 3,.tmp 19] #[65,31] rfl #[.pointer (some ⟨k0,0,none⟩),.agg #[.int .i64 p,.string key,.string body,.string d,.string m,.int .i64 H,.int .i64 src]] (by simp [Act.eval]) (bq.out _ _) _ _ be.out (by intro ch w' hs;exact ⟨rfl,HP2.out _ _ hs⟩) ?_;rintro v w2 ⟨so,Q,sc,rfl,hp⟩;obtain ⟨bw,o8,f8⟩:=b3.out w2 _ hp;have k8d:(w2.alloc (.cells #[.int .i64 code,.int .i64 ver,.string c,.slice so Q sc,.string q] 36)).cell? ⟨k0,8,none⟩=some (.slice (some ⟨w.heap.size,0,none⟩) i n):=ak bw _;have bs:Hid (bi A (k0+1) k0 W1.drew J L' ⟨code,ver,c,its,q⟩ (.returned (ji ⟨code,ver,c,its,q⟩ (.slice so Q sc))) w2):=hp;have b2:Hid (∀X:Obj,(w2.alloc X).ownsRow w.heap.size 36 5 (.slice (some ⟨w.heap.size,0,none⟩) i n) i (cJ zs)):=o8;have bl:Hid (∀ (w3:Wz) (X:Obj),(w2.alloc X).grownBy w3 (some w.heap.size)->w3.cell? ⟨k0,8,none⟩=some (.slice (some ⟨w.heap.size,0,none⟩) i n)/\w3.frozen? ⟨k0,8,none⟩=false):=f8;clear hp o8 f8)
    |(refine mU rfl (.tmp 18) (.tmp 21) 27 rfl w.heap.size 36 i0 5 (Yq.u Tryz.underlying27) ap af w.heap.size i n (cJ zs) (by simp [Act.eval]) (b2.out _) ⟨w2.heap.size,0,none⟩ 1 1 [.int .i64 code,.int .i64 ver,.string c,.slice so Q sc,.string q] (by simp [Act.eval]) rfl (zr _ _ _ _ _ _ _) (by intro u hu;simp at hu;rcases hu with rfl|rfl|rfl|rfl|rfl<;>rfl) (by omega) ?_;intro w3 Y D;obtain ⟨bn,f8c⟩:=bl.out _ _ D;have ar:Hid (w3.ownsRow w.heap.size 36 5 (.slice (some ⟨w.heap.size,0,none⟩) (i+1) n) (i+1) (cJ zs++[.int .i64 code,.int .i64 ver,.string c,.slice so Q sc,.string q])/\(w2.alloc (.cells #[.int .i64 code,.int .i64 ver,.string c,.slice so Q sc,.string q] 36)).grownBy w3 (some w.heap.size)):=⟨Y,D⟩;clear Y D))
   all_goals
    go_wp2;obtain ⟨A',zs',hI'⟩:=a9.out w2 w3 _ _ bs.out ar.out.1 ar.out.2 bn;exact ⟨⟨i+1,A',zs',by omega,by go_num,hI'⟩,by simp [intOf];omega⟩
  .have bt:i=n:=by omega
   subst bt;have HT:Hid (ops.take i=ops):=tO (by rw [HN.out];exact lR _);have c8:=HR.out.c8;go_wp2;refine bd.out _ _ ⟨A,zs,by rw [HN.out];rfl,?_,?_,HR.out.rows,HR.out.above,HR.out.left⟩
   .have:=HR.out.al;rw [HT.out] at this;exact this
   .rw [HN.out];exact HR.out.own
end
section
open Go.RowKit
theorem wj (a:Int)(key body:ByteArray)(w:Wz):Calls Yq.prog 20 #[.int .i64 a,.string key,.string body] w fun e w'=>
  e=.returned (.agg #[.int .i64 a,.string key,.string body,.string ⟨#[]⟩,.string ⟨#[]⟩,.int .i64 0,.int .i64 0])/\Below w.heap.size w w':=by
 go_enter (Yq.nq Tryz.func20),Tryz.ntmps20;go_wp2;exact bodyPost_ret (v:=.agg #[.int .i64 a,.string key,.string body,.string ⟨#[]⟩,.string ⟨#[]⟩,.int .i64 0,.int .i64 0]) (by simp [results,Tryz.results20,go_sem]) rfl ⟨rfl,(bR _ _).alloc (lR _) _⟩
end
section
open Go.Conc Go.ConcX Go.ConcX.Gen Go.RowKit
theorem cN.left {w w':Wz}{v:Wq}{ops:List OpD}(h:cN w v ops)(hl:am w w'):cN w' v ops:=by
 obtain ⟨a,cap,rfl,hx⟩:=h.form;refine ⟨⟨a,cap,rfl,fun hne=>?_⟩,h.sized,h.len⟩;obtain ⟨b,off,rfl,hS⟩:=hx hne;refine ⟨b,off,rfl,fun i hi=>?_⟩;obtain ⟨c0,c1,c2,c3,c4,c5,c6⟩:=hS i hi;exact ⟨hl.cell c0,hl.cell c1,hl.cell c2,hl.cell c3,hl.cell c4,hl.cell c5,hl.cell c6⟩
end
theorem oH (L:Nat):∀ (r c:Nat),c<=L+(L+768) / 4->Builtin.growBy L r c<=L+(L+768) / 4
 | 0,c,h=>h
 |r+1,c,h=>by
  unfold Builtin.growBy;split
  .exact h
  .exact oH L r _ (by omega)
theorem uk {a old:Nat}(h:old<a):Builtin.nextslicecap a old<=a+(a+768) / 4+512:=by
 unfold Builtin.nextslicecap;split
 .omega
 .split
  .omega
  .have:=oH a 4 old (by omega);omega
section
variable {P:Program} {w:Wz} {base:Nat} {t ty e:Wk} {i:TypeInfo} {z:Wq} {size bytes:Nat}
theorem pZ (c:z.cells.size=size)(a:base<=w.heap.size){xs:List Wq}{k cap:Nat}(hl:xs.length=k * size)(hk:k<=cap)(hc:cap<=maxLen)(row:Option Nat):
  (w.drew.alloc (.cells (xs.toArray++Builtin.zeroCells z.cells (cap-k)) e)).ownsRow base e size (.slice (some ⟨w.heap.size,0,none⟩) k cap) k xs/\w.grownBy (w.drew.alloc (.cells (xs.toArray++Builtin.zeroCells z.cells (cap-k)) e)) row:=by
 constructor
 .refine ⟨hl,.inr ⟨w.heap.size,cap,_,rfl,a,heap_alloc_new w.drew _,hk,hc,?_,?_⟩⟩
  .rw [Array.size_append,size_zeroCells,c,lZ,hl,<-Nat.add_mul];congr 1;omega
  .rw [<-hl,Array.toList_append];exact List.take_left
 .exact ⟨rfl,rfl,rfl,by simp,fun b hb _=>heap_alloc_old w.drew _ hb⟩
theorem zJ (ht:P.underlying t=some (.slice e))(hi:P.info? e=some i)(hz:i.zero=some z)(o:i.size=size)(x:i.bytes=bytes)(s:z.cells.size=size)
  {v:Wq} {n:Nat} {xs:List Wq} (hown:w.ownsRow base e size v n xs) {a:Ww} {m c:Nat} {news:List Wq} (hl:news.length=m * size) (b:∀j u,news[j]?=some u->w.cell? (a.add j)=some u) (h1:∀u∈news,u.oneCell'=true)
  (q:n+m<=maxLen) (hb:(n+m+(n+m+768) / 4+512) * bytes<=281474976710656) (f:base<=w.heap.size) (hm:0<m):
  ∃v' w',(Builtin.append_ #[t,t] ty #[v,.slice (some a) m c]).run P w=.ok v' w'/\w'.ownsRow base e size v' (n+m) (xs++news)/\w.grownBy w' v.ownBlock:=by
 subst o x;have hs:((n+m:Nat):Int)<=9223372036854775807:=by simp only [maxLen] at q;omega
 have d:∀old,n+m<=grownCap w (n+m) old e/\grownCap w (n+m) old e<=maxLen:=fun old=>⟨grownCap_ge w _ old e,grownCap_le_maxLen w _ old e q⟩
 have hlen:(xs++news).length=(n+m) * i.size:=by rw [lP,hown.1,hl,Nat.add_mul]
 have hle:(n+m) * i.bytes<=281474976710656:=lT (Nat.mul_le_mul_right _ (by omega)) hb;have hown':=hown;obtain ⟨p,⟨rfl,rfl⟩|⟨g,cap,l,rfl,hbg,hg,hnc,y,hcs,htk⟩⟩:=hown
 .obtain rfl:xs=[]:=List.eq_nil_of_length_eq_zero (by simpa using p);simp only [zA,List.nil_append] at *;have hr:=run_append_nil (P:=P) w t ty e i z ht hi hz a m c news hl b hm hs hle;obtain ⟨q1,q2⟩:=pZ (w:=w) (e:=e) s f (xs:=news) hlen (d 0).1 (d 0).2 (Value.ownBlock (.slice none 0 0));exact ⟨_,_,hr,q1,q2⟩
 .by_cases hroom:n+m<=cap
  .have r:n * i.size+news.length<=l.size:=by rw [hl,hcs,<-Nat.add_mul];exact Nat.mul_le_mul_right _ hroom
   refine ⟨_,_,run_append_room (P:=P) w t ty e i ht hi g n cap l hg a m c news hl b h1 hroom r,⟨hlen,.inr ⟨g,cap,_,rfl,hbg,setRow_heap w g l _ e _ hg,hroom,y,?_,?_⟩⟩,rfl,rfl,rfl,by simp,fun k _ hk=>setRow_other w g k _ (fun h=>hk (by rw [h];rfl))⟩
   .have h3:=l.length_toList;simp;omega
   .rw [htk,<-hlen];exact List.take_left
  .have hcell:=hown'.cells (g:=g) rfl;have hr:=run_append_grow (P:=P) w t ty e i z ht hi hz ⟨g,0,none⟩ n cap xs p hcell a m c news hl b (by omega) hs (lT (Nat.mul_le_mul_right _ (uk (by omega))) hb);obtain ⟨q1,q2⟩:=pZ (w:=w) (e:=e) s f (xs:=xs++news) hlen (d cap).1 (d cap).2 (Value.ownBlock (.slice (some ⟨g,0,none⟩) n cap));rw [<-List.append_toArray] at q1 q2;exact ⟨_,_,hr,q1,q2⟩
theorem eu {ops:Array Oper}{rest:List Oper}{o:Oper}{b:Act}{Q:Exit->Act->Wz->Prop}(l:o.guard=none)(s x:Operand)(ho:o.op=.call {callee:=.builtin .append,args:=#[s,x],argTypes:=#[t,t]})
  (ht:P.underlying t=some (.slice e)) (hi:P.info? e=some i) (hz:i.zero=some z) (f:i.size=size) (p:i.bytes=bytes) (r:z.cells.size=size)
  {v:Wq} {n:Nat} {xs:List Wq} (hs:b.eval s=v) (hown:w.ownsRow base e size v n xs) {a:Ww} {m c:Nat} {news:List Wq} (hx:b.eval x=.slice (some a) m c) (hl:news.length=m * size) (k:∀j u,news[j]?=some u->w.cell? (a.add j)=some u) (h1:∀u∈news,u.oneCell'=true)
  (q:n+m<=maxLen) (hb:(n+m+(n+m+768) / 4+512) * bytes<=281474976710656) (d:base<=w.heap.size) (hm:0<m)
  (h:∀v' w',w'.ownsRow base e size v' (n+m) (xs++news)->w.grownBy w' v.ownBlock->wpList P ops Q rest (b.put o.dst v') w'):wpList P ops Q (o::rest) b w:=by
 refine wpList_plain l fun K y=>?_
 obtain ⟨v',w',hr,h2,h3⟩:=zJ (ty:=o.type) ht hi hz f p r hown hl k h1 q hb d hm (c:=c);unfold Oper.wp execOp;simp only [ho,resolve,invoke,builtin,Sem.run_bind,Sem.run_pure,Result.andThen_ok,List.map_toArray,List.map_cons,List.map_nil,hs,hx,hr];exact y _ _ (h v' w' h2 h3)
end
section
open Go.RowKit
def dl (ops:List OpD):List OpD:=ops.filter fun o=>o.kind != 12
theorem jl (ops:List OpD):(dl ops).length<=ops.length:=List.length_filter_le _ _
theorem ul (a:Option Ww)(n cap:Nat)(ops:List OpD)(w:Wz)(h:cN w (.slice a n cap) ops)(hn:n * 88<=140737488351232):
  Calls Yq.prog 17 #[.slice a n cap] w fun e w'=>∃v',e=.returned v'/\w'.ownsRow w.heap.size 31 7 v' (dl ops).length ((dl ops).flatMap aD)/\Below w.heap.size w w':=by
 obtain ⟨i0,z,x,v,s⟩:=info_parts Yq.infoOp;have r:n=ops.length:=by
  obtain ⟨a',q,he,_⟩:=h.form;cases he;rfl
 have HS:Hid (cN w (.slice a n cap) ops/\n=ops.length):=⟨h,r⟩;clear h r;go_enter (Yq.nq Tryz.func17),Tryz.ntmps17;go_wp2_with fail
 go_loopw [3,4] (fun s3 s4 wr=>∃i:Nat,i<=n/\s4=.int .i64 i/\wr.ownsRow w.heap.size 31 7 s3 (dl (ops.take i)).length ((dl (ops.take i)).flatMap aD)/\Below w.heap.size w wr) (fun _ s4 _=>n-(intOf s4).toNat)
 case atStart=>exact ⟨0,Nat.zero_le _,rfl,World.ownsRow_nil _ _ _ _,bR _ _⟩
 case round=>
  obtain ⟨i,hin,rfl,hown,hb⟩:=hrel;obtain ⟨C,E,rfl,-⟩:=az hown;by_cases hlt:i<n
  .have j:i<ops.length:=by rw [<-HS.out.2];exact hlt
   have hne:ops≠[]:=by intro e;rw [e] at j;simp at j
   obtain ⟨a',q,he,hx⟩:=HS.out.1.form;obtain ⟨b,off,ha,p⟩:=hx hne;subst ha;cases he;obtain ⟨c0,c1,c2,c3,c4,c5,c6⟩:=p i j;replace c0:=aj hb c0;replace c1:=aj hb c1;replace c2:=aj hb c2;replace c3:=aj hb c3;replace c4:=aj hb c4;replace c5:=aj hb c5;replace c6:=aj hb c6;have d:Hid (dl (ops.take (i+1))=dl (ops.take i)++(if ops[i].kind=12 then [] else [ops[i]])):=show dl (ops.take (i+1))=_ by
    rw [tS j];unfold dl;rw [List.filter_append];by_cases hk:ops[i].kind=12<;>simp [hk]
   have hle:(dl (ops.take i)).length<=i:=by have:=jl (ops.take i);rw [tL] at this;omega
   generalize ops[i]=o at *;obtain ⟨c,key,body,f,l,D,src⟩:=o;simp only at c0 c1 c2 c3 c4 c5 c6 d;have HX:Hid (wr.ownsRow w.heap.size 31 7 (.slice C (dl (ops.take i)).length E) (dl (ops.take i)).length ((dl (ops.take i)).flatMap aD)/\Below w.heap.size w wr):=⟨hown,hb⟩;clear hown hb p hx;by_cases hk:c=12
   .subst hk;rw [if_pos rfl,List.append_nil] at d;go_wp2_with fail
    refine ⟨⟨i+1,by omega,by go_num,?_,HX.out.2⟩,by simp [intOf];omega⟩;rw [d.out];exact HX.out.1
   .have hk':(c != 12)=true:=by simp [hk]
    rw [if_neg hk] at d;generalize hm:(dl (ops.take i)).length=m at *;have A:Hid ((dl (ops.take i)).length=m):=hm;clear hm;go_wp2_with (at_builtin;refine wpList_append_own _ rfl _ _ 22 rfl w.heap.size 31 i0 _ 7 88 (Yq.u Tryz.underlying22) z x v s rfl (by decide) _ m _ rfl (HX.out.1.alloc _) ⟨wr.heap.size,0,none⟩ 1 1 (aD ⟨c,key,body,f,l,D,src⟩) rfl rfl (pS wr ⟨c,key,body,f,l,D,src⟩ _) (one7 _) (by simp only [maxLen];omega) (by omega) (by have:=HX.out.2.size;simp;omega) ?_;intro v2 w2 t B _)
    have b2:Below w.heap.size w w2:=(HX.out.2.alloc HX.out.2.size _).grown B (by have:=HX.out.2.size;simp;omega) (fun k e=>(HX.out.1.lt k e).1);refine ⟨⟨i+1,by omega,by go_num,?_,b2⟩,by simp [intOf];omega⟩;rw [d.out];rw [lP,A.out,List.flatMap_append];simpa using t
  .have y:i=n:=by omega
   subst y;have HT:Hid (ops.take i=ops):=tO (by rw [<-HS.out.2];exact lR _);have HO:Hid (wr.ownsRow w.heap.size 31 7 (.slice C (dl (ops.take i)).length E) (dl (ops.take i)).length ((dl (ops.take i)).flatMap aD)/\Below w.heap.size w wr):=⟨hown,hb⟩;clear hown hb;go_wp2;go_ret;refine ⟨_,rfl,?_,HO.out.2⟩;have:=HO.out.1;rw [HT.out] at this;rw [HT.out];exact this
theorem B9 (v:Wq)(ops:List OpD)(z m G:Nat)(a:List OpD)(w:Wz)(h:cN w v ops)(hm:cN w (.slice (some ⟨z,0,none⟩) m G) a)(hn:ops.length+m<=2199023255552)(h0:0<m):
  Calls Yq.prog 19 #[v,.slice (some ⟨z,0,none⟩) m G] w fun e w'=>∃v',e=.returned v'/\w'.ownsRow w.heap.size 31 7 v' (ops.length+m) ((ops++a).flatMap aD)/\Below w.heap.size w w':=by
 obtain ⟨i0,l,i,f,d⟩:=info_parts Yq.infoOp;have hmm:m=a.length:=by
  obtain ⟨a',cap',he,_⟩:=hm.form;cases he;rfl
 have r:∀j u,(a.flatMap aD)[j]?=some u->w.cell? ((⟨z,0,none⟩:Ww).add j)=some u:=by
  rcases BI hm with ⟨c,he,_⟩|⟨A,c,he,hx⟩
  .cases he
  .cases he;exact hx
 have HM:Hid (∀j u,(a.flatMap aD)[j]?=some u->w.cell? ((⟨z,0,none⟩:Ww).add j)=some u):=r;have y:Hid (m=a.length):=hmm;clear hmm r hm;rcases BI h with ⟨c,rfl,rfl⟩|⟨A,c,rfl,p⟩
 .clear h;go_enter (Yq.nq Tryz.func19),Tryz.ntmps19;go_wp2_with (at_builtin;refine eu rfl _ _ rfl (Yq.u Tryz.underlying22) l i f d rfl rfl (World.ownsRow_nil _ w.heap.size _ _) rfl (news:=a.flatMap aD) (by rw [fX,y.out]) HM.out (iW a) (by simp only [maxLen];omega) (by omega) (lR _) h0 ?_;intro v1 w1 ho1 hg1)
  obtain ⟨H,I,rfl,-⟩:=az ho1;go_wp2;go_ret;refine ⟨_,rfl,by simpa using ho1,(bR _ w).grown (row:=none) hg1 (lR _) (fun k e=>by cases e)⟩
 .have B:Hid (∀j u,(ops.flatMap aD)[j]?=some u->w.cell? (A.add j)=some u):=p;clear h p;generalize t:ops.length=n at *;have HN:Hid (ops.length=n):=t;clear t;have D:Hid (∀ (os:Array Oper) (rest:List Oper) (o:Oper) (b:Act) (_:o.guard=none) (s x:Operand) (_:o.op=.call {callee:=.builtin .append,args:=#[s,x],argTypes:=#[22,22]}) (_:b.eval s=.slice none 0 0) (_:b.eval x=.slice (some A) n c) {Q:Exit->Act->Wz->Prop},(∀v1 w1,w1.ownsRow w.heap.size 31 7 v1 n (ops.flatMap aD)->w.grownBy w1 none->wpList Yq.prog os Q rest (b.put o.dst v1) w1)->wpList Yq.prog os Q (o::rest) b w):=fun os rest o b g1 s x g2 g3 g4 Q J=>by
   by_cases hz:n=0
   .have he:ops=[]:=List.length_eq_zero_iff.1 (HN.out.trans hz);subst he hz;refine wpList_append_own w g1 s x 22 g2 w.heap.size 31 i0 _ 7 88 (Yq.u Tryz.underlying22) l i f d rfl (by decide) _ 0 [] g3 (World.ownsRow_nil _ _ _ _) A 0 c [] g4 rfl (fun j u C=>by simp at C) (fun u K=>by simp at K) (by simp only [maxLen];omega) (by omega) (lR _) (fun v' w' k1 k2 _=>J v' w' k1 k2)
   .exact eu g1 s x g2 (Yq.u Tryz.underlying22) l i f d rfl g3 (World.ownsRow_nil _ w.heap.size _ _) g4 (news:=ops.flatMap aD) (by rw [fX,HN.out]) B.out (iW ops) (by simp only [maxLen];omega) (by omega) (lR _) (by omega) (fun v' w' k1 k2=>J v' w' (by simpa using k1) k2)
  go_enter (Yq.nq Tryz.func19),Tryz.ntmps19
  go_upto_region 3 with (at_builtin;refine D.out _ _ _ _ rfl _ _ rfl rfl rfl ?_;intro v1 w1 ho1 hg1;obtain ⟨H,I,rfl,-⟩:=az ho1)
  have F:Below w.heap.size w w1:=(bR _ w).grown (row:=none) hg1 (lR _) (fun k e=>by cases e);have HO:Hid (w1.ownsRow w.heap.size 31 7 (.slice H n I) n (ops.flatMap aD)/\Below w.heap.size w w1):=⟨by simpa using ho1,F⟩;clear ho1 hg1 F;go_wp2_with (at_builtin;refine eu rfl _ _ rfl (Yq.u Tryz.underlying22) l i f d rfl rfl HO.out.1 rfl (news:=a.flatMap aD) (by rw [fX,y.out]) (fun j u C=>aj HO.out.2 (HM.out j u C)) (iW a) (by simp only [maxLen];omega) (by omega) HO.out.2.size h0 ?_;intro v2 w2 q E)
  obtain ⟨va2,vc2,rfl,-⟩:=az q;go_wp2;go_ret;refine ⟨_,rfl,?_,HO.out.2.grown E HO.out.2.size (fun k e=>(HO.out.1.lt k e).1)⟩;rw [List.flatMap_append];simpa using q
end
section
open Go.Conc Go.ConcX Go.ConcX.Gen Go.RowKit
def toL (a:GV):js:=⟨a.code,a.ver,a.body,[],⟨#[]⟩⟩
theorem um (st:St)(L:Lg)(a:List ByteArray)(o:OpD)(h:o.kind<6):stepA st L a o=((bf st o).1,L,toL (bf st o).2):=by
 unfold stepA;rw [if_neg (by omega),if_neg (by omega),if_neg (by omega),if_neg (by omega),if_neg (by omega),if_neg (by omega)];rfl
def uB (_:Qy):Prop:=True
end
