/- A part. -/
import Derived.Test.YtnapepbdohidgaaGreatDoorQS27
import Derived.Lib.AppendStr
set_option maxHeartbeats 4000000
set_option maxRecDepth 100000
open Go renaming World->Wz,Value->Wq,TypeId->Wk,Addr->Ww
namespace Go.Proofs.Qw
section
open Go.RowKit
theorem ji (ops:List OpD)(i j:Nat)(hi:i<ops.length)(hj:j<7):(ops.flatMap aK)[i * 7+j]?=(aK ops[i])[j]?:=dV 7 aK (fun _=>rfl) ops i j hi hj
theorem up (w:Wz)(ops:List OpD)(cs:Array Wq)(T:Wk)(hcs:cs=(ops.flatMap aK).toArray)(m:Nat)(hm:m=ops.length)(hz:Sized ops)(hl:ops.length<=2199023255552):dZ (w.alloc (.cells cs T)) (.slice (some ⟨w.heap.size,0,none⟩) m m) ops:=by
 subst hcs;subst hm;refine ⟨⟨_,ops.length,rfl,fun _=>⟨w.heap.size,0,rfl,fun i hi=>?_⟩⟩,hz,hl⟩;have h:∀j,j<7->(w.alloc (.cells (ops.flatMap aK).toArray T)).cell? ⟨w.heap.size,0+i * 7+j,none⟩=(aK ops[i])[j]?:=fun j hj=>by
  rw [zA,cA (w:=w) _ _ w.heap.size _ rfl,<-ji ops i j hi hj];simp
 exact ⟨h 0 (by omega),h 1 (by omega),h 2 (by omega),h 3 (by omega),h 4 (by omega),h 5 (by omega),h 6 (by omega)⟩
theorem Yq.infoOp:(Yq.prog.info? 31).map (fun i=>(i.zero,i.size,i.bytes))=some (some (.agg #[.int .i64 0,.string ⟨#[]⟩,.string ⟨#[]⟩,.string ⟨#[]⟩,.string ⟨#[]⟩,.int .i64 0,.int .i64 0]),7,88):=by kernel_rfl
theorem fo (ops:List OpD):(ops.flatMap aK).length=ops.length * 7:=ew 7 _ (fun _=>rfl) ops
theorem im (ops:List OpD):∀u∈ops.flatMap aK,u.oneCell'=true:=by
 intro u hu;obtain ⟨o,_,hu⟩:=List.mem_flatMap.1 hu;simp [aK] at hu;rcases hu with rfl|rfl|rfl|rfl|rfl|rfl|rfl<;>rfl
theorem jj {w:Wz}{base:Nat}{v:Wq}{n:Nat}{ops:List OpD}(h:w.ownsRow base 31 7 v n (ops.flatMap aK))(hn:n=ops.length)(hz:Sized ops)(hl:ops.length<=2199023255552):dZ w v ops:=by
 subst hn;rcases h.2 with ⟨rfl,h0⟩|⟨g,cap,cur,rfl,hbg,hg,hnc,hcm,hcs,htake⟩
 .have:ops=[]:=List.length_eq_zero_iff.1 h0;subst this;exact ⟨⟨none,0,rfl,fun h=>absurd rfl h⟩,hz,hl⟩
 .refine ⟨⟨_,cap,rfl,fun _=>⟨g,0,rfl,fun i hi=>?_⟩⟩,hz,hl⟩;have hc:∀j,j<7->w.cell? ⟨g,0+i * 7+j,none⟩=(aK ops[i])[j]?:=fun j hj=>by
   rw [zA,<-ji ops i j hi hj];exact h.cellAt _ (by omega)
  exact ⟨hc 0 (by omega),hc 1 (by omega),hc 2 (by omega),hc 3 (by omega),hc 4 (by omega),hc 5 (by omega),hc 6 (by omega)⟩
theorem zZ {w:Wz}{v:Wq}{ops:List OpD}(h:dZ w v ops):(∃cap,v=.slice none 0 cap/\ops=[])\/∃ad cap,v=.slice (some ad) ops.length cap/\∀j u,(ops.flatMap aK)[j]?=some u->w.cell? (ad.add j)=some u:=by
 obtain ⟨a,cap,rfl,hx⟩:=h.form;cases a with
 |none=>
  by_cases hne:ops=[]
  .subst hne;exact Or.inl ⟨cap,rfl,rfl⟩
  .obtain ⟨b,off,e,_⟩:=hx hne;cases e
 |some ad=>
  refine Or.inr ⟨ad,cap,rfl,fun j u hj=>?_⟩;have hne:ops≠[]:=by intro e;subst e;simp at hj
  obtain ⟨b,off,e,hS⟩:=hx hne;cases e;have hlt:=(sL hj).1;rw [fo] at hlt;have hi:j / 7<ops.length:=by omega
  have hjj:j=j / 7 * 7+j % 7:=by omega
  have h7:j % 7<7:=Nat.mod_lt _ (by omega);obtain ⟨c0,c1,c2,c3,c4,c5,c6⟩:=hS (j / 7) hi;have hg:=ji ops (j / 7) (j % 7) hi h7;rw [<-hjj,hj] at hg;rw [Addr.add_lit];generalize ops[j / 7]=o at *;have hoff:off+j=off+j / 7 * 7+j % 7:=by omega
  rw [hoff];generalize j % 7=r at *;have hr:r=0\/r=1\/r=2\/r=3\/r=4\/r=5\/r=6:=by omega
  rcases hr with rfl|rfl|rfl|rfl|rfl|rfl|rfl<;>simp only [aK,gZ,gS,oI] at hg<;>subst hg<;>assumption
theorem xz (w:Wz)(o:OpD)(T:Wk):∀j u,(aK o)[j]?=some u->(w.alloc (.cells #[.int .i64 o.kind,.string o.key,.string o.body,.string o.delim,.string o.past,.int .i64 o.n,.int .i64 o.src] T)).cell? ((⟨w.heap.size,0,none⟩:Ww).add j)=some u:=by
 intro j u hj;rw [Addr.add_lit,cA (w:=w) _ _ w.heap.size _ rfl];simpa [aK] using hj
theorem one7 (o:OpD):∀u∈aK o,u.oneCell'=true:=by
 intro u hu;simp [aK] at hu;rcases hu with rfl|rfl|rfl|rfl|rfl|rfl|rfl<;>rfl
structure Gb (w:Wz)(v:Wq)(w':Wz)(v':Wq):Prop where
 grown:w.grownBy w' v.ownBlock
 at_:∀g,v'.ownBlock=some g->v.ownBlock=some g\/w.heap.size<=g
theorem Gb.refl (w:Wz)(v:Wq):Gb w v w v:=⟨World.grownBy.refl _ _,fun _ h=>.inl h⟩
theorem Gb.trans {w w1 w2:Wz}{v v1 v2:Wq}(h:Gb w v w1 v1)(h':Gb w1 v1 w2 v2):Gb w v w2 v2:=by
 refine ⟨⟨h'.grown.os.trans h.grown.os,h'.grown.tape.trans h.grown.tape,h'.grown.output.trans h.grown.output,lT h.grown.size h'.grown.size,fun b hb hne=>?_⟩,fun g hg=>?_⟩
 .rw [h'.grown.block b (lL hb h.grown.size) ?_,h.grown.block b hb hne];intro e;rcases h.at_ b e.symm with e'|e'
  .exact hne e'.symm
  .omega
 .rcases h'.at_ g hg with e|e
  .exact h.at_ g e
  .exact .inr (lT h.grown.size e)
theorem Gb.alloc {w w':Wz}{v v':Wq}{o:Obj}(h:Gb (w.alloc o) v w' v'):Gb w v w' v':=
 Gb.trans ⟨World.grownBy_alloc _ _ _,fun _ h=>.inl h⟩ h
section
variable {P:Program}
theorem uq (w:Wz)(base:Nat)(t u ty e:Wk)(i:TypeInfo)(ht:P.underlying t=some (.slice e))(hu:P.underlying u=some .string)(hi:P.info? e=some i)(hz:i.zero=some (.int .u8 0))
  (hsize:i.size=1) (hby:i.bytes=1) (v:Wq) (n:Nat) (xs:List Wq) (hown:w.ownsRow base e 1 v n xs) (s:ByteArray)
  (h63:n+s.size<=maxLen) (hbytes:n+s.size<=140737488355328) (hbase:base<=w.heap.size):
  ∃v' w',(Builtin.append_ #[t,u] ty #[v,.string s]).run P w=.ok v' w'/\w'.ownsRow base e 1 v' (n+s.size) (xs++Lib.strCells s)/\Gb w v w' v':=by
 obtain ⟨v',w',hr,ho,hg,-⟩:=Lib.run_append_own_string (P:=P) w base t u ty e i ht hu hi hz hsize hby v n xs hown s h63 hbytes hbase;refine ⟨v',w',hr,ho,hg,fun g hg2=>?_⟩;have hxl:xs.length=n:=by simpa using hown.1
 rcases hown.2 with ⟨rfl,rfl⟩|⟨g0,cap,cur,rfl,hb0,hrow,hnc,hcm,hcs,-⟩
 .obtain ⟨v2,w2,hr2,ho2,-⟩:=Lib.run_append_own_string (P:=P) w w.heap.size t u ty e i ht hu hi hz hsize hby (.slice none 0 0) 0 xs ⟨hown.1,.inl ⟨rfl,rfl⟩⟩ s h63 hbytes (lR _);rw [hr] at hr2;cases hr2;exact .inr (ho2.lt g hg2).1
 .by_cases hf:n+s.size<=cap
  .have hr2:=Lib.run_append_room_string (P:=P) w t u ty e i ht hu hi hsize g0 n cap cur hrow s hf (by omega);rw [hr] at hr2;cases hr2;exact .inl hg2
  .have hr2:=Lib.run_append_grow_string (P:=P) w t u ty e i (.int .u8 0) ht hu hi hz ⟨g0,0,none⟩ n cap xs (by rw [hsize];omega) (fun j u hj=>hown.cells (g:=g0) rfl j u hj) s (by omega) (by simp only [maxLen] at h63;omega) (by rw [hby];exact growslice_fits (by omega) (by omega));rw [hr] at hr2;cases hr2;cases hg2;exact .inr (lR _)
theorem iQ (w:Wz){ops:Array Oper}{rest:List Oper}{o:Oper}{a:Act}{Q:Exit->Act->Wz->Prop}(hgd:o.guard=none)(s x:Operand)(t:Wk)
  (ho:o.op=.call {callee:=.builtin .append,args:=#[s,x],argTypes:=#[t,t]})
  (base:Nat) (e:Wk) (i:TypeInfo) (z:Wq) (size bytes:Nat) (ht:P.underlying t=some (.slice e)) (hi:P.info? e=some i) (hz:i.zero=some z)
  (hsize:i.size=size) (hby:i.bytes=bytes) (hzs:z.cells.size=size) (hsz:0<size)
  (v:Wq) (n:Nat) (xs:List Wq) (hs:a.eval s=v) (hown:w.ownsRow base e size v n xs)
  (ad:Ww) (m c:Nat) (news:List Wq) (hx:a.eval x=.slice (some ad) m c) (hl:news.length=m * size) (hnews:∀j u,news[j]?=some u->w.cell? (ad.add j)=some u) (h1:∀u∈news,u.oneCell'=true)
  (h63:n+m<=maxLen) (hbytes:(n+m) * bytes<=140737488355328) (hbase:base<=w.heap.size)
  (h:∀v' w',w'.ownsRow base e size v' (n+m) (xs++news)->Gb w v w' v'->wpList P ops Q rest (a.put o.dst v') w'):wpList P ops Q (o::rest) a w:=by
 obtain ⟨v',w',hr,h2,h3,h4⟩:=jg (P:=P) w base t o.type e i z size bytes ht hi hz hsize hby hzs hsz v n xs hown ad m c news hl hnews h1 h63 hbytes hbase;exact Lib.wpList_append_run w hgd s x t t ho v _ hs hx v' w' hr (h v' w' h2 ⟨h3,h4⟩)
theorem jL (w:Wz){ops:Array Oper}{rest:List Oper}{o:Oper}{a:Act}{Q:Exit->Act->Wz->Prop}(hgd:o.guard=none)(s x:Operand)(t u:Wk)
  (ho:o.op=.call {callee:=.builtin .append,args:=#[s,x],argTypes:=#[t,u]})
  (base:Nat) (e:Wk) (i:TypeInfo) (ht:P.underlying t=some (.slice e)) (hu:P.underlying u=some .string) (hi:P.info? e=some i) (hz:i.zero=some (.int .u8 0))
  (hsize:i.size=1) (hby:i.bytes=1) (v:Wq) (n:Nat) (xs:List Wq) (hs:a.eval s=v) (hown:w.ownsRow base e 1 v n xs) (b:ByteArray) (hx:a.eval x=.string b)
  (h63:n+b.size<=maxLen) (hbytes:n+b.size<=140737488355328) (hbase:base<=w.heap.size)
  (h:∀v' w',w'.ownsRow base e 1 v' (n+b.size) (xs++Lib.strCells b)->Gb w v w' v'->wpList P ops Q rest (a.put o.dst v') w'):wpList P ops Q (o::rest) a w:=by
 obtain ⟨v',w',hr,h2,h3⟩:=uq (P:=P) w base t u o.type e i ht hu hi hz hsize hby v n xs hown b h63 hbytes hbase;exact Lib.wpList_append_run w hgd s x t u ho v _ hs hx v' w' hr (h v' w' h2 h3)
end
theorem vC (w:Wz)(v:Wq)(T:Wk):∀j u,[v][j]?=some u->(w.alloc (.cells #[v] T)).cell? ((⟨w.heap.size,0,none⟩:Ww).add j)=some u:=by
 intro j u hj;rw [Addr.add_lit,cA (w:=w) _ _ w.heap.size _ rfl];simpa using hj
theorem oK (n:Int):∀u∈[Value.int .u8 n],u.oneCell'=true:=by
 intro u hu;simp at hu;subst hu;rfl
def rW (s:ByteArray):List Wq:=[.int .u8 ((s.size:Int) % 256)]++Lib.strCells s
theorem p9 (base n:Nat)(va:Option Ww)(vc:Nat)(xs:List Wq)(s:ByteArray)(w:Wz)(h:w.ownsRow base 5 1 (.slice va n vc) n xs)(hb:base<=w.heap.size)(hn:n+1+s.size<=100000000000):
  Calls Yq.prog 105 #[.slice va n vc,.string s] w fun e w'=>∃v',e=.returned v'/\w'.ownsRow base 5 1 v' (n+1+s.size) (xs++rW s)/\Gb w (.slice va n vc) w' v':=by
 obtain ⟨i0,hi0,hz0,hz1,hz2⟩:=info_parts Yq.infoByte;have HO:Hid (w.ownsRow base 5 1 (.slice va n vc) n xs/\base<=w.heap.size):=⟨h,hb⟩;clear h hb;go_enter (Yq.nq Tryz.func105),Tryz.ntmps105;go_wp2_with (first
  |(at_builtin;refine iQ _ rfl _ _ 48 rfl base 5 i0 _ 1 1 (Yq.u Tryz.underlying48) hi0 hz0 hz1 hz2 rfl (by decide) _ n _ rfl (HO.out.1.alloc _) ⟨w.heap.size,0,none⟩ 1 1 [.int .u8 ((s.size:Int) % 256)] rfl rfl (vC w _ _) (oK _) (by simp only [maxLen];omega) (by omega) (by have:=HO.out.2;simp;omega) ?_;intro v1 w1 ho1 hg1;have HB1:Hid (w1.ownsRow base 5 1 v1 (n+1) (xs++[.int .u8 ((s.size:Int) % 256)])/\Gb w (.slice va n vc) w1 v1):=⟨ho1,hg1.alloc⟩;clear ho1 hg1)
  |(at_builtin;refine jL _ rfl _ _ 48 9 rfl base 5 i0 (Yq.u Tryz.underlying48) (Yq.u Tryz.underlying9) hi0 hz0 hz1 hz2 _ (n+1) _ rfl HB1.out.1 s rfl (by simp only [maxLen];omega) (by omega) (lT HO.out.2 HB1.out.2.grown.size) ?_;intro v2 w2 ho2 hg2))
 go_ret;refine ⟨_,rfl,?_,HB1.out.2.trans hg2⟩;rw [rW,<-pA];exact ho2
def num8 (m:Int)(k:Nat):List Wq:=(List.range k).map fun i=>.int .u8 (m / 2 ^ (8 * (7-i)) % 256)
theorem rX (m:Int)(k:Nat):num8 m (k+1)=num8 m k++[.int .u8 (m / 2 ^ (8 * (7-k)) % 256)]:=by
 simp [num8,List.range_succ]
theorem nC (base n:Nat)(va:Option Ww)(vc:Nat)(xs:List Wq)(m:Int)(w:Wz)(h:w.ownsRow base 5 1 (.slice va n vc) n xs)(hb:base<=w.heap.size)(hn:n+8<=100000000000):
  Calls Yq.prog 78 #[.slice va n vc,.int .u64 m] w fun e w'=>∃v',e=.returned v'/\w'.ownsRow base 5 1 v' (n+8) (xs++num8 m 8)/\Gb w (.slice va n vc) w' v':=by
 obtain ⟨i0,hi0,hz0,hz1,hz2⟩:=info_parts Yq.infoByte;generalize hv:Value.slice va n vc=v at *;go_enter (Yq.nq Tryz.func78),Tryz.ntmps78;go_wp2_with fail
 go_loopw [0,6] (fun s0 s6 wr=>∃i:Nat,i<=8/\s6=.int .i64 i/\wr.ownsRow base 5 1 s0 (n+i) (xs++num8 m i)/\Gb w v wr s0) (fun _ s6 _=>8-(intOf s6).toNat)
 case atStart=>exact ⟨0,by omega,rfl,by simpa [num8] using h,Gb.refl _ _⟩
 case round=>
  obtain ⟨i,hin,rfl,hown,hbr⟩:=hrel;obtain ⟨va,vc,rfl,-⟩:=ay hown;have HX:Hid (wr.ownsRow base 5 1 (.slice va (n+i) vc) (n+i) (xs++num8 m i)/\Gb w v wr (.slice va (n+i) vc)/\base<=w.heap.size):=⟨hown,hbr,hb⟩;clear hown hbr h hb;by_cases hlt:i<8
  .go_wp2_with (at_builtin;refine iQ _ rfl _ _ 48 rfl base 5 i0 _ 1 1 (Yq.u Tryz.underlying48) hi0 hz0 hz1 hz2 rfl (by decide) _ (n+i) _ rfl (HX.out.1.alloc _) ⟨wr.heap.size,0,none⟩ 1 1 [.int .u8 (m / 2 ^ (8 * (7-i)) % 256)] rfl rfl (vC wr _ _) (oK _) (by simp only [maxLen];omega) (by omega) (by have:=HX.out.2.2;have:=HX.out.2.1.grown.size;simp;omega) ?_;intro v1 w1 ho1 hg1)
   refine ⟨⟨i+1,by omega,by go_num,?_,HX.out.2.1.trans hg1.alloc⟩,by simp [intOf];omega⟩;rw [rX,<-pA];exact ho1
  .have hie:i=8:=by omega
   subst hie;go_wp2;go_ret;exact ⟨_,rfl,HX.out.1,HX.out.2.1⟩
def Cn (k:ByteArray)(v:Ver):List Wq:=if v.mark then [.int .u8 2]++num8 v.num 8++rW k else [.int .u8 1]++num8 v.num 8++rW k++rW v.body
def xA (k:ByteArray)(v:Ver):Nat:=if v.mark then 10+k.size else 11+k.size+v.body.size
theorem Gb.box {w w1:Wz}{v v1:Wq}{base n:Nat}{xs:List Wq}{o:Obj}(ho:w.ownsRow base 5 1 v n xs)(h:Gb (w.alloc o) v w1 v1):w1.heap[w.heap.size]?=some o:=by
 rw [h.grown.block w.heap.size (by simp) (fun e=>by have:=(ho.lt _ e.symm).2;omega)];exact heap_alloc_new w o
def Box4 (g:Nat)(a b c d:Wq)(w:Wz):Prop:=w.cell? ⟨g,0,none⟩=some a/\w.cell? ⟨g,1,none⟩=some b/\w.cell? ⟨g,2,none⟩=some c/\w.cell? ⟨g,3,none⟩=some d
theorem Aa {g:Nat}{a b c d:Wq}{T:Wk}{w:Wz}(h:w.heap[g]?=some (.cells #[a,b,c,d] T)):Box4 g a b c d w:=by
 refine ⟨?_,?_,?_,?_⟩<;>simp [World.cell?,h]
theorem Gb.drew {w w':Wz}{v v':Wq}(h:Gb w v w' v'):Gb w v w'.drew v':=⟨⟨h.grown.os,h.grown.tape,h.grown.output,h.grown.size,h.grown.block⟩,h.at_⟩
theorem Gb.ofDrew {w w':Wz}{v v':Wq}(h:Gb w.drew v w' v'):Gb w v w' v':=⟨⟨h.grown.os,h.grown.tape,h.grown.output,h.grown.size,h.grown.block⟩,h.at_⟩
theorem rY (base n:Nat)(v:Wq)(xs:List Wq)(s:ByteArray)(w:Wz)(h:w.ownsRow base 5 1 v n xs)(hb:base<=w.heap.size)(hn:n+1+s.size<=100000000000):
  Calls Yq.prog 105 #[v,.string s] w fun e w'=>∃v',e=.returned v'/\w'.ownsRow base 5 1 v' (n+1+s.size) (xs++rW s)/\Gb w v w' v':=by
 obtain ⟨va,vc,rfl,-⟩:=ay h;exact p9 base n va vc xs s w h hb hn
theorem fA (base n:Nat)(v:Wq)(xs:List Wq)(m:Int)(w:Wz)(h:w.ownsRow base 5 1 v n xs)(hb:base<=w.heap.size)(hn:n+8<=100000000000):
  Calls Yq.prog 78 #[v,.int .u64 m] w fun e w'=>∃v',e=.returned v'/\w'.ownsRow base 5 1 v' (n+8) (xs++num8 m 8)/\Gb w v w' v':=by
 obtain ⟨va,vc,rfl,-⟩:=ay h;exact nC base n va vc xs m w h hb hn
theorem vD {m:Int}(h0:0<=m)(h1:m<=9223372036854775807):IntKind.u64.wrap m=m:=by
 simp [IntKind.wrap,IntKind.bits,IntKind.signed];omega
theorem nS (base n:Nat)(va:Option Ww)(vc:Nat)(xs:List Wq)(k:ByteArray)(v:Ver)(w:Wz)(h:w.ownsRow base 5 1 (.slice va n vc) n xs)(hb:base<=w.heap.size)(hn:n+xA k v<=100000000000)(h0:0<=v.num)(h63:v.num<=9223372036854775807):
  Calls Yq.prog 77 #[.slice va n vc,.agg #[.string k,.int .i64 v.num,.string v.body,.bool v.mark]] w fun e w'=>∃v',e=.returned v'/\w'.ownsRow base 5 1 v' (n+xA k v) (xs++Cn k v)/\Gb w (.slice va n vc) w' v':=by
 obtain ⟨i0,hi0,hz0,hz1,hz2⟩:=info_parts Yq.infoByte;obtain ⟨num,body,mark⟩:=v;simp only at *;have HO:Hid (w.ownsRow base 5 1 (.slice va n vc) n xs/\base<=w.heap.size):=⟨h,hb⟩;clear h hb;have HEN:Hid (∀ (f:Nat) (args:Array Wq) (wx:Wz),(f=78\/f=105)->(callFunc f args).run Yq.prog wx=.ok (.enter f args) wx):=fun f args wx hf=>by rcases hf with rfl|rfl<;>go_simp
 have HNW:Hid (∀ (O:Obj) (x:Wq) (j:Nat) (u:Wq),[x][j]?=some u->((((w.alloc O).drew).alloc (.cells #[x] 5)).cell? ((⟨w.heap.size+1,0,none⟩:Ww).add j))=some u):=fun O x j u hj=>by
  have:=vC (w.alloc O).drew x 5 j u hj;simpa using this
 have HOW:Hid (∀ (O X:Obj),(((w.alloc O).drew).alloc X).ownsRow base 5 1 (.slice va n vc) n xs):=fun O X=>((bc (HO.out.1.alloc O) fun g _ _=>rfl).alloc X)
 have HBX:Hid (∀ (w1:Wz) (v1 a b c d:Wq) (T:Wk) (X:Obj),Gb (((w.alloc (.cells #[a,b,c,d] T)).drew).alloc X) (.slice va n vc) w1 v1->Gb (w.alloc (.cells #[a,b,c,d] T)) (.slice va n vc) w1 v1/\Box4 w.heap.size a b c d w1):=fun w1 v1 a b c d T X h=>⟨h.alloc.ofDrew,Aa (h.alloc.ofDrew.box HO.out.1)⟩
 have HBY:Hid (∀ (w1:Wz) (v1 a b c d:Wq) (T:Wk),Gb (w.alloc (.cells #[a,b,c,d] T)) (.slice va n vc) w1 v1->Box4 w.heap.size a b c d w1):=fun w1 v1 a b c d T h=>Aa (h.box HO.out.1)
 have HSZ:Hid (∀ (w1:Wz) (v1:Wq) (O:Obj),Gb (w.alloc O) (.slice va n vc) w1 v1->base<=w1.heap.size):=fun w1 v1 O h=>by
  have:=h.alloc.grown.size;have:=HO.out.2;omega
 have HCN:Hid (∀ (w1:Wz) (v1:Wq) (n1:Nat) (xs1:List Wq),w1.ownsRow base 5 1 v1 n1 xs1->base<=w1.heap.size->n1+8<=100000000000->Calls Yq.prog 78 #[v1,.int .u64 (IntKind.u64.wrap num)] w1 fun e w'=>∃v',e=.returned v'/\w'.ownsRow base 5 1 v' (n1+8) (xs1++num8 num 8)/\Gb w1 v1 w' v'):=fun w1 v1 n1 xs1 h1 h2 h3=>by
  rw [vD h0 h63];exact fA base n1 v1 xs1 num w1 h1 h2 h3
 have HCT:Hid (∀ (w1:Wz) (v1:Wq) (n1:Nat) (xs1:List Wq) (s:ByteArray),w1.ownsRow base 5 1 v1 n1 xs1->base<=w1.heap.size->n1+1+s.size<=100000000000->Calls Yq.prog 105 #[v1,.string s] w1 fun e w'=>∃v',e=.returned v'/\w'.ownsRow base 5 1 v' (n1+1+s.size) (xs1++rW s)/\Gb w1 v1 w' v'):=fun w1 v1 n1 xs1 s=>rY base n1 v1 xs1 s w1
 cases mark
 .have hn':n+(11+k.size+body.size)<=100000000000:=by simpa [xA] using hn
  go_enter (Yq.nq Tryz.func77),Tryz.ntmps77;go_wp2_with fail
  go_region_law (first
   |(refine cH rfl (.tmp 20) (.tmp 21) 48 rfl base 5 i0 _ 1 1 (Yq.u Tryz.underlying48) hi0 hz0 hz1 hz2 rfl (by decide) (.slice va n vc) n xs (by first|(simp [Act.eval];done)|(simp [Act.eval,Act.put];done)|go_simp) (HOW.out _ _) ⟨w.heap.size+1,0,none⟩ 1 1 [.int .u8 1] (by first|(simp [Act.eval];done)|(simp [Act.eval,Act.put];done)|go_simp) rfl (HNW.out _ _) (oK _) (by simp only [maxLen];omega) (by omega) (by have:=HO.out.2;simp;omega) ?_;intro v1 w1 ho1 hg1 hat1;obtain ⟨hG1,c0,c1,c2,c3⟩:=HBX.out _ v1 _ _ _ _ _ _ ⟨hg1,hat1⟩;clear hg1 hat1)
   |(refine bj rfl 78 #[.tmp 22,.tmp 26] #[48,57] rfl #[v1,.int .u64 (IntKind.u64.wrap num)] (by first|(simp [Act.eval];done)|(simp [Act.eval,Act.put];done)|go_simp) (HEN.out _ _ _ (Or.inl rfl)) _ (HCN.out w1 v1 _ _ ho1 (HSZ.out _ _ _ hG1) (by omega)) ?_;rintro v2 w2 ⟨ho2,hg2⟩;have hG2:=hG1.trans hg2;obtain ⟨d0,d1,d2,d3⟩:=HBY.out _ v2 _ _ _ _ _ hG2;clear hg2 c0 c1 c2 c3 hG1 ho1))
  all_goals clear HBX HNW HOW HCN
  all_goals go_wp2_with fail
  all_goals go_region_law (first
   |(refine bj rfl 105 #[.tmp 28,.tmp 30] #[48,9] rfl #[v2,.string k] (by first|(simp [Act.eval];done)|(simp [Act.eval,Act.put];done)|go_simp) (HEN.out _ _ _ (Or.inr rfl)) _ (HCT.out w2.drew v2 (n+1+8) _ k ho2 (HSZ.out _ _ _ hG2.drew) (by omega)) ?_;rintro v3 w3 ⟨ho3,hg3⟩;have hG3:=hG2.trans hg3.ofDrew;obtain ⟨e0,e1,e2,e3⟩:=HBY.out _ v3 _ _ _ _ _ hG3;clear hg3 d0 d1 d2 d3 hG2 ho2)
   |(refine bj rfl 105 #[.tmp 31,.tmp 34] #[48,9] rfl #[v3,.string body] (by first|(simp [Act.eval];done)|(simp [Act.eval,Act.put];done)|go_simp) (HEN.out _ _ _ (Or.inr rfl)) _ (HCT.out w3 v3 (n+1+8+1+k.size) _ body ho3 (HSZ.out _ _ _ hG3) (by omega)) ?_;rintro v4 w4 ⟨ho4,hg4⟩;have hG4:=(hG3.trans hg4).alloc;clear hg4 e0 e1 e2 e3 hG3 ho3))
  all_goals go_wp2
  all_goals go_ret
  all_goals refine ⟨v4,rfl,?_,hG4⟩
  all_goals
   simp only [xA,Cn,Bool.false_eq_true,if_false];have e1:n+(11+k.size+body.size)=n+1+8+1+k.size+1+body.size:=by omega
   rw [e1];simpa only [pA] using ho4
 .have hn':n+(10+k.size)<=100000000000:=by simpa [xA] using hn
  go_enter (Yq.nq Tryz.func77),Tryz.ntmps77;go_wp2_with fail
  go_region_law (first
   |(refine cH rfl (.tmp 8) (.tmp 9) 48 rfl base 5 i0 _ 1 1 (Yq.u Tryz.underlying48) hi0 hz0 hz1 hz2 rfl (by decide) (.slice va n vc) n xs (by first|(simp [Act.eval];done)|(simp [Act.eval,Act.put];done)|go_simp) (HOW.out _ _) ⟨w.heap.size+1,0,none⟩ 1 1 [.int .u8 2] (by first|(simp [Act.eval];done)|(simp [Act.eval,Act.put];done)|go_simp) rfl (HNW.out _ _) (oK _) (by simp only [maxLen];omega) (by omega) (by have:=HO.out.2;simp;omega) ?_;intro v1 w1 ho1 hg1 hat1;obtain ⟨hG1,c0,c1,c2,c3⟩:=HBX.out _ v1 _ _ _ _ _ _ ⟨hg1,hat1⟩;clear hg1 hat1)
   |(refine bj rfl 78 #[.tmp 10,.tmp 14] #[48,57] rfl #[v1,.int .u64 (IntKind.u64.wrap num)] (by first|(simp [Act.eval];done)|(simp [Act.eval,Act.put];done)|go_simp) (HEN.out _ _ _ (Or.inl rfl)) _ (HCN.out w1 v1 _ _ ho1 (HSZ.out _ _ _ hG1) (by omega)) ?_;rintro v2 w2 ⟨ho2,hg2⟩;have hG2:=hG1.trans hg2;obtain ⟨d0,d1,d2,d3⟩:=HBY.out _ v2 _ _ _ _ _ hG2;clear hg2 c0 c1 c2 c3 hG1 ho1))
  all_goals clear HBX HNW HOW HCN
  all_goals go_wp2_with (go_at_call 105;refine (HCT.out w2 v2 (n+1+8) _ k ho2 (HSZ.out _ _ _ hG2) (by omega)).mono ?_;rintro e w3 ⟨v3,rfl,ho3,hg3⟩;have hG3:=(hG2.trans hg3).alloc)
  all_goals go_ret
  all_goals refine ⟨v3,rfl,?_,hG3⟩
  all_goals
   simp only [xA,Cn,if_true];have e1:n+(10+k.size)=n+1+8+1+k.size:=by omega
   rw [e1];simpa only [pA] using ho3
theorem Co (x:Int)(w:Wz):Calls Yq.prog 126 #[.int .i64 x] w fun e w'=>e=.returned (.bool false)/\w'=w:=by
 go_enter (Yq.nq Tryz.func126),Tryz.ntmps126;go_wp2;go_ret;exact ⟨by simp,rfl⟩
def Ey (x y:Int):Int:=if x<y then -1 else if y<x then 1 else 0
theorem xB (x y:Int)(w:Wz):Calls Yq.prog 104 #[.int .i64 x,.int .i64 y] w fun e w'=>e=.returned (.int .i64 (Ey x y))/\w'=w:=by
 have H1:Hid (∀ (z:Int) (w1:Wz),Calls Yq.prog 126 #[.int .i64 z] w1 fun e w'=>e=.returned (.bool false)/\w'=w1):=Co;unfold Ey;by_cases h1:x<y
 .rw [if_pos h1];go_enter (Yq.nq Tryz.func104),Tryz.ntmps104;go_wp2_with (go_at_call 126;refine (H1.out _ _).mono ?_;rintro e w1 ⟨rfl,rfl⟩)
  go_ret;exact ⟨rfl,rfl⟩
 .rw [if_neg h1];by_cases h2:y<x
  .rw [if_pos h2];go_enter (Yq.nq Tryz.func104),Tryz.ntmps104;go_wp2_with (go_at_call 126;refine (H1.out _ _).mono ?_;rintro e w1 ⟨rfl,rfl⟩)
   go_ret;exact ⟨rfl,rfl⟩
  .rw [if_neg h2];go_enter (Yq.nq Tryz.func104),Tryz.ntmps104;go_wp2_with (go_at_call 126;refine (H1.out _ _).mono ?_;rintro e w1 ⟨rfl,rfl⟩)
   go_ret;exact ⟨rfl,rfl⟩
def FD (k:ByteArray)(v:Ver):Wq:=.agg #[.string k,.int .i64 v.num,.string v.body,.bool v.mark]
def sM (k:ByteArray)(v:Ver):List Wq:=[.string k,.int .i64 v.num,.string v.body,.bool v.mark]
theorem Ab (k1 k2:ByteArray)(v1 v2:Ver)(w:Wz):Calls Yq.prog 103 #[FD k1 v1,FD k2 v2] w fun e w'=>e=.returned (.int .i64 (Ey v1.num v2.num))/\w'=(w.alloc (.cells (sM k1 v1).toArray 137)).alloc (.cells (sM k2 v2).toArray 137):=by
 obtain ⟨n1,b1,m1⟩:=v1;obtain ⟨n2,b2,m2⟩:=v2;unfold FD sM;have H1:Hid (∀ (x y:Int) (w1:Wz),Calls Yq.prog 104 #[.int .i64 x,.int .i64 y] w1 fun e w'=>e=.returned (.int .i64 (Ey x y))/\w'=w1):=xB;go_enter (Yq.nq Tryz.func103),Tryz.ntmps103;go_wp2_with (go_at_call 104;refine (H1.out _ _ _).mono ?_;rintro e w1 ⟨rfl,rfl⟩)
 go_ret;exact ⟨rfl,rfl⟩
def gH (L:List (ByteArray×Ver)):List Wq:=L.flatMap fun e=>Cn e.1 e.2
def dC (L:List (ByteArray×Ver)):Nat:=(L.map fun e=>xA e.1 e.2).sum
def ee (L:List (ByteArray×Ver)):List Wq:=L.flatMap fun e=>sM e.1 e.2
theorem xC {L:List (ByteArray×Ver)}{i:Nat}(h:i<L.length):dC (L.take (i+1))=dC (L.take i)+xA L[i].1 L[i].2:=by
 unfold dC;rw [tS h];simp only [List.map_append,List.sum_append,List.map_cons,List.map_nil,List.sum_cons,List.sum_nil,Nat.add_zero]
theorem xD {L:List (ByteArray×Ver)}{i:Nat}(h:i<L.length):gH (L.take (i+1))=gH (L.take i)++Cn L[i].1 L[i].2:=by
 unfold gH;rw [tS h];simp only [List.flatMap_append,List.flatMap_cons,List.flatMap_nil,List.append_nil]
theorem Cp (L:List (ByteArray×Ver))(i:Nat):dC (L.take i)<=dC L:=by
 have:dC L=dC (L.take i)+dC (L.drop i):=by
  unfold dC;rw [<-List.sum_append,<-List.map_append,List.take_append_drop]
 omega
theorem Ad {L:List (ByteArray×Ver)}{i:Nat}(h:i<L.length):(ee L)[i * 4]?=some (.string L[i].1)/\(ee L)[i * 4+1]?=some (.int .i64 L[i].2.num)/\(ee L)[i * 4+2]?=some (.string L[i].2.body)/\(ee L)[i * 4+3]?=some (.bool L[i].2.mark):=by
 induction L generalizing i with
 |nil=>simp at h
 |cons e L ih=>
  cases i with
  |zero=>simp [ee,sM]
  |succ i=>
   have hh:i<L.length:=by simpa using h
   have:=ih hh;simp only [ee,List.flatMap_cons,sM,List.cons_append,List.nil_append] at this ⊢;have e0:(i+1) * 4=i * 4+4:=by omega
   rw [e0];simpa using this
theorem Ae {m:Int}(h0:0<=m)(h1:m<=9223372036854775808):IntKind.u64.wrap m=m:=by
 simp [IntKind.wrap,IntKind.bits,IntKind.signed];omega
theorem xE {w:Wz}{base:Nat}{T:Wk}{size n:Nat}{v:Wq}{xs:List Wq}(h:w.ownsRow base T size v n xs)(hn:0<n):∃g cap,v=.slice (some ⟨g,0,none⟩) n cap/\∀j u,xs[j]?=some u->w.cell? ⟨g,j,none⟩=some u:=by
 have hc:=fun g hg=>h.cells (g:=g) hg
 rcases h.2 with ⟨rfl,e0⟩|⟨g,cap,cur,rfl,-⟩
 .omega
 .refine ⟨g,cap,rfl,fun j u hj=>?_⟩;have:=hc g rfl j u hj;simpa only [Addr.add_lit,zA] using this
def Af (xs:List Wq):Prop:=∃l:List UInt8,xs=l.map fun b=>Value.int .u8 b.toNat
theorem Af.append {xs ys:List Wq}(h:Af xs)(h':Af ys):Af (xs++ys):=by
 obtain ⟨l,rfl⟩:=h;obtain ⟨m,rfl⟩:=h';exact ⟨l++m,by rw [List.map_append]⟩
theorem iC {x:Int}(h0:0<=x)(h1:x<256):Af [.int .u8 x]:=by
 refine ⟨[UInt8.ofNat x.toNat],?_⟩;have:(UInt8.ofNat x.toNat).toNat=x.toNat:=by simp [UInt8.toNat_ofNat'];omega
 simp only [List.map_cons,List.map_nil,this];congr 2;omega
theorem mj (m:Int)(k:Nat):Af (num8 m k):=by
 induction k with
 |zero=>exact ⟨[],rfl⟩
 |succ k ih=>rw [rX];exact ih.append (iC (Int.emod_nonneg _ (by decide)) (Int.emod_lt_of_pos _ (by decide)))
theorem Cq (s:ByteArray):Af (Lib.strCells s):=⟨s.data.toList,rfl⟩
theorem nD (s:ByteArray):Af (rW s):=(iC (Int.emod_nonneg _ (by decide)) (Int.emod_lt_of_pos _ (by decide))).append (Cq s)
theorem Cr (k:ByteArray)(v:Ver):Af (Cn k v):=by
 unfold Cn;split
 .exact ((iC (by decide) (by decide)).append (mj _ _)).append (nD k)
 .exact (((iC (by decide) (by decide)).append (mj _ _)).append (nD k)).append (nD _)
theorem Ah (L:List (ByteArray×Ver)):Af (gH L):=by
 induction L with
 |nil=>exact ⟨[],rfl⟩
 |cons e L ih=>exact (Cr e.1 e.2).append ih
theorem xF (L:List (ByteArray×Ver))(last tm:Int):Af (((((gH L++[.int .u8 3])++num8 (last+1) 8)++[.int .u8 4])++num8 tm 8)):=
 ((((Ah L).append (iC (by decide) (by decide))).append (mj _ _)).append (iC (by decide) (by decide))).append (mj _ _)
theorem aj.grown {w W w':Wz}{row:Option Nat}(h:aj w W)(hg:W.grownBy w' row)(hr:∀g,row=some g->w.heap.size<=g):aj w w':=
 ⟨hg.os.trans h.os,lT h.size hg.size,fun b hb=>(hg.block b (lL hb h.size) (fun e=>by have:=hr b e.symm;omega)).trans (h.block b hb)⟩
theorem Ei (k0:Nat)(L:List (ByteArray×Ver))(last tm:Int)(w:Wz)(c2:w.cell? ⟨k0,2,none⟩=some (.int .i64 last))(c3:w.cell? ⟨k0,3,none⟩=some (.int .u64 tm))
  (hE:Calls Yq.prog 76 #[.pointer (some ⟨k0,0,none⟩)] w fun e w'=>∃v,e=.returned v/\w'.ownsRow w.heap.size 137 4 v L.length (ee L)/\aj w w')
  (hN:dC L+18<=100000000000) (hL:L.length<=1000000) (hnum:∀e∈L,0<=e.2.num/\e.2.num<=9223372036854775807) (hl0:0<=last) (hl1:last<=9223372036854775807):
  Calls Yq.prog 48 #[.pointer (some ⟨k0,0,none⟩)] w fun e w'=>∃s,e=.returned (.string s)/\Lib.strCells s=gH L++([.int .u8 3]++num8 (last+1) 8++([.int .u8 4]++num8 tm 8))/\aj w w':=by
 obtain ⟨i0,hi0,hz0,hz1,hz2⟩:=info_parts Yq.infoByte;have HE:Hid (Calls Yq.prog 76 #[.pointer (some ⟨k0,0,none⟩)] w fun e w'=>∃v,e=.returned v/\w'.ownsRow w.heap.size 137 4 v L.length (ee L)/\aj w w'):=hE;clear hE;go_enter (Yq.nq Tryz.func48),Tryz.ntmps48;go_wp2_with (go_at_call 76;refine HE.out.mono ?_;rintro e w1 ⟨v,rfl,ho1,hb1⟩;obtain ⟨va,vc,rfl,-⟩:=ay ho1)
 go_loopw [3,9] (fun s3 s9 wr=>∃i:Nat,i<=L.length/\s9=.int .i64 i/\wr.ownsRow w1.heap.size 5 1 s3 (dC (L.take i)) (gH (L.take i))/\Below w1.heap.size w1 wr) (fun _ s9 _=>L.length-(intOf s9).toNat)
 case atStart=>exact ⟨0,Nat.zero_le _,rfl,by simpa [dC,gH] using World.ownsRow_nil _ _ _ _,bR _ _⟩
 case round=>
  obtain ⟨i,hin,rfl,hown,hb⟩:=hrel;obtain ⟨ua,uc,rfl,-⟩:=ay hown;by_cases hlt:i<L.length
  .have hval:∃g,va=some ⟨g,0,none⟩/\g<w1.heap.size:=by
    rcases ho1.2 with ⟨e,e0⟩|⟨g,cap,cur,e,-,hr,-⟩
    .omega
    .cases e;exact ⟨g,rfl,(eS hr).1⟩
   obtain ⟨g,rfl,hg⟩:=hval;obtain ⟨q0,q1,q2,q3⟩:=Ad hlt;have x0:=ak hb (ho1.cells (g:=g) rfl _ _ q0);have x1:=ak hb (ho1.cells (g:=g) rfl _ _ q1);have x2:=ak hb (ho1.cells (g:=g) rfl _ _ q2);have x3:=ak hb (ho1.cells (g:=g) rfl _ _ q3);simp only [Addr.add_lit,zA] at x0 x1 x2 x3;clear q0 q1 q2 q3;have HNT:Hid (dC (L.take (i+1))=dC (L.take i)+xA L[i].1 L[i].2/\gH (L.take (i+1))=gH (L.take i)++Cn L[i].1 L[i].2/\dC (L.take (i+1))<=dC L):=⟨xC hlt,xD hlt,Cp L (i+1)⟩;have HNM:Hid (0<=L[i].2.num/\L[i].2.num<=9223372036854775807):=hnum _ (List.getElem_mem hlt);have HX:Hid (wr.ownsRow w1.heap.size 5 1 (.slice ua (dC (L.take i)) uc) (dC (L.take i)) (gH (L.take i))/\Below w1.heap.size w1 wr):=⟨hown,hb⟩;clear hown hb ho1 hnum;generalize L[i]=en at *;obtain ⟨ek,enum,ebody,emark⟩:=en;simp only at x0 x1 x2 x3 HNT HNM;have HC:Hid (∀ (wx:Wz) (ua:Option Ww) (uc n:Nat),wx.ownsRow w1.heap.size 5 1 (.slice ua n uc) n (gH (L.take i))->w1.heap.size<=wx.heap.size->n+xA ek ⟨enum,ebody,emark⟩<=100000000000->0<=enum->enum<=9223372036854775807->Calls Yq.prog 77 #[.slice ua n uc,.agg #[.string ek,.int .i64 enum,.string ebody,.bool emark]] wx fun e w'=>∃v',e=.returned v'/\w'.ownsRow w1.heap.size 5 1 v' (n+xA ek ⟨enum,ebody,emark⟩) (gH (L.take i)++Cn ek ⟨enum,ebody,emark⟩)/\Gb wx (.slice ua n uc) w' v'):=fun wx ua uc n h1 h2 h3 h4 h5=>nS w1.heap.size n ua uc _ ek ⟨enum,ebody,emark⟩ wx h1 h2 h3 h4 h5
   go_wp2_with (go_at_call 77;refine (HC.out _ _ _ _ (HX.out.1.alloc _) (by have:=HX.out.2.size;simp;omega) (by have:=HNT.out.1;have:=HNT.out.2.2;omega) HNM.out.1 HNM.out.2).mono ?_;rintro e w2 ⟨v2,rfl,ho2,hg2⟩)
   have hs2:=HX.out.2.size;refine ⟨⟨i+1,by omega,by go_num,?_,(HX.out.2.alloc hs2 _).grown hg2.grown (by simp;omega) (fun k e=>(HX.out.1.lt k e).1)⟩,by simp [intOf];omega⟩;rw [HNT.out.1,HNT.out.2.1];exact ho2
  .have hie:i=L.length:=by omega
   subst hie;rw [List.take_length] at hown;have hs1:=hb1.size;have hsr:=hb.size;have hk0:k0<w.heap.size:=bC w _ c2;have HX:Hid (wr.ownsRow w1.heap.size 5 1 (.slice ua (dC L) uc) (dC L) (gH L)/\Below w1.heap.size w1 wr/\aj w wr):=⟨hown,hb,hb1.trans (.below hb)⟩;rw [List.take_length];have y2:=HX.out.2.2.cell c2;have y3:=HX.out.2.2.cell c3;have y2':=an y2;have HEN:Hid (∀ (args:Array Wq) (wx:Wz),(callFunc 78 args).run Yq.prog wx=.ok (.enter 78 args) wx):=fun args wx=>by go_simp
   have HOW:Hid (∀ (X:Obj),(wr.drew.alloc X).ownsRow w1.heap.size 5 1 (.slice ua (dC L) uc) (dC L) (gH L)):=fun X=>((bc HX.out.1 fun g _ _=>rfl:wr.drew.ownsRow _ _ _ _ _ _).alloc X)
   have HNW:Hid (∀ (wx:Wz) (x:Wq) (j:Nat) (u:Wq),[x][j]?=some u->((wx.drew.alloc (.cells #[x] 5)).cell? ((⟨wx.heap.size,0,none⟩:Ww).add j))=some u):=fun wx x j u hj=>vC wx.drew x 5 j u hj
   have HK:Hid (∀ (wx wy:Wz) (v v':Wq) (n:Nat) (xs:List Wq),wx.ownsRow w1.heap.size 5 1 v n xs->aj w wx->w1.heap.size<=wx.heap.size->Gb wx v wy v'->aj w wy/\w1.heap.size<=wy.heap.size/\wy.cell? ⟨k0,2,none⟩=some (.int .i64 last)/\wy.cell? ⟨k0,3,none⟩=some (.int .u64 tm)):=fun wx wy v v' n xs ho hbx hsx hg=>by
    have hby:aj w wy:=aj.grown hbx hg.grown (fun k e=>lT hs1 (ho.lt k e).1);exact ⟨hby,lT hsx hg.grown.size,hby.cell c2,hby.cell c3⟩
   have HC1:Hid (∀ (wx:Wz) (v:Wq) (n:Nat) (xs:List Wq),wx.ownsRow w1.heap.size 5 1 v n xs->w1.heap.size<=wx.heap.size->n+8<=100000000000->Calls Yq.prog 78 #[v,.int .u64 (IntKind.u64.wrap (IntKind.u64.wrap last+1))] wx fun e w'=>∃v',e=.returned v'/\w'.ownsRow w1.heap.size 5 1 v' (n+8) (xs++num8 (last+1) 8)/\Gb wx v w' v'):=fun wx v n xs h1 h2 h3=>by
    rw [vD hl0 hl1,Ae (by omega) (by omega)];exact fA _ n v xs _ wx h1 h2 h3
   have HC2:Hid (∀ (wx:Wz) (v:Wq) (n:Nat) (xs:List Wq),wx.ownsRow w1.heap.size 5 1 v n xs->w1.heap.size<=wx.heap.size->n+8<=100000000000->Calls Yq.prog 78 #[v,.int .u64 tm] wx fun e w'=>∃v',e=.returned v'/\w'.ownsRow w1.heap.size 5 1 v' (n+8) (xs++num8 tm 8)/\Gb wx v w' v'):=fun wx v n xs h1 h2 h3=>fA _ n v xs _ wx h1 h2 h3
   clear hown hb ho1 hb1;go_wp2_with fail
   go_region_law (first
    |(refine cH rfl (.tmp 17) (.tmp 18) 48 rfl w1.heap.size 5 i0 _ 1 1 (Yq.u Tryz.underlying48) hi0 hz0 hz1 hz2 rfl (by decide) (.slice ua (dC L) uc) (dC L) (gH L) (by first|(simp [Act.eval];done)|(simp [Act.eval,Act.put];done)|go_simp) (HOW.out _) ⟨wr.heap.size,0,none⟩ 1 1 [.int .u8 3] (by first|(simp [Act.eval];done)|(simp [Act.eval,Act.put];done)|go_simp) rfl (HNW.out _ _) (oK _) (by simp only [maxLen];omega) (by omega) (by simp;omega) ?_;intro v1 w2 ho2 hg2 hat2;have hG2:Gb wr (.slice ua (dC L) uc) w2 v1:=Gb.ofDrew (Gb.alloc ⟨hg2,hat2⟩);obtain ⟨hb2,hs2,z2,z3⟩:=HK.out _ _ _ _ _ _ HX.out.1 HX.out.2.2 hsr hG2;clear hg2 hat2)
    |(refine bj rfl 78 #[.tmp 19,.tmp 25] #[48,57] rfl #[v1,.int .u64 (IntKind.u64.wrap (IntKind.u64.wrap last+1))] (by first|(simp [Act.eval];done)|(simp [Act.eval,Act.put];done)|go_simp) (HEN.out _ _) _ (HC1.out w2 v1 _ _ ho2 hs2 (by omega)) ?_;rintro v3 w3 ⟨ho3,hg3⟩;obtain ⟨hb3,hs3,x2,x3⟩:=HK.out _ _ _ _ _ _ ho2 hb2 hs2 hg3;have x3':=an x3;clear hg3 z2 z3 ho2 hb2 hs2 hG2))
   all_goals go_wp2_with fail
   all_goals go_region_law (first
    |(refine cH rfl (.tmp 27) (.tmp 28) 48 rfl w1.heap.size 5 i0 _ 1 1 (Yq.u Tryz.underlying48) hi0 hz0 hz1 hz2 rfl (by decide) v3 (dC L+1+8) _ (by first|(simp [Act.eval];done)|(simp [Act.eval,Act.put];done)|go_simp) ((bc ho3 fun g _ _=>rfl:w3.drew.ownsRow _ _ _ _ _ _).alloc _) ⟨w3.heap.size,0,none⟩ 1 1 [.int .u8 4] (by first|(simp [Act.eval];done)|(simp [Act.eval,Act.put];done)|go_simp) rfl (HNW.out _ _) (oK _) (by simp only [maxLen];omega) (by omega) (by simp;omega) ?_;intro v4 w4 ho4 hg4 hat4;obtain ⟨hb4,hs4,z2,z3⟩:=HK.out _ _ _ _ _ _ ho3 hb3 hs3 (Gb.ofDrew (Gb.alloc ⟨hg4,hat4⟩));clear hg4 hat4 x2 x3 x3' ho3 hb3 hs3)
    |(refine bj rfl 78 #[.tmp 29,.tmp 33] #[48,57] rfl #[v4,.int .u64 tm] (by first|(simp [Act.eval];done)|(simp [Act.eval,Act.put];done)|go_simp) (HEN.out _ _) _ (HC2.out w4 v4 _ _ ho4 hs4 (by omega)) ?_;rintro v5 w5 ⟨ho5,hg5⟩;obtain ⟨hb5,-,-,-⟩:=HK.out _ _ _ _ _ _ ho4 hb4 hs4 hg5;clear hg5 z2 z3 ho4 hb4 hs4))
   all_goals obtain ⟨g5,vc5,rfl,hr5⟩:=xE ho5 (by omega)
   all_goals obtain ⟨bs,hbs⟩:=xF L last tm
   all_goals
    have hlen5:bs.length=dC L+1+8+1+8:=by
     have:=ho5.1;rw [hbs,lM] at this;omega
    have hcv:(convert 48 9 (.slice (some ⟨g5,0,none⟩) (dC L+1+8+1+8) vc5)).run Yq.prog w5=.ok (.string ⟨bs.toArray⟩) w5:=by
     rw [<-hlen5];refine run_convert_bytes_back w5 48 9 5 ⟨g5,0,none⟩ vc5 bs (Yq.u Tryz.underlying48) (Yq.u Tryz.underlying5) (Yq.u Tryz.underlying9) fun j hj=>?_
     rw [Addr.add_lit,zA];refine hr5 j _ ?_;rw [hbs,List.getElem?_map,eL hj];rfl
    have HF:Hid (Lib.strCells ⟨bs.toArray⟩=gH L++([.int .u8 3]++num8 (last+1) 8++([.int .u8 4]++num8 tm 8))/\aj w w5):=by
     refine ⟨?_,hb5⟩;rw [Lib.strCells];simp only [pA] at hbs ⊢;exact hbs.symm
    clear hbs hr5 hb5 ho5 hlen5;go_wp2;go_ret;exact ⟨_,rfl,HF.out.1,HF.out.2⟩
end
