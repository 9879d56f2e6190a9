/- A part. -/
import Derived.Test.YtnapepbdohidgaaGreatDoorQU18
import Derived.Lib.AppendStr
import Derived.OwnWalkIn
import Derived.Shelf.SlSortCmp.WholeK
import Derived.Shelf.SlSortCmp.NoneTotal
set_option maxHeartbeats 4000000
set_option maxRecDepth 100000
open Go renaming World->Wz,Value->Wq,TypeId->Wk,Addr->Ww,undef->Wy
namespace Go.Proofs.Qw
section
open Go.RowKit
theorem jz (ops:List OpD)(i j:Nat)(hi:i<ops.length)(hj:j<7):(ops.flatMap aJ)[i * 7+j]?=(aJ ops[i])[j]?:=dV 7 aJ (fun _=>rfl) ops i j hi hj
theorem nU (w:Wz)(ops:List OpD)(cs:Array Wq)(T:Wk)(hcs:cs=(ops.flatMap aJ).toArray)(m:Nat)(hm:m=ops.length)(hz:Sized ops)(hl:ops.length<=2199023255552):eH (w.alloc (.cells cs T)) (.slice (some ⟨w.heap.size,0,none⟩) m m) ops:=by
 subst hcs;subst hm;refine ⟨⟨_,ops.length,rfl,fun _=>⟨w.heap.size,0,rfl,fun i hi=>?_⟩⟩,hz,hl⟩;have h:∀j,j<7->(w.alloc (.cells (ops.flatMap aJ).toArray T)).cell? ⟨w.heap.size,0+i * 7+j,none⟩=(aJ ops[i])[j]?:=fun j hj=>by
  rw [zA,cA (w:=w) _ _ w.heap.size _ rfl,<-jz ops i j hi hj];simp
 exact ⟨h 0 (by omega),h 1 (by omega),h 2 (by omega),h 3 (by omega),h 4 (by omega),h 5 (by omega),h 6 (by omega)⟩
theorem Yq.infoOp:(Yq.prog.info? 31).map (fun i=>(i.zero,i.size,i.bytes))=some (some (.agg #[.int .i64 0,.string ⟨#[]⟩,.string ⟨#[]⟩,.string ⟨#[]⟩,.string ⟨#[]⟩,.int .i64 0,.int .i64 0]),7,88):=by kernel_rfl
theorem fE (ops:List OpD):(ops.flatMap aJ).length=ops.length * 7:=eD 7 _ (fun _=>rfl) ops
theorem iF (ops:List OpD):∀u∈ops.flatMap aJ,u.oneCell'=true:=by
 intro u hu;obtain ⟨o,_,hu⟩:=List.mem_flatMap.1 hu;simp [aJ] at hu;rcases hu with rfl|rfl|rfl|rfl|rfl|rfl|rfl<;>rfl
theorem fh {w:Wz}{base:Nat}{v:Wq}{n:Nat}{ops:List OpD}(h:w.ownsRow base 31 7 v n (ops.flatMap aJ))(hn:n=ops.length)(hz:Sized ops)(hl:ops.length<=2199023255552):eH w v ops:=by
 subst hn;rcases h.2 with ⟨rfl,h0⟩|⟨g,cap,cur,rfl,hbg,hg,hnc,hcm,hcs,htake⟩
 .have:ops=[]:=List.length_eq_zero_iff.1 h0;subst this;exact ⟨⟨none,0,rfl,fun h=>absurd rfl h⟩,hz,hl⟩
 .refine ⟨⟨_,cap,rfl,fun _=>⟨g,0,rfl,fun i hi=>?_⟩⟩,hz,hl⟩;have hc:∀j,j<7->w.cell? ⟨g,0+i * 7+j,none⟩=(aJ ops[i])[j]?:=fun j hj=>by
   rw [zA,<-jz ops i j hi hj];exact h.cellAt _ (by omega)
  exact ⟨hc 0 (by omega),hc 1 (by omega),hc 2 (by omega),hc 3 (by omega),hc 4 (by omega),hc 5 (by omega),hc 6 (by omega)⟩
theorem AS {w:Wz}{v:Wq}{ops:List OpD}(h:eH w v ops):(∃cap,v=.slice none 0 cap/\ops=[])\/∃ad cap,v=.slice (some ad) ops.length cap/\∀j u,(ops.flatMap aJ)[j]?=some u->w.cell? (ad.add j)=some u:=by
 obtain ⟨a,cap,rfl,hx⟩:=h.form;cases a with
 |none=>
  by_cases hne:ops=[]
  .subst hne;exact Or.inl ⟨cap,rfl,rfl⟩
  .obtain ⟨b,off,e,_⟩:=hx hne;cases e
 |some ad=>
  refine Or.inr ⟨ad,cap,rfl,fun j u hj=>?_⟩;have hne:ops≠[]:=by intro e;subst e;simp at hj
  obtain ⟨b,off,e,hS⟩:=hx hne;cases e;have hlt:=(sL hj).1;rw [fE] at hlt;have hi:j / 7<ops.length:=by omega
  have hjj:j=j / 7 * 7+j % 7:=by omega
  have h7:j % 7<7:=Nat.mod_lt _ (by omega);obtain ⟨c0,c1,c2,c3,c4,c5,c6⟩:=hS (j / 7) hi;have hg:=jz ops (j / 7) (j % 7) hi h7;rw [<-hjj,hj] at hg;rw [Addr.add_lit];generalize ops[j / 7]=o at *;have hoff:off+j=off+j / 7 * 7+j % 7:=by omega
  rw [hoff];generalize j % 7=r at *;have hr:r=0\/r=1\/r=2\/r=3\/r=4\/r=5\/r=6:=by omega
  rcases hr with rfl|rfl|rfl|rfl|rfl|rfl|rfl<;>simp only [aJ,gZ,gS,oI] at hg<;>subst hg<;>assumption
theorem yu (w:Wz)(o:OpD)(T:Wk):∀j u,(aJ o)[j]?=some u->(w.alloc (.cells #[.int .i64 o.kind,.string o.key,.string o.body,.string o.delim,.string o.past,.int .i64 o.n,.int .i64 o.src] T)).cell? ((⟨w.heap.size,0,none⟩:Ww).add j)=some u:=by
 intro j u hj;rw [Addr.add_lit,cA (w:=w) _ _ w.heap.size _ rfl];simpa [aJ] using hj
theorem one7 (o:OpD):∀u∈aJ o,u.oneCell'=true:=by
 intro u hu;simp [aJ] at hu;rcases hu with rfl|rfl|rfl|rfl|rfl|rfl|rfl<;>rfl
structure Gb (w:Wz)(v:Wq)(w':Wz)(v':Wq):Prop where
 grown:w.grownBy w' v.ownBlock
 at_:∀g,v'.ownBlock=some g->v.ownBlock=some g\/w.heap.size<=g
theorem Gb.refl (w:Wz)(v:Wq):Gb w v w v:=⟨World.grownBy.refl _ _,fun _ h=>.inl h⟩
theorem Gb.trans {w w1 w2:Wz}{v v1 v2:Wq}(h:Gb w v w1 v1)(h':Gb w1 v1 w2 v2):Gb w v w2 v2:=by
 refine ⟨⟨h'.grown.os.trans h.grown.os,h'.grown.tape.trans h.grown.tape,h'.grown.output.trans h.grown.output,lT h.grown.size h'.grown.size,fun b hb hne=>?_⟩,fun g hg=>?_⟩
 .rw [h'.grown.block b (lL hb h.grown.size) ?_,h.grown.block b hb hne];intro e;rcases h.at_ b e.symm with e'|e'
  .exact hne e'.symm
  .omega
 .rcases h'.at_ g hg with e|e
  .exact h.at_ g e
  .exact .inr (lT h.grown.size e)
theorem Gb.alloc {w w':Wz}{v v':Wq}{o:Obj}(h:Gb (w.alloc o) v w' v'):Gb w v w' v':=
 Gb.trans ⟨World.grownBy_alloc _ _ _,fun _ h=>.inl h⟩ h
section
variable {P:Program}
theorem uT (w:Wz)(base:Nat)(t u ty e:Wk)(i:TypeInfo)(ht:P.underlying t=some (.slice e))(hu:P.underlying u=some .string)(hi:P.info? e=some i)(hz:i.zero=some (.int .u8 0))
  (hsize:i.size=1) (hby:i.bytes=1) (v:Wq) (n:Nat) (xs:List Wq) (hown:w.ownsRow base e 1 v n xs) (s:ByteArray)
  (h63:n+s.size<=maxLen) (hbytes:n+s.size<=140737488355328) (hbase:base<=w.heap.size):
  ∃v' w',(Builtin.append_ #[t,u] ty #[v,.string s]).run P w=.ok v' w'/\w'.ownsRow base e 1 v' (n+s.size) (xs++Lib.strCells s)/\Gb w v w' v':=by
 obtain ⟨v',w',hr,ho,hg,-⟩:=Lib.run_append_own_string (P:=P) w base t u ty e i ht hu hi hz hsize hby v n xs hown s h63 hbytes hbase;refine ⟨v',w',hr,ho,hg,fun g hg2=>?_⟩;have hxl:xs.length=n:=by simpa using hown.1
 rcases hown.2 with ⟨rfl,rfl⟩|⟨g0,cap,cur,rfl,hb0,hrow,hnc,hcm,hcs,-⟩
 .obtain ⟨v2,w2,hr2,ho2,-⟩:=Lib.run_append_own_string (P:=P) w w.heap.size t u ty e i ht hu hi hz hsize hby (.slice none 0 0) 0 xs ⟨hown.1,.inl ⟨rfl,rfl⟩⟩ s h63 hbytes (lR _);rw [hr] at hr2;cases hr2;exact .inr (ho2.lt g hg2).1
 .by_cases hf:n+s.size<=cap
  .have hr2:=Lib.run_append_room_string (P:=P) w t u ty e i ht hu hi hsize g0 n cap cur hrow s hf (by omega);rw [hr] at hr2;cases hr2;exact .inl hg2
  .have hr2:=Lib.run_append_grow_string (P:=P) w t u ty e i (.int .u8 0) ht hu hi hz ⟨g0,0,none⟩ n cap xs (by rw [hsize];omega) (fun j u hj=>hown.cells (g:=g0) rfl j u hj) s (by omega) (by simp only [maxLen] at h63;omega) (by rw [hby];exact growslice_fits (by omega) (by omega));rw [hr] at hr2;cases hr2;cases hg2;exact .inr (lR _)
theorem jf (w:Wz){ops:Array Oper}{rest:List Oper}{o:Oper}{a:Act}{Q:Exit->Act->Wz->Prop}(hgd:o.guard=none)(s x:Operand)(t:Wk)
  (ho:o.op=.call {callee:=.builtin .append,args:=#[s,x],argTypes:=#[t,t]})
  (base:Nat) (e:Wk) (i:TypeInfo) (z:Wq) (size bytes:Nat) (ht:P.underlying t=some (.slice e)) (hi:P.info? e=some i) (hz:i.zero=some z)
  (hsize:i.size=size) (hby:i.bytes=bytes) (hzs:z.cells.size=size) (hsz:0<size)
  (v:Wq) (n:Nat) (xs:List Wq) (hs:a.eval s=v) (hown:w.ownsRow base e size v n xs)
  (ad:Ww) (m c:Nat) (news:List Wq) (hx:a.eval x=.slice (some ad) m c) (hl:news.length=m * size) (hnews:∀j u,news[j]?=some u->w.cell? (ad.add j)=some u) (h1:∀u∈news,u.oneCell'=true)
  (h63:n+m<=maxLen) (hbytes:(n+m) * bytes<=140737488355328) (hbase:base<=w.heap.size)
  (h:∀v' w',w'.ownsRow base e size v' (n+m) (xs++news)->Gb w v w' v'->wpList P ops Q rest (a.put o.dst v') w'):wpList P ops Q (o::rest) a w:=by
 obtain ⟨v',w',hr,h2,h3,h4⟩:=jx (P:=P) w base t o.type e i z size bytes ht hi hz hsize hby hzs hsz v n xs hown ad m c news hl hnews h1 h63 hbytes hbase;exact Lib.wpList_append_run w hgd s x t t ho v _ hs hx v' w' hr (h v' w' h2 ⟨h3,h4⟩)
theorem j0 (w:Wz){ops:Array Oper}{rest:List Oper}{o:Oper}{a:Act}{Q:Exit->Act->Wz->Prop}(hgd:o.guard=none)(s x:Operand)(t u:Wk)
  (ho:o.op=.call {callee:=.builtin .append,args:=#[s,x],argTypes:=#[t,u]})
  (base:Nat) (e:Wk) (i:TypeInfo) (ht:P.underlying t=some (.slice e)) (hu:P.underlying u=some .string) (hi:P.info? e=some i) (hz:i.zero=some (.int .u8 0))
  (hsize:i.size=1) (hby:i.bytes=1) (v:Wq) (n:Nat) (xs:List Wq) (hs:a.eval s=v) (hown:w.ownsRow base e 1 v n xs) (b:ByteArray) (hx:a.eval x=.string b)
  (h63:n+b.size<=maxLen) (hbytes:n+b.size<=140737488355328) (hbase:base<=w.heap.size)
  (h:∀v' w',w'.ownsRow base e 1 v' (n+b.size) (xs++Lib.strCells b)->Gb w v w' v'->wpList P ops Q rest (a.put o.dst v') w'):wpList P ops Q (o::rest) a w:=by
 obtain ⟨v',w',hr,h2,h3⟩:=uT (P:=P) w base t u o.type e i ht hu hi hz hsize hby v n xs hown b h63 hbytes hbase;exact Lib.wpList_append_run w hgd s x t u ho v _ hs hx v' w' hr (h v' w' h2 h3)
end
theorem wC (w:Wz)(v:Wq)(T:Wk):∀j u,[v][j]?=some u->(w.alloc (.cells #[v] T)).cell? ((⟨w.heap.size,0,none⟩:Ww).add j)=some u:=by
 intro j u hj;rw [Addr.add_lit,cA (w:=w) _ _ w.heap.size _ rfl];simpa using hj
theorem o6 (n:Int):∀u∈[Value.int .u8 n],u.oneCell'=true:=by
 intro u hu;simp at hu;subst hu;rfl
def oj (s:ByteArray):List Wq:=[.int .u8 ((s.size:Int) % 256)]++Lib.strCells s
theorem sJ (s:ByteArray):(oj s).length=1+s.size:=by simp [oj,Lib.strCells_length];omega
theorem qu (base n:Nat)(va:Option Ww)(vc:Nat)(xs:List Wq)(s:ByteArray)(w:Wz)(h:w.ownsRow base 5 1 (.slice va n vc) n xs)(hb:base<=w.heap.size)(hn:n+1+s.size<=100000000000):
  Calls Yq.prog 105 #[.slice va n vc,.string s] w fun e w'=>∃v',e=.returned v'/\w'.ownsRow base 5 1 v' (n+1+s.size) (xs++oj s)/\Gb w (.slice va n vc) w' v':=by
 obtain ⟨i0,hi0,hz0,hz1,hz2⟩:=info_parts Yq.infoByte;have HO:Hid (w.ownsRow base 5 1 (.slice va n vc) n xs/\base<=w.heap.size):=⟨h,hb⟩;clear h hb;go_enter (Yq.nq Tryz.func105),Tryz.ntmps105;go_wp2_with (first
  |(at_builtin;refine jf _ rfl _ _ 48 rfl base 5 i0 _ 1 1 (Yq.u Tryz.underlying48) hi0 hz0 hz1 hz2 rfl (by decide) _ n _ rfl (HO.out.1.alloc _) ⟨w.heap.size,0,none⟩ 1 1 [.int .u8 ((s.size:Int) % 256)] rfl rfl (wC w _ _) (o6 _) (by simp only [maxLen];omega) (by omega) (by have:=HO.out.2;simp;omega) ?_;intro v1 w1 ho1 hg1;have HB1:Hid (w1.ownsRow base 5 1 v1 (n+1) (xs++[.int .u8 ((s.size:Int) % 256)])/\Gb w (.slice va n vc) w1 v1):=⟨ho1,hg1.alloc⟩;clear ho1 hg1)
  |(at_builtin;refine j0 _ rfl _ _ 48 9 rfl base 5 i0 (Yq.u Tryz.underlying48) (Yq.u Tryz.underlying9) hi0 hz0 hz1 hz2 _ (n+1) _ rfl HB1.out.1 s rfl (by simp only [maxLen];omega) (by omega) (lT HO.out.2 HB1.out.2.grown.size) ?_;intro v2 w2 ho2 hg2))
 go_ret;refine ⟨_,rfl,?_,HB1.out.2.trans hg2⟩;rw [oj,<-pA];exact ho2
def num8 (m:Int)(k:Nat):List Wq:=(List.range k).map fun i=>.int .u8 (m / 2 ^ (8 * (7-i)) % 256)
theorem sK (m:Int)(k:Nat):num8 m (k+1)=num8 m k++[.int .u8 (m / 2 ^ (8 * (7-k)) % 256)]:=by
 simp [num8,List.range_succ]
theorem qv (m:Int)(k:Nat):(num8 m k).length=k:=by simp [num8]
theorem nV (base n:Nat)(va:Option Ww)(vc:Nat)(xs:List Wq)(m:Int)(w:Wz)(h:w.ownsRow base 5 1 (.slice va n vc) n xs)(hb:base<=w.heap.size)(hn:n+8<=100000000000):
  Calls Yq.prog 78 #[.slice va n vc,.int .u64 m] w fun e w'=>∃v',e=.returned v'/\w'.ownsRow base 5 1 v' (n+8) (xs++num8 m 8)/\Gb w (.slice va n vc) w' v':=by
 obtain ⟨i0,hi0,hz0,hz1,hz2⟩:=info_parts Yq.infoByte;generalize hv:Value.slice va n vc=v at *;go_enter (Yq.nq Tryz.func78),Tryz.ntmps78;go_wp2_with fail
 go_loopw [0,6] (fun s0 s6 wr=>∃i:Nat,i<=8/\s6=.int .i64 i/\wr.ownsRow base 5 1 s0 (n+i) (xs++num8 m i)/\Gb w v wr s0) (fun _ s6 _=>8-(intOf s6).toNat)
 case atStart=>exact ⟨0,by omega,rfl,by simpa [num8] using h,Gb.refl _ _⟩
 case round=>
  obtain ⟨i,hin,rfl,hown,hbr⟩:=hrel;obtain ⟨va,vc,rfl,-⟩:=aw hown;have HX:Hid (wr.ownsRow base 5 1 (.slice va (n+i) vc) (n+i) (xs++num8 m i)/\Gb w v wr (.slice va (n+i) vc)/\base<=w.heap.size):=⟨hown,hbr,hb⟩;clear hown hbr h hb;by_cases hlt:i<8
  .go_wp2_with (at_builtin;refine jf _ rfl _ _ 48 rfl base 5 i0 _ 1 1 (Yq.u Tryz.underlying48) hi0 hz0 hz1 hz2 rfl (by decide) _ (n+i) _ rfl (HX.out.1.alloc _) ⟨wr.heap.size,0,none⟩ 1 1 [.int .u8 (m / 2 ^ (8 * (7-i)) % 256)] rfl rfl (wC wr _ _) (o6 _) (by simp only [maxLen];omega) (by omega) (by have:=HX.out.2.2;have:=HX.out.2.1.grown.size;simp;omega) ?_;intro v1 w1 ho1 hg1)
   refine ⟨⟨i+1,by omega,by go_num,?_,HX.out.2.1.trans hg1.alloc⟩,by simp [intOf];omega⟩;rw [sK,<-pA];exact ho1
  .have hie:i=8:=by omega
   subst hie;go_wp2;go_ret;exact ⟨_,rfl,HX.out.1,HX.out.2.1⟩
def AT (k:ByteArray)(v:Ver):List Wq:=if v.mark then [.int .u8 2]++num8 v.num 8++oj k else [.int .u8 1]++num8 v.num 8++oj k++oj v.body
def uU (k:ByteArray)(v:Ver):Nat:=if v.mark then 10+k.size else 11+k.size+v.body.size
theorem Gb.box {w w1:Wz}{v v1:Wq}{base n:Nat}{xs:List Wq}{o:Obj}(ho:w.ownsRow base 5 1 v n xs)(h:Gb (w.alloc o) v w1 v1):w1.heap[w.heap.size]?=some o:=by
 rw [h.grown.block w.heap.size (by simp) (fun e=>by have:=(ho.lt _ e.symm).2;omega)];exact heap_alloc_new w o
def Box4 (g:Nat)(a b c d:Wq)(w:Wz):Prop:=w.cell? ⟨g,0,none⟩=some a/\w.cell? ⟨g,1,none⟩=some b/\w.cell? ⟨g,2,none⟩=some c/\w.cell? ⟨g,3,none⟩=some d
theorem AU {g:Nat}{a b c d:Wq}{T:Wk}{w:Wz}(h:w.heap[g]?=some (.cells #[a,b,c,d] T)):Box4 g a b c d w:=by
 refine ⟨?_,?_,?_,?_⟩<;>simp [World.cell?,h]
theorem Gb.drew {w w':Wz}{v v':Wq}(h:Gb w v w' v'):Gb w v w'.drew v':=⟨⟨h.grown.os,h.grown.tape,h.grown.output,h.grown.size,h.grown.block⟩,h.at_⟩
theorem Gb.ofDrew {w w':Wz}{v v':Wq}(h:Gb w.drew v w' v'):Gb w v w' v':=⟨⟨h.grown.os,h.grown.tape,h.grown.output,h.grown.size,h.grown.block⟩,h.at_⟩
theorem sM (base n:Nat)(v:Wq)(xs:List Wq)(s:ByteArray)(w:Wz)(h:w.ownsRow base 5 1 v n xs)(hb:base<=w.heap.size)(hn:n+1+s.size<=100000000000):
  Calls Yq.prog 105 #[v,.string s] w fun e w'=>∃v',e=.returned v'/\w'.ownsRow base 5 1 v' (n+1+s.size) (xs++oj s)/\Gb w v w' v':=by
 obtain ⟨va,vc,rfl,-⟩:=aw h;exact qu base n va vc xs s w h hb hn
theorem fN (base n:Nat)(v:Wq)(xs:List Wq)(m:Int)(w:Wz)(h:w.ownsRow base 5 1 v n xs)(hb:base<=w.heap.size)(hn:n+8<=100000000000):
  Calls Yq.prog 78 #[v,.int .u64 m] w fun e w'=>∃v',e=.returned v'/\w'.ownsRow base 5 1 v' (n+8) (xs++num8 m 8)/\Gb w v w' v':=by
 obtain ⟨va,vc,rfl,-⟩:=aw h;exact nV base n va vc xs m w h hb hn
theorem qw {m:Int}(h0:0<=m)(h1:m<=9223372036854775807):IntKind.u64.wrap m=m:=by
 simp [IntKind.wrap,IntKind.bits,IntKind.signed];omega
theorem ol (base n:Nat)(va:Option Ww)(vc:Nat)(xs:List Wq)(k:ByteArray)(v:Ver)(w:Wz)(h:w.ownsRow base 5 1 (.slice va n vc) n xs)(hb:base<=w.heap.size)(hn:n+uU k v<=100000000000)(h0:0<=v.num)(h63:v.num<=9223372036854775807):
  Calls Yq.prog 77 #[.slice va n vc,.agg #[.string k,.int .i64 v.num,.string v.body,.bool v.mark]] w fun e w'=>∃v',e=.returned v'/\w'.ownsRow base 5 1 v' (n+uU k v) (xs++AT k v)/\Gb w (.slice va n vc) w' v':=by
 obtain ⟨i0,hi0,hz0,hz1,hz2⟩:=info_parts Yq.infoByte;obtain ⟨num,body,mark⟩:=v;simp only at *;have HO:Hid (w.ownsRow base 5 1 (.slice va n vc) n xs/\base<=w.heap.size):=⟨h,hb⟩;clear h hb;have HEN:Hid (∀ (f:Nat) (args:Array Wq) (wx:Wz),(f=78\/f=105)->(callFunc f args).run Yq.prog wx=.ok (.enter f args) wx):=fun f args wx hf=>by rcases hf with rfl|rfl<;>go_simp
 have HNW:Hid (∀ (O:Obj) (x:Wq) (j:Nat) (u:Wq),[x][j]?=some u->((((w.alloc O).drew).alloc (.cells #[x] 5)).cell? ((⟨w.heap.size+1,0,none⟩:Ww).add j))=some u):=fun O x j u hj=>by
  have:=wC (w.alloc O).drew x 5 j u hj;simpa using this
 have HOW:Hid (∀ (O X:Obj),(((w.alloc O).drew).alloc X).ownsRow base 5 1 (.slice va n vc) n xs):=fun O X=>((aX (HO.out.1.alloc O) fun g _ _=>rfl).alloc X)
 have HBX:Hid (∀ (w1:Wz) (v1 a b c d:Wq) (T:Wk) (X:Obj),Gb (((w.alloc (.cells #[a,b,c,d] T)).drew).alloc X) (.slice va n vc) w1 v1->Gb (w.alloc (.cells #[a,b,c,d] T)) (.slice va n vc) w1 v1/\Box4 w.heap.size a b c d w1):=fun w1 v1 a b c d T X h=>⟨h.alloc.ofDrew,AU (h.alloc.ofDrew.box HO.out.1)⟩
 have HBY:Hid (∀ (w1:Wz) (v1 a b c d:Wq) (T:Wk),Gb (w.alloc (.cells #[a,b,c,d] T)) (.slice va n vc) w1 v1->Box4 w.heap.size a b c d w1):=fun w1 v1 a b c d T h=>AU (h.box HO.out.1)
 have HSZ:Hid (∀ (w1:Wz) (v1:Wq) (O:Obj),Gb (w.alloc O) (.slice va n vc) w1 v1->base<=w1.heap.size):=fun w1 v1 O h=>by
  have:=h.alloc.grown.size;have:=HO.out.2;omega
 have HCN:Hid (∀ (w1:Wz) (v1:Wq) (n1:Nat) (xs1:List Wq),w1.ownsRow base 5 1 v1 n1 xs1->base<=w1.heap.size->n1+8<=100000000000->Calls Yq.prog 78 #[v1,.int .u64 (IntKind.u64.wrap num)] w1 fun e w'=>∃v',e=.returned v'/\w'.ownsRow base 5 1 v' (n1+8) (xs1++num8 num 8)/\Gb w1 v1 w' v'):=fun w1 v1 n1 xs1 h1 h2 h3=>by
  rw [qw h0 h63];exact fN base n1 v1 xs1 num w1 h1 h2 h3
 have HCT:Hid (∀ (w1:Wz) (v1:Wq) (n1:Nat) (xs1:List Wq) (s:ByteArray),w1.ownsRow base 5 1 v1 n1 xs1->base<=w1.heap.size->n1+1+s.size<=100000000000->Calls Yq.prog 105 #[v1,.string s] w1 fun e w'=>∃v',e=.returned v'/\w'.ownsRow base 5 1 v' (n1+1+s.size) (xs1++oj s)/\Gb w1 v1 w' v'):=fun w1 v1 n1 xs1 s=>sM base n1 v1 xs1 s w1
 cases mark
 .have hn':n+(11+k.size+body.size)<=100000000000:=by simpa [uU] using hn
  go_enter (Yq.nq Tryz.func77),Tryz.ntmps77;go_wp2_with fail
  go_region_law (first
   |(refine cF rfl (.tmp 20) (.tmp 21) 48 rfl base 5 i0 _ 1 1 (Yq.u Tryz.underlying48) hi0 hz0 hz1 hz2 rfl (by decide) (.slice va n vc) n xs (by first|(simp [Act.eval];done)|(simp [Act.eval,Act.put];done)|go_simp) (HOW.out _ _) ⟨w.heap.size+1,0,none⟩ 1 1 [.int .u8 1] (by first|(simp [Act.eval];done)|(simp [Act.eval,Act.put];done)|go_simp) rfl (HNW.out _ _) (o6 _) (by simp only [maxLen];omega) (by omega) (by have:=HO.out.2;simp;omega) ?_;intro v1 w1 ho1 hg1 hat1;obtain ⟨hG1,c0,c1,c2,c3⟩:=HBX.out _ v1 _ _ _ _ _ _ ⟨hg1,hat1⟩;clear hg1 hat1)
   |(refine aY rfl 78 #[.tmp 22,.tmp 26] #[48,57] rfl #[v1,.int .u64 (IntKind.u64.wrap num)] (by first|(simp [Act.eval];done)|(simp [Act.eval,Act.put];done)|go_simp) (HEN.out _ _ _ (Or.inl rfl)) _ (HCN.out w1 v1 _ _ ho1 (HSZ.out _ _ _ hG1) (by omega)) ?_;rintro v2 w2 ⟨ho2,hg2⟩;have hG2:=hG1.trans hg2;obtain ⟨d0,d1,d2,d3⟩:=HBY.out _ v2 _ _ _ _ _ hG2;clear hg2 c0 c1 c2 c3 hG1 ho1))
  all_goals clear HBX HNW HOW HCN
  all_goals go_wp2_with fail
  all_goals go_region_law (first
   |(refine aY rfl 105 #[.tmp 28,.tmp 30] #[48,9] rfl #[v2,.string k] (by first|(simp [Act.eval];done)|(simp [Act.eval,Act.put];done)|go_simp) (HEN.out _ _ _ (Or.inr rfl)) _ (HCT.out w2.drew v2 (n+1+8) _ k ho2 (HSZ.out _ _ _ hG2.drew) (by omega)) ?_;rintro v3 w3 ⟨ho3,hg3⟩;have hG3:=hG2.trans hg3.ofDrew;obtain ⟨e0,e1,e2,e3⟩:=HBY.out _ v3 _ _ _ _ _ hG3;clear hg3 d0 d1 d2 d3 hG2 ho2)
   |(refine aY rfl 105 #[.tmp 31,.tmp 34] #[48,9] rfl #[v3,.string body] (by first|(simp [Act.eval];done)|(simp [Act.eval,Act.put];done)|go_simp) (HEN.out _ _ _ (Or.inr rfl)) _ (HCT.out w3 v3 (n+1+8+1+k.size) _ body ho3 (HSZ.out _ _ _ hG3) (by omega)) ?_;rintro v4 w4 ⟨ho4,hg4⟩;have hG4:=(hG3.trans hg4).alloc;clear hg4 e0 e1 e2 e3 hG3 ho3))
  all_goals go_wp2
  all_goals go_ret
  all_goals refine ⟨v4,rfl,?_,hG4⟩
  all_goals
   simp only [uU,AT,Bool.false_eq_true,if_false];have e1:n+(11+k.size+body.size)=n+1+8+1+k.size+1+body.size:=by omega
   rw [e1];simpa only [pA] using ho4
 .have hn':n+(10+k.size)<=100000000000:=by simpa [uU] using hn
  go_enter (Yq.nq Tryz.func77),Tryz.ntmps77;go_wp2_with fail
  go_region_law (first
   |(refine cF rfl (.tmp 8) (.tmp 9) 48 rfl base 5 i0 _ 1 1 (Yq.u Tryz.underlying48) hi0 hz0 hz1 hz2 rfl (by decide) (.slice va n vc) n xs (by first|(simp [Act.eval];done)|(simp [Act.eval,Act.put];done)|go_simp) (HOW.out _ _) ⟨w.heap.size+1,0,none⟩ 1 1 [.int .u8 2] (by first|(simp [Act.eval];done)|(simp [Act.eval,Act.put];done)|go_simp) rfl (HNW.out _ _) (o6 _) (by simp only [maxLen];omega) (by omega) (by have:=HO.out.2;simp;omega) ?_;intro v1 w1 ho1 hg1 hat1;obtain ⟨hG1,c0,c1,c2,c3⟩:=HBX.out _ v1 _ _ _ _ _ _ ⟨hg1,hat1⟩;clear hg1 hat1)
   |(refine aY rfl 78 #[.tmp 10,.tmp 14] #[48,57] rfl #[v1,.int .u64 (IntKind.u64.wrap num)] (by first|(simp [Act.eval];done)|(simp [Act.eval,Act.put];done)|go_simp) (HEN.out _ _ _ (Or.inl rfl)) _ (HCN.out w1 v1 _ _ ho1 (HSZ.out _ _ _ hG1) (by omega)) ?_;rintro v2 w2 ⟨ho2,hg2⟩;have hG2:=hG1.trans hg2;obtain ⟨d0,d1,d2,d3⟩:=HBY.out _ v2 _ _ _ _ _ hG2;clear hg2 c0 c1 c2 c3 hG1 ho1))
  all_goals clear HBX HNW HOW HCN
  all_goals go_wp2_with (go_at_call 105;refine (HCT.out w2 v2 (n+1+8) _ k ho2 (HSZ.out _ _ _ hG2) (by omega)).mono ?_;rintro e w3 ⟨v3,rfl,ho3,hg3⟩;have hG3:=(hG2.trans hg3).alloc)
  all_goals go_ret
  all_goals refine ⟨v3,rfl,?_,hG3⟩
  all_goals
   simp only [uU,AT,if_true];have e1:n+(10+k.size)=n+1+8+1+k.size:=by omega
   rw [e1];simpa only [pA] using ho3
theorem Da (x:Int)(w:Wz):Calls Yq.prog 126 #[.int .i64 x] w fun e w'=>e=.returned (.bool false)/\w'=w:=by
 go_enter (Yq.nq Tryz.func126),Tryz.ntmps126;go_wp2;go_ret;exact ⟨by simp,rfl⟩
def FD (x y:Int):Int:=if x<y then -1 else if y<x then 1 else 0
theorem yv (x y:Int)(w:Wz):Calls Yq.prog 104 #[.int .i64 x,.int .i64 y] w fun e w'=>e=.returned (.int .i64 (FD x y))/\w'=w:=by
 have H1:Hid (∀ (z:Int) (w1:Wz),Calls Yq.prog 126 #[.int .i64 z] w1 fun e w'=>e=.returned (.bool false)/\w'=w1):=Da;unfold FD;by_cases h1:x<y
 .rw [if_pos h1];go_enter (Yq.nq Tryz.func104),Tryz.ntmps104;go_wp2_with (go_at_call 126;refine (H1.out _ _).mono ?_;rintro e w1 ⟨rfl,rfl⟩)
  go_ret;exact ⟨rfl,rfl⟩
 .rw [if_neg h1];by_cases h2:y<x
  .rw [if_pos h2];go_enter (Yq.nq Tryz.func104),Tryz.ntmps104;go_wp2_with (go_at_call 126;refine (H1.out _ _).mono ?_;rintro e w1 ⟨rfl,rfl⟩)
   go_ret;exact ⟨rfl,rfl⟩
  .rw [if_neg h2];go_enter (Yq.nq Tryz.func104),Tryz.ntmps104;go_wp2_with (go_at_call 126;refine (H1.out _ _).mono ?_;rintro e w1 ⟨rfl,rfl⟩)
   go_ret;exact ⟨rfl,rfl⟩
def GJ (k:ByteArray)(v:Ver):Wq:=.agg #[.string k,.int .i64 v.num,.string v.body,.bool v.mark]
def tD (k:ByteArray)(v:Ver):List Wq:=[.string k,.int .i64 v.num,.string v.body,.bool v.mark]
theorem AV (k1 k2:ByteArray)(v1 v2:Ver)(w:Wz):Calls Yq.prog 103 #[GJ k1 v1,GJ k2 v2] w fun e w'=>e=.returned (.int .i64 (FD v1.num v2.num))/\w'=(w.alloc (.cells (tD k1 v1).toArray 137)).alloc (.cells (tD k2 v2).toArray 137):=by
 obtain ⟨n1,b1,m1⟩:=v1;obtain ⟨n2,b2,m2⟩:=v2;unfold GJ tD;have H1:Hid (∀ (x y:Int) (w1:Wz),Calls Yq.prog 104 #[.int .i64 x,.int .i64 y] w1 fun e w'=>e=.returned (.int .i64 (FD x y))/\w'=w1):=yv;go_enter (Yq.nq Tryz.func103),Tryz.ntmps103;go_wp2_with (go_at_call 104;refine (H1.out _ _ _).mono ?_;rintro e w1 ⟨rfl,rfl⟩)
 go_ret;exact ⟨rfl,rfl⟩
def fO (L:List (ByteArray×Ver)):List Wq:=L.flatMap fun e=>AT e.1 e.2
def dl (L:List (ByteArray×Ver)):Nat:=(L.map fun e=>uU e.1 e.2).sum
def eu (L:List (ByteArray×Ver)):List Wq:=L.flatMap fun e=>tD e.1 e.2
theorem yw {L:List (ByteArray×Ver)}{i:Nat}(h:i<L.length):dl (L.take (i+1))=dl (L.take i)+uU L[i].1 L[i].2:=by
 unfold dl;rw [tS h];simp only [List.map_append,List.sum_append,List.map_cons,List.map_nil,List.sum_cons,List.sum_nil,Nat.add_zero]
theorem yx {L:List (ByteArray×Ver)}{i:Nat}(h:i<L.length):fO (L.take (i+1))=fO (L.take i)++AT L[i].1 L[i].2:=by
 unfold fO;rw [tS h];simp only [List.flatMap_append,List.flatMap_cons,List.flatMap_nil,List.append_nil]
theorem Db (L:List (ByteArray×Ver))(i:Nat):dl (L.take i)<=dl L:=by
 have:dl L=dl (L.take i)+dl (L.drop i):=by
  unfold dl;rw [<-List.sum_append,<-List.map_append,List.take_append_drop]
 omega
theorem AW {L:List (ByteArray×Ver)}{i:Nat}(h:i<L.length):(eu L)[i * 4]?=some (.string L[i].1)/\(eu L)[i * 4+1]?=some (.int .i64 L[i].2.num)/\(eu L)[i * 4+2]?=some (.string L[i].2.body)/\(eu L)[i * 4+3]?=some (.bool L[i].2.mark):=by
 induction L generalizing i with
 |nil=>simp at h
 |cons e L ih=>
  cases i with
  |zero=>simp [eu,tD]
  |succ i=>
   have hh:i<L.length:=by simpa using h
   have:=ih hh;simp only [eu,List.flatMap_cons,tD,List.cons_append,List.nil_append] at this ⊢;have e0:(i+1) * 4=i * 4+4:=by omega
   rw [e0];simpa using this
theorem AX {m:Int}(h0:0<=m)(h1:m<=9223372036854775808):IntKind.u64.wrap m=m:=by
 simp [IntKind.wrap,IntKind.bits,IntKind.signed];omega
theorem yy {w:Wz}{base:Nat}{T:Wk}{size n:Nat}{v:Wq}{xs:List Wq}(h:w.ownsRow base T size v n xs)(hn:0<n):∃g cap,v=.slice (some ⟨g,0,none⟩) n cap/\∀j u,xs[j]?=some u->w.cell? ⟨g,j,none⟩=some u:=by
 have hc:=fun g hg=>h.cells (g:=g) hg
 rcases h.2 with ⟨rfl,e0⟩|⟨g,cap,cur,rfl,-⟩
 .omega
 .refine ⟨g,cap,rfl,fun j u hj=>?_⟩;have:=hc g rfl j u hj;simpa only [Addr.add_lit,zA] using this
def AY (xs:List Wq):Prop:=∃l:List UInt8,xs=l.map fun b=>Value.int .u8 b.toNat
theorem AY.append {xs ys:List Wq}(h:AY xs)(h':AY ys):AY (xs++ys):=by
 obtain ⟨l,rfl⟩:=h;obtain ⟨m,rfl⟩:=h';exact ⟨l++m,by rw [List.map_append]⟩
theorem iT {x:Int}(h0:0<=x)(h1:x<256):AY [.int .u8 x]:=by
 refine ⟨[UInt8.ofNat x.toNat],?_⟩;have:(UInt8.ofNat x.toNat).toNat=x.toNat:=by simp [UInt8.toNat_ofNat'];omega
 simp only [List.map_cons,List.map_nil,this];congr 2;omega
theorem mI (m:Int)(k:Nat):AY (num8 m k):=by
 induction k with
 |zero=>exact ⟨[],rfl⟩
 |succ k ih=>rw [sK];exact ih.append (iT (Int.emod_nonneg _ (by decide)) (Int.emod_lt_of_pos _ (by decide)))
theorem Dc (s:ByteArray):AY (Lib.strCells s):=⟨s.data.toList,rfl⟩
theorem nW (s:ByteArray):AY (oj s):=(iT (Int.emod_nonneg _ (by decide)) (Int.emod_lt_of_pos _ (by decide))).append (Dc s)
theorem Dd (k:ByteArray)(v:Ver):AY (AT k v):=by
 unfold AT;split
 .exact ((iT (by decide) (by decide)).append (mI _ _)).append (nW k)
 .exact (((iT (by decide) (by decide)).append (mI _ _)).append (nW k)).append (nW _)
theorem AZ (L:List (ByteArray×Ver)):AY (fO L):=by
 induction L with
 |nil=>exact ⟨[],rfl⟩
 |cons e L ih=>exact (Dd e.1 e.2).append ih
theorem yA (L:List (ByteArray×Ver))(last tm:Int):AY (((((fO L++[.int .u8 3])++num8 (last+1) 8)++[.int .u8 4])++num8 tm 8)):=
 ((((AZ L).append (iT (by decide) (by decide))).append (mI _ _)).append (iT (by decide) (by decide))).append (mI _ _)
theorem ak.grown {w W w':Wz}{row:Option Nat}(h:ak w W)(hg:W.grownBy w' row)(hr:∀g,row=some g->w.heap.size<=g):ak w w':=
 ⟨hg.os.trans h.os,lT h.size hg.size,fun b hb=>(hg.block b (lL hb h.size) (fun e=>by have:=hr b e.symm;omega)).trans (h.block b hb)⟩
theorem E8 (k0:Nat)(L:List (ByteArray×Ver))(last tm:Int)(w:Wz)(c2:w.cell? ⟨k0,2,none⟩=some (.int .i64 last))(c3:w.cell? ⟨k0,3,none⟩=some (.int .u64 tm))
  (hE:Calls Yq.prog 76 #[.pointer (some ⟨k0,0,none⟩)] w fun e w'=>∃v,e=.returned v/\w'.ownsRow w.heap.size 137 4 v L.length (eu L)/\ak w w')
  (hN:dl L+18<=100000000000) (hL:L.length<=1000000) (hnum:∀e∈L,0<=e.2.num/\e.2.num<=9223372036854775807) (hl0:0<=last) (hl1:last<=9223372036854775807):
  Calls Yq.prog 48 #[.pointer (some ⟨k0,0,none⟩)] w fun e w'=>∃s,e=.returned (.string s)/\Lib.strCells s=fO L++([.int .u8 3]++num8 (last+1) 8++([.int .u8 4]++num8 tm 8))/\ak w w':=by
 obtain ⟨i0,hi0,hz0,hz1,hz2⟩:=info_parts Yq.infoByte;have HE:Hid (Calls Yq.prog 76 #[.pointer (some ⟨k0,0,none⟩)] w fun e w'=>∃v,e=.returned v/\w'.ownsRow w.heap.size 137 4 v L.length (eu L)/\ak w w'):=hE;clear hE;go_enter (Yq.nq Tryz.func48),Tryz.ntmps48;go_wp2_with (go_at_call 76;refine HE.out.mono ?_;rintro e w1 ⟨v,rfl,ho1,hb1⟩;obtain ⟨va,vc,rfl,-⟩:=aw ho1)
 go_loopw [3,9] (fun s3 s9 wr=>∃i:Nat,i<=L.length/\s9=.int .i64 i/\wr.ownsRow w1.heap.size 5 1 s3 (dl (L.take i)) (fO (L.take i))/\Below w1.heap.size w1 wr) (fun _ s9 _=>L.length-(intOf s9).toNat)
 case atStart=>exact ⟨0,Nat.zero_le _,rfl,by simpa [dl,fO] using World.ownsRow_nil _ _ _ _,bR _ _⟩
 case round=>
  obtain ⟨i,hin,rfl,hown,hb⟩:=hrel;obtain ⟨ua,uc,rfl,-⟩:=aw hown;by_cases hlt:i<L.length
  .have hval:∃g,va=some ⟨g,0,none⟩/\g<w1.heap.size:=by
    rcases ho1.2 with ⟨e,e0⟩|⟨g,cap,cur,e,-,hr,-⟩
    .omega
    .cases e;exact ⟨g,rfl,(eS hr).1⟩
   obtain ⟨g,rfl,hg⟩:=hval;obtain ⟨q0,q1,q2,q3⟩:=AW hlt;have x0:=aj hb (ho1.cells (g:=g) rfl _ _ q0);have x1:=aj hb (ho1.cells (g:=g) rfl _ _ q1);have x2:=aj hb (ho1.cells (g:=g) rfl _ _ q2);have x3:=aj hb (ho1.cells (g:=g) rfl _ _ q3);simp only [Addr.add_lit,zA] at x0 x1 x2 x3;clear q0 q1 q2 q3;have HNT:Hid (dl (L.take (i+1))=dl (L.take i)+uU L[i].1 L[i].2/\fO (L.take (i+1))=fO (L.take i)++AT L[i].1 L[i].2/\dl (L.take (i+1))<=dl L):=⟨yw hlt,yx hlt,Db L (i+1)⟩;have HNM:Hid (0<=L[i].2.num/\L[i].2.num<=9223372036854775807):=hnum _ (List.getElem_mem hlt);have HX:Hid (wr.ownsRow w1.heap.size 5 1 (.slice ua (dl (L.take i)) uc) (dl (L.take i)) (fO (L.take i))/\Below w1.heap.size w1 wr):=⟨hown,hb⟩;clear hown hb ho1 hnum;generalize L[i]=en at *;obtain ⟨ek,enum,ebody,emark⟩:=en;simp only at x0 x1 x2 x3 HNT HNM;have HC:Hid (∀ (wx:Wz) (ua:Option Ww) (uc n:Nat),wx.ownsRow w1.heap.size 5 1 (.slice ua n uc) n (fO (L.take i))->w1.heap.size<=wx.heap.size->n+uU ek ⟨enum,ebody,emark⟩<=100000000000->0<=enum->enum<=9223372036854775807->Calls Yq.prog 77 #[.slice ua n uc,.agg #[.string ek,.int .i64 enum,.string ebody,.bool emark]] wx fun e w'=>∃v',e=.returned v'/\w'.ownsRow w1.heap.size 5 1 v' (n+uU ek ⟨enum,ebody,emark⟩) (fO (L.take i)++AT ek ⟨enum,ebody,emark⟩)/\Gb wx (.slice ua n uc) w' v'):=fun wx ua uc n h1 h2 h3 h4 h5=>ol w1.heap.size n ua uc _ ek ⟨enum,ebody,emark⟩ wx h1 h2 h3 h4 h5
   go_wp2_with (go_at_call 77;refine (HC.out _ _ _ _ (HX.out.1.alloc _) (by have:=HX.out.2.size;simp;omega) (by have:=HNT.out.1;have:=HNT.out.2.2;omega) HNM.out.1 HNM.out.2).mono ?_;rintro e w2 ⟨v2,rfl,ho2,hg2⟩)
   have hs2:=HX.out.2.size;refine ⟨⟨i+1,by omega,by go_num,?_,(HX.out.2.alloc hs2 _).grown hg2.grown (by simp;omega) (fun k e=>(HX.out.1.lt k e).1)⟩,by simp [intOf];omega⟩;rw [HNT.out.1,HNT.out.2.1];exact ho2
  .have hie:i=L.length:=by omega
   subst hie;rw [List.take_length] at hown;have hs1:=hb1.size;have hsr:=hb.size;have hk0:k0<w.heap.size:=bC w _ c2;have HX:Hid (wr.ownsRow w1.heap.size 5 1 (.slice ua (dl L) uc) (dl L) (fO L)/\Below w1.heap.size w1 wr/\ak w wr):=⟨hown,hb,hb1.trans (.below hb)⟩;rw [List.take_length];have y2:=HX.out.2.2.cell c2;have y3:=HX.out.2.2.cell c3;have y2':=an y2;have HEN:Hid (∀ (args:Array Wq) (wx:Wz),(callFunc 78 args).run Yq.prog wx=.ok (.enter 78 args) wx):=fun args wx=>by go_simp
   have HOW:Hid (∀ (X:Obj),(wr.drew.alloc X).ownsRow w1.heap.size 5 1 (.slice ua (dl L) uc) (dl L) (fO L)):=fun X=>((aX HX.out.1 fun g _ _=>rfl:wr.drew.ownsRow _ _ _ _ _ _).alloc X)
   have HNW:Hid (∀ (wx:Wz) (x:Wq) (j:Nat) (u:Wq),[x][j]?=some u->((wx.drew.alloc (.cells #[x] 5)).cell? ((⟨wx.heap.size,0,none⟩:Ww).add j))=some u):=fun wx x j u hj=>wC wx.drew x 5 j u hj
   have HK:Hid (∀ (wx wy:Wz) (v v':Wq) (n:Nat) (xs:List Wq),wx.ownsRow w1.heap.size 5 1 v n xs->ak w wx->w1.heap.size<=wx.heap.size->Gb wx v wy v'->ak w wy/\w1.heap.size<=wy.heap.size/\wy.cell? ⟨k0,2,none⟩=some (.int .i64 last)/\wy.cell? ⟨k0,3,none⟩=some (.int .u64 tm)):=fun wx wy v v' n xs ho hbx hsx hg=>by
    have hby:ak w wy:=ak.grown hbx hg.grown (fun k e=>lT hs1 (ho.lt k e).1);exact ⟨hby,lT hsx hg.grown.size,hby.cell c2,hby.cell c3⟩
   have HC1:Hid (∀ (wx:Wz) (v:Wq) (n:Nat) (xs:List Wq),wx.ownsRow w1.heap.size 5 1 v n xs->w1.heap.size<=wx.heap.size->n+8<=100000000000->Calls Yq.prog 78 #[v,.int .u64 (IntKind.u64.wrap (IntKind.u64.wrap last+1))] wx fun e w'=>∃v',e=.returned v'/\w'.ownsRow w1.heap.size 5 1 v' (n+8) (xs++num8 (last+1) 8)/\Gb wx v w' v'):=fun wx v n xs h1 h2 h3=>by
    rw [qw hl0 hl1,AX (by omega) (by omega)];exact fN _ n v xs _ wx h1 h2 h3
   have HC2:Hid (∀ (wx:Wz) (v:Wq) (n:Nat) (xs:List Wq),wx.ownsRow w1.heap.size 5 1 v n xs->w1.heap.size<=wx.heap.size->n+8<=100000000000->Calls Yq.prog 78 #[v,.int .u64 tm] wx fun e w'=>∃v',e=.returned v'/\w'.ownsRow w1.heap.size 5 1 v' (n+8) (xs++num8 tm 8)/\Gb wx v w' v'):=fun wx v n xs h1 h2 h3=>fN _ n v xs _ wx h1 h2 h3
   clear hown hb ho1 hb1;go_wp2_with fail
   go_region_law (first
    |(refine cF rfl (.tmp 17) (.tmp 18) 48 rfl w1.heap.size 5 i0 _ 1 1 (Yq.u Tryz.underlying48) hi0 hz0 hz1 hz2 rfl (by decide) (.slice ua (dl L) uc) (dl L) (fO L) (by first|(simp [Act.eval];done)|(simp [Act.eval,Act.put];done)|go_simp) (HOW.out _) ⟨wr.heap.size,0,none⟩ 1 1 [.int .u8 3] (by first|(simp [Act.eval];done)|(simp [Act.eval,Act.put];done)|go_simp) rfl (HNW.out _ _) (o6 _) (by simp only [maxLen];omega) (by omega) (by simp;omega) ?_;intro v1 w2 ho2 hg2 hat2;have hG2:Gb wr (.slice ua (dl L) uc) w2 v1:=Gb.ofDrew (Gb.alloc ⟨hg2,hat2⟩);obtain ⟨hb2,hs2,z2,z3⟩:=HK.out _ _ _ _ _ _ HX.out.1 HX.out.2.2 hsr hG2;clear hg2 hat2)
    |(refine aY rfl 78 #[.tmp 19,.tmp 25] #[48,57] rfl #[v1,.int .u64 (IntKind.u64.wrap (IntKind.u64.wrap last+1))] (by first|(simp [Act.eval];done)|(simp [Act.eval,Act.put];done)|go_simp) (HEN.out _ _) _ (HC1.out w2 v1 _ _ ho2 hs2 (by omega)) ?_;rintro v3 w3 ⟨ho3,hg3⟩;obtain ⟨hb3,hs3,x2,x3⟩:=HK.out _ _ _ _ _ _ ho2 hb2 hs2 hg3;have x3':=an x3;clear hg3 z2 z3 ho2 hb2 hs2 hG2))
   all_goals go_wp2_with fail
   all_goals go_region_law (first
    |(refine cF rfl (.tmp 27) (.tmp 28) 48 rfl w1.heap.size 5 i0 _ 1 1 (Yq.u Tryz.underlying48) hi0 hz0 hz1 hz2 rfl (by decide) v3 (dl L+1+8) _ (by first|(simp [Act.eval];done)|(simp [Act.eval,Act.put];done)|go_simp) ((aX ho3 fun g _ _=>rfl:w3.drew.ownsRow _ _ _ _ _ _).alloc _) ⟨w3.heap.size,0,none⟩ 1 1 [.int .u8 4] (by first|(simp [Act.eval];done)|(simp [Act.eval,Act.put];done)|go_simp) rfl (HNW.out _ _) (o6 _) (by simp only [maxLen];omega) (by omega) (by simp;omega) ?_;intro v4 w4 ho4 hg4 hat4;obtain ⟨hb4,hs4,z2,z3⟩:=HK.out _ _ _ _ _ _ ho3 hb3 hs3 (Gb.ofDrew (Gb.alloc ⟨hg4,hat4⟩));clear hg4 hat4 x2 x3 x3' ho3 hb3 hs3)
    |(refine aY rfl 78 #[.tmp 29,.tmp 33] #[48,57] rfl #[v4,.int .u64 tm] (by first|(simp [Act.eval];done)|(simp [Act.eval,Act.put];done)|go_simp) (HEN.out _ _) _ (HC2.out w4 v4 _ _ ho4 hs4 (by omega)) ?_;rintro v5 w5 ⟨ho5,hg5⟩;obtain ⟨hb5,-,-,-⟩:=HK.out _ _ _ _ _ _ ho4 hb4 hs4 hg5;clear hg5 z2 z3 ho4 hb4 hs4))
   all_goals obtain ⟨g5,vc5,rfl,hr5⟩:=yy ho5 (by omega)
   all_goals obtain ⟨bs,hbs⟩:=yA L last tm
   all_goals
    have hlen5:bs.length=dl L+1+8+1+8:=by
     have:=ho5.1;rw [hbs,lM] at this;omega
    have hcv:(convert 48 9 (.slice (some ⟨g5,0,none⟩) (dl L+1+8+1+8) vc5)).run Yq.prog w5=.ok (.string ⟨bs.toArray⟩) w5:=by
     rw [<-hlen5];refine run_convert_bytes_back w5 48 9 5 ⟨g5,0,none⟩ vc5 bs (Yq.u Tryz.underlying48) (Yq.u Tryz.underlying5) (Yq.u Tryz.underlying9) fun j hj=>?_
     rw [Addr.add_lit,zA];refine hr5 j _ ?_;rw [hbs,List.getElem?_map,eL hj];rfl
    have HF:Hid (Lib.strCells ⟨bs.toArray⟩=fO L++([.int .u8 3]++num8 (last+1) 8++([.int .u8 4]++num8 tm 8))/\ak w w5):=by
     refine ⟨?_,hb5⟩;rw [Lib.strCells];simp only [pA] at hbs ⊢;exact hbs.symm
    clear hbs hr5 hb5 ho5 hlen5;go_wp2;go_ret;exact ⟨_,rfl,HF.out.1,HF.out.2⟩
end
section
open Go
open Go.Conc Go.ConcX Go.ConcX.Gen Go.RowKit
theorem Yq.infoEnt:(Yq.prog.info? 137).map (fun i=>(i.zero,i.size,i.bytes))=some (some (.agg #[.string ⟨#[]⟩,.int .i64 0,.string ⟨#[]⟩,.bool false]),4,48):=by kernel_rfl
def cn (l:KVs):List (ByteArray×Ver):=l.flatMap fun x=>x.2.map fun v=>(⟨x.1.toArray⟩,v)
def uV (t:Nat)(X:Wz)(b:Nat):Prop:=∃v,X.cell? ⟨t,0,none⟩=some v/\v.ownBlock=some b
theorem uV.of {t:Nat}(X Y:Wz)(b:Nat)(h:Y.heap[t]?=X.heap[t]?):uV t Y b->uV t X b:=fun ⟨v,h1,h2⟩=>⟨v,(cB (a:=⟨t,0,none⟩) h).symm.trans h1,h2⟩
def iU (w:Wz)(root:Option Ww):Wz:=((w.alloc (.cells #[.slice none 0 0] 134)).alloc (.cells #[.pointer root] 56)).alloc (.cells #[.string ⟨#[]⟩] 9)
theorem cU (w:Wz)(root:Option Ww):(iU w root).heap.size=w.heap.size+3:=by simp only [iU,World.alloc,Array.size_push]
theorem qx (w:Wz)(root:Option Ww){b:Nat}(h:b<w.heap.size):(iU w root).heap[b]?=w.heap[b]?:=by
 simp only [iU,World.alloc,gP,Array.size_push]
 repeat rw [if_neg (by omega)]
theorem qy (w:Wz)(root:Option Ww)(i:Nat)(h:i<3):(iU w root).heap[w.heap.size+i]?=(#[.cells #[.slice none 0 0] 134,.cells #[.pointer root] 56,.cells #[.string ⟨#[]⟩] 9]:Array Obj)[i]?:=by
 simp only [iU,World.alloc,gP,Array.size_push];rcases i with - | - | - |i;all_goals first|omega|skip
 all_goals
  repeat rw [if_neg (by omega)]
  simp
structure qF (t:Nat)(w3:Wz)(E:List (ByteArray×Ver))(X:Wz):Prop where
 os:X.os=w3.os
 size:w3.heap.size<=X.heap.size
 block:∀b,b<w3.heap.size->b≠t->X.heap[b]?=w3.heap[b]?
 row:∃v,X.heap[t]?=some (.cells #[v] 134)/\X.ownsRow w3.heap.size 137 4 v E.length (eu E)
section
variable {t:Nat} {w3 X Y:Wz} {E:List (ByteArray×Ver)}
theorem qF.own (I:qF t w3 E X)(b:Nat)(h:uV t X b):w3.heap.size<=b/\∃o:Obj,X.heap[b]?=some o/\o.isCells=true:=by
 obtain ⟨v,h1,h2⟩:=I.row;obtain ⟨v',h3,h4⟩:=h;have e:X.cell? ⟨t,0,none⟩=some v:=by simp [World.cell?,h1]
 rw [e] at h3;cases h3;refine ⟨(h2.lt b h4).1,?_⟩;rcases h2.2 with ⟨rfl,-⟩|⟨g,cap,cur,rfl,-,hr,-⟩
 .simp [Value.ownBlock] at h4
 .simp only [Value.ownBlock,oI] at h4;subst h4;exact ⟨_,hr,rfl⟩
theorem qF.stable (ht:t<w3.heap.size)(I:qF t w3 E X)(h1:∀b,b<w3.heap.size->Y.heap[b]?=X.heap[b]?)(h2:∀b,uV t X b->Y.heap[b]?=X.heap[b]?)(h3:X.heap.size<=Y.heap.size)(h4:Y.os=X.os):qF t w3 E Y:=by
 obtain ⟨v,r1,r2⟩:=I.row;exact ⟨h4.trans I.os,lT I.size h3,fun b hb hne=>(h1 b hb).trans (I.block b hb hne),v,(h1 t ht).trans r1,ep r2 fun g hg=>h2 g ⟨v,by simp [World.cell?,r1],hg⟩⟩
theorem qF.push (ht:t<w3.heap.size)(I:qF t w3 E X){v v':Wq}{w2:Wz}{k:ByteArray}{x:Ver}(hr:X.heap[t]?=some (.cells #[v] 134))(ho:w2.ownsRow w3.heap.size 137 4 v' (E.length+1) (eu E++tD k x))(hG:Gb X v w2 v'):
  qF t w3 (E++[(k,x)]) (w2.setCell ⟨t,0,none⟩ v')/\dZ (uV t) t t X (w2.setCell ⟨t,0,none⟩ v'):=by
 obtain ⟨v0,r1,r2⟩:=I.row;rw [hr] at r1;cases r1;have hcell:X.cell? ⟨t,0,none⟩=some v:=by simp [World.cell?,hr]
 have hlow:∀g,v.ownBlock=some g->w3.heap.size<=g:=fun g hg=>(r2.lt g hg).1
 have hX:=I.size;have hne:∀b,b<X.heap.size->v.ownBlock≠some b->w2.heap[b]?=X.heap[b]?:=fun b hb hn=>hG.grown.block b hb (fun e=>hn e.symm)
 have hnt:v.ownBlock≠some t:=fun e=>by have:=hlow t e;omega
 have ht2:w2.heap[t]?=some (.cells #[v] 134):=(hne t (by omega) hnt).trans hr;have hset:∀b,b≠t->(w2.setCell ⟨t,0,none⟩ v').heap[b]?=w2.heap[b]?:=fun b hb=>bS _ _ _ _ hb
 have hst:(w2.setCell ⟨t,0,none⟩ v').heap[t]?=some (.cells #[v'] 134):=by
  obtain ⟨h1,h2⟩:=eS ht2;show (w2.heap.modify t _)[t]?=_;rw [eG (by rw [Array.size_modify];exact h1),Array.getElem_modify_self,h2];rfl
 have hsz:(w2.setCell ⟨t,0,none⟩ v').heap.size=w2.heap.size:=by simp
 have hos:(w2.setCell ⟨t,0,none⟩ v').os=X.os:=hG.grown.os;have hg:=hG.grown.size;refine ⟨⟨hos.trans I.os,by omega,fun b hb hbt=>?_,v',hst,?_⟩,by omega,hos,fun b hb=>?_,fun b hb hbt _ hn=>?_⟩
 .rw [hset b hbt,hne b (by omega) (fun e=>by have:=hlow b e;omega)];exact I.block b hb hbt
 .have e1:eu (E++[(k,x)])=eu E++tD k x:=by simp [eu]
  rw [e1,lP,lS];exact ep ho fun g hg=>hset g (fun e=>by have:=(ho.lt g hg).1;omega)
 .obtain ⟨v1,h1,h2⟩:=hb;have e:(w2.setCell ⟨t,0,none⟩ v').cell? ⟨t,0,none⟩=some v':=by simp [World.cell?,hst]
  rw [e] at h1;cases h1;rcases hG.at_ b h2 with h|h
  .exact .inl ⟨v,hcell,h⟩
  .exact .inr h
 .rw [hset b hbt,hne b hb (fun e=>hn ⟨v,hcell,e⟩)]
end
theorem mr {F:Fence}{nF:Nat}{P:Program}(w:Wz){ops:Array Oper}{rest:List Oper}{o:Oper}{a:Act}{Q:Exit->Act->Wz->Prop}
  (hg:o.guard=none) (s x:Operand) (t:Wk) (hop:o.op=Op.call {callee:=Callee.builtin Builtin.append,args:=#[s,x],argTypes:=#[t,t]})
  (base:Nat) (e:Wk) (i:TypeInfo) (z:Wq) (size bytes:Nat) (h1:P.underlying t=some (.slice e)) (h2:P.info? e=some i) (h3:i.zero=some z) (h4:i.size=size) (h5:i.bytes=bytes) (h6:z.cells.size=size) (h7:0<size)
  (v:Wq) (k:Nat) (xs:List Wq) (hs:a.eval s=v) (hown:w.ownsRow base e size v k xs) (ad:Ww) (m c:Nat) (news:List Wq) (hx:a.eval x=.slice (some ad) m c) (hn:news.length=m * size)
  (hc:∀j u,news[j]?=some u->w.cell? (ad.add j)=some u) (h1c:∀u∈news,u.oneCell'=true) (b1:k+m<=maxLen) (b2:(k+m) * bytes<=140737488355328) (b3:base<=w.heap.size)
  (hK:∀v' w',w'.ownsRow base e size v' (k+m) (xs++news)->Gb w v w' v'->wpListIn F nF P ops Q rest (a.put o.dst v') w'):
  wpListIn F nF P ops Q (o::rest) a w:=by
 refine wpListIn_plain hg fun K hK'=>?_
 obtain ⟨v',w',hrun,r1,r2,r3⟩:=jx (P:=P) w base t o.type e i z size bytes h1 h2 h3 h4 h5 h6 h7 v k xs hown ad m c news hn hc h1c b1 b2 b3;unfold Oper.wpIn;refine ⟨?_,?_⟩
 .simp [Oper.about,hop,resolve,Target.leads,Sem.run_pure]
 .rw [Oper.semAt_plain F _ _ (by rw [hop];intro c hc';cases hc')];simp [execOp,hop,resolve,invoke,builtin,hs,hx,hrun,Result.andThen];exact hK' _ _ (hK v' w' r1 ⟨r2,r3⟩)
noncomputable def A0:Code:=yd (cIn (bB (fI (bB (bB (aZ Tryz.f76))))))
def fi (w:Wz)(k0:Nat)(root:Option Ww)(x4 x5 x13 x14:Wq):Array Wq:=
 #[.pointer (some ⟨k0,0,none⟩),Wy,.slice none 0 0,.pointer (some ⟨w.heap.size,0,none⟩),x4,x5,Wy,Wy,.pointer (some ⟨k0,0,none⟩),.pointer (some ⟨k0,0,none⟩),.pointer (some ⟨k0,0,none⟩),
  .agg #[.pointer root],.func (.func 122) #[] #[ptr (w.heap.size+1),ptr (w.heap.size+2)],x13,x14,Wy,Wy,Wy,Wy,Wy,Wy,Wy,Wy,Wy,Wy,Wy,Wy,Wy,Wy,Wy,Wy]
theorem dZ.refl (O:Wz->Nat->Prop)(c t:Nat)(W:Wz):dZ O c t W W:=⟨lR _,rfl,fun _ h=>.inl h,fun _ _ _ _ _=>rfl⟩
theorem dZ.trans {O:Wz->Nat->Prop}{c t:Nat}{W W' W'':Wz}(h:dZ O c t W W')(k:dZ O c t W' W''):dZ O c t W W'':=⟨lT h.1 k.1,k.2.1.trans h.2.1,Ad h.1 h.2.2.1 k.2.2.1,fun b h1 h2 h3 h4=>by
 have hb:b<W'.heap.size:=lL h1 h.1;have hx:∃o,W.heap[b]?=some o:=⟨_,eG h1⟩;obtain ⟨o,ho⟩:=hx;exact (k.2.2.2 b hb h2 h3 (rK h.2.2.1 ho h4)).trans (h.2.2.2 b h1 h2 h3 h4)⟩
theorem E9 (w:Wz)(a b c d:Wq)(T:Wk)(j:Nat)(u:Wq)(h:[a,b,c,d][j]?=some u):(w.alloc (.cells #[a,b,c,d] T)).cell? ((⟨w.heap.size,0,none⟩:Ww).add j)=some u:=by
 rw [Addr.add_lit,zA,cA (w:=w) _ _ w.heap.size j rfl];rw [<-h];rcases j with - | - | - | - |j<;>rfl
theorem Fb (k:ByteArray)(v:Ver):∀u∈tD k v,u.oneCell'=true:=fun u hu=>by
 simp [tD] at hu;rcases hu with rfl|rfl|rfl|rfl<;>rfl
theorem yB (pre:KVs)(k:List UInt8)(h:List Ver):cn (pre++[(k,h)])=cn pre++h.map fun v=>(⟨k.toArray⟩,v):=by simp [cn]
section
attribute [local go_sem] Oper.semAt_some jX
theorem De (k0:Nat)(root:Option Ww)(w:Wz)(A:Nat->Prop)(hA:∀b,A b->b<w.heap.size)(l:Nat)(pre:KVs)(k:List UInt8)(h:List Ver)(hv:Wq)(W:Wz)(hh:aT A (iU w root) hv h)(hne:h≠[])(hl:(cn pre).length+h.length<=1000000)(I:qF w.heap.size (iU w root) (cn pre) W):
  A0.wpIn (wf (some l)) 0 Yq.prog (fun e _ W'=>e=.normal/\dZ (uV w.heap.size) w.heap.size w.heap.size W W'/\qF w.heap.size (iU w root) (cn (pre++[(k,h)])) W') ⟨fi w k0 root (.string ⟨k.toArray⟩) hv (.string ⟨k.toArray⟩) hv,[]⟩ W:=by
 obtain ⟨Q,hQ⟩:∃Q:Exit->Act->Wz->Prop,Q=fun e _ W'=>e=.normal/\dZ (uV w.heap.size) w.heap.size w.heap.size W W'/\qF w.heap.size (iU w root) (cn (pre++[(k,h)])) W':=⟨_,rfl⟩
 rw [<-hQ];have HQ:Hid (Q=fun e _ W'=>e=.normal/\dZ (uV w.heap.size) w.heap.size w.heap.size W W'/\qF w.heap.size (iU w root) (cn (pre++[(k,h)])) W'):=hQ;clear hQ;obtain ⟨i0,hi0,hz0,hz1,hz2⟩:=info_parts Yq.infoEnt;obtain ⟨g,cap,rfl,hAg,hgl,hcs,-⟩:=hh.cells hne;have hgw:g<w.heap.size:=hA g hAg;obtain ⟨n,hn⟩:∃n,n=h.length:=⟨_,rfl⟩;have hszW:w.heap.size+3<=W.heap.size:=by have:=I.size;rwa [cU] at this
 have HI:Hid (qF w.heap.size (iU w root) (cn pre) W):=I;have HC:Hid (∀i (hi:i<h.length),(iU w root).cell? ⟨g,i * 3,none⟩=some (.int .i64 h[i].num)/\(iU w root).cell? ⟨g,i * 3+1,none⟩=some (.string h[i].body)/\(iU w root).cell? ⟨g,i * 3+2,none⟩=some (.bool h[i].mark)):=hcs;have HN:Hid (n=h.length/\(cn pre).length+h.length<=1000000/\g<w.heap.size):=⟨hn,hl,hgw⟩;rw [<-hn];clear I hcs hh hne hl hgw hgl hAg hn;unfold fi;dsimp only [A0,yd,aZ,Tryz.f76,cIn,fI,bB,nt,Option.getD]
 gi_wp2_with fail
 gi_loopw [17] (fun s17 wr=>∃i:Nat,i<=n/\s17=.int .i64 i/\qF w.heap.size (iU w root) (cn pre++(h.take i).map fun v=>(⟨k.toArray⟩,v)) wr/\dZ (uV w.heap.size) w.heap.size w.heap.size W wr) (fun s17 _=>n-(intOf s17).toNat)
 case atStart=>exact ⟨0,Nat.zero_le _,rfl,by simpa using HI.out,dZ.refl _ _ _ _⟩
 case round=>
  obtain ⟨i,hin,rfl,hE,hK⟩:=hrel;have HE:Hid (qF w.heap.size (iU w root) (cn pre++(h.take i).map fun v=>(⟨k.toArray⟩,v)) wr/\dZ (uV w.heap.size) w.heap.size w.heap.size W wr):=⟨hE,hK⟩;by_cases hlt:i<n
  .obtain ⟨v,hrw,how⟩:=hE.row;obtain ⟨va,vc,rfl,-⟩:=aw how;have hih:i<h.length:=by rw [<-HN.out.1];exact hlt
   have hwr:w.heap.size+3<=wr.heap.size:=by have:=hE.size;rwa [cU] at this
   have hgb:wr.heap[g]?=(iU w root).heap[g]?:=hE.block g (by rw [cU];have:=HN.out.2.2;omega) (by have:=HN.out.2.2;omega);obtain ⟨q0,q1,q2⟩:=HC.out i hih;have c0:wr.cell? ⟨g,i * 3,none⟩=some (.int .i64 h[i].num):=(cB (a:=⟨g,i * 3,none⟩) hgb).trans q0;have c1:wr.cell? ⟨g,i * 3+1,none⟩=some (.string h[i].body):=(cB (a:=⟨g,i * 3+1,none⟩) hgb).trans q1;have c2:wr.cell? ⟨g,i * 3+2,none⟩=some (.bool h[i].mark):=(cB (a:=⟨g,i * 3+2,none⟩) hgb).trans q2;have d0:wr.cell? ⟨w.heap.size,0,none⟩=some (.slice va (cn pre++(h.take i).map fun v=>((⟨k.toArray⟩:ByteArray),v)).length vc):=by simp [World.cell?,hrw]
   have hlen:(cn pre++(h.take i).map fun v=>((⟨k.toArray⟩:ByteArray),v)).length=(cn pre).length+i:=by rw [lP,lM,tL,Nat.min_eq_left (Nat.le_of_lt hih)]
   have htk:cn pre++(h.take (i+1)).map (fun v=>((⟨k.toArray⟩:ByteArray),v))=(cn pre++(h.take i).map fun v=>((⟨k.toArray⟩:ByteArray),v))++[(⟨k.toArray⟩,h[i])]:=by
    rw [tS hih,List.map_append,pA];rfl
   have hle:(cn pre++(h.take i).map fun v=>((⟨k.toArray⟩:ByteArray),v)).length+1<=1000000:=by have:=HN.out;omega
   clear hlen;have hi6:i+1<=1000000:=by have:=HN.out;omega
   generalize hEE:(cn pre++(h.take i).map fun v=>((⟨k.toArray⟩:ByteArray),v))=EE at *;have HT:Hid (cn pre++(h.take (i+1)).map (fun v=>((⟨k.toArray⟩:ByteArray),v))=EE++[(⟨k.toArray⟩,h[i])]):=htk;have HR:Hid (wr.heap[w.heap.size]?=some (.cells #[.slice va EE.length vc] 134)/\wr.ownsRow (iU w root).heap.size 137 4 (.slice va EE.length vc) EE.length (eu EE)):=⟨hrw,how⟩;clear htk hrw how hE hK hEE q0 q1 q2 hgb;generalize h[i]=vv at *;obtain ⟨num,body,mark⟩:=vv;simp only at c0 c1 c2;have d0':=an d0;have HNW:Hid (∀ (B:Obj) (j:Nat) (u:Wq),(tD ⟨k.toArray⟩ ⟨num,body,mark⟩)[j]?=some u->((wr.alloc B).alloc (.cells #[.string ⟨k.toArray⟩,.int .i64 num,.string body,.bool mark] 137)).cell? ((⟨wr.heap.size+1,0,none⟩:Ww).add j)=some u):=fun B j u hj=>by
    have:=E9 (wr.alloc B) (.string ⟨k.toArray⟩) (.int .i64 num) (.string body) (.bool mark) 137 j u hj;simpa using this
   have HBX:Hid (∀ (B C:Obj) (w2:Wz) (v1:Wq),Gb ((wr.alloc B).alloc C) (.slice va EE.length vc) w2 v1->w2.cell? ⟨w.heap.size,0,none⟩=some (.slice va EE.length vc)/\w2.frozen? ⟨w.heap.size,0,none⟩=false):=fun B C w2 v1 hg=>by
    have hG:=hg.alloc.alloc;have e:w2.heap[w.heap.size]?=some (.cells #[.slice va EE.length vc] 134):=(hG.grown.block _ (by omega) (fun e=>by have:=(HR.out.2.lt _ e.symm).1;rw [cU] at this;omega)).trans HR.out.1;exact ⟨by simp [World.cell?,e],by simp [World.frozen?,e]⟩
   gi_wp2_with (gi_at_builtin;refine mr _ rfl _ _ 134 rfl (iU w root).heap.size 137 i0 _ 4 48 (Yq.u Tryz.underlying134) hi0 hz0 hz1 hz2 rfl (by decide) _ EE.length (eu EE) rfl ((HR.out.2.alloc _).alloc _) ⟨wr.heap.size+1,0,none⟩ 1 1 (tD ⟨k.toArray⟩ ⟨num,body,mark⟩) rfl rfl (HNW.out _) (Fb _ _) (by simp only [maxLen];omega) (by omega) (by rw [cU];simp;omega) ?_;intro v1 w2 ho2 hg2;obtain ⟨va1,vc1,rfl,-⟩:=aw ho2;obtain ⟨b0,b1⟩:=HBX.out _ _ _ _ hg2)
   obtain ⟨p1,p2⟩:=HE.out.1.push (by rw [cU];omega) HR.out.1 ho2 hg2.alloc.alloc;exact ⟨⟨i+1,by omega,by go_num,by rw [HT.out];exact p1,HE.out.2.trans p2⟩,by simp [intOf];omega⟩
  .have hie:i=n:=by omega
   subst hie
   gi_wp2_with fail
   rw [HQ.out];refine ⟨rfl,HE.out.2,?_⟩;have:=HE.out.1;rw [tO (by rw [<-HN.out.1];exact lR _)] at this;rw [yB];exact this
end
end
end Go.Proofs.Qw
namespace Go.Proofs
section
open Go.Shelf Go.RowKit Go.Lib Go.Sort
def Yq.sortE_ren:Go.Shelf.Ren:=⟨fun| 6=>102| 15=>125| 14=>124| 28=>150| 29=>151| 20=>142| 21=>143| 22=>144| 23=>145| 24=>146| 25=>147| 26=>148| 27=>149| 46=>159| 47=>160| 48=>161| 49=>162| 50=>163| 57=>171|n=>n,fun| 22=>134| 24=>137| 25=>173| 3=>3| 39=>199| 0=>0| 53=>222| 55=>57| 4=>4| 46=>216| 45=>215| 50=>160| 5=>5| 9=>9| 66=>231| 70=>235| 76=>243| 77=>244|n=>n,fun n=>n⟩
theorem Yq.sortE:SlLaysF0.n6 Yq.prog Yq.sortE_ren:={
 mixed:=by kernel_rfl
 f6 := Exists.intro "slices.SortFunc[[]shelf/store.entry,shelf/store.entry]" ⟨by decide, (Yq.nq Tryz.func102).trans (congrArg some (by kernel_rfl))⟩
 f14 := Exists.intro "slices.pdqsortCmpFunc[shelf/store.entry]" ⟨by decide, (Yq.nq Tryz.func124).trans (congrArg some (by kernel_rfl))⟩
 f15:=(Yq.nq Tryz.func125).trans (congrArg some (by kernel_rfl))
 f20 := Exists.intro "slices.insertionSortCmpFunc[shelf/store.entry]" ⟨by decide, (Yq.nq Tryz.func142).trans (congrArg some (by kernel_rfl))⟩
 f21 := Exists.intro "slices.heapSortCmpFunc[shelf/store.entry]" ⟨by decide, (Yq.nq Tryz.func143).trans (congrArg some (by kernel_rfl))⟩
 f22 := Exists.intro "slices.breakPatternsCmpFunc[shelf/store.entry]" ⟨by decide, (Yq.nq Tryz.func144).trans (congrArg some (by kernel_rfl))⟩
 f23 := Exists.intro "slices.choosePivotCmpFunc[shelf/store.entry]" ⟨by decide, (Yq.nq Tryz.func145).trans (congrArg some (by kernel_rfl))⟩
 f24 := Exists.intro "slices.reverseRangeCmpFunc[shelf/store.entry]" ⟨by decide, (Yq.nq Tryz.func146).trans (congrArg some (by kernel_rfl))⟩
 f25 := Exists.intro "slices.partialInsertionSortCmpFunc[shelf/store.entry]" ⟨by decide, (Yq.nq Tryz.func147).trans (congrArg some (by kernel_rfl))⟩
 f26 := Exists.intro "slices.partitionEqualCmpFunc[shelf/store.entry]" ⟨by decide, (Yq.nq Tryz.func148).trans (congrArg some (by kernel_rfl))⟩
 f27 := Exists.intro "slices.partitionCmpFunc[shelf/store.entry]" ⟨by decide, (Yq.nq Tryz.func149).trans (congrArg some (by kernel_rfl))⟩
 f28:=(Yq.nq Tryz.func150).trans (congrArg some (by kernel_rfl))
 f29:=(Yq.nq Tryz.func151).trans (congrArg some (by kernel_rfl))
 f46 := Exists.intro "slices.siftDownCmpFunc[shelf/store.entry]" ⟨by decide, (Yq.nq Tryz.func159).trans (congrArg some (by kernel_rfl))⟩
 f47:=(Yq.nq Tryz.func160).trans (congrArg some (by kernel_rfl))
 f48:=(Yq.nq Tryz.func161).trans (congrArg some (by kernel_rfl))
 f49 := Exists.intro "slices.medianAdjacentCmpFunc[shelf/store.entry]" ⟨by decide, (Yq.nq Tryz.func162).trans (congrArg some (by kernel_rfl))⟩
 f50 := Exists.intro "slices.medianCmpFunc[shelf/store.entry]" ⟨by decide, (Yq.nq Tryz.func163).trans (congrArg some (by kernel_rfl))⟩
 f57 := Exists.intro "slices.order2CmpFunc[shelf/store.entry]" ⟨by decide, (Yq.nq Tryz.func171).trans (congrArg some (by kernel_rfl))⟩
 t0:=(Yq.u Tryz.underlying0)
 a0:=(fun w=>Yq.a (Tryz.isAgg0 w))
 z0:=(fun w=>Yq.s (Tryz.sizeOf0 w))
 v0:=(fun w=>Yq.z (Tryz.zeroValue0 w))
 t3:=(Yq.u Tryz.underlying3)
 a3:=(fun w=>Yq.a (Tryz.isAgg3 w))
 z3:=(fun w=>Yq.s (Tryz.sizeOf3 w))
 v3:=(fun w=>Yq.z (Tryz.zeroValue3 w))
 t4:=(Yq.u Tryz.underlying4)
 a4:=(fun w=>Yq.a (Tryz.isAgg4 w))
 z4:=(fun w=>Yq.s (Tryz.sizeOf4 w))
 v4:=(fun w=>Yq.z (Tryz.zeroValue4 w))
 t5:=(Yq.u Tryz.underlying5)
 a5:=(fun w=>Yq.a (Tryz.isAgg5 w))
 z5:=(fun w=>Yq.s (Tryz.sizeOf5 w))
 v5:=(fun w=>Yq.z (Tryz.zeroValue5 w))
 t9:=(Yq.u Tryz.underlying9)
 a9:=(fun w=>Yq.a (Tryz.isAgg9 w))
 z9:=(fun w=>Yq.s (Tryz.sizeOf9 w))
 v9:=(fun w=>Yq.z (Tryz.zeroValue9 w))
 t22:=(Yq.u Tryz.underlying134)
 a22:=(fun w=>Yq.a (Tryz.isAgg134 w))
 z22:=(fun w=>Yq.s (Tryz.sizeOf134 w))
 v22:=(fun w=>Yq.z (Tryz.zeroValue134 w))
 t25:=(Yq.u Tryz.underlying173)
 a25:=(fun w=>Yq.a (Tryz.isAgg173 w))
 z25:=(fun w=>Yq.s (Tryz.sizeOf173 w))
 v25:=(fun w=>Yq.z (Tryz.zeroValue173 w))
 t39:=(Yq.u Tryz.underlying199)
 a39:=(fun w=>Yq.a (Tryz.isAgg199 w))
 z39:=(fun w=>Yq.s (Tryz.sizeOf199 w))
 v39:=(fun w=>Yq.z (Tryz.zeroValue199 w))
 t45:=(Yq.u Tryz.underlying215)
 a45:=(fun w=>Yq.a (Tryz.isAgg215 w))
 z45:=(fun w=>Yq.s (Tryz.sizeOf215 w))
 v45:=(fun w=>Yq.z (Tryz.zeroValue215 w))
 t46:=(Yq.u Tryz.underlying216)
 a46:=(fun w=>Yq.a (Tryz.isAgg216 w))
 z46:=(fun w=>Yq.s (Tryz.sizeOf216 w))
 v46:=(fun w=>Yq.z (Tryz.zeroValue216 w))
 t50:=(Yq.u Tryz.underlying160)
 a50:=(fun w=>Yq.a (Tryz.isAgg160 w))
 z50:=(fun w=>Yq.s (Tryz.sizeOf160 w))
 v50:=(fun w=>Yq.z (Tryz.zeroValue160 w))
 t53:=(Yq.u Tryz.underlying222)
 a53:=(fun w=>Yq.a (Tryz.isAgg222 w))
 z53:=(fun w=>Yq.s (Tryz.sizeOf222 w))
 v53:=(fun w=>Yq.z (Tryz.zeroValue222 w))
 t55:=(Yq.u Tryz.underlying57)
 a55:=(fun w=>Yq.a (Tryz.isAgg57 w))
 z55:=(fun w=>Yq.s (Tryz.sizeOf57 w))
 v55:=(fun w=>Yq.z (Tryz.zeroValue57 w))
 t66:=(Yq.u Tryz.underlying231)
 a66:=(fun w=>Yq.a (Tryz.isAgg231 w))
 z66:=(fun w=>Yq.s (Tryz.sizeOf231 w))
 v66:=(fun w=>Yq.z (Tryz.zeroValue231 w))
 t70:=(Yq.u Tryz.underlying235)
 a70:=(fun w=>Yq.a (Tryz.isAgg235 w))
 z70:=(fun w=>Yq.s (Tryz.sizeOf235 w))
 v70:=(fun w=>Yq.z (Tryz.zeroValue235 w))
 t76:=(Yq.u Tryz.underlying243)
 a76:=(fun w=>Yq.a (Tryz.isAgg243 w))
 z76:=(fun w=>Yq.s (Tryz.sizeOf243 w))
 v76:=(fun w=>Yq.z (Tryz.zeroValue243 w))
 t77:=(Yq.u Tryz.underlying244)
 a77:=(fun w=>Yq.a (Tryz.isAgg244 w))
 z77:=(fun w=>Yq.s (Tryz.sizeOf244 w))
 v77:=(fun w=>Yq.z (Tryz.zeroValue244 w))}
end
end Go.Proofs
namespace Go.Proofs.Qw
section
open Go
open Go.Shelf Go.RowKit Go.Sort
@[reducible] def DJ:Inhabited (ByteArray×Ver):=⟨(⟨#[]⟩,⟨0,⟨#[]⟩,false⟩)⟩
def A2 (e:ByteArray×Ver):List Wq:=tD e.1 e.2
def cfE (x y:ByteArray×Ver):Int:=FD x.2.num y.2.num
def gp (E:List (ByteArray×Ver)):List (ByteArray×Ver):=(@Sort.pdq _ DJ (ltOf cfE) E.toArray 0 E.length (Lib.bitLen E.length) true true).toList
theorem ltE (x y:ByteArray×Ver):ltOf cfE x y=decide (x.2.num<y.2.num):=by
 unfold ltOf cfE FD;by_cases h1:x.2.num<y.2.num
 .simp [h1]
 .by_cases h2:y.2.num<x.2.num<;>simp [h1,h2]
theorem GT:SWO (ltOf cfE) where
 irrefl x:=by rw [ltE];simp
 trans x y z h1 h2:=by rw [ltE] at *;simp at *;omega
 ntrans x y z h1 h2:=by rw [ltE] at *;simp at *;omega
theorem uW (E:List (ByteArray×Ver)):@PermIn _ DJ 0 E.length E.toArray (gp E).toArray/\@SortedIn _ DJ (ltOf cfE) 0 E.length (gp E).toArray:=by
 letI:=DJ
 have h:=pdq_sorts (ltOf cfE) GT E.toArray 0 E.length (Lib.bitLen E.length) true true (Nat.zero_le _) (by simp) (Or.inl rfl);unfold gp;rw [Array.toArray_toList];exact h
theorem lj (E:List (ByteArray×Ver)):(gp E).Perm E:=by
 letI:=DJ
 have h:=(uW E).1;have h1:(gp E).length=E.length:=by simpa using h.1
 have h2:=h.2.2;rw [List.extract_toArray,List.extract_toArray] at h2;have h3:List.take E.length (gp E)=gp E:=tO (by omega);simpa [List.extract,h3] using h2
theorem gq (E:List (ByteArray×Ver)):(gp E).length=E.length:=(lj E).length_eq
theorem Ge (E:List (ByteArray×Ver)):(@flatK _ DJ A2 4 E.toArray).toList=eu E:=by
 letI:=DJ
 refine List.ext_getElem? fun j=>?_
 by_cases hj:j<E.length * 4
 .have hq:j / 4<E.length:=by omega
  have e:j=j / 4 * 4+j % 4:=by omega
  have h1:(flatK A2 4 E.toArray).toList[j]?=some (flatK A2 4 E.toArray)[j]!:=by
   rw [gT,eG (by simpa using hj),getElem!_pos _ j (by simpa using hj)]
  rw [h1,get_flatK _ _ _ _ (by simpa using hj)];have h2:=dV 4 (fun e:ByteArray×Ver=>tD e.1 e.2) (fun _=>rfl) E (j / 4) (j % 4) hq (by omega);rw [<-e] at h2;show _=(E.flatMap fun e=>tD e.1 e.2)[j]?;have a0:E.toArray[j / 4]! =E[j / 4]:=by rw [getElem!_pos _ _ (by simpa using hq)];simp
  rw [h2,a0];have hm:j % 4=0\/j % 4=1\/j % 4=2\/j % 4=3:=by omega
  rcases hm with h|h|h|h<;>rw [h]<;>rfl
 .rw [List.getElem?_eq_none (by simp;omega),List.getElem?_eq_none (by rw [show (eu E).length=E.length * 4 from eD 4 _ (fun _=>rfl) E];omega)]
theorem Fc (base:Nat)(E:List (ByteArray×Ver))(v:Wq)(w:Wz)(h:w.ownsRow base 137 4 v E.length (eu E))(hE:E.length<=1000000):
  Calls Yq.prog 102 #[v,.func (.func 103) #[] #[]] w fun e w'=>e=.returned (.tuple #[])/\w'.ownsRow base 137 4 v E.length (eu (gp E))/\(∀b,b<w.heap.size->v.ownBlock≠some b->w'.heap[b]?=w.heap[b]?)/\w.heap.size<=w'.heap.size/\w'.os=w.os:=by
 letI:=DJ
 rcases h.2 with ⟨rfl,h0⟩|⟨g,cap,cur,rfl,hb,hr,hle,hcap,hsz,htake⟩
 .have hcon:=AnyF.slices_SortFunc_none Yq.sortE none 0 (.func (.func 103) #[] #[]) w;change Calls Yq.prog 102 _ _ _ at hcon;refine hcon.mono ?_;rintro e w' ⟨rfl,rfl⟩;have e1:E=[]:=List.length_eq_zero_iff.1 h0;subst e1;have e2:gp []=[]:=List.length_eq_zero_iff.1 (gq []);refine ⟨rfl,?_,fun _ _ _=>rfl,lR _,rfl⟩;rw [e2];exact h
 .have eg:∀args w,(callFunc 103 args).run Yq.prog w=.ok (.enter 103 args) w:=fun args w=>by go_simp
  have hlt:g<w.heap.size:=(eS hr).1;have hcell:∀j,w.cell? ⟨g,j,none⟩=cur[j]?:=fun j=>cell_of_row w g j cur 137 (0,0) hr
  have hx:(eu E).length=E.length * 4:=eD 4 _ (fun _=>rfl) E;have hH:HoldsK A2 4 w g 0 E.toArray:=by
   intro j hj;have hj':j<E.length * 4:=by simpa using hj
   have e1:(flatK A2 4 E.toArray)[j]?=(eu E)[j]?:=by rw [<-Ge,gT]
   have e2:cur[j]?=(eu E)[j]?:=by
    rw [<-htake,List.getElem?_take_of_lt hj',gT]
   refine ⟨?_,?_⟩
   .rw [zA,hcell,e2,<-e1,getElem!_pos _ j hj,eG hj];rfl
   .rw [zA];simp [World.frozen?,hr]
  have hcmp:CmpLays Yq.prog 103 #[] A2 4 cfE g 0 E.toArray.size w:=fun _ _ _ _ x y=>by
   refine (AV x.1 y.1 x.2 y.2 _).mono ?_;rintro e w' ⟨rfl,rfl⟩;exact ⟨rfl,0,_,by rw [alloc_eq_grow,alloc_eq_grow,grow_grow];rfl⟩
  have hcon:=AnyQ.slices_SortFunc_eq Yq.sortE 4 (fun w=>Yq.a (Tryz.isAgg137 w)) (fun w=>Yq.s (Tryz.sizeOf137 w)) A2 (fun _=>rfl) (fun x v hv=>by simp [A2,tD] at hv;rcases hv with rfl|rfl|rfl|rfl<;>rfl) cfE GT 103 #[] g 0 cap E.toArray w eg hcmp hH hlt (by simp;omega);change Calls Yq.prog 102 _ _ _ at hcon;have es:E.toArray.size=E.length:=by simp
  rw [es] at hcon;refine hcon.mono ?_;rintro e w' ⟨rfl,m,os,rfl⟩;have hd:(pdq (ltOf cfE) E.toArray 0 E.length (Lib.bitLen E.length) true true)=(gp E).toArray:=by unfold gp;rw [Array.toArray_toList]
  rw [hd];have hrow:(sortWorldK A2 4 w g 0 m (gp E).toArray os).heap[g]?=some (.cells (putCells id 0 (flatK A2 4 (gp E).toArray) cur) 137 (0,0)):=by
   show ((w.heap.modify g _)++os)[g]?=_;rw [Array.getElem?_append_left (by rw [Array.size_modify];exact hlt),eG (by rw [Array.size_modify];exact hlt),Array.getElem_modify_self];obtain ⟨h1,h2⟩:=eS hr;rw [h2];rfl
  have hl:(eu (gp E)).length=E.length * 4:=by rw [<-gq E];exact eD 4 _ (fun _=>rfl) _
  refine ⟨rfl,⟨hl,.inr ⟨g,cap,_,rfl,hb,hrow,hle,hcap,by simp [putCells,hsz],?_⟩⟩,fun b hb' hne=>?_,?_,rfl⟩
  .refine List.ext_getElem? fun j=>?_
   by_cases hj:j<E.length * 4
   .have hjc:j<cur.size:=by rw [hsz];exact lL hj (Nat.mul_le_mul_right 4 hle)
    have hj2:j<(flatK A2 4 (gp E).toArray).size:=by simp [gq,hj]
    rw [List.getElem?_take_of_lt hj,gT,putCells,Array.getElem?_mapIdx,eG hjc,Option.map_some,if_pos ⟨Nat.zero_le _,by omega⟩,<-Ge,gT,Nat.sub_zero,getElem!_pos _ j hj2,eG hj2];rfl
   .rw [List.getElem?_eq_none (by simp;omega),List.getElem?_eq_none (by omega)]
  .show ((w.heap.modify g _)++os)[b]?=_;rw [Array.getElem?_append_left (by rw [Array.size_modify];exact hb'),Array.getElem?_modify,if_neg (fun e=>hne (by rw [e];rfl))]
  .show w.heap.size<=((w.heap.modify g _)++os).size;rw [Array.size_append,Array.size_modify];omega
end
section
open Go
open Go.Conc Go.ConcX Go.ConcX.Gen Go.RowKit
theorem j1 (l:KVs):(cn l).length=gm l:=by
 simp [cn,gm,List.length_flatMap]
section
attribute [local go_sem] Oper.semAt_some jX
theorem yC (k0:Nat)(root:Option Ww)(f:List UInt8->List Ver)(w:Wz)(c0:w.cell? ⟨k0,0,none⟩=some (.pointer root))(hT:sk w root f)(hsum:gm (db f [])<=1000):
  Calls Yq.prog 76 #[.pointer (some ⟨k0,0,none⟩)] w fun e w'=>∃v,e=.returned v/\w'.ownsRow w.heap.size 137 4 v (gp (cn (db f []))).length (eu (gp (cn (db f []))))/\ak w w':=by
 obtain ⟨total,htot⟩:∃total,db f []=total:=⟨_,rfl⟩;have hsome:∀x∈total,x.2≠[]:=by rw [<-htot];exact kO _ _ _
 have hA:∀b,ce w b->b<w.heap.size:=fun b hb=>hb.lt
 have hN3:ai (ce w) 41 (iU w root) root f:=ai.keep (fun b hb hlt=>⟨hb,qx w root hlt⟩) 41 root f hT;rw [htot] at hsum ⊢;have hI0:qF w.heap.size (iU w root) (cn []) (iU w root):=⟨rfl,lR _,fun _ _ _=>rfl,_,qy w root 0 (by omega),World.ownsRow_nil _ _ _ _⟩;refine (callsIn_wide (n:=0)).1 (callsIn_of_wp_marks (F:=Fence.wide) (Yq.nq Tryz.func76) rfl trivial ?_);refine (wpIn_wide (n:=0)).2 ?_;generalize hQ:bodyPostM Fence.wide 0 Yq.prog Tryz.f76 _=Q;simp only [Tryz.ntmps76,lZ,lC,lN,Nat.reduceAdd,Nat.reduceSub,Array.replicate_succ,Array.replicate_zero,List.push_toArray,List.append_toArray,List.nil_append,List.cons_append];have HQ:Hid (bodyPostM Fence.wide 0 Yq.prog Tryz.f76 _=Q):=hQ;have HX:Hid (ai (ce w) 41 (iU w root) root f/\qF w.heap.size (iU w root) (cn []) (iU w root)/\(∀x∈total,x.2≠[])/\gm total<=1000):=⟨hN3,hI0,hsome,hsum⟩;have c0':=an c0;clear hQ hN3 hI0 hsome hT hsum;go_wp2_with (go_at_call 101;refine (At root _ _).mono ?_;rintro e w6 ⟨rfl,rfl⟩)
 rename_i K1 hK1;refine wpIn_wide.1 (show Code.wpIn (wf none) 0 Yq.prog _ (Exit.inBlock 0 (Exit.then K1 Q)) ⟨fi w k0 root Wy Wy Wy Wy,[]⟩ (iU w root) from ?_);obtain ⟨hN3,hI0,hsome,hsum⟩:=HX.out;have ht3:w.heap.size<(iU w root).heap.size:=by rw [cU];omega
 refine rM (α:=List UInt8×List Ver) (β:=List UInt8×List Ver×Wq) (encs:=fun x=>#[.string ⟨x.1.toArray⟩,x.2.2]) (gf:=122) (lb:=#[ptr (w.heap.size+1),ptr (w.heap.size+2)]) (fun x=>(x.1,x.2.1)) rfl (fun args wx=>by go_simp) (fun _=>rfl) w.heap.size w.heap.size ht3 (uV w.heap.size) uV.of
  (fun pre X=>qF w.heap.size (iU w root) (cn pre) X) (fun pre x=>pre++[(x.1,x.2.1)] <+:total/\aT (ce w) (iU w root) x.2.2 x.2.1/\x.2.1≠[]) total (fun pre X b I h=>I.own b h) (fun pre X Y I h1 h2 h3 h4=>I.stable ht3 h1 h2 h3 h4) (fun pre X I=>⟨.inl rfl,.inl rfl⟩) hI0
  (fun x=>⟨fi w k0 root (.string ⟨x.1.toArray⟩) x.2.2 (.string ⟨x.1.toArray⟩) x.2.2,[]⟩) ?call ?assign ?body ?done
 case call=>
  intro l J W hW1 hW2 hob hst hsz hy hJ0;have C:pU (ce w) (iU w root) ((iU w root).heap.size+2) w.heap.size l (uV w.heap.size) total J:=⟨fun b hb=>by
    have h1:=hb.lt;obtain ⟨o,h3,h4⟩:=hb;exact ⟨by rw [cU];omega,by omega,o,(qx w root h1).trans h3,h4⟩,by omega,uV.of,hob,hst,hsz,fun pre k h hv X h1 h2 h3 h4=>hy pre (k,h,hv) X ⟨h1,h2,h3⟩ h4⟩
  exact vV C root f ⟨#[]⟩ W (w.heap.size+1) (w.heap.size+2) hN3 htot.symm (fun b hb=>hW2 b (by have:=hb.lt;rw [cU];omega))
   (by rw [cB (a:=⟨w.heap.size+1,0,none⟩) (hW2 _ (by rw [cU];show w.heap.size+1<_;omega))];simp [World.cell?,qy w root 1 (by omega)])
   (by rw [cB (a:=⟨w.heap.size+2,0,none⟩) (hW2 _ (by rw [cU];show w.heap.size+2<_;omega))];simp [World.cell?,qy w root 2 (by omega)]) (by decide) hJ0
 case assign=>
  intro l x W K hK;obtain ⟨k,h,hv⟩:=x;have e:(#[13,14].zip #[Value.string ⟨k.toArray⟩,hv]).foldl (fun t x=>match x with|(p,v)=>t.setIfInBounds p v) (fi w k0 root Wy Wy Wy Wy)=fi w k0 root Wy Wy (.string ⟨k.toArray⟩) hv:=by
   simp [fi]
  show Code.wpIn _ _ _ _ _ ⟨(#[13,14].zip #[Value.string ⟨k.toArray⟩,hv]).foldl (fun t x=>match x with|(p,v)=>t.setIfInBounds p v) (fi w k0 root Wy Wy Wy Wy),[]⟩ _;rw [e];unfold fi;unfold fi at hK;gi_wp2;exact hK
 case body=>
  rintro l pre ⟨k,h,hv⟩ W ⟨h1,h2,h3⟩ I;have h5:(cn pre).length+h.length<=1000:=by
   obtain ⟨r,hr⟩:=h1;rw [<-hr] at hsum;rw [j1];simp only [gm,List.map_append,List.sum_append,List.map_cons,List.map_nil,List.sum_cons,List.sum_nil] at hsum ⊢;omega
  exact De k0 root w (ce w) hA l pre k h hv W h2 h3 (by omega) I
 case done=>
  intro D W hD I hK;obtain ⟨v,hrw,how⟩:=I.row;obtain ⟨va,vc,rfl,-⟩:=aw how;have hlen:(cn total).length<=1000:=by rw [j1];exact hsum
  have HS:=Fc (iU w root).heap.size (cn total) _ W how (by omega);have d0:W.cell? ⟨w.heap.size,0,none⟩=some (.slice va (cn total).length vc):=by simp [World.cell?,hrw]
  have HB:Hid (∀w':Wz,w'.ownsRow (iU w root).heap.size 137 4 (.slice va (cn total).length vc) (cn total).length (eu (gp (cn total)))->(∀b,b<W.heap.size->(Value.slice va (cn total).length vc).ownBlock≠some b->w'.heap[b]?=W.heap[b]?)->w'.cell? ⟨w.heap.size,0,none⟩=some (.slice va (cn total).length vc)/\w'.heap[D]?=some (.deferred (some []))):=fun w' ho hb=>by
   have hs:=I.size;refine ⟨?_,?_⟩
   .rw [cB (a:=⟨w.heap.size,0,none⟩) (hb w.heap.size (by omega) (fun e=>by have:=(how.lt _ e).1;omega))];exact d0
   .refine (hb D (eS hK).1 (fun e=>?_)).trans hK;obtain ⟨-,o,h1,h2⟩:=I.own D ⟨_,d0,e⟩;rw [hK] at h1;cases h1;cases h2
  show K1 _ _;refine hK1 _ _ ?_;unfold fi;clear hK1;go_wp2_with (go_at_call 102;refine HS.mono ?_;clear HS;rintro e w' ⟨rfl,o1,o2,o3,o4⟩;obtain ⟨p0,p1⟩:=HB.out w' o1 o2)
  have hQ:=HQ.out;subst hQ;refine ⟨by simp,.inl ⟨_,_,rfl,run_takeDeferred p1,?_⟩⟩;have hne:∀b,b≠D->(w'.putObj D (.deferred none)).heap[b]?=w'.heap[b]?:=fun b hb=>pO hb
  have hs:=I.size;have hnD:∀g,(Value.slice va (cn total).length vc).ownBlock=some g->g≠D:=fun g hg e=>by
   subst e;obtain ⟨-,o,h1,h2⟩:=I.own g ⟨_,d0,hg⟩;rw [hK] at h1;cases h1;cases h2
  have hlow:∀b,b<w.heap.size->(Value.slice va (cn total).length vc).ownBlock≠some b:=fun b hb e=>by have:=(how.lt _ e).1;omega
  refine ⟨.slice va (cn total).length vc,by simp [results,Tryz.results76,go_sem],⟨_,rfl,?_,?_⟩⟩
  .rw [gq];have h1:=ep o1 (w':=w'.putObj D (.deferred none)) fun g hg=>hne g (hnD g hg)
   exact ⟨h1.1,h1.2.imp id fun ⟨g,cap,cur,e,hb,r⟩=>⟨g,cap,cur,e,by omega,r⟩⟩
  .refine ⟨o4.trans I.os,by simp;omega,fun b hb=>?_⟩;rw [hne b (by omega),o2 b (by omega) (hlow b hb),I.block b (by omega) (by omega),qx w root hb]
end
def bytesOf (xs:List Wq):ByteArray:=⟨(xs.map fun v=>UInt8.ofNat (intOf v).toNat).toArray⟩
theorem uX {s:ByteArray}{xs:List Wq}(h:Lib.strCells s=xs):s=bytesOf xs:=by
 subst h;obtain ⟨d⟩:=s;unfold bytesOf Lib.strCells;simp only [List.map_map];congr 1;have:((fun v=>UInt8.ofNat (intOf v).toNat)∘fun b:UInt8=>Value.int .u8 (b.toNat:Int))=id:=by
  funext b;simp [intOf]
 rw [this,List.map_id,Array.toArray_toList]
def iG (st:St):List (ByteArray×Ver):=gp (cn (db st.f []))
def dK (st:St)(tm:Int):ByteArray:=bytesOf (fO (iG st)++([.int .u8 3]++num8 (st.last+1) 8++([.int .u8 4]++num8 tm 8)))
theorem A3 (n:Nat):∀ (f:List UInt8->List Ver)(bs:List UInt8),∀x∈cD n f bs,∃k,x.1=bs++k/\x.2=f k:=by
 induction n with
 |zero=>intro f bs x hx;simp [cD] at hx
 |succ n ih=>
  intro f bs x hx;simp only [cD,List.mem_append,List.mem_flatMap] at hx;rcases hx with hx|⟨b,-,hx⟩
  .split at hx
   .simp at hx
   .simp only [List.mem_singleton] at hx;subst hx;exact ⟨[],by simp,rfl⟩
  .obtain ⟨k,h1,h2⟩:=ih _ _ x hx;exact ⟨b::k,by rw [h1];simp,h2⟩
theorem gr {st:St}{e:ByteArray×Ver}(h:e∈iG st):e.1.size<=40/\∃k,e.2∈st.f k:=by
 have h1:=(lj _).mem_iff.1 h;simp only [cn,List.mem_flatMap,List.mem_map] at h1;obtain ⟨x,hx,v,hv,rfl⟩:=h1;obtain ⟨k,-,hk⟩:=A3 _ _ _ x hx;have:=(ss hx).2;exact ⟨by simpa [ByteArray.size] using this,k,by simpa [hk] using hv⟩
theorem sO {E:List (ByteArray×Ver)}(h:∀e∈E,e.1.size<=40/\e.2.body.size<=100):dl E<=E.length * 200:=by
 induction E with
 |nil=>simp [dl]
 |cons e E ih=>
  have h1:=ih fun x hx=>h x (by simp [hx])
  have h2:=h e (by simp);have h3:uU e.1 e.2<=200:=by unfold uU;split<;>omega
  simp only [dl,List.map_cons,List.sum_cons,lC] at h1 ⊢;omega
section
variable {A:Nat->Prop} {B k0:Nat} {w:Wz} {st:St} {L:Lg}
theorem A4 (S:ax A w k0 st){tm:Int}(htm:w.cell? ⟨k0,3,none⟩=some (.int .u64 tm)){s:Nat}(hI:Inv st s)(hT:eh st):
  Calls Yq.prog 48 #[.pointer (some ⟨k0,0,none⟩)] w fun e w'=>e=.returned (.string (dK st tm))/\ak w w':=by
 obtain ⟨root,c0,hN⟩:=S.tree;have hsum:gm (db st.f [])<=1000:=by
  have h3:gm (db st.f [])=tot 41 st.f:=rfl;have:=hT.cnt;have:=hT.le;omega
 have hlen:(iG st).length<=1000:=by rw [iG,gq,j1];exact hsum
 have hn:=sO (E:=iG st) fun e he=>⟨(gr he).1,by obtain ⟨k,hk⟩:=(gr he).2;exact hT.body k _ hk⟩
 have hl0:=hI.last0;have hl1:=hI.lastS;refine (E8 k0 (iG st) st.last tm w S.last htm (yC k0 root st.f w c0 (.of hN) hsum) (by omega) (by omega) (fun e he=>?_) hl0 (by omega)).mono ?_
 .obtain ⟨k,hk⟩:=(gr he).2;obtain ⟨i,hi,e1⟩:=gM hk;have:=hI.bounds k i hi;rw [nH hi,e1] at this;omega
 .rintro e w' ⟨sb,rfl,h1,h2⟩;rw [uX h1];exact ⟨rfl,h2⟩
theorem A5 (h:aH A B w k0 st L){s:Nat}(hI:Inv st s)(hT:eh st):
  Calls Yq.prog 48 #[.pointer (some ⟨k0,0,none⟩)] w fun e w'=>e=.returned (.string (dK st L.tm))/\ak w w':=A4 h.store h.time hI hT
theorem yD (b:ByteArray)(w:Wz):(Instr.build 36 #[(2,.string b)]).run Yq.prog w=.ok (.agg #[.int .i64 0,.int .i64 0,.string b,.slice none 0 0,.string ⟨#[]⟩]) w:=by kernel_rfl
theorem uY (h:aH A B w k0 st L)(hB:B<=w.heap.size){s:Nat}(hI:Inv st s)(hT:eh st)(_hs:s<2199023255340)(o:OpD)(hk:o.kind=11):
  Calls Yq.prog 33 #[.pointer (some ⟨k0,0,none⟩),cj o] w (bg A B k0 w st L ⟨0,0,dK st L.tm,[],⟨#[]⟩⟩):=by
 have hd:=h.left (aK o);have hkw:k0<(cx w o).heap.size:=by have:=h.ls.lt;rw [aL];omega
 have HT:=A5 hd hI hT;have HB:Hid (∀w1,ak (cx w o) w1->_):=fun w1 hb=>box5 (jZ o h.ls (FrC.left hkw hb))
 have HF:Hid (∀w1 x0 x1 x2 x3 x4,ak (cx w o) w1->bg A B k0 w st L ⟨0,0,dK st L.tm,[],⟨#[]⟩⟩ (.returned (iS ⟨0,0,dK st L.tm,[],⟨#[]⟩⟩ (.slice none 0 0))) (put5 w1 (w.heap.size+1) x0 x1 x2 x3 x4)):=fun w1 x0 x1 x2 x3 x4 hl=>by
  obtain ⟨e1,e2,e3,e4⟩:=kZ (A':=A) (sv:=.slice none 0 0) (its:=[]) (r:=w.heap.size+1) (aK o) h.ls.lt hB (by omega) (by rw [aL];omega) ⟨_,fD o,rfl⟩ (fun _ h=>h) (fun b hb=>.inl hb) h.ls.inn (hd.left hl) (dR.left hkw hl) (FrC.left hkw hl) (fg o h.ls) ⟨none,0,rfl,fun _=>rfl,fun h=>absurd rfl h⟩ x0 x1 x2 x3 x4;exact ⟨_,rfl,A,fun _ h=>h,e1,e2,e3,e4⟩
 have hb1:=yD;generalize dK st L.tm=sb at *;clear hd hkw;obtain ⟨kind,key,body,delim,past,n,src⟩:=o;simp only at hk;subst hk;unfold cx at HT HF HB;clear h hI hT;unfold cj;go_enter (Yq.nq Tryz.func33),Tryz.ntmps33;go_wp2_with (go_at_call 48;refine HT.mono ?_;clear HT;rintro e w1 ⟨rfl,hb⟩;obtain ⟨⟨b0,b1,b2,b3,b4⟩,f0,f1,f2,f3,f4⟩:=HB.out w1 hb)
 exact bodyPost_ret (v:=iS ⟨0,0,sb,[],⟨#[]⟩⟩ (.slice none 0 0)) (by simp [results,Tryz.results33,go_sem,iS,b0,b1,b2,b3,b4]) rfl (HF.out w1 _ _ _ _ _ hb)
end
def tkB (s:ByteArray)(n:Nat):ByteArray:=s.extract 0 (min n s.size)
def rsB (s:ByteArray)(n:Nat):ByteArray:=s.extract (min n s.size) s.size
theorem A6 (r n:Nat)(s:ByteArray)(w:Wz)(hs:s.size<=maxLen)(hn:n<=1000)(c0:w.cell? ⟨r,0,none⟩=some (.string s))(f0:w.frozen? ⟨r,0,none⟩=false):
  Calls Yq.prog 152 #[.pointer (some ⟨r,0,none⟩),.int .i64 n] w fun e w'=>e=.returned (.string (tkB s n))/\w'=w.setCell ⟨r,0,none⟩ (.string (rsB s n)):=by
 unfold maxLen at hs;unfold tkB rsB;have e:(min (n:Int) s.size).toNat=min n s.size:=by omega
 go_enter (Yq.nq Tryz.func152),Tryz.ntmps152;go_wp2_with fail
 go_ret;exact ⟨rfl,rfl⟩
def qG (l:List UInt8):Nat:=l.foldl (fun a b=>a * 256+b.toNat) 0
theorem A7 (l:List UInt8)(b:UInt8):qG (l++[b])=qG l * 256+b.toNat:=by simp [qG]
theorem wD:∀ (l:List UInt8)(a:Nat),l.foldl (fun a b=>a * 256+b.toNat) a<(a+1) * 256 ^ l.length
 | [],a=>by simp
 |b::l,a=>by
  have h1:=wD l (a * 256+b.toNat);have h2:=b.toNat_lt;have h3:(a * 256+b.toNat+1) * 256 ^ l.length<=((a+1) * 256) * 256 ^ l.length:=Nat.mul_le_mul_right _ (by omega);rw [List.foldl_cons,lC,Nat.pow_succ,Nat.mul_comm (256 ^ l.length) 256,<-Nat.mul_assoc];omega
theorem uZ (l:List UInt8):qG l<256 ^ l.length:=by
 have:=wD l 0
 rwa [zA,Nat.one_mul] at this
structure yQ (r:Nat)(w w':Wz)(s:ByteArray):Prop where
 os:w'.os=w.os
 size:w.heap.size<=w'.heap.size
 block:∀b,b<w.heap.size->b≠r->w'.heap[b]?=w.heap[b]?
 cell:w'.cell? ⟨r,0,none⟩=some (.string s)
 frozen:w'.frozen? ⟨r,0,none⟩=false
theorem mJ (s:ByteArray)(n:Nat):(tkB s n).size<=n:=by simp [tkB];omega
theorem Fd (acc b:Nat)(ha:acc<256 ^ 7)(hb:b<256):bits BinOp.or IntKind.u64 ((acc:Int) * 256) (b:Int)=((acc * 256+b:Nat):Int):=by
 have h1:((acc:Int) * 256 % 2 ^ IntKind.u64.bits).toNat=acc * 256:=by simp [IntKind.bits];omega
 have h2:b % 2 ^ IntKind.u64.bits=b:=by simp [IntKind.bits];omega
 have h3:acc * 256 ||| b=acc * 256+b:=by
  have:=Nat.shiftLeft_add_eq_or_of_lt (i:=8) (b:=b) (by omega) acc;rw [Nat.shiftLeft_eq] at this;simpa using this.symm
 unfold bits;simp only [BitVec.toNat_or,BitVec.toNat_ofInt];have h4:((b:Int) % ((2 ^ IntKind.u64.bits:Nat):Int)).toNat=b:=by simp [IntKind.bits];omega
 have h5:((acc:Int) * 256 % ((2 ^ IntKind.u64.bits:Nat):Int)).toNat=acc * 256:=by simp [IntKind.bits];omega
 rw [h4,h5,h3];simp [IntKind.wrap,IntKind.bits,IntKind.signed];omega
theorem nX (r n:Nat)(s:ByteArray)(w:Wz)(hs:s.size<=maxLen)(hn:n<=8)(c0:w.cell? ⟨r,0,none⟩=some (.string s))(f0:w.frozen? ⟨r,0,none⟩=false):
  Calls Yq.prog 127 #[.pointer (some ⟨r,0,none⟩),.int .i64 n] w fun e w'=>e=.returned (.int .u64 (qG (tkB s n).data.toList))/\yQ r w w' (rsB s n):=by
 have HT:=A6 r n s w hs (by omega) c0 f0;have hr:r<w.heap.size:=bC w _ c0;obtain ⟨p,hp⟩:∃p,p=tkB s n:=⟨_,rfl⟩;have hps:p.size<=8:=by rw [hp];exact lT (mJ s n) hn
 rw [<-hp] at HT ⊢;obtain ⟨W,hW⟩:∃W,W=w.setCell ⟨r,0,none⟩ (.string (rsB s n)):=⟨_,rfl⟩;rw [<-hW] at HT;have HW:Hid (W=w.setCell ⟨r,0,none⟩ (.string (rsB s n))/\w.cell? ⟨r,0,none⟩=some (.string s)/\w.frozen? ⟨r,0,none⟩=false/\r<w.heap.size):=⟨hW,c0,f0,hr⟩;have hcv:=run_bytes_of_string (P:=Yq.prog) W 9 48 5 p (Yq.u Tryz.underlying9) (Yq.u Tryz.underlying48) (Yq.u Tryz.underlying5);have hkr:=oO (B:=0) W p (grownCap W p.size 0 5) (Nat.zero_le _) (grownCap_ge W p.size 0 5);obtain ⟨W1,hW1⟩:∃W1,W1=W.drew.alloc (.cells (bytesRow p (grownCap W p.size 0 5)) 5 ((bytesRow p (grownCap W p.size 0 5)).size,(bytesRow p (grownCap W p.size 0 5)).size+1)):=⟨_,rfl⟩;rw [<-hW1] at hcv hkr;have HW1:Hid (W1=W.drew.alloc (.cells (bytesRow p (grownCap W p.size 0 5)) 5 ((bytesRow p (grownCap W p.size 0 5)).size,(bytesRow p (grownCap W p.size 0 5)).size+1))):=hW1;clear hp hW c0 f0 hr hW1;go_enter (Yq.nq Tryz.func127),Tryz.ntmps127;go_wp2_with (go_at_call 152;refine HT.mono ?_;clear HT;rintro e w1 ⟨rfl,rfl⟩)
 go_loopw [5,13] (fun s5 s13 wr=>∃i:Nat,i<=p.size/\s13=.int .i64 i/\s5=.int .u64 (qG (p.data.toList.take i))/\wr=W1) (fun _ s13 _=>p.size-(intOf s13).toNat)
 case atStart=>exact ⟨0,Nat.zero_le _,rfl,rfl,rfl⟩
 case round=>
  obtain ⟨i,hi,rfl,rfl,rfl⟩:=hrel;by_cases hlt:i<p.size
  .have hl:i<p.data.toList.length:=by simpa using hlt
   have cb:wr.cell? ⟨w1.heap.size,i,none⟩=some (.int .u8 (p.data.toList[i].toNat:Int)):=hkr.cells i hl;have htk:p.data.toList.take (i+1)=p.data.toList.take i++[p.data.toList[i]]:=tS hl;have hnb:qG (p.data.toList.take i)<256 ^ 7:=by
    have h1:=uZ (p.data.toList.take i);have h2:(p.data.toList.take i).length<=7:=by rw [tL];omega
    exact lL h1 (Nat.pow_le_pow_right (by decide) h2)
   have HTK:Hid (qG (p.data.toList.take (i+1))=qG (p.data.toList.take i) * 256+p.data.toList[i].toNat):=by
    show qG (p.data.toList.take (i+1))=_;rw [htk,A7]
   have hbl:=p.data.toList[i].toNat_lt;clear htk;generalize p.data.toList[i].toNat=b at *;generalize qG (p.data.toList.take i)=acc at *;go_wp2_with fail
   exact ⟨⟨i+1,by omega,by go_num,by rw [Fd _ _ hnb (by omega),HTK.out],trivial⟩,by simp [intOf];omega⟩
  .have hie:i=p.size:=by omega
   subst hie;go_wp2_with fail
   go_ret;have e1:p.data.toList.take p.size=p.data.toList:=tO (by simp);refine ⟨by rw [e1];rfl,?_⟩;obtain ⟨h1,h2,h3,h4⟩:=HW.out;have hsz:w1.heap.size=w.heap.size:=by rw [h1];simp
   have hb:∀b,b<w1.heap.size->wr.heap[b]?=w1.heap[b]?:=fun b hb=>by rw [HW1.out,bA _ _ _ (by exact hb)];rfl
   refine ⟨by rw [HW1.out,h1];rfl,by rw [HW1.out];simp;show w.heap.size<=w1.heap.size+1;omega,fun b hb1 hb2=>?_,?_,?_⟩
   .rw [hb b (by omega),h1];exact bS _ _ _ _ hb2
   .rw [cB (a:=⟨r,0,none⟩) (hb r (by omega)),h1];exact cS _ _ _ (by rw [h2];rfl)
   .rw [fB (a:=⟨r,0,none⟩) (hb r (by omega)),h1,World.frozen?_setCell];exact h3
theorem yQ.trans {r:Nat}{w w' w'':Wz}{s s':ByteArray}(h:yQ r w w' s)(k:yQ r w' w'' s'):yQ r w w'' s':=
 ⟨k.os.trans h.os,lT h.size k.size,fun b hb hr=>(k.block b (lL hb h.size) hr).trans (h.block b hb hr),k.cell,k.frozen⟩
theorem du (s:ByteArray)(n:Nat):(rsB s n).size<=s.size:=by simp [rsB]
def txL (s:ByteArray):Nat:=qG (tkB s 1).data.toList
theorem DK (s:ByteArray):txL s<256:=by
 have h1:=uZ (tkB s 1).data.toList;have h2:(tkB s 1).data.toList.length<=1:=by simpa using mJ s 1
 exact lL h1 (lT (Nat.pow_le_pow_right (by decide) h2) (by decide))
theorem vg (r:Nat)(s:ByteArray)(w:Wz)(hs:s.size<=maxLen)(c0:w.cell? ⟨r,0,none⟩=some (.string s))(f0:w.frozen? ⟨r,0,none⟩=false):
  Calls Yq.prog 128 #[.pointer (some ⟨r,0,none⟩)] w fun e w'=>e=.returned (.string (tkB (rsB s 1) (txL s)))/\yQ r w w' (rsB (rsB s 1) (txL s)):=by
 have HN:=nX r 1 s w hs (by omega) c0 f0;have hlt:=DK s;have HT:Hid (∀w1,yQ r w w1 (rsB s 1)->Calls Yq.prog 152 #[.pointer (some ⟨r,0,none⟩),.int .i64 (txL s)] w1 fun e w'=>e=.returned (.string (tkB (rsB s 1) (txL s)))/\yQ r w w' (rsB (rsB s 1) (txL s))):=fun w1 h=>by
  refine (A6 r (txL s) (rsB s 1) w1 (lT (du s 1) hs) (by omega) h.cell h.frozen).mono ?_;rintro e w' ⟨rfl,rfl⟩;refine ⟨rfl,h.trans ⟨rfl,by simp,fun b _ hb=>bS _ _ _ _ hb,cS _ _ _ (by rw [h.cell];rfl),by rw [World.frozen?_setCell];exact h.frozen⟩⟩
 change Calls _ _ _ _ (fun e w'=>e=.returned (.int .u64 (txL s))/\yQ r w w' (rsB s 1)) at HN;clear c0 f0;generalize txL s=k at *;have hw:wrap64 (k:Int)=k:=by unfold wrap64;omega
 have hw2:IntKind.i64.wrap (k:Int)=k:=by simp [IntKind.wrap,IntKind.bits,IntKind.signed];omega
 go_enter (Yq.nq Tryz.func128),Tryz.ntmps128;go_wp2_with (first
  |(go_at_call 127;refine HN.mono ?_;clear HN;rintro e w1 ⟨rfl,h1⟩)
  |(go_at_call 152;refine (HT.out w1 h1).mono ?_;clear HT;rintro e w2 ⟨rfl,h2⟩))
 go_ret;exact ⟨rfl,h2⟩
def ll (last:Int)(m:Nat):Option Int:=if (m:Int)<=last\/9223372036854775808<m then none else some (m-1)
theorem nY (k0 m:Nat)(last:Int)(w:Wz)(h0:0<=last)(h1:last<=9223372036854775807)(hm:m<18446744073709551616)(c2:w.cell? ⟨k0,2,none⟩=some (.int .i64 last))(f2:w.frozen? ⟨k0,2,none⟩=false):
  Calls Yq.prog 129 #[.pointer (some ⟨k0,0,none⟩),.int .u64 m] w fun e w'=>(ll last m=none/\e=.returned (.bool false)/\w'=w)\/∃l,ll last m=some l/\e=.returned (.bool true)/\w'=w.setCell ⟨k0,2,none⟩ (.int .i64 l):=by
 have hw:=qw h0 h1;unfold ll;by_cases ha:(m:Int)<=last
 .rw [if_pos (.inl ha)];go_enter (Yq.nq Tryz.func129),Tryz.ntmps129;go_wp2_with fail
  go_ret;first|exact .inl ⟨trivial,rfl,rfl⟩|exact ⟨rfl,rfl⟩
 .by_cases hb:(9223372036854775808:Int)<m
  .rw [if_pos (.inr (by omega))];go_enter (Yq.nq Tryz.func129),Tryz.ntmps129;go_wp2_with fail
   go_ret;first|exact .inl ⟨trivial,rfl,rfl⟩|exact ⟨rfl,rfl⟩
  .rw [if_neg (by omega)];go_enter (Yq.nq Tryz.func129),Tryz.ntmps129;go_wp2_with fail
   go_ret;exact ⟨rfl,rfl⟩
theorem Fe (n:Nat)(f:List UInt8->List Ver)(k:List UInt8)(h:k.length<n):(f k).length<=tot n f:=by
 have h1:=Aq k n f;obtain ⟨m,hm⟩:∃m,n-k.length=m+1:=⟨n-k.length-1,by omega⟩;rw [hm] at h1;refine lT ?_ h1;simp only [tot,cD,List.append_nil];by_cases h0:f k=[]
 .simp [h0]
 .have e:(f k).isEmpty=false:=by simpa using h0
  simp [e,gm]
theorem Inv.norm {st:St}{s:Nat}(h:Inv st s)(hT:eh st):Inv st 0:=by
 have h1:=hT.cnt;have h2:=hT.le;refine ⟨h.last0,h.lastS,by omega,by omega,fun k=>?_,h.sorted,h.bounds⟩;by_cases hk:40<k.length
 .rw [hT.long k hk];simp
 .have:=Fe 41 st.f k (by omega);omega
def lastSt (st:St)(l:Int):St:=⟨st.f,st.count,l⟩
theorem Inv.lastSt {st:St}{s:Nat}(h:Inv st s){l:Int}(h1:st.last<=l)(h2:l<=9223372036854775807):Inv (lastSt st l) s:=
 ⟨Int.le_trans h.last0 h1,h2,h.countL,h.countU,h.len,h.sorted,fun k i hi=>⟨(h.bounds k i hi).1,Int.le_trans (h.bounds k i hi).2 h1⟩⟩
theorem eh.lastSt {st:St}(h:eh st)(l:Int):eh (lastSt st l):=⟨h.cnt,h.le,h.long,h.body⟩
theorem fF {last:Int}{m:Nat}{l:Int}(h:ll last m=some l):last<=l/\l<=9223372036854775807:=by
 unfold ll at h;split at h
 .cases h
 .cases h;omega
theorem wE {st:St}{s:Nat}(h:Inv st s)(hT:eh st)(key body:ByteArray):Inv (jd st key body).1 (s+1)/\eh (jd st key body).1:=by
 have e:=kQ st ⟨1,key,body,⟨#[]⟩,⟨#[]⟩,0,0⟩ rfl;have h1:=h.step ⟨1,key,body,⟨#[]⟩,⟨#[]⟩,0,0⟩;have h2:=hT.step ⟨1,key,body,⟨#[]⟩,⟨#[]⟩,0,0⟩;rw [e] at h1 h2;exact ⟨h1,h2⟩
theorem sP {st:St}{s:Nat}(h:Inv st s)(hT:eh st)(key:ByteArray):Inv (dD st key).1 (s+1)/\eh (dD st key).1:=by
 have e:=jv st ⟨4,key,⟨#[]⟩,⟨#[]⟩,⟨#[]⟩,0,0⟩ rfl;have h1:=h.step ⟨4,key,⟨#[]⟩,⟨#[]⟩,⟨#[]⟩,0,0⟩;have h2:=hT.step ⟨4,key,⟨#[]⟩,⟨#[]⟩,⟨#[]⟩,0,0⟩;rw [e] at h1 h2;exact ⟨h1,h2⟩
def nm8 (s:ByteArray):Nat:=qG (tkB s 8).data.toList
def txB (s:ByteArray):ByteArray:=tkB (rsB s 1) (txL s)
def txR (s:ByteArray):ByteArray:=rsB (rsB s 1) (txL s)
def cu (st:St)(tm:Int)(s:ByteArray):Option (St×Int×ByteArray):=
 if txL s=1 then
  match ll st.last (nm8 (rsB s 1)) with
  |none=>none
  |some l=>if (jd (lastSt st l) (txB (rsB (rsB s 1) 8)) (txB (txR (rsB (rsB s 1) 8)))).2.2=0 then some ((jd (lastSt st l) (txB (rsB (rsB s 1) 8)) (txB (txR (rsB (rsB s 1) 8)))).1,tm,txR (txR (rsB (rsB s 1) 8))) else none
 else if txL s=2 then
  match ll st.last (nm8 (rsB s 1)) with
  |none=>none
  |some l=>if (dD (lastSt st l) (txB (rsB (rsB s 1) 8))).2.2=0 then some ((dD (lastSt st l) (txB (rsB (rsB s 1) 8))).1,tm,txR (rsB (rsB s 1) 8)) else none
 else if txL s=3 then
  match ll st.last (nm8 (rsB s 1)) with
  |none=>none
  |some l=>some (lastSt st l,tm,rsB (rsB s 1) 8)
 else if txL s=4 then some (st,nm8 (rsB s 1),rsB (rsB s 1) 8)
 else none
structure j9 (A:Nat->Prop)(w:Wz)(k r:Nat)(st:St)(tm:Int)(s:ByteArray):Prop where
 store:ax A w k st
 time:w.cell? ⟨k,3,none⟩=some (.int .u64 tm)
 rd:w.cell? ⟨r,0,none⟩=some (.string s)
 fz:w.frozen? ⟨r,0,none⟩=false
 ne:k≠r
 avoid:¬A r
theorem j9.rdTo {A:Nat->Prop}{w w':Wz}{k r:Nat}{st:St}{tm:Int}{s s':ByteArray}(h:j9 A w k r st tm s)(hr:yQ r w w' s'):j9 A w' k r st tm s':=by
 obtain ⟨p,C,hN⟩:=h.store.cells;have hk:w'.heap[k]?=w.heap[k]?:=hr.block k h.store.lt h.ne;have hc:∀j,w'.cell? ⟨k,j,none⟩=w.cell? ⟨k,j,none⟩:=fun j=>cB (a:=⟨k,j,none⟩) hk
 refine ⟨dB (p:=p) ⟨(hc 0).trans C.c0,(hc 1).trans C.c1,(hc 2).trans C.c2,fun j=>(fB (a:=⟨k,j,none⟩) hk).trans (C.fz j)⟩ (ai.keep (fun b h1 h2=>⟨h1,hr.block b h2 (fun e=>h.avoid (e▸h1))⟩) 41 p st.f hN) h.store.avoid,(hc 3).trans h.time,hr.cell,hr.frozen,h.ne,h.avoid⟩
structure Two2 (k r:Nat)(w w':Wz):Prop where
 os:w'.os=w.os
 size:w.heap.size<=w'.heap.size
 block:∀b,b<w.heap.size->b≠k->b≠r->w'.heap[b]?=w.heap[b]?
theorem Two2.refl {k r:Nat}{w:Wz}:Two2 k r w w:=⟨rfl,lR _,fun _ _ _ _=>rfl⟩
theorem Two2.trans {k r:Nat}{a b c:Wz}(h:Two2 k r a b)(h':Two2 k r b c):Two2 k r a c:=
 ⟨h'.os.trans h.os,lT h.size h'.size,fun x hx h1 h2=>(h'.block x (lL hx h.size) h1 h2).trans (h.block x hx h1 h2)⟩
theorem yQ.two {k r:Nat}{w w':Wz}{s:ByteArray}(h:yQ r w w' s):Two2 k r w w':=⟨h.os,h.size,fun b hb _ h2=>h.block b hb h2⟩
theorem bN.two {k r:Nat}{w w':Wz}(h:bN w w' k):Two2 k r w w':=⟨h.g.os,h.g.size,fun b hb h1 _=>h.g.block b hb (fun e=>h1 (oJ e))⟩
end
