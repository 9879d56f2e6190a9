/- A part. -/
import Derived.Test.YtnapepbdohidgaaGreatDoorQL08
import Derived.Lib.SliceRun
import Derived.Laws.AppendOwnNone
import Derived.Deep.RegionHeld3
import Derived.Lib.AppendZerosOnto
import Derived.Lib.Overlaps
import Derived.Laws.Externs
import Derived.Laws.NewBlocks
set_option maxHeartbeats 4000000
set_option maxRecDepth 100000
open Go renaming World->Wj,Value->Wx,TypeId->Ww,Addr->Wu
namespace Go.Proofs.Qw
open Tryz
section
open Go.RowKit
theorem Yq.infoKid:(Yq.prog.info? 190).map (fun i=>(i.zero,i.size,i.bytes))=some (some (.agg #[.int .u8 0,.pointer none]),2,16):=by kernel_rfl
theorem Yq.infoVer:(Yq.prog.info? 81).map (fun i=>(i.zero,i.size,i.bytes))=some (some (.agg #[.int .i64 0,.string ⟨#[]⟩,.bool false]),3,32):=by kernel_rfl
theorem bO.src {A:Nat->Prop}{w:Wj}{v:Wx}{n:Nat}{xs:List Wx}(h:bO A w v n xs)(hl:n=0->xs=[]):(v=.slice none 0 0/\n=0\/∃c cap,v=.slice (some c) n cap/\∀j u,xs[j]?=some u->w.cell? (c.add j)=some u)\/(∃cap,v=.slice none n cap/\n≠0/\xs=[]):=by
 obtain ⟨a,cap,rfl,h0,hx⟩:=h;cases a with
 |none=>
  have:=h0 rfl;subst this;by_cases hn:n=0
  .subst hn;exact Or.inl (Or.inl ⟨rfl,rfl⟩)
  .refine Or.inr ⟨0,rfl,hn,?_⟩;by_cases b:xs=[]
   .exact b
   .obtain ⟨g,ha,_⟩:=hx b;cases ha
 |some c=>
  refine Or.inl (Or.inr ⟨c,cap,rfl,fun j u d=>?_⟩);have hne:xs≠[]:=by intro e;subst e;simp at d
  obtain ⟨g,ha,hA,hg,hc⟩:=hx hne;cases ha;have hlt:=(List.getElem?_eq_some_iff.1 d).1;rw [Addr.add_lit,zA,hc j hlt];exact d
theorem xN (A:Nat->Prop)(v:Wx)(n:Nat)(xs:List Wx)(w:Wj)(h:bO A w v n xs)(hl:xs.length=n * 2)(hn:n<=1000)(h1:∀u∈xs,u.oneCell'=true):
  Calls Yq.prog 132 #[v] w fun e w'=>∃v',e=.returned v'/\w'.ownsRow w.heap.size 190 2 v' n xs/\Below w.heap.size w w':=by
 obtain ⟨i0,m,f,d,l⟩:=info_parts Yq.infoKid;have q:∀ (w:Wj) (a:Option Wu) (n c i c':Nat),(binOp .eql 157 (.slice a n c) (.slice none i c')).run Yq.prog w=.ok (.bool a.isNone) w:=fun w a n c i c'=>Lib.run_eql_slice_nil w _ _ a n c i c' (Yq.u underlying157)
 rcases h.src (fun h=>by subst h;exact List.eq_nil_of_length_eq_zero (by omega)) with (⟨rfl,rfl⟩|⟨ad,cap,rfl,hc⟩)|⟨cap,rfl,hn0,rfl⟩
 .have hx:xs=[]:=List.eq_nil_of_length_eq_zero (by omega);subst hx;go_enter (Yq.nq func132),ntmps132;go_wp2;go_ret;exact ⟨_,rfl,World.ownsRow_nil _ _ _ _,bR _ _⟩
 .have HC:Hid (∀j u,xs[j]?=some u->w.cell? (ad.add j)=some u):=hc;clear hc;go_enter (Yq.nq func132),ntmps132;go_wp2_with (at_builtin;refine wpList_append_own _ rfl _ _ 157 rfl w.heap.size 190 i0 _ 2 16 (Yq.u underlying157) m f d l rfl (by decide) _ _ _ rfl (World.ownsRow_made w #[] 0 (lR _) (Nat.zero_le _) (by simp)) ad n cap xs rfl ?qc1 ?qc2 ?qc3 ?qc4 ?qc5 ?qc6 ?_)
  case qc1=>exact hl
  case qc2=>
   intro j u o;exact ai ((bR _ _).alloc (lR _) _) (HC.out j u o)
  case qc3=>exact h1
  case qc4=>rw [zA];simp only [maxLen];omega
  case qc5=>rw [zA];omega
  case qc6=>simp
  intro v' w1 hown b hnil;go_wp2;go_ret;refine ⟨v',rfl,by simpa using hown,?_⟩;exact ((bR _ w).alloc (lR _) _).grown b (by simp) (by intro k hk;simp [Value.ownBlock] at hk;omega)
 .simp at hl;omega
theorem xO (A:Nat->Prop)(v:Wx)(n:Nat)(xs:List Wx)(w:Wj)(h:bO A w v n xs)(hl:xs.length=n * 3)(hn:n<=2199023255552)(h1:∀u∈xs,u.oneCell'=true):
  Calls Yq.prog 96 #[v] w fun e w'=>∃v',e=.returned v'/\w'.ownsRow w.heap.size 81 3 v' n xs/\Below w.heap.size w w':=by
 obtain ⟨i0,m,f,d,l⟩:=info_parts Yq.infoVer;have q:∀ (w:Wj) (a:Option Wu) (n c i c':Nat),(binOp .eql 114 (.slice a n c) (.slice none i c')).run Yq.prog w=.ok (.bool a.isNone) w:=fun w a n c i c'=>Lib.run_eql_slice_nil w _ _ a n c i c' (Yq.u underlying114)
 rcases h.src (fun h=>by subst h;exact List.eq_nil_of_length_eq_zero (by omega)) with (⟨rfl,rfl⟩|⟨ad,cap,rfl,hc⟩)|⟨cap,rfl,hn0,rfl⟩
 .have hx:xs=[]:=List.eq_nil_of_length_eq_zero (by omega);subst hx;go_enter (Yq.nq func96),ntmps96;go_wp2;go_ret;exact ⟨_,rfl,World.ownsRow_nil _ _ _ _,bR _ _⟩
 .have HC:Hid (∀j u,xs[j]?=some u->w.cell? (ad.add j)=some u):=hc;clear hc;go_enter (Yq.nq func96),ntmps96;go_wp2_with (at_builtin;refine wpList_append_own _ rfl _ _ 114 rfl w.heap.size 81 i0 _ 3 32 (Yq.u underlying114) m f d l rfl (by decide) _ _ _ rfl (World.ownsRow_made w #[] 0 (lR _) (Nat.zero_le _) (by simp)) ad n cap xs rfl ?qc1 ?qc2 ?qc3 ?qc4 ?qc5 ?qc6 ?_)
  case qc1=>exact hl
  case qc2=>
   intro j u o;exact ai ((bR _ _).alloc (lR _) _) (HC.out j u o)
  case qc3=>exact h1
  case qc4=>rw [zA];simp only [maxLen];omega
  case qc5=>rw [zA];omega
  case qc6=>simp
  intro v' w1 hown b hnil;go_wp2;go_ret;refine ⟨v',rfl,by simpa using hown,?_⟩;exact ((bR _ w).alloc (lR _) _).grown b (by simp) (by intro k hk;simp [Value.ownBlock] at hk;omega)
 .simp at hl;omega
theorem eq (h:List Ver):∀u∈am h,u.oneCell'=true:=by
 intro u a;simp only [am,List.mem_flatMap] at a;obtain ⟨v,_,a⟩:=a;simp at a;rcases a with rfl|rfl|rfl<;>rfl
theorem im (h:List (UInt8×Option Wu)):∀u∈aB h,u.oneCell'=true:=by
 intro u a;simp only [aB,List.mem_flatMap] at a;obtain ⟨v,_,a⟩:=a;simp at a;rcases a with rfl|rfl<;>rfl
theorem xP (A:Nat->Prop)(v:Wx)(ks:List (UInt8×Option Wu))(w:Wj)(h:fR A w v ks)(hn:ks.length<=256):
  Calls Yq.prog 132 #[v] w fun e w'=>∃v',e=.returned v'/\w'.ownsRow w.heap.size 190 2 v' ks.length (aB ks)/\Below w.heap.size w w':=
 xN A v _ _ w h (ep ks) (by omega) (im ks)
theorem oH (A:Nat->Prop)(v:Wx)(h:List Ver)(w:Wj)(a:bf A w v h)(hn:h.length<=2199023255552):
  Calls Yq.prog 96 #[v] w fun e w'=>∃v',e=.returned v'/\w'.ownsRow w.heap.size 81 3 v' h.length (am h)/\Below w.heap.size w w':=
 xO A v _ _ w a (fu h) hn (eq h)
section
variable {P:Program}
theorem eH (w:Wj)(m q n e:Ww)(i:TypeInfo)(g o d k:Nat)(a:Wu)(c f:Nat)(b:Array Wx)(t:Ww)(cs:List Wx)
  (r:P.underlying m=some (.slice e)) (p:P.info? e=some i)
  (hg:w.heap[g]?=some (.cells b t (0,0))) (hn:cs.length=Nat.min c d * i.size)
  (h:∀j v,cs[j]?=some v->w.cell? (a.add j)=some v) (l:o+cs.length<=b.size) (h1:∀v∈cs,v.oneCell'=true):
  (Builtin.copy_ #[m,q] n #[.slice (some ⟨g,o,none⟩) d k,.slice (some a) c f]).run P w =
   .ok (goInt (Nat.min c d)) (w.setRow g (b.toList.take o++cs++b.toList.drop (o+cs.length)).toArray):=by
 have hl:=run_loadCells_list (P:=P) w a cs h;have hst:=run_storeCells_at P g o t cs 0 b w hg (by simpa using l) h1;simp [Builtin.copy_,run_underlying r,Builtin.lenOf,Builtin.firstCells,sizeOf,typeInfo,p,<-hn,hl,hst]
theorem jM (w:Wj)(t e f:Ww)(z:Wx)(ht:P.underlying t=some (.slice e))(hv:∀w,(zeroValue e).run P w=.ok z w)(h1:∀v∈z.cells.toList,v.oneCell'=true)
  (g o c:Nat) (a:Array Wx) (T:Ww) (hg:w.heap[g]?=some (.cells a T (0,0))) (b:o+z.cells.size<=a.size):
  (Builtin.clear_ #[t] f #[.slice (some ⟨g,o,none⟩) 1 c]).run P w=.ok (.tuple #[]) (w.setRow g (a.toList.take o++z.cells.toList++a.toList.drop (o+z.cells.size)).toArray):=by
 have d:(Builtin.zeroCells z.cells 1)=z.cells:=by
  apply Array.ext
  .simp [Builtin.zeroCells]
  .intro i h1 h2;simp [Builtin.zeroCells,Nat.mod_eq_of_lt h2,h2]
 have hst:=run_storeCells_at P g o T z.cells.toList 0 a w hg (by simpa using b) h1;simp only [Nat.add_zero,lY] at hst;simp [Builtin.clear_,run_underlying ht,hv,d,hst]
theorem jN {ops:Array Oper}{o:Oper}{a:Act}{w:Wj}{K:Act->Wj->Prop}{Q:Exit->Act->Wj->Prop}{E:Prop}
  (hg:o.guard=none) (d x:Operand) (c e:Ww) (b:o.op=Op.call {callee:=Callee.builtin Builtin.copy,args:=#[d,x],argTypes:=#[c,e]})
  (v u:Wx) (hd:a.eval d=v) (hx:a.eval x=u) {v':Wx} {w':Wj} (hr:(Builtin.copy_ #[c,e] o.type #[v,u]).run P w=.ok v' w') (f:K (a.put o.dst v') w'):
  if Region.wanted o (yielded ops a.tmps)=true then Oper.wp P o a w K Q else E:=by
 have hw:Region.wanted o (yielded ops a.tmps)=true:=by simp [Region.wanted,hg]
 rw [if_pos hw];unfold Oper.wp;simp [execOp,b,resolve,invoke,builtin,hd,hx,hr,Result.andThen];exact f
theorem dS {ops:Array Oper}{o:Oper}{a:Act}{w:Wj}{K:Act->Wj->Prop}{Q:Exit->Act->Wj->Prop}{E:Prop}
  (hg:o.guard=none) (d x:Operand) (c e:Ww) (b:o.op=Op.call {callee:=Callee.builtin Builtin.append,args:=#[d,x],argTypes:=#[c,e]})
  (v u:Wx) (hd:a.eval d=v) (hx:a.eval x=u) {v':Wx} {w':Wj} (hr:(Builtin.append_ #[c,e] o.type #[v,u]).run P w=.ok v' w') (f:K (a.put o.dst v') w'):
  if Region.wanted o (yielded ops a.tmps)=true then Oper.wp P o a w K Q else E:=by
 have hw:Region.wanted o (yielded ops a.tmps)=true:=by simp [Region.wanted,hg]
 rw [if_pos hw];unfold Oper.wp;simp [execOp,b,resolve,invoke,builtin,hd,hx,hr,Result.andThen];exact f
end
theorem eI {w:Wj}{c:Nat}{e:Ww}{a g n cap:Nat}{b:Array Wx}{xs:List Wx}(hb:c<=g)(hg:w.heap[g]?=some (.cells b e (0,0)))(hn:n<=cap)(hm:cap<=maxLen)
  (hs:b.size=cap * a) (hx:b.toList.take (n * a)=xs):w.ownsRow c e a (.slice (some ⟨g,0,none⟩) n cap) n xs:=by
 refine ⟨?_,Or.inr ⟨g,cap,b,rfl,hb,hg,hn,hm,hs,hx⟩⟩;rw [<-hx,tL,lY,hs];exact Nat.min_eq_left (Nat.mul_le_mul_right _ hn)
theorem dh (w:Wj)(g:Nat)(cs:Array Wx):w.grownBy (w.setRow g cs) (some g):=
 ⟨rfl,rfl,rfl,by simp,fun k _ hk=>setRow_other w g k _ (fun e=>hk (by rw [e]))⟩
theorem fS {w w':Wj}{r:Option Nat}(h:w.grownBy w' r):w.grownBy w'.drew r:=⟨h.os,h.tape,h.output,h.size,h.block⟩
theorem bX {a b c:Wj}{r:Option Nat}(h:a.grownBy b r)(k:b.grownBy c r):a.grownBy c r:=
 ⟨k.os.trans h.os,k.tape.trans h.tape,k.output.trans h.output,lT h.size k.size,fun i d hr=>(k.block i (lL d h.size) hr).trans (h.block i d hr)⟩
theorem Yq.zeroKid (w:Wj):(zeroValue 190).run Yq.prog w=.ok (.agg #[.int .u8 0,.pointer none]) w:=by kernel_rfl
theorem Yq.zeroVer (w:Wj):(zeroValue 81).run Yq.prog w=.ok (.agg #[.int .i64 0,.string ⟨#[]⟩,.bool false]) w:=by kernel_rfl
theorem vQ {α:Type}(a xs C1 Z:List α)(s k i cap:Nat)(hcl:a.length=cap * s)(hk:k+1<=cap)(d:i<=k)(hx:a.take ((k+1) * s)=xs)
  (c:C1=a.take (i * s)++xs.drop ((i+1) * s)++a.drop (i * s+(xs.drop ((i+1) * s)).length)):
  (C1.take (k * s)++Z++C1.drop (k * s+s)).take (k * s)=xs.take (i * s)++xs.drop ((i+1) * s):=by
 have m1:(k+1) * s=k * s+s:=by rw [Nat.add_mul,Nat.one_mul]
 have m2:(i+1) * s=i * s+s:=by rw [Nat.add_mul,Nat.one_mul]
 have m3:(k+1) * s<=cap * s:=Nat.mul_le_mul_right _ hk;have m4:i * s<=k * s:=Nat.mul_le_mul_right _ d;have b:xs.length=(k+1) * s:=by rw [<-hx,tL,hcl];omega
 have e1:a.take (i * s)=xs.take (i * s):=by rw [<-hx,List.take_take,Nat.min_eq_left (by omega)]
 have hl:(a.take (i * s)++xs.drop ((i+1) * s)).length=k * s:=by
  rw [lP,tL,lD,hcl,b];omega
 have e2:C1.take (k * s)=a.take (i * s)++xs.drop ((i+1) * s):=by rw [c];exact List.take_left' hl
 rw [e2,pA,List.take_left' hl,e1]
theorem CM (m g k cap i:Nat)(xs:List Wx)(w:Wj)(hown:w.ownsRow m 190 2 (.slice (some ⟨g,0,none⟩) (k+1) cap) (k+1) xs)(I:i<=k)(hn:k<=2199023255552)(h1:∀u∈xs,u.oneCell'=true):
  Calls Yq.prog 117 #[.slice (some ⟨g,0,none⟩) (k+1) cap,.int .i64 i,.int .i64 ((i:Int)+1)] w fun e w'=>e=.returned (.slice (some ⟨g,0,none⟩) k cap) /\
   w'.ownsRow m 190 2 (.slice (some ⟨g,0,none⟩) k cap) k (xs.take (i * 2)++xs.drop ((i+1) * 2))/\w.grownBy w' (some g):=by
 obtain ⟨i0,H,hz0,C,hz2⟩:=info_parts Yq.infoKid;obtain ⟨hlen,hr⟩:=hown;rcases hr with ⟨h0,_⟩|⟨g',cap',f,hv,hbg,hg,x,z,hcs,j⟩
 .cases h0
 cases hv;obtain ⟨Z,G⟩:∃Z:List Wx,Z=(Value.agg #[.int .u8 0,.pointer none]).cells.toList:=⟨_,rfl⟩;obtain ⟨a,d⟩:∃a,a=xs.drop ((i+1) * 2):=⟨_,rfl⟩;have p:a.length=(k-i) * 2:=by rw [d,lD,hlen];omega
 obtain ⟨A,hA,F⟩:∃A:Wu,(if cap=i+1 then some (⟨g,0,none⟩:Wu) else some ⟨g,(i+1) * 2,none⟩)=some A/\Hid (∀t u,a[t]?=some u->w.drew.cell? (A.add t)=some u):=by
  by_cases h:cap=i+1
  .refine ⟨⟨g,0,none⟩,by simp [h],fun t u B=>?_⟩;have h0:a=[]:=List.eq_nil_of_length_eq_zero (by omega);rw [h0] at B;simp at B
  .refine ⟨⟨g,(i+1) * 2,none⟩,by simp [h],fun t u B=>?_⟩;rw [Addr.add_lit,d,List.getElem?_drop,<-j,List.getElem?_take] at *;have y:(if (i+1) * 2+t<(k+1) * 2 then f.toList[(i+1) * 2+t]? else none)=some u:=B;split at y
   .show w.cell? _=_;rw [World.cell?];simpa [hg] using y
   .cases y
 have hcl:f.toList.length=cap * 2:=by rw [lY,hcs]
 obtain ⟨C1,o⟩:∃C1,C1=f.toList.take (i * 2)++a++f.toList.drop (i * 2+a.length):=⟨_,rfl⟩;have l:C1.length=cap * 2:=by rw [o];simp only [lP,tL,lD,hcl,p];omega
 obtain ⟨W1,s⟩:∃W1,W1=w.drew.setRow g C1.toArray:=⟨_,rfl⟩;have n:W1.heap[g]?=some (.cells C1.toArray 190 (0,0)):=by rw [s];exact setRow_heap w.drew g f _ _ _ hg
 have hap:∀r c,(Builtin.append_ #[157,157] r #[.slice (some ⟨g,0,none⟩) i cap,.slice (some A) (k-i) c]).run Yq.prog w.drew=.ok (.slice (some ⟨g,0,none⟩) k cap) W1:=fun r c=>by
  have:=run_append_room (P:=Yq.prog) w.drew 157 r 190 i0 (Yq.u underlying157) H g i cap f hg A (k-i) c a (by rw [C];exact p) F.out (fun u B=>h1 u (by rw [d] at B;exact List.mem_of_mem_drop B)) (by omega) (by rw [C,p,hcs];omega);rw [this,C,s,o,show i+(k-i)=k by omega]
 obtain ⟨C2,q⟩:∃C2,C2=C1.take (k * 2)++Z++C1.drop (k * 2+2):=⟨_,rfl⟩;obtain ⟨W2,v⟩:∃W2,W2=W1.setRow g C2.toArray:=⟨_,rfl⟩;have hcr:∀r c,(Builtin.clear_ #[157] r #[.slice (some ⟨g,k * 2,none⟩) 1 c]).run Yq.prog W1=.ok (.tuple #[]) W2:=fun r c=>by
  rw [v,q,G];exact jM W1 157 190 r (Value.agg #[.int .u8 0,.pointer none]) (Yq.u underlying157) Yq.zeroKid (by simp [Value.cells,Value.oneCell']) g (k * 2) c C1.toArray _ n (by simp [Value.cells,l];omega)
 have D:W2.ownsRow m 190 2 (.slice (some ⟨g,0,none⟩) k cap) k (xs.take (i * 2)++xs.drop ((i+1) * 2)):=by
  rw [v];refine eI hbg (setRow_heap W1 g _ _ _ _ n) (by omega) z ?_ ?_
  .rw [q,G];simp only [lZ,lP,tL,lD,l,Value.cells,lC,lN];omega
  .rw [q];exact vQ f.toList xs C1 Z 2 k i cap hcl x I j (by rw [o,d])
 have hgr:w.grownBy W2 (some g):=by
  rw [v];refine bX (b:=W1) ?_ (dh _ _ _);rw [s];exact bX (fS (World.grownBy.refl w _)) (dh _ _ _)
 have hb0:(0:Int)<=(i:Int)+1:=by omega
 have hic:i<=cap:=by omega
 have hjc:i+1<=cap:=by omega
 have hkc:k+1<=cap:=x;have hc63:cap<=9223372036854775807:=by unfold maxLen at z;omega
 have E:Hid (∀r c,(Builtin.append_ #[157,157] r #[.slice (some ⟨g,0,none⟩) i cap,.slice (some A) (k-i) c]).run Yq.prog w.drew=.ok (.slice (some ⟨g,0,none⟩) k cap) W1):=hap;clear hlen hg hcs j d p hcl o l s n hap x z q v G h1;go_enter (Yq.nq func117),ntmps117;go_wp2_with fail
 go_region_law (refine dS rfl (.tmp 22) (.tmp 25) 157 157 rfl (.slice (some ⟨g,0,none⟩) i cap) (.slice (some A) (k-i) (cap-(i+1))) (by simp [Act.eval,Act.put]) (by simp [Act.eval,Act.put]) (E.out _ _) ?_)
 go_wp2;go_ret;exact ⟨rfl,D,hgr⟩
theorem CN (m g k cap i:Nat)(xs:List Wx)(w:Wj)(hown:w.ownsRow m 81 3 (.slice (some ⟨g,0,none⟩) (k+1) cap) (k+1) xs)(I:i<=k)(hn:k<=2199023255552)(h1:∀u∈xs,u.oneCell'=true):
  Calls Yq.prog 95 #[.slice (some ⟨g,0,none⟩) (k+1) cap,.int .i64 i,.int .i64 ((i:Int)+1)] w fun e w'=>e=.returned (.slice (some ⟨g,0,none⟩) k cap) /\
   w'.ownsRow m 81 3 (.slice (some ⟨g,0,none⟩) k cap) k (xs.take (i * 3)++xs.drop ((i+1) * 3))/\w.grownBy w' (some g):=by
 obtain ⟨i0,H,hz0,C,hz2⟩:=info_parts Yq.infoVer;obtain ⟨hlen,hr⟩:=hown;rcases hr with ⟨h0,_⟩|⟨g',cap',f,hv,hbg,hg,x,z,hcs,j⟩
 .cases h0
 cases hv;obtain ⟨Z,G⟩:∃Z:List Wx,Z=(Value.agg #[.int .i64 0,.string ⟨#[]⟩,.bool false]).cells.toList:=⟨_,rfl⟩;obtain ⟨a,d⟩:∃a,a=xs.drop ((i+1) * 3):=⟨_,rfl⟩;have p:a.length=(k-i) * 3:=by rw [d,lD,hlen];omega
 obtain ⟨A,hA,F⟩:∃A:Wu,(if cap=i+1 then some (⟨g,0,none⟩:Wu) else some ⟨g,(i+1) * 3,none⟩)=some A/\Hid (∀t u,a[t]?=some u->w.drew.cell? (A.add t)=some u):=by
  by_cases h:cap=i+1
  .refine ⟨⟨g,0,none⟩,by simp [h],fun t u B=>?_⟩;have h0:a=[]:=List.eq_nil_of_length_eq_zero (by omega);rw [h0] at B;simp at B
  .refine ⟨⟨g,(i+1) * 3,none⟩,by simp [h],fun t u B=>?_⟩;rw [Addr.add_lit,d,List.getElem?_drop,<-j,List.getElem?_take] at *;have y:(if (i+1) * 3+t<(k+1) * 3 then f.toList[(i+1) * 3+t]? else none)=some u:=B;split at y
   .show w.cell? _=_;rw [World.cell?];simpa [hg] using y
   .cases y
 have hcl:f.toList.length=cap * 3:=by rw [lY,hcs]
 obtain ⟨C1,o⟩:∃C1,C1=f.toList.take (i * 3)++a++f.toList.drop (i * 3+a.length):=⟨_,rfl⟩;have l:C1.length=cap * 3:=by rw [o];simp only [lP,tL,lD,hcl,p];omega
 obtain ⟨W1,s⟩:∃W1,W1=w.drew.setRow g C1.toArray:=⟨_,rfl⟩;have n:W1.heap[g]?=some (.cells C1.toArray 81 (0,0)):=by rw [s];exact setRow_heap w.drew g f _ _ _ hg
 have hap:∀r c,(Builtin.append_ #[114,114] r #[.slice (some ⟨g,0,none⟩) i cap,.slice (some A) (k-i) c]).run Yq.prog w.drew=.ok (.slice (some ⟨g,0,none⟩) k cap) W1:=fun r c=>by
  have:=run_append_room (P:=Yq.prog) w.drew 114 r 81 i0 (Yq.u underlying114) H g i cap f hg A (k-i) c a (by rw [C];exact p) F.out (fun u B=>h1 u (by rw [d] at B;exact List.mem_of_mem_drop B)) (by omega) (by rw [C,p,hcs];omega);rw [this,C,s,o,show i+(k-i)=k by omega]
 obtain ⟨C2,q⟩:∃C2,C2=C1.take (k * 3)++Z++C1.drop (k * 3+3):=⟨_,rfl⟩;obtain ⟨W2,v⟩:∃W2,W2=W1.setRow g C2.toArray:=⟨_,rfl⟩;have hcr:∀r c,(Builtin.clear_ #[114] r #[.slice (some ⟨g,k * 3,none⟩) 1 c]).run Yq.prog W1=.ok (.tuple #[]) W2:=fun r c=>by
  rw [v,q,G];exact jM W1 114 81 r (Value.agg #[.int .i64 0,.string ⟨#[]⟩,.bool false]) (Yq.u underlying114) Yq.zeroVer (by simp [Value.cells,Value.oneCell']) g (k * 3) c C1.toArray _ n (by simp [Value.cells,l];omega)
 have D:W2.ownsRow m 81 3 (.slice (some ⟨g,0,none⟩) k cap) k (xs.take (i * 3)++xs.drop ((i+1) * 3)):=by
  rw [v];refine eI hbg (setRow_heap W1 g _ _ _ _ n) (by omega) z ?_ ?_
  .rw [q,G];simp only [lZ,lP,tL,lD,l,Value.cells,lC,lN];omega
  .rw [q];exact vQ f.toList xs C1 Z 3 k i cap hcl x I j (by rw [o,d])
 have hgr:w.grownBy W2 (some g):=by
  rw [v];refine bX (b:=W1) ?_ (dh _ _ _);rw [s];exact bX (fS (World.grownBy.refl w _)) (dh _ _ _)
 have hb0:(0:Int)<=(i:Int)+1:=by omega
 have hic:i<=cap:=by omega
 have hjc:i+1<=cap:=by omega
 have hkc:k+1<=cap:=x;have hc63:cap<=9223372036854775807:=by unfold maxLen at z;omega
 have E:Hid (∀r c,(Builtin.append_ #[114,114] r #[.slice (some ⟨g,0,none⟩) i cap,.slice (some A) (k-i) c]).run Yq.prog w.drew=.ok (.slice (some ⟨g,0,none⟩) k cap) W1):=hap;clear hlen hg hcs j d p hcl o l s n hap x z q v G h1;go_enter (Yq.nq func95),ntmps95;go_wp2_with fail
 go_region_law (refine dS rfl (.tmp 22) (.tmp 25) 114 114 rfl (.slice (some ⟨g,0,none⟩) i cap) (.slice (some A) (k-i) (cap-(i+1))) (by simp [Act.eval,Act.put]) (by simp [Act.eval,Act.put]) (E.out _ _) ?_)
 go_wp2;go_ret;exact ⟨rfl,D,hgr⟩
def ff (c:Nat)(v:Wx)(i n:Nat)(xs:List Wx)(a b:Wx)(w:Wj)(e:Ending)(w':Wj):Prop:=
 ∃v',e=.returned v'/\w'.ownsRow c 190 2 v' (n+1) (xs.take (i * 2)++[a,b]++xs.drop (i * 2))/\w.grownBy w' v.ownBlock/\(v'.ownBlock=v.ownBlock\/∀k,v'.ownBlock=some k->w.heap.size<=k)
theorem dU {P:Program}(w:Wj){ops:Array Oper}{rest:List Oper}{o:Oper}{a:Act}{Q:Exit->Act->Wj->Prop}(c:o.guard=none)(s x:Operand)(t d:Ww)
  (ho:o.op=.call {callee:=.builtin .append,args:=#[s,x],argTypes:=#[t,d]}) (e b:Wx) (hs:a.eval s=e) (hx:a.eval x=b)
  {v':Wx} {w':Wj} (hr:(Builtin.append_ #[t,d] o.type #[e,b]).run P w=.ok v' w') (h:wpList P ops Q rest (a.put o.dst v') w'):wpList P ops Q (o::rest) a w:=
 Lib.wpList_append_run w c s x t d ho e b hs hx v' w' hr h
theorem Ff (f:Nat)(v:Wx)(n:Nat)(xs:List Wx)(o:Nat)(a b:Wx)(w:Wj)(hown:w.ownsRow f 190 2 v n xs)(hn:n<=1000)
    (t:w.cell? ⟨o,0,none⟩=some a) (hv1:w.cell? ⟨o,1,none⟩=some b) (h1:a.oneCell'=true/\b.oneCell'=true) (r:f<=w.heap.size):
    ∃v' w',(∀i,(Builtin.append_ #[157,157] i #[v,.slice (some ⟨o,0,none⟩) 1 1]).run Yq.prog w=.ok v' w')/\ff f v n n xs a b w (.returned v') w':=by
  obtain ⟨i0,h,l,e,p⟩:=info_parts Yq.infoKid;have c:∀j u,[a,b][j]?=some u->w.cell? ((⟨o,0,none⟩:Wu).add j)=some u:=by
    intro j u m;rw [Addr.add_lit]
    match j,m with
    | 0,m=>simp at m;subst m;exact t
    | 1,m=>simp at m;subst m;exact hv1
  have q:∀u∈[a,b],u.oneCell'=true:=by intro u y;simp at y;rcases y with rfl|rfl<;>simp [h1]
  have hlen:=hown.1;have hx:xs.take (n * 2)++[a,b]++xs.drop (n * 2)=xs++[a,b]:=by
    rw [tO (by omega),List.drop_eq_nil_of_le (by omega),List.append_nil]
  have hr:=fun i=>run_append_own (P:=Yq.prog) w f 157 i 190 i0 _ 2 16 (Yq.u underlying157) h l e p rfl (by decide) v n xs hown ⟨o,0,none⟩ 1 1 [a,b] rfl c q (by simp only [maxLen];omega) (by omega) r
  rcases hown.2 with ⟨rfl,rfl⟩|⟨g,cap,s,rfl,hbg,hg,hnc,hcm,hcs,htake⟩
  . have x:xs=[]:=List.eq_nil_of_length_eq_zero (by omega)
    subst x;refine ⟨_,_,fun i=>run_append_nil (P:=Yq.prog) w 157 i 190 i0 _ (Yq.u underlying157) h l ⟨o,0,none⟩ 1 1 [a,b] (by rw [e];rfl) c (by omega) (by omega) (by rw [p];omega),_,rfl,?_,?_,?_⟩
    . obtain ⟨v',w',d,ho,hgr,_⟩:=hr 0
      rw [run_append_nil (P:=Yq.prog) w 157 0 190 i0 _ (Yq.u underlying157) h l ⟨o,0,none⟩ 1 1 [a,b] (by rw [e];rfl) c (by omega) (by omega) (by rw [p];omega)] at d;cases d;rw [hx];exact ho
    . exact bX (fS (World.grownBy.refl w _)) (World.grownBy_alloc _ _ _)
    . exact Or.inr (fun k hk=>by simp [Value.ownBlock] at hk;omega)
  . by_cases hroom:n+1<=cap
    . have hq:=fun i=>run_append_room (P:=Yq.prog) w 157 i 190 i0 (Yq.u underlying157) h g n cap s hg ⟨o,0,none⟩ 1 1 [a,b] (by rw [e];rfl) c q hroom (by rw [e,hcs];simp;omega)
      refine ⟨_,_,hq,_,rfl,?_,?_,?_⟩
      . obtain ⟨v',w',d,ho,hgr,_⟩:=hr 0
        rw [hq 0] at d;cases d;rw [hx];exact ho
      . exact dh _ _ _
      . exact Or.inl rfl
    . have hq := fun i => run_append_grow (P := Yq.prog) w 157 i 190 i0 _ (Yq.u underlying157) h l ⟨g, 0, none⟩ n cap xs (by rw [e]; exact hlen) (fun j u m => by
          have:=hown.cells (g:=g) rfl j u m;exact this) ⟨o,0,none⟩ 1 1 [a,b] (by rw [e];rfl) c (by omega) (by omega) (growslice_fits (by omega) (by rw [p];omega))
      refine ⟨_,_,hq,_,rfl,?_,?_,?_⟩
      . obtain ⟨v',w',d,ho,hgr,_⟩:=hr 0
        rw [hq 0] at d;cases d;rw [hx];exact ho
      . exact bX (fS (World.grownBy.refl w _)) (World.grownBy_alloc _ _ _)
      . exact Or.inr (fun k hk=>by simp [Value.ownBlock] at hk;omega)
theorem CO (c:Nat)(v:Wx)(n:Nat)(xs:List Wx)(h:Nat)(a b:Wx)(w:Wj)(hown:w.ownsRow c 190 2 v n xs)(hn:n<=1000)
  (j:w.cell? ⟨h,0,none⟩=some a) (hv1:w.cell? ⟨h,1,none⟩=some b) (h1:a.oneCell'=true/\b.oneCell'=true) (d:c<=w.heap.size):
  Calls Yq.prog 118 #[v,.int .i64 n,.slice (some ⟨h,0,none⟩) 1 1] w (ff c v n n xs a b w):=by
 obtain ⟨v',w1,hr,hp⟩:=Ff c v n xs h a b w hown hn j hv1 h1 d;obtain ⟨k,cap,hv,f,i⟩:∃k cap,v=.slice k n cap/\n<=cap/\cap<=9223372036854775807:=by
  rcases hown.2 with ⟨rfl,rfl⟩|⟨g,cap,cur,rfl,hbg,hg,f,i,hcs,htake⟩
  .exact ⟨none,0,rfl,lR _,by omega⟩
  .exact ⟨_,cap,rfl,f,by unfold maxLen at i;omega⟩
 subst hv;have HP:Hid (ff c (.slice k n cap) n n xs a b w (.returned v') w1):=hp;clear hp hown j hv1 h1;have e:Hid (∀l,(Builtin.append_ #[157,157] l #[.slice k n cap,.slice (some ⟨h,0,none⟩) 1 1]).run Yq.prog w=.ok v' w1):=hr;clear hr;by_cases hcn:cap=n
 .subst hcn;go_enter (Yq.nq func118),ntmps118;go_wp2_with (at_builtin;refine dU _ rfl _ _ 157 157 rfl _ _ rfl rfl (e.out _) ?_)
  go_ret;exact HP.out
 .go_enter (Yq.nq func118),ntmps118;go_wp2_with (at_builtin;refine dU _ rfl _ _ 157 157 rfl _ _ rfl rfl (e.out _) ?_)
  go_ret;exact HP.out
theorem CP (g b:Nat)(a:Array Wx)(f:Array Wx)(d:Ww)(o la c lb h:Nat)(w:Wj)(hne:b≠g)(hg:w.heap[g]?=some (.cells a 190 (0,0)))(h0:a.size≠0)(hv:w.heap[b]?=some (.cells f d (0,0))):
  (callFunc 136 #[.slice (some ⟨b,0,none⟩) la c,.slice (some ⟨g,o,none⟩) lb h]).run Yq.prog w=.ok (.value (.bool false)) w:=by
 rw [run_callFunc_extern (Yq.nq func136) (by kernel_rfl) (by kernel_rfl) (by kernel_rfl) (e:=Extern.SlicesOverlaps.overlaps #[157,157] #[4]) (by kernel_rfl),
  Lib.run_overlaps_apart w 157 4 190 (Yq.u underlying157) 2 (fun w=>Yq.s (sizeOf190 w)) ⟨b,0,none⟩ ⟨g,o,none⟩ la c lb h hne d 190 f.size a.size (by simp [World.shape?,hv]) (by simp [World.shape?,hg]) h0 (by simp [World.frozen?,hv]) (by simp [World.frozen?,hv])]
 rfl
theorem CQ {α:Type}(c xs C1 C2:List α)(n i cap:Nat)(a b:α)(hcl:c.length=cap * 2)(hk:n+1<=cap)(hi:i<=n)(hx:c.take (n * 2)=xs)
  (e:C1=c.take ((i+1) * 2)++xs.drop (i * 2)++c.drop ((i+1) * 2+(xs.drop (i * 2)).length)) (j:C2=C1.take (i * 2)++[a,b]++C1.drop (i * 2+2)):
  C2.length=cap * 2/\C2.take ((n+1) * 2)=xs.take (i * 2)++[a,b]++xs.drop (i * 2):=by
 have d:xs.length=n * 2:=by rw [<-hx,tL,hcl];omega
 have hdl:(xs.drop (i * 2)).length=(n-i) * 2:=by rw [lD,d];omega
 have e1:c.take (i * 2)=xs.take (i * 2):=by rw [<-hx,List.take_take,Nat.min_eq_left (by omega)]
 have hA:(c.take ((i+1) * 2)).length=(i+1) * 2:=by rw [tL,hcl];omega
 have h:C1.length=cap * 2:=by rw [e];simp only [lP,lD,hA,hcl,d];omega
 have e2:C1.take (i * 2)=xs.take (i * 2):=by
  rw [e,pA,List.take_append_of_le_length (by omega),List.take_take,Nat.min_eq_left (by omega),e1]
 have e3:C1.drop (i * 2+2)=xs.drop (i * 2)++c.drop ((i+1) * 2+(xs.drop (i * 2)).length):=by
  rw [e,pA];exact List.drop_left' (by rw [hA];omega)
 have f:(xs.take (i * 2)).length=i * 2:=by rw [tL,d];omega
 refine ⟨?_,?_⟩
 .rw [j,lP,lP,e2,f,lD,h];simp;omega
 .rw [j,e2,e3,<-pA];exact List.take_left' (by simp only [lP,f,hdl,lC,lN];omega)
theorem xQ (f g n cap i:Nat)(xs:List Wx)(o:Nat)(a b:Wx)(w:Wj)(hown:w.ownsRow f 190 2 (.slice (some ⟨g,0,none⟩) n cap) n xs)(hn:n<=1000)(hi:i<n)(hroom:n+1<=cap)
  (K:Ww) (hv:w.heap[o]?=some (.cells #[a,b] K (0,0))) (hne:o≠g) (h1:a.oneCell'=true/\b.oneCell'=true) (F:∀u∈xs,u.oneCell'=true):
  Calls Yq.prog 118 #[.slice (some ⟨g,0,none⟩) n cap,.int .i64 i,.slice (some ⟨o,0,none⟩) 1 1] w (ff f (.slice (some ⟨g,0,none⟩) n cap) i n xs a b w):=by
 obtain ⟨i0,E,hz0,D,hz2⟩:=info_parts Yq.infoKid;obtain ⟨hlen,hr⟩:=hown;rcases hr with ⟨h0,_⟩|⟨g',cap',d,J,hbg,hg,G,A,hcs,e⟩
 .cases h0
 cases J;have hcl:d.toList.length=cap * 2:=by rw [lY,hcs]
 obtain ⟨cs,c⟩:∃cs,cs=xs.drop (i * 2):=⟨_,rfl⟩;have hdl:cs.length=(n-i) * 2:=by rw [c,lD,hlen];omega
 obtain ⟨C1,p⟩:∃C1,C1=d.toList.take ((i+1) * 2)++cs++d.toList.drop ((i+1) * 2+cs.length):=⟨_,rfl⟩;obtain ⟨C2,B⟩:∃C2,C2=C1.take (i * 2)++[a,b]++C1.drop (i * 2+2):=⟨_,rfl⟩;obtain ⟨z,x⟩:=CQ d.toList xs C1 C2 n i cap a b hcl hroom (by omega) e (by rw [p,c]) B;have t:C1.length=cap * 2:=by rw [p];simp only [lP,tL,lD,hcl,hdl];omega
 obtain ⟨W1,k⟩:∃W1,W1=w.drew.setRow g C1.toArray:=⟨_,rfl⟩;obtain ⟨W2,q⟩:∃W2,W2=W1.setRow g C2.toArray:=⟨_,rfl⟩;have m:W1.heap[g]?=some (.cells C1.toArray 190 (0,0)):=by rw [k];exact setRow_heap w.drew g d _ _ _ hg
 have H:∀lb L,(callFunc 136 #[.slice (some ⟨o,0,none⟩) 1 1,.slice (some ⟨g,(i+1) * 2,none⟩) lb L]).run Yq.prog w=.ok (.value (.bool false)) w:=fun lb L=>
  CP g o d _ K ((i+1) * 2) 1 1 lb L w hne hg (by omega) hv
 have s:∀h l sc,(Builtin.copy_ #[157,157] h #[.slice (some ⟨g,(i+1) * 2,none⟩) (n-i) l,.slice (some ⟨g,i * 2,none⟩) (n+1-i) sc]).run Yq.prog w.drew=.ok (goInt ((n-i:Nat):Int)) W1:=fun h l sc=>by
  have hm:Nat.min (n+1-i) (n-i)=n-i:=Nat.min_eq_right (by omega);rw [eH (P:=Yq.prog) w.drew 157 157 h 190 i0 g ((i+1) * 2) (n-i) l ⟨g,i * 2,none⟩ (n+1-i) sc d 190 cs (Yq.u underlying157) E hg (by rw [hm,D,hdl])
   (fun j v C=>by
    rw [Addr.add_lit];rw [c,List.getElem?_drop,<-e,List.getElem?_take] at C;split at C
    .show w.cell? _=_;rw [World.cell?];simpa [hg] using C
    .cases C)
   (by rw [hdl,hcs];omega) (fun v hv=>F v (by rw [c] at hv;exact List.mem_of_mem_drop hv)),k,p,hm]
 have y:∀h l,(Builtin.copy_ #[157,157] h #[.slice (some ⟨g,i * 2,none⟩) (n+1-i) l,.slice (some ⟨o,0,none⟩) 1 1]).run Yq.prog W1=.ok (goInt 1) W2:=fun h l=>by
  have hm:Nat.min 1 (n+1-i)=1:=Nat.min_eq_left (by omega);have I:W1.heap[o]?=some (.cells #[a,b] K (0,0)):=by rw [k,setRow_other w.drew g o _ hne];exact hv
  rw [eH (P:=Yq.prog) W1 157 157 h 190 i0 g (i * 2) (n+1-i) l ⟨o,0,none⟩ 1 1 C1.toArray 190 [a,b] (Yq.u underlying157) E m (by rw [hm,D];rfl)
   (fun j v C=>by
    rw [Addr.add_lit,World.cell?];simpa [I] using C)
   (by simp [t];omega) (fun v hv=>by simp at hv;rcases hv with rfl|rfl<;>simp [h1]),q,B,hm]
  rfl
 have r:ff f (.slice (some ⟨g,0,none⟩) n cap) i n xs a b w (.returned (.slice (some ⟨g,0,none⟩) (n+1) cap)) W2:=by
  refine ⟨_,rfl,?_,?_,Or.inl rfl⟩
  .rw [q];exact eI hbg (setRow_heap W1 g _ _ _ _ m) hroom A (by simp [z]) (by simpa using x)
  .rw [q];refine bX (b:=W1) ?_ (dh _ _ _);rw [k];exact bX (fS (World.grownBy.refl w _)) (dh _ _ _)
 have HP:Hid (ff f (.slice (some ⟨g,0,none⟩) n cap) i n xs a b w (.returned (.slice (some ⟨g,0,none⟩) (n+1) cap)) W2):=r;have h63:cap<=9223372036854775807:=by unfold maxLen at A;omega
 have hz2':¬((i:Int)=(n:Int)):=by omega
 have hc1:¬cap=i:=by omega
 have hc2:¬cap=i+1:=by omega
 have H1:Hid (∀h l sc,(Builtin.copy_ #[157,157] h #[.slice (some ⟨g,(i+1) * 2,none⟩) (n-i) l,.slice (some ⟨g,i * 2,none⟩) (n+1-i) sc]).run Yq.prog w.drew=.ok (goInt ((n-i:Nat):Int)) W1):=s;have H2:Hid (∀h l,(Builtin.copy_ #[157,157] h #[.slice (some ⟨g,i * 2,none⟩) (n+1-i) l,.slice (some ⟨o,0,none⟩) 1 1]).run Yq.prog W1=.ok (goInt 1) W2):=y;have hw1:IntKind.i64.wrap ((i:Int)+1)=(i:Int)+1:=by rw [IntKind.wrap_i64];omega
 have hb0:(0:Int)<=(i:Int)+1:=by omega
 have htn:((i:Int)+1).toNat=i+1:=by omega
 have hb3:(i:Int)<=(n:Int)+1:=by omega
 have hb4:(i:Int)<=(n:Int):=by omega
 have hin:i<=n:=by omega
 clear hlen hg hcs e hcl c hdl p B z x t k q m s y r hv h1 F G A;go_enter (Yq.nq func118),ntmps118;go_wp2_with (simp only [H])
 go_region_law (refine jN rfl _ _ 157 157 rfl (.slice (some ⟨g,(i+1) * 2,none⟩) (n-i) (cap-(i+1))) (.slice (some ⟨g,i * 2,none⟩) (n+1-i) (cap-i)) (by simp [Act.eval,Act.put]) (by simp [Act.eval,Act.put]) (H1.out _ _ _) ?_)
 have h2:=H2.out;go_wp2;go_ret;exact HP.out
theorem Ap (e g n cap i:Nat)(xs:List Wx)(U:Nat)(a b:Wx)(w:Wj)(hown:w.ownsRow e 190 2 (.slice (some ⟨g,0,none⟩) n cap) n xs)(hn:n<=1000)(hi:i<n)(hroom:cap<n+1)
  (tv:Ww) (hv:w.heap[U]?=some (.cells #[a,b] tv (0,0))) (h1:a.oneCell'=true/\b.oneCell'=true) (X:∀u∈xs,u.oneCell'=true) (S:e<=w.heap.size):
  Calls Yq.prog 118 #[.slice (some ⟨g,0,none⟩) n cap,.int .i64 i,.slice (some ⟨U,0,none⟩) 1 1] w (ff e (.slice (some ⟨g,0,none⟩) n cap) i n xs a b w):=by
 obtain ⟨i0,R,ac,O,V⟩:=info_parts Yq.infoKid;obtain ⟨hlen,hr⟩:=hown;rcases hr with ⟨h0,_⟩|⟨g',cap',cur,ar,hbg,hg,ab,al,hcs,x⟩
 .cases h0
 cases ar;have hcn:cap=n:=by omega
 subst hcn;have ad:g<w.heap.size:=(eS hg).1;have ap:U<w.heap.size:=(eS hv).1;have m:∀j u,xs[j]?=some u->w.cell? ⟨g,j,none⟩=some u:=fun j u p=>by
  rw [<-x,List.getElem?_take] at p;split at p
  .rw [World.cell?];simpa [hg] using p
  .cases p
 have L:(Builtin.firstCells i0.size i (.slice (some ⟨g,0,none⟩) i cap)).run Yq.prog w.drew=.ok (xs.take (i * 2)).toArray w.drew:=by
  rw [O];exact run_firstCells_some w.drew 2 i ⟨g,0,none⟩ i cap (xs.take (i * 2)) (by rw [tL,hlen];omega) (fun j v p=>by
   rw [Addr.add_lit,zA];rw [List.getElem?_take] at p;split at p
   .exact m j v p
   .cases p)
 have hkk:(cap:Int)+1-(i:Int)=((cap+1-i:Nat):Int):=by omega
 have Q:i+(cap+1-i)=cap+1:=by omega
 obtain ⟨G,Z⟩:∃G,G=grownCap w (cap+1) cap 190:=⟨_,rfl⟩;obtain ⟨Z1,M⟩:∃Z1,Z1=(Builtin.zeroCells (Value.agg #[.int .u8 0,.pointer none]).cells (cap+1-i)):=⟨_,rfl⟩;obtain ⟨Z2,T⟩:∃Z2,Z2=(Builtin.zeroCells (Value.agg #[.int .u8 0,.pointer none]).cells (G-(cap+1))):=⟨_,rfl⟩;have H:Z1.size=(cap+1-i) * 2:=by rw [M,size_zeroCells];rfl
 have E:Z2.size=(G-(cap+1)) * 2:=by rw [T,size_zeroCells];rfl
 obtain ⟨ROW,q⟩:∃ROW:Array Wx,ROW=(xs.take (i * 2)).toArray++Z1++Z2:=⟨_,rfl⟩;have af:cap+1<=G:=by rw [Z];exact grownCap_ge w _ _ _
 have s:G<=maxLen:=by rw [Z];exact grownCap_le_maxLen w (cap+1) cap 190 (by simp only [maxLen];omega)
 have N:ROW.size=G * 2:=by
  rw [q];simp only [Array.size_append,lZ,tL,hlen,H,E];omega
 obtain ⟨W0,f⟩:∃W0,W0=w.drew.alloc (.cells ROW 190):=⟨_,rfl⟩;have Y:∀o,(Builtin.append_ #[157,3] o #[.slice (some ⟨g,0,none⟩) i cap,.int .i64 ((cap:Int)+1-(i:Int))]).run Yq.prog w =
   .ok (.slice (some ⟨w.heap.size,0,none⟩) (cap+1) G) W0:=fun o=>by
  have h:=Lib.run_append_grow_zeros (P:=Yq.prog) w 157 3 o 190 i0 _ .i64 .i64 (Yq.u underlying157) (Yq.u underlying3) R ac (some ⟨g,0,none⟩) i cap (xs.take (i * 2)) L (cap+1-i) (by omega) (by omega) (by omega) (by omega) (by rw [V];omega) (by rw [V,Q];exact growslice_fits (by omega) (by omega));rw [Q] at h;rw [hkk,h,f,q,M,T,Z]
 have y:W0.heap[w.heap.size]?=some (.cells ROW 190 (0,0)):=by rw [f];exact heap_alloc_new w.drew _
 obtain ⟨C1,A⟩:∃C1,C1=ROW.toList.take (i * 2)++[a,b]++ROW.toList.drop (i * 2+2):=⟨_,rfl⟩;have t:C1.length=G * 2:=by rw [A];simp only [lP,tL,lD,lY,N,lC,lN];omega
 obtain ⟨cs,c⟩:∃cs,cs=xs.drop (i * 2):=⟨_,rfl⟩;have hdl:cs.length=(cap-i) * 2:=by rw [c,lD,hlen];omega
 obtain ⟨C2,B⟩:∃C2,C2=C1.take ((i+1) * 2)++cs++C1.drop ((i+1) * 2+cs.length):=⟨_,rfl⟩;have K:C2.length=G * 2:=by rw [B];simp only [lP,tL,lD,t,hdl];omega
 have D:(xs.take (i * 2)).length=i * 2:=by rw [tL,hlen];omega
 have I:C2.take ((cap+1) * 2)=xs.take (i * 2)++[a,b]++xs.drop (i * 2):=by
  have e0:ROW.toList.take (i * 2)=xs.take (i * 2):=by
   rw [q];simp only [Array.toList_append,pA];exact List.take_left' D
  have e1:C1.take ((i+1) * 2)=xs.take (i * 2)++[a,b]:=by
   rw [A,e0];exact List.take_left' (by simp only [lP,D,lC,lN];omega)
  rw [B,e1,c];exact List.take_left' (by rw [<-c];simp only [lP,D,hdl,lC,lN];omega)
 obtain ⟨W1,d⟩:∃W1,W1=W0.setRow w.heap.size C1.toArray:=⟨_,rfl⟩;have z:W1.heap[w.heap.size]?=some (.cells C1.toArray 190 (0,0)):=by rw [d];exact setRow_heap W0 _ _ _ _ _ y
 obtain ⟨W2,l⟩:∃W2,W2=W1.drew.setRow w.heap.size C2.toArray:=⟨_,rfl⟩;have r:∀k,k<w.heap.size->W0.heap[k]?=w.heap[k]?:=fun k hk=>by rw [f];exact bA w.drew _ k hk
 have hcp1:∀o C,(Builtin.copy_ #[157,157] o #[.slice (some ⟨w.heap.size,i * 2,none⟩) (cap+1-i) C,.slice (some ⟨U,0,none⟩) 1 1]).run Yq.prog W0=.ok (goInt 1) W1:=fun o C=>by
  have hm:Nat.min 1 (cap+1-i)=1:=Nat.min_eq_left (by omega);rw [eH (P:=Yq.prog) W0 157 157 o 190 i0 w.heap.size (i * 2) (cap+1-i) C ⟨U,0,none⟩ 1 1 ROW 190 [a,b] (Yq.u underlying157) R y (by rw [hm,O];rfl)
   (fun j v p=>by
    have:=r U ap;rw [Addr.add_lit,World.cell?];simpa [this,hv] using p)
   (by rw [N];simp;omega) (fun v hv=>by simp at hv;rcases hv with rfl|rfl<;>simp [h1]),d,A,hm]
  rfl
 have J:∀o C sc,(Builtin.copy_ #[157,157] o #[.slice (some ⟨w.heap.size,(i+1) * 2,none⟩) (cap-i) C,.slice (some ⟨g,i * 2,none⟩) (cap-i) sc]).run Yq.prog W1.drew=.ok (goInt ((cap-i:Nat):Int)) W2:=fun o C sc=>by
  have hm:Nat.min (cap-i) (cap-i)=cap-i:=Nat.min_self _;rw [eH (P:=Yq.prog) W1.drew 157 157 o 190 i0 w.heap.size ((i+1) * 2) (cap-i) C ⟨g,i * 2,none⟩ (cap-i) sc C1.toArray 190 cs (Yq.u underlying157) R z (by rw [hm,O,hdl])
   (fun j v p=>by
    rw [Addr.add_lit];rw [c,List.getElem?_drop] at p;have hb:W1.heap[g]?=w.heap[g]?:=by rw [d,setRow_other W0 _ g _ (by omega)];exact r g ad
    show W1.cell? _=_;rw [cB (w:=w) (w':=W1) (a:=⟨g,i * 2+j,none⟩) hb];exact m _ v p)
   (by rw [hdl];simp [t];omega) (fun v hv=>X v (by rw [c] at hv;exact List.mem_of_mem_drop hv)),l,B,hm]
 have F:ff e (.slice (some ⟨g,0,none⟩) cap cap) i cap xs a b w (.returned (.slice (some ⟨w.heap.size,0,none⟩) (cap+1) G)) W2:=by
  refine ⟨_,rfl,?_,?_,Or.inr (fun k hk=>by simp [Value.ownBlock] at hk;omega)⟩
  .rw [l];exact eI S (setRow_heap W1.drew _ _ _ _ _ z) af s (by simp [K]) (by simpa using I)
  .have hs0:w.heap.size<=W0.heap.size:=by rw [f];simp
   refine ⟨by rw [l,d,f];rfl,by rw [l,d,f];rfl,by rw [l,d,f];rfl,by rw [l,d];simpa using hs0,fun k hk _=>?_⟩;rw [l,setRow_other _ _ k _ (by omega)];show W1.heap[k]?=_;rw [d,setRow_other _ _ k _ (by omega)];exact r k hk
 have HP:Hid (ff e (.slice (some ⟨g,0,none⟩) cap cap) i cap xs a b w (.returned (.slice (some ⟨w.heap.size,0,none⟩) (cap+1) G)) W2):=F;have hz2':¬((i:Int)=(cap:Int)):=by omega
 have hc1:¬cap=i:=by omega
 have hc2:¬G=i:=by omega
 have hc3:¬G=i+1:=by omega
 have hG63':G<=9223372036854775807:=by unfold maxLen at s;omega
 have H2:Hid (∀o C sc,(Builtin.copy_ #[157,157] o #[.slice (some ⟨w.heap.size,(i+1) * 2,none⟩) (cap-i) C,.slice (some ⟨g,i * 2,none⟩) (cap-i) sc]).run Yq.prog W1.drew=.ok (goInt ((cap-i:Nat):Int)) W2):=J;have HR:Hid (∀o,(Builtin.append_ #[157,3] o #[.slice (some ⟨g,0,none⟩) i cap,.int .i64 ((cap:Int)+1-(i:Int))]).run Yq.prog w=.ok (.slice (some ⟨w.heap.size,0,none⟩) (cap+1) G) W0):=Y;have hw1:IntKind.i64.wrap ((i:Int)+1)=(i:Int)+1:=by rw [IntKind.wrap_i64];omega
 have hb0:(0:Int)<=(i:Int)+1:=by omega
 have htn:((i:Int)+1).toNat=i+1:=by omega
 have hb3:(i:Int)<=(cap:Int)+1:=by omega
 have hb4:(i:Int)<=(cap:Int):=by omega
 have hin:i<=cap:=by omega
 clear hlen hg hcs x c hdl A B K I t f d l y z J F hv h1 X ab al L hkk Q Z M T H E q N D r m Y s;go_enter (Yq.nq func118),ntmps118;go_wp2_with (at_builtin;refine dU _ rfl _ _ 157 3 rfl _ _ rfl rfl (HR.out _) ?_)
 go_region_law (refine jN rfl _ _ 157 157 rfl (.slice (some ⟨w.heap.size,(i+1) * 2,none⟩) (cap-i) (G-(i+1))) (.slice (some ⟨g,i * 2,none⟩) (cap-i) (cap-i)) (by simp [Act.eval,Act.put]) (by simp [Act.eval,Act.put]) (H2.out _ _ _) ?_)
 go_wp2;go_ret;exact HP.out
theorem CR (c:Nat)(v:Wx)(n i:Nat)(xs:List Wx)(f:Nat)(a b:Wx)(w:Wj)(hown:w.ownsRow c 190 2 v n xs)(hn:n<=1000)(hi:i<=n)
  (k:Ww) (hv:w.heap[f]?=some (.cells #[a,b] k (0,0))) (hne:v.ownBlock≠some f) (h1:a.oneCell'=true/\b.oneCell'=true) (h:∀u∈xs,u.oneCell'=true) (d:c<=w.heap.size):
  Calls Yq.prog 118 #[v,.int .i64 i,.slice (some ⟨f,0,none⟩) 1 1] w (ff c v i n xs a b w):=by
 by_cases hin:i=n
 .subst hin;exact CO c v i xs f a b w hown hn (by simp [World.cell?,hv]) (by simp [World.cell?,hv]) h1 d
 .rcases hown.2 with ⟨rfl,rfl⟩|⟨g,cap,cur,rfl,hbg,hg,hnc,hcm,hcs,htake⟩
  .omega
  .have j:f≠g:=fun e=>hne (by simp [Value.ownBlock,e])
   by_cases hroom:n+1<=cap
   .exact xQ c g n cap i xs f a b w hown hn (by omega) hroom k hv j h1 h
   .exact Ap c g n cap i xs f a b w hown hn (by omega) (by omega) k hv h1 h d
theorem aE {w:Wj}{b:Nat}{e:Ww}{c:Nat}{v:Wx}{n:Nat}{xs:List Wx}(h:w.ownsRow b e c v n xs):∃a cap,v=.slice a n cap/\(a=none->cap=0):=by
 rcases h.2 with ⟨rfl,rfl⟩|⟨g,cap,cur,rfl,_⟩
 .exact ⟨none,0,rfl,fun _=>rfl⟩
 .exact ⟨_,cap,rfl,fun h=>by cases h⟩
structure Made (A:Nat->Prop)(n:Nat)(w w':Wj)(f:List UInt8->List Ver)(g:Nat)(hv kv:Wx)(ks:List (UInt8×Option Wu)):Prop where
 below:Below w.heap.size w w'
 node:w'.ownsRow w.heap.size 159 3 (.slice (some ⟨g,0,none⟩) 1 1) 1 [.bool (!(f []).isEmpty),hv,kv]
 kids:w'.ownsRow w.heap.size 190 2 kv ks.length (aB ks)
 apart:kv.ownBlock≠some g
 hist:bf A w hv (f [])
 sorted:ks.Pairwise (fun a b=>a.1<b.1)
 child:∀c q,(c,q)∈ks->ak A n w q (fun k=>f (c::k))
 noKid:∀c,(∀q,(c,q) ∉ ks)->∀k,f (c::k)=[]
 noNil:∀c q,(c,q)∈ks->q≠none
theorem Aq (w:Wj):Calls Yq.prog 114 #[.pointer none] w fun e w'=>e=.returned (.pointer (some ⟨w.heap.size,0,none⟩))/\w'=w.alloc (.cells #[.bool false,.slice none 0 0,.slice none 0 0] 159):=by
 go_enter (Yq.nq func114),ntmps114;go_wp2;go_ret;exact ⟨rfl,rfl⟩
theorem xR (A:Nat->Prop)(g:Nat)(a:Bool)(ha:Option Wu)(hl hc:Nat)(c:Option Wu)(d kc:Nat)(ks:List (UInt8×Option Wu))(w:Wj)
  (c0:w.cell? ⟨g,0,none⟩=some (.bool a)) (c1:w.cell? ⟨g,1,none⟩=some (.slice ha hl hc)) (c2:w.cell? ⟨g,2,none⟩=some (.slice c d kc)) (hk:fR A w (.slice c d kc) ks) (hn:ks.length<=256):
  Calls Yq.prog 114 #[.pointer (some ⟨g,0,none⟩)] w fun e w'=>∃w1 f j h,e=.returned (.pointer (some ⟨w1.heap.size,0,none⟩))/\w1.ownsRow w.heap.size 190 2 (.slice f j h) ks.length (aB ks)/\Below w.heap.size w w1 /\
   w'=w1.alloc (.cells #[.bool a,.slice ha hl hc,.slice f j h] 159):=by
 have hcl:∀wq:Wj,wq.heap=w.heap->Calls Yq.prog 132 #[.slice c d kc] wq fun e w'=>∃v',e=.returned v'/\w'.ownsRow wq.heap.size 190 2 v' ks.length (aB ks)/\Below wq.heap.size wq w':=fun wq hq=>
  xP A _ ks wq (hk.keep (fun b hb _=>⟨hb,by rw [hq]⟩)) hn
 have i:Hid (∀wq:Wj,wq.heap=w.heap->Calls Yq.prog 132 #[.slice c d kc] wq fun e w'=>∃v',e=.returned v'/\w'.ownsRow wq.heap.size 190 2 v' ks.length (aB ks)/\Below wq.heap.size wq w'):=hcl;clear hcl hk;go_enter (Yq.nq func114),ntmps114;go_wp2_with fail
 go_region_held3 (fun w'=>w'.cell? ⟨g,0,none⟩=some (.bool a)/\w'.cell? ⟨g,1,none⟩=some (.slice ha hl hc)/\w'.cell? ⟨g,2,none⟩=some (.slice c d kc)) (go_keep)
  (first|(go_at_call 132;refine (i.out _ ?_).mono ?_;rfl;rintro e w' ⟨v',rfl,hown,hb⟩;obtain ⟨f,h,rfl,-⟩:=aE hown;have k0:=ai (W:=w.drew) hb c0;have k1:=ai (W:=w.drew) hb c1;have k2:=ai (W:=w.drew) hb c2))
 go_wp2;go_ret;exact ⟨w',f,_,h,rfl,hown,(bR _ w).drew.trans hb,rfl⟩
theorem rK (w:Wj)(a:Nat)(x y z:Wx)(hb:a<=w.heap.size):(w.alloc (.cells #[x,y,z] 159)).ownsRow a 159 3 (.slice (some ⟨w.heap.size,0,none⟩) 1 1) 1 [x,y,z]:=
 World.ownsRow_lit w #[x,y,z] 1 hb (by simp only [maxLen];omega) rfl
theorem jO (A:Nat->Prop)(n:Nat)(p:Option Wu)(f:List UInt8->List Ver)(w:Wj)(h:ak A (n+1) w p f):
  Calls Yq.prog 114 #[.pointer p] w fun e w'=>∃g hv kv ks,e=.returned (.pointer (some ⟨g,0,none⟩))/\Made A n w w' f g hv kv ks:=by
 rcases h with ⟨rfl,h⟩|⟨g,hv,kv,ks,hp,hA,c0,c1,c2,b,a,hs,hch,hno⟩
 .refine (Aq w).mono ?_;rintro e w' ⟨rfl,rfl⟩;refine ⟨w.heap.size,.slice none 0 0,.slice none 0 0,[],rfl,(bR _ _).alloc (lR _) _,?_,World.ownsRow_nil _ _ _ _,by simp [Value.ownBlock],by rw [h];exact mL A w,List.Pairwise.nil,fun c q hq=>absurd hq List.not_mem_nil,fun c _ k=>h _,fun c q hq=>absurd hq List.not_mem_nil⟩;rw [h];exact rK w _ _ _ _ (lR _)
 .cases hp;have hh2:=b;have hks2:=a;obtain ⟨ha,hc,rfl,-⟩:=hh2;obtain ⟨d,kc,rfl,-⟩:=hks2;refine (xR A g _ ha _ hc d _ kc ks w c0 c1 c2 a (kG ks hs)).mono ?_;rintro e w' ⟨w1,va,vl,vc,rfl,hown,hb,rfl⟩;refine ⟨w1.heap.size,_,_,ks,rfl,hb.alloc hb.size _,rK w1 _ _ _ _ hb.size,hown.alloc _,?_,b,hs,hch,hno.1,hno.2⟩;intro e;have:=(hown.lt _ e).2;omega
def orP (a:Bool)(b g:Nat):Option Wu:=if a=false/\b=0 then none else some ⟨g,0,none⟩
theorem nF (g:Nat)(a:Bool)(c:Option Wu)(b kc:Nat)(w:Wj)(hkl:b<=1000)
  (c0:w.cell? ⟨g,0,none⟩=some (.bool a)) (c2:w.cell? ⟨g,2,none⟩=some (.slice c b kc)):
  Calls Yq.prog 115 #[.pointer (some ⟨g,0,none⟩)] w fun e w'=>e=.returned (.pointer (orP a b g))/\w'=w:=by
 cases a with
 |true=>
  go_enter (Yq.nq func115),ntmps115;go_wp2;go_ret;exact ⟨by simp [orP],rfl⟩
 |false=>
  by_cases h0:b=0
  .subst h0;go_enter (Yq.nq func115),ntmps115;go_wp2;go_ret;exact ⟨by simp [orP],rfl⟩
  .have h0':((b:Int)==0)=false:=by simp;omega
   go_enter (Yq.nq func115),ntmps115;go_wp2;go_ret;exact ⟨by simp [orP,h0],rfl⟩
theorem fT {α:Type}(m:Nat)(g:α->List Wx)(hg:∀a,(g a).length=m)(l:List α)(i:Nat):(l.flatMap g).take (i * m)=(l.take i).flatMap g:=by
 induction l generalizing i with
 |nil=>simp
 |cons a l ih=>
  cases i with
  |zero=>simp
  |succ i=>
   rw [List.flatMap_cons,List.take_succ_cons,List.flatMap_cons,List.take_append,hg];have e:(i+1) * m-m=i * m:=by rw [Nat.add_mul,Nat.one_mul];omega
   rw [e,ih,tO (by rw [hg,Nat.add_mul,Nat.one_mul];omega)]
theorem fU {α:Type}(m:Nat)(g:α->List Wx)(hg:∀a,(g a).length=m)(l:List α)(i:Nat):(l.flatMap g).drop (i * m)=(l.drop i).flatMap g:=by
 induction l generalizing i with
 |nil=>simp
 |cons a l ih=>
  cases i with
  |zero=>simp
  |succ i=>
   rw [List.flatMap_cons,List.drop_succ_cons,List.drop_append,hg];have e:(i+1) * m-m=i * m:=by rw [Nat.add_mul,Nat.one_mul];omega
   rw [e,ih,List.drop_eq_nil_of_le (by rw [hg,Nat.add_mul,Nat.one_mul];omega),List.nil_append]
theorem rL (ks:List (UInt8×Option Wu))(r:Nat)(c:UInt8)(q:Option Wu):
  (aB ks).take (r * 2)++[.int .u8 (c.toNat:Int),.pointer q]++(aB ks).drop (r * 2)=aB (ks.take r++(c,q)::ks.drop r):=by
 unfold aB;rw [fT 2 _ (fun _=>rfl),fU 2 _ (fun _=>rfl)];simp
theorem rM (ks:List (UInt8×Option Wu))(r:Nat):(aB ks).take (r * 2)++(aB ks).drop ((r+1) * 2)=aB (ks.take r++ks.drop (r+1)):=by
 unfold aB;rw [fT 2 _ (fun _=>rfl),fU 2 _ (fun _=>rfl)];simp
theorem rN (h:List Ver)(r:Nat):(am h).take (r * 3)++(am h).drop ((r+1) * 3)=am (h.take r++h.drop (r+1)):=by
 unfold am;rw [fT 3 _ (fun _=>rfl),fU 3 _ (fun _=>rfl)];simp
theorem rO (ks:List (UInt8×Option Wu))(r:Nat)(c:UInt8)(q:Option Wu)(hr:r<ks.length)(hc:ks[r].1=c):(aB ks).set (r * 2+1) (.pointer q)=aB (ks.take r++(c,q)::ks.drop (r+1)):=by
 have e1:ks=ks.take r++ks[r]::ks.drop (r+1):=by rw [List.getElem_cons_drop,List.take_append_drop]
 have hl:(aB (ks.take r)).length=r * 2:=by rw [ep,tL,Nat.min_eq_left (by omega)]
 have e2:aB ks=aB (ks.take r)++(.int .u8 (c.toNat:Int) :: .pointer ks[r].2::aB (ks.drop (r+1))):=by
  have e4:∀ (A B:List (UInt8×Option Wu)) (x:UInt8×Option Wu),aB (A++x::B)=aB A++(.int .u8 (x.1.toNat:Int) :: .pointer x.2::aB B):=fun A B x=>by simp [aB]
  conv=>lhs;rw [e1]
  rw [e4,hc]
 have e3:aB (ks.take r++(c,q)::ks.drop (r+1))=aB (ks.take r)++(.int .u8 (c.toNat:Int) :: .pointer q::aB (ks.drop (r+1))):=by simp [aB]
 rw [e2,e3,List.set_append_right _ _ (by omega),hl];have:r * 2+1-r * 2=1:=by omega
 rw [this];rfl
def aJ (ks:List (UInt8×Option Wu))(r:Nat)(c:UInt8)(q:Option Wu)(d:Nat):List (UInt8×Option Wu):=ks.take r++(c,q)::ks.drop (r+d)
theorem gx {ks:List (UInt8×Option Wu)}{c:UInt8}{r:Nat}(hs:ks.Pairwise (fun a b=>a.1<b.1))(hp:Place ks c r)(q:Option Wu)(d:Nat)(hd:d=if mK ks c r then 1 else 0):(aJ ks r c q d).Pairwise (fun a b=>a.1<b.1):=by
 unfold aJ;rw [List.pairwise_append];have i:∀x∈ks.take r,x.1<c:=by
  intro x hx;obtain ⟨j,l,e⟩:=gM hx;rw [tL] at l;rw [List.getElem_take] at e;rw [<-e];exact hp.lo j (by omega) (by omega)
 have f:∀x∈ks.drop (r+d),c<x.1:=by
  intro x hx;obtain ⟨j,l,e⟩:=gM hx;rw [lD] at l;rw [List.getElem_drop] at e;have h1:=hp.hi (r+d+j) (by omega) (by omega);rw [e] at h1;by_cases hne:c=x.1
  .exfalso;cases hat:mK ks c r with
   |true=>
    rw [hat] at hd;obtain ⟨hr,k⟩:=Place.mem hat;have h2:=jh hs r (r+d+j) (by simp at hd;omega) (by omega);rw [k,e,hne] at h2;omega
   |false=>
    have:=hp.nomem hs hat x.2;rw [hne] at this;exact this (List.mem_of_mem_drop hx)
  .have:=UInt8.le_iff_toNat_le.1 h1;have hn:c.toNat≠x.1.toNat:=fun h=>hne (UInt8.toNat_inj.1 h)
   exact UInt8.lt_iff_toNat_lt.2 (by omega)
 refine ⟨hs.sublist (List.take_sublist _ _),?_,?_⟩
 .rw [List.pairwise_cons];exact ⟨fun x hx=>f x hx,hs.sublist (List.drop_sublist _ _)⟩
 .intro x hx y hy;rcases List.mem_cons.1 hy with rfl|hy
  .exact i x hx
  .have h1:=UInt8.lt_iff_toNat_lt.1 (i x hx);have h2:=UInt8.lt_iff_toNat_lt.1 (f y hy);exact UInt8.lt_iff_toNat_lt.2 (by omega)
theorem ut {ks:List (UInt8×Option Wu)}(hs:ks.Pairwise (fun a b=>a.1<b.1)){c:UInt8}{p q:Option Wu}(hp:(c,p)∈ks)(hq:(c,q)∈ks):p=q:=by
 obtain ⟨i,k,f⟩:=gM hp;obtain ⟨j,l,e⟩:=gM hq;by_cases d:i=j
 .subst d;rw [f] at e;cases e;rfl
 .rcases Nat.lt_or_gt_of_ne d with h|h
  .have:=jh hs i j h l;rw [f,e] at this;simp at this
  .have:=jh hs j i h k;rw [f,e] at this;simp at this
theorem oK {ks:List (UInt8×Option Wu)}{c:UInt8}{r:Nat}(hs:ks.Pairwise (fun a b=>a.1<b.1))(hp:Place ks c r)(q:Option Wu)(d:Nat)(hd:d=if mK ks c r then 1 else 0)(c':UInt8)(x:Option Wu)
  (hm:(c',x)∈aJ ks r c q d):(c'=c/\x=q)\/(c'≠c/\(c',x)∈ks):=by
 by_cases hc:c'=c
 .subst hc;exact Or.inl ⟨rfl,ut (gx hs hp q d hd) hm (by unfold aJ;simp)⟩
 .refine Or.inr ⟨hc,?_⟩;unfold aJ at hm;rcases List.mem_append.1 hm with h|h
  .exact List.mem_of_mem_take h
  .rcases List.mem_cons.1 h with h|h
   .cases h;exact absurd rfl hc
   .exact List.mem_of_mem_drop h
theorem rP {ks:List (UInt8×Option Wu)}{c:UInt8}{r:Nat}(_hs:ks.Pairwise (fun a b=>a.1<b.1))(q:Option Wu)(d:Nat)(hd:d=if mK ks c r then 1 else 0)(c':UInt8)
  (hm:∀x,(c',x) ∉ aJ ks r c q d):c'≠c/\∀x,(c',x) ∉ ks:=by
 have hc:c'≠c:=fun e=>hm q (by subst e;unfold aJ;simp)
 refine ⟨hc,fun x hx=>hm x ?_⟩;unfold aJ;cases hat:mK ks c r with
 |false=>
  rw [hat] at hd;have:d=0:=by simpa using hd
  subst this;rw [Nat.add_zero,List.mem_append,List.mem_cons];rw [<-List.take_append_drop r ks,List.mem_append] at hx;exact hx.imp id Or.inr
 |true=>
  rw [hat] at hd;have:d=1:=by simpa using hd
  subst this;obtain ⟨hr,f⟩:=Place.mem hat;have e1:ks=ks.take r++ks[r]::ks.drop (r+1):=by rw [List.getElem_cons_drop,List.take_append_drop]
  rw [e1,List.mem_append,List.mem_cons] at hx;rw [List.mem_append,List.mem_cons];rcases hx with h|h|h
  .exact Or.inl h
  .rw [<-h] at f;exact absurd f hc
  .exact Or.inr (Or.inr h)
def upd (f:List UInt8->List Ver)(key:List UInt8)(h:List Ver):List UInt8->List Ver:=fun k=>if k=key then h else f k
theorem vR (key:ByteArray)(h:0<key.size):key.data.toList=key[0]::(key.extract 1 key.size).data.toList:=by
 have e:(key.extract 1 key.size).data.toList=key.data.toList.drop 1:=by
  simp;exact tO (by simp)
 rw [e];have hl:0<key.data.toList.length:=by simpa using h
 exact (List.getElem_cons_drop hl).symm
theorem di {R:Nat->Prop}{w:Wj}{a:Nat}{v:Wx}{ks:List (UInt8×Option Wu)}{n:Nat}(hn:n=ks.length)(h:w.ownsRow a 190 2 v n (aB ks))(c:∀k,v.ownBlock=some k->R k):fR R w v ks:=by
 subst hn;rcases h.2 with ⟨rfl,h0⟩|⟨g,cap,cur,rfl,hbg,hg,hnc,hcm,hcs,htake⟩
 .have:ks=[]:=List.length_eq_zero_iff.1 h0;subst this;exact ⟨none,0,rfl,fun _=>rfl,fun h=>absurd rfl h⟩
 .refine ⟨_,cap,rfl,(fun h=>by cases h),fun _=>⟨g,rfl,c g rfl,(eS hg).1,fun j b=>?_⟩⟩;rw [ep] at b;exact h.cellAt j b
theorem lG {R:Nat->Prop}{w:Wj}{a:Nat}{v:Wx}{h:List Ver}{n:Nat}(hn:n=h.length)(ho:w.ownsRow a 81 3 v n (am h))(c:∀k,v.ownBlock=some k->R k):bf R w v h:=by
 subst hn;rcases ho.2 with ⟨rfl,h0⟩|⟨g,cap,cur,rfl,hbg,hg,hnc,hcm,hcs,htake⟩
 .have:h=[]:=List.length_eq_zero_iff.1 h0;subst this;exact ⟨none,0,rfl,fun _=>rfl,fun h=>absurd rfl h⟩
 .refine ⟨_,cap,rfl,(fun h=>by cases h),fun _=>⟨g,rfl,c g rfl,(eS hg).1,fun j b=>?_⟩⟩;rw [fu] at b;exact ho.cellAt j b
theorem bU {w:Wj}{a g:Nat}{x y z:Wx}(h:w.ownsRow a 159 3 (.slice (some ⟨g,0,none⟩) 1 1) 1 [x,y,z]):
  (w.cell? ⟨g,0,none⟩=some x/\w.cell? ⟨g,1,none⟩=some y/\w.cell? ⟨g,2,none⟩=some z)/\∀j,w.frozen? ⟨g,j,none⟩=false:=
 ⟨⟨h.cellAt 0 (by omega),h.cellAt 1 (by omega),h.cellAt 2 (by omega)⟩,fun j=>h.frozenAt j⟩
def Grow (A:Nat->Prop)(w:Wj):Nat->Prop:=fun b=>(A b/\b<w.heap.size)\/w.heap.size<=b
def Fg (n:Nat):Prop:=∀ (A:Nat->Prop)(p:Option Wu)(f:List UInt8->List Ver)(key:ByteArray)(hv:Wx)(h:List Ver)(w:Wj),ak A n w p f->key.size<n->key.size<=1000->bf A w hv h->h≠[] ->
 Calls Yq.prog 94 #[.pointer p,.string key,hv] w fun e w'=>∃g,e=.returned (.pointer (some ⟨g,0,none⟩))/\Below w.heap.size w w'/\ak (Grow A w) n w' (some ⟨g,0,none⟩) (upd f key.data.toList h)
theorem iL {A:Nat->Prop}{w w':Wj}(hb:Below w.heap.size w w'):∀b,A b->b<w.heap.size->Grow A w b/\w'.heap[b]?=w.heap[b]?:=
 fun b ha hlt=>⟨Or.inl ⟨ha,hlt⟩,hb.block b hlt⟩
theorem Ar (f:List UInt8->List Ver)(h:List Ver):upd f [] h []=h:=by simp [upd]
theorem lH (f:List UInt8->List Ver)(h:List Ver)(c:UInt8)(k:List UInt8):upd f [] h (c::k)=f (c::k):=by simp [upd]
theorem io (f:List UInt8->List Ver)(h:List Ver)(c:UInt8)(k:List UInt8):upd f (c::k) h []=f []:=by simp [upd]
theorem upd_same (f:List UInt8->List Ver)(h:List Ver)(c:UInt8)(k:List UInt8):(fun x=>upd f (c::k) h (c::x))=upd (fun x=>f (c::x)) k h:=by funext x;simp [upd]
theorem nG (f:List UInt8->List Ver)(h:List Ver)(c d:UInt8)(k:List UInt8)(hne:d≠c):(fun x=>upd f (c::k) h (d::x))=fun x=>f (d::x):=by funext x;simp [upd,hne]
theorem oL {n:Nat}{A:Nat->Prop}{w w1:Wj}{f:List UInt8->List Ver}{g:Nat}{a kv:Wx}{ks:List (UInt8×Option Wu)}(M:Made A n w w1 f g a kv ks)(b:Bool)(hv:Wx)(h:List Ver)(d:bf A w hv h)(hb:b=!h.isEmpty)(w2:Wj)
  (hw:w2=(w1.setCell ⟨g,0,none⟩ (.bool b)).setCell ⟨g,1,none⟩ hv):
  Below w.heap.size w w2/\ak (Grow A w) (n+1) w2 (some ⟨g,0,none⟩) (upd f [] h):=by
 subst hw;have hg:=M.node.lt g rfl;have s1:=M.node.stored 0 (.bool b);have s2:=s1.1.stored 1 hv;simp only [List.set_cons_zero,List.set_cons_succ] at s2;have hbl:Below w.heap.size w ((w1.setCell ⟨g,0,none⟩ (.bool b)).setCell ⟨g,1,none⟩ hv):=(M.below.setCell hg.1 _).setCell hg.1 _;have hgr:=bX s1.2 s2.2;obtain ⟨⟨c0,c1,c2⟩,fz⟩:=bU s2.1;have hk:=M.kids.kept hgr (Or.inr M.apart);refine ⟨hbl,Or.inr ⟨g,hv,kv,ks,rfl,Or.inr hg.1,?_,c1,c2,?_,?_,M.sorted,?_,?_,M.noNil⟩⟩
 .rw [Ar,<-hb];exact c0
 .rw [Ar];exact bO.keep d (iL hbl)
 .exact di rfl hk (fun k e=>Or.inr (M.kids.lt k e).1)
 .intro c q hq;have:(fun k=>upd f [] h (c::k))=fun k=>f (c::k):=by funext k;exact lH f h c k
  rw [this];exact ak.keep (iL hbl) n q _ (M.child c q hq)
 .intro c hc k;rw [lH];exact M.noKid c hc k
theorem uu (n:Nat)(A:Nat->Prop)(p:Option Wu)(f:List UInt8->List Ver)(key:ByteArray)(hv:Wx)(h:List Ver)(w:Wj)(d:ak A (n+1) w p f)(hk:key.size=0)(c:bf A w hv h)(hne:h≠[]):
  Calls Yq.prog 94 #[.pointer p,.string key,hv] w fun e w'=>∃g,e=.returned (.pointer (some ⟨g,0,none⟩))/\Below w.heap.size w w'/\ak (Grow A w) (n+1) w' (some ⟨g,0,none⟩) (upd f key.data.toList h):=by
 have hfr:=jO A n p f w d;have a:key.data.toList=[]:=List.eq_nil_of_length_eq_zero (by simpa using hk);have hke:key.toList.isEmpty=true:=by rw [ByteArray.toList_eq,a];rfl
 have hh2:=c;obtain ⟨ha,hc,rfl,-⟩:=hh2;have b:Hid (key.data.toList=[]/\bf A w (.slice ha h.length hc) h):=⟨a,c⟩;clear a hk d c;go_enter (Yq.nq func94),ntmps94;go_wp2_with fail
 refine hfr.mono ?_;rintro e w1 ⟨g,hv0,kv,ks,rfl,M⟩;obtain ⟨⟨c0,c1,c2⟩,i⟩:=bU M.node;have f0:=i 0;have f1:=i 1;clear hfr;go_wp2;go_ret;have hd:=oL M true _ h b.out.2 (by simp [hne]) _ rfl;rw [b.out.1];exact ⟨g,rfl,hd⟩
structure Rdy (A:Nat->Prop)(n:Nat)(w w3:Wj)(f:List UInt8->List Ver)(g:Nat)(hv0:Wx)(k cap:Nat)(ks:List (UInt8×Option Wu))(r:Nat)(c:UInt8)(q:Option Wu)(d:Nat):Prop where
 below:Below w.heap.size w w3
 node:w3.ownsRow w.heap.size 159 3 (.slice (some ⟨g,0,none⟩) 1 1) 1 [.bool (!(f []).isEmpty),hv0,.slice (some ⟨k,0,none⟩) (aJ ks r c q d).length cap]
 kids:w3.ownsRow w.heap.size 190 2 (.slice (some ⟨k,0,none⟩) (aJ ks r c q d).length cap) (aJ ks r c q d).length (aB (aJ ks r c q d))
 apart:k≠g
 hist:bf A w hv0 (f [])
 sorted:ks.Pairwise (fun a b=>a.1<b.1)
 place:Place ks c r
 isd:d=if mK ks c r then 1 else 0
 child:∀c q,(c,q)∈ks->ak A n w q (fun k=>f (c::k))
 noKid:∀c,(∀q,(c,q) ∉ ks)->∀k,f (c::k)=[]
 noNil:∀c q,(c,q)∈ks->q≠none
 this:ak A n w q (fun k=>f (c::k))
theorem fV {ks:List (UInt8×Option Wu)}{r:Nat}{c:UInt8}{q:Option Wu}{d:Nat}(hr:r<=ks.length):r<(aJ ks r c q d).length:=by
 unfold aJ;rw [lP,tL,lC];omega
theorem kK {ks:List (UInt8×Option Wu)}{r:Nat}{c:UInt8}{q:Option Wu}{d:Nat}(hr:r<=ks.length):(aJ ks r c q d)[r]'(fV hr)=(c,q):=by
 have e:(aJ ks r c q d)[r]?=some (c,q):=by
  have e:r-(ks.take r).length=0:=by rw [tL];omega
  unfold aJ;rw [aR (by rw [tL];omega),e];rfl
 exact (List.getElem?_eq_some_iff.1 e).2
theorem xS {ks:List (UInt8×Option Wu)}{r:Nat}{c:UInt8}{q q':Option Wu}{d:Nat}(hr:r<=ks.length):(aJ ks r c q d).take r++(c,q')::(aJ ks r c q d).drop (r+1)=aJ ks r c q' d:=by
 have hl:(ks.take r).length=r:=by rw [tL];omega
 unfold aJ;rw [List.take_left' hl,show (ks.take r++(c,q)::ks.drop (r+d))=(ks.take r++[(c,q)])++ks.drop (r+d) by simp,List.drop_left' (by simp [hl])]
theorem gy {ks:List (UInt8×Option Wu)}{r:Nat}{c:UInt8}{q q':Option Wu}{d:Nat}:(aJ ks r c q d).length=(aJ ks r c q' d).length:=by
 unfold aJ;simp
theorem Rdy.cells {A:Nat->Prop}{n:Nat}{w w3:Wj}{f:List UInt8->List Ver}{g:Nat}{a:Wx}{k cap:Nat}{ks:List (UInt8×Option Wu)}{r:Nat}{c:UInt8}{q:Option Wu}{d:Nat}(R:Rdy A n w w3 f g a k cap ks r c q d):
  w3.cell? ⟨g,2,none⟩=some (.slice (some ⟨k,0,none⟩) (aJ ks r c q d).length cap)/\w3.cell? ⟨k,r * 2+1,none⟩=some (.pointer q)/\w3.frozen? ⟨k,r * 2+1,none⟩=false/\(aJ ks r c q d).length<=256:=by
 obtain ⟨⟨c0,c1,c2⟩,fz⟩:=bU R.node;have hk:fR (fun _=>True) w3 _ (aJ ks r c q d):=di rfl R.kids (fun _ _=>trivial);have hlt:=fV (c:=c) (q:=q) (d:=d) R.place.le;have hne:aJ ks r c q d≠[]:=by intro e;rw [e] at hlt;simp at hlt
 obtain ⟨g',cap',he,-,-,hc,-⟩:=hk.cells hne;cases he;refine ⟨c2,?_,R.kids.frozenAt _,kG _ (gx R.sorted R.place q d R.isd)⟩;have:=(hc r hlt).2;rw [kK R.place.le] at this;exact this
theorem Rdy.done {A:Nat->Prop}{n:Nat}{w w3:Wj}{f:List UInt8->List Ver}{g:Nat}{h:Wx}{k cap:Nat}{ks:List (UInt8×Option Wu)}{r:Nat}{c:UInt8}{q:Option Wu}{d:Nat}(R:Rdy A n w w3 f g h k cap ks r c q d)
  (m:Wj) (hb:Below w3.heap.size w3 m) (q':Option Wu) (F:List UInt8->List Ver) (l:F []=f []) (o:∀c',c'≠c->(fun x=>F (c'::x))=fun x=>f (c'::x))
  (hq:ak (Grow (fun b=>A b/\b<w.heap.size) w3) n m q' (fun x=>F (c::x))) (wf:Wj) (p:wf=m.setCell ⟨k,r * 2+1,none⟩ (.pointer q')):
  Below w.heap.size w wf/\(q'≠none->ak (Grow A w) (n+1) wf (some ⟨g,0,none⟩) F) /\
   wf.ownsRow w.heap.size 159 3 (.slice (some ⟨g,0,none⟩) 1 1) 1 [.bool (!(f []).isEmpty),h,.slice (some ⟨k,0,none⟩) (aJ ks r c q' d).length cap] /\
   wf.ownsRow w.heap.size 190 2 (.slice (some ⟨k,0,none⟩) (aJ ks r c q' d).length cap) (aJ ks r c q' d).length (aB (aJ ks r c q' d)):=by
 subst p;have hgk:=R.kids.lt k rfl;have hgg:=R.node.lt g rfl;have a:w3.grownBy m none:=⟨hb.os,hb.tape,hb.output,hb.size,fun i u _=>hb.block i u⟩;have n4:=R.node.kept a (by simp [Value.ownBlock]);have k4:=R.kids.kept a (by simp [Value.ownBlock]);have k5:=k4.stored (r * 2+1) (.pointer q');have n5:=n4.kept k5.2 (Or.inr (by simp [Value.ownBlock];exact fun e=>R.apart e.symm));rw [rO _ r c q' (fV R.place.le) (by rw [kK R.place.le]),xS R.place.le,gy (q':=q')] at k5;rw [gy (q':=q')] at n5;have hbl:Below w.heap.size w (m.setCell ⟨k,r * 2+1,none⟩ (.pointer q')):=(R.below.trans (hb.mono R.below.size)).setCell hgk.1 _;obtain ⟨⟨c0,c1,c2⟩,-⟩:=bU n5;refine ⟨hbl,fun s=>Or.inr ⟨g,h,_,aJ ks r c q' d,rfl,Or.inr hgg.1,by rw [l];exact c0,c1,c2,by rw [l];exact bO.keep R.hist (iL hbl),?_,gx R.sorted R.place q' d R.isd,?_,?_,?_⟩,n5,k5.1⟩
 .exact di rfl k5.1 (fun j e=>by simp [Value.ownBlock] at e;subst e;exact Or.inr hgk.1)
 .intro c' x hx;rcases oK R.sorted R.place q' d R.isd c' x hx with ⟨rfl,rfl⟩|⟨hne,hm⟩
  .refine ak.keep (fun b t hb2=>?_) n x _ hq;rcases t with ⟨⟨hA,hlt⟩,_⟩|hge
   .exact ⟨Or.inl ⟨hA,hlt⟩,bS _ _ _ _ (by show b≠k;omega)⟩
   .have:=R.below.size;exact ⟨Or.inr (by omega),bS _ _ _ _ (by show b≠k;omega)⟩
  .rw [o c' hne];exact ak.keep (iL hbl) n x _ (R.child c' x hm)
 .intro c' hc' y;obtain ⟨hne,hno⟩:=rP R.sorted q' d R.isd c' hc';have:F (c'::y)=f (c'::y):=congrFun (o c' hne) y;rw [this];exact R.noKid c' hno y
 .intro c' x hx;rcases oK R.sorted R.place q' d R.isd c' x hx with ⟨rfl,rfl⟩|⟨hne,hm⟩
  .exact s
  .exact R.noNil c' x hm
theorem Made.rdy {A:Nat->Prop}{n:Nat}{w w1 w2:Wj}{f:List UInt8->List Ver}{g:Nat}{b kv:Wx}{ks:List (UInt8×Option Wu)}(M:Made A n w w1 f g b kv ks)(hb:Below w1.heap.size w1 w2){r:Nat}{c:UInt8}(hp:Place ks c r)(hat:mK ks c r=true):
  ∃k cap q,kv=.slice (some ⟨k,0,none⟩) (aJ ks r c q 1).length cap/\Rdy A n w w2 f g b k cap ks r c q 1:=by
 obtain ⟨hr,a⟩:=Place.mem hat;have e1:aJ ks r c ks[r].2 1=ks:=by
  unfold aJ;have:(c,ks[r].2)=ks[r]:=by rw [<-a]
  rw [this,List.getElem_cons_drop,List.take_append_drop]
 have hb12:w1.grownBy w2 none:=⟨hb.os,hb.tape,hb.output,hb.size,fun i d _=>hb.block i d⟩;have n2:=M.node.kept hb12 (by simp [Value.ownBlock]);have hap:=M.apart;have k2:=M.kids;rcases k2.2 with ⟨_,h0⟩|⟨k,cap,cur,rfl,_⟩
 .omega
 have k2:=M.kids.kept hb12 (by simp [Value.ownBlock]);refine ⟨k,cap,ks[r].2,by rw [e1],M.below.trans (hb.mono M.below.size),?_,?_,fun e=>hap (by simp [Value.ownBlock,e]),M.hist,M.sorted,hp,by simp [hat],M.child,M.noKid,M.noNil,M.child c _ (by rw [<-a];exact List.getElem_mem hr)⟩
 .rw [e1];exact n2
 .rw [e1];exact k2
theorem cP {w:Wj}{a:Nat}{e:Ww}{b:Nat}{v:Wx}{n:Nat}{xs:List Wx}(h:w.ownsRow a e b v n xs)(hn:0<n):∃g cap,v=.slice (some ⟨g,0,none⟩) n cap/\a<=g/\g<w.heap.size/\n<=cap:=by
 rcases h.2 with ⟨rfl,rfl⟩|⟨g,cap,cur,rfl,hb,hg,hc,_⟩
 .omega
 .exact ⟨g,cap,rfl,hb,(eS hg).1,hc⟩
theorem aS {w w':Wj}(hb:Below w.heap.size w w')(r:Option Nat):w.grownBy w' r:=⟨hb.os,hb.tape,hb.output,hb.size,fun i a _=>hb.block i a⟩
theorem Made.rdyNew {A:Nat->Prop}{n:Nat}{w w1 w2 wq w3:Wj}{f:List UInt8->List Ver}{g:Nat}{a kv:Wx}{ks:List (UInt8×Option Wu)}(M:Made A n w w1 f g a kv ks)(hb:Below w1.heap.size w1 w2){r:Nat}{c:UInt8}(hp:Place ks c r)(hat:mK ks c r=false)
  (hbq:Below w2.heap.size w2 wq) (k cap:Nat) (ho:w3.ownsRow w.heap.size 190 2 (.slice (some ⟨k,0,none⟩) (ks.length+1) cap) (ks.length+1) (aB (aJ ks r c none 0))) (b:wq.grownBy w3 kv.ownBlock)
  (d:(Value.slice (some ⟨k,0,none⟩) (ks.length+1) cap).ownBlock=kv.ownBlock\/∀j,(Value.slice (some ⟨k,0,none⟩) (ks.length+1) cap).ownBlock=some j->wq.heap.size<=j):
  (aJ ks r c none 0).length=ks.length+1/\Rdy A n w (w3.setCell ⟨g,2,none⟩ (.slice (some ⟨k,0,none⟩) (ks.length+1) cap)) f g a k cap ks r c none 0:=by
 have hl:(aJ ks r c none 0).length=ks.length+1:=by
  unfold aJ;rw [lP,tL,lC,lD];have:=hp.le;omega
 have hgg:=M.node.lt g rfl;have i:k≠g:=by
  intro e;rcases d with h|h
  .exact M.apart (by rw [<-h,e];rfl)
  .have:=h k rfl;have:=hb.size;have:=hbq.size;omega
 have l:Below w.heap.size w w2:=M.below.trans (hb.mono M.below.size);have m:Below w.heap.size w wq:=l.trans (hbq.mono l.size);have n2:=M.node.kept (aS hb none) (by simp [Value.ownBlock]);have nq:=n2.kept (aS hbq none) (by simp [Value.ownBlock]);have n3:=nq.kept b (Or.inr (by simp only [Value.ownBlock];exact fun e=>M.apart e.symm));have n4:=n3.stored 2 (.slice (some ⟨k,0,none⟩) (ks.length+1) cap);have k4:=ho.kept n4.2 (Or.inr (by simp [Value.ownBlock];exact i));have o:Below w.heap.size w w3:=m.grown b m.size (fun j e=>(M.kids.lt j e).1);refine ⟨hl,o.setCell hgg.1 _,by rw [hl];exact n4.1,by rw [hl];exact k4,i,M.hist,M.sorted,hp,by simp [hat],M.child,M.noKid,M.noNil,ak.nil (M.noKid c (hp.nomem M.sorted hat))⟩
theorem bB {w w':Wj}{row:Option Nat}(hg:w.grownBy w' row)(a:Wu)(hlt:a.block<w.heap.size)(hne:some a.block≠row):w'.frozen? a=w.frozen? a:=
 fB (w:=w) (hg.block a.block hlt hne)
theorem xT (n:Nat)(ih:Fg n)(A:Nat->Prop)(p:Option Wu)(f:List UInt8->List Ver)(key:ByteArray)(hv:Wx)(h:List Ver)(w:Wj)(z:ak A (n+1) w p f)(hk:0<key.size)(hkn:key.size<n+1)(hk2:key.size<=1000)(v:bf A w hv h)(hne:h≠[]):
  Calls Yq.prog 94 #[.pointer p,.string key,hv] w fun e w'=>∃g,e=.returned (.pointer (some ⟨g,0,none⟩))/\Below w.heap.size w w'/\ak (Grow A w) (n+1) w' (some ⟨g,0,none⟩) (upd f key.data.toList h):=by
 have hfr:=jO A n p f w z;have hkc:=vR key hk;have hke:key.toList.isEmpty=false:=by rw [ByteArray.toList_eq,hkc];rfl
 have hh2:=v;obtain ⟨ha,hc,rfl,-⟩:=hh2;have o:Hid (key.data.toList=key[0]::(key.extract 1 key.size).data.toList/\bf A w (.slice ha h.length hc) h):=⟨hkc,v⟩;have IH:Hid (Fg n):=ih;clear hkc z v ih;go_enter (Yq.nq func94),ntmps94;go_wp2_with fail
 refine hfr.mono ?_;rintro e w1 ⟨g,i,kv,ks,rfl,M⟩;obtain ⟨⟨c0,c1,c2⟩,D⟩:=bU M.node;have hK1:fR (fun _=>True) w1 kv ks:=di rfl M.kids (fun _ _=>trivial);have hnf:=nE (fun _=>True) g kv ks key[0] w1 c2 hK1 M.sorted;clear hfr c0 c1 c2 D hK1;go_wp2_with fail
 refine hnf.mono ?_;rintro e w2 ⟨r,hp,rfl,hb2⟩;clear hnf
 go_upto_if 30 with fail
 go_cut [9] (fun _ E=>∃k cap q d,Rdy A n w E f g i k cap ks r key[0] q d)
 case first=>
  cases hat:mK ks key[0] r with
  |true=>
   obtain ⟨k,cap,q,rfl,R⟩:=M.rdy hb2 hp hat;have HR:Hid (Rdy A n w w2 f g i k cap ks r key[0] q 1):=R;clear R M hp;go_wp2
   go_meet
   case rel=>exact ⟨k,cap,q,1,HR.out⟩
  |false=>
   have hK1:=M.kids;obtain ⟨l,kc,rfl,-⟩:=aE M.kids;have hle:=kG ks M.sorted;have hrl:=hp.le;have cc2:=ai hb2 (bU M.node).1.2.2;have cf2:=(hb2.frozen (p:=⟨g,2,none⟩) (M.node.lt g rfl).2).trans ((bU M.node).2 2);have hlt2:g<w2.heap.size:=bC w2 _ cc2;have HI:Hid (∀wq:Wj,wq.heap=(w2.alloc (.cells #[.int .u8 (key[0].toNat:Int),.pointer none] 190)).heap ->
     Calls Yq.prog 118 #[.slice l ks.length kc,.int .i64 r,.slice (some ⟨w2.heap.size,0,none⟩) 1 1] wq (ff w.heap.size (.slice l ks.length kc) r ks.length (aB ks) (.int .u8 (key[0].toNat:Int)) (.pointer none) wq)):=fun wq hq=>by
    have hbq:Below w2.heap.size w2 (w2.alloc (.cells #[.int .u8 (key[0].toNat:Int),.pointer none] 190)):=(bR _ _).alloc (lR _) _;have B:Below w.heap.size w w2:=M.below.trans (hb2.mono M.below.size);have kq:=(M.kids.kept (aS hb2 none) (by cases h:Value.ownBlock (.slice l ks.length kc)<;>simp)).alloc (.cells #[.int .u8 (key[0].toNat:Int),.pointer none] 190);have u:wq.ownsRow w.heap.size 190 2 (.slice l ks.length kc) ks.length (aB ks):=by
     unfold World.ownsRow at kq ⊢;rw [hq];exact kq
    refine CR w.heap.size _ ks.length r (aB ks) w2.heap.size _ _ wq u (by omega) hrl 190 (by rw [hq];exact heap_alloc_new w2 _) ?_ ⟨rfl,rfl⟩ (im ks) (by rw [hq];have:=B.size;have:=hbq.size;omega);intro e;have:=(M.kids.lt _ e).2;have:=hb2.size;omega
   have HM:Hid (mK ks key[0] r=false/\Place ks key[0] r/\Made A n w w1 f g i (.slice l ks.length kc) ks):=⟨hat,hp,M⟩;clear hat hp M hK1;go_wp2_with fail
   go_region_with (go_at_call 118;refine (HI.out ((w2.alloc (.cells #[.int .u8 (key[0].toNat:Int),.pointer none] 190)).drew) rfl).mono ?_;rintro e w3 ⟨v',rfl,ho,j,t⟩;obtain ⟨k,cap,rfl,-,-,-⟩:=cP ho (Nat.succ_pos _);have k2:w3.cell? ⟨g,2,none⟩=some (.slice l ks.length kc):=j.cell (a:=⟨g,2,none⟩) (ai ((bR _ w2).alloc (lR _) _) cc2) (fun e=>HM.out.2.2.apart e.symm);have kf:w3.frozen? ⟨g,2,none⟩=false:=(bB j ⟨g,2,none⟩ (lL hlt2 (by simp)) (fun e=>HM.out.2.2.apart e.symm)).trans ((((bR _ w2).alloc (lR _) _).frozen (p:=⟨g,2,none⟩) hlt2).trans cf2))
   all_goals
    go_wp2_with fail
    go_meet
    case rel=>
     rw [rL] at ho;exact ⟨k,cap,none,0,(HM.out.2.2.rdyNew hb2 HM.out.2.1 HM.out.1 ((bR _ w2).alloc (lR _) _).drew k cap ho j t).2⟩
 case rest=>
  obtain ⟨k,cap,q,d,R⟩:=hcut;obtain ⟨c2,d1,fr,hl⟩:=R.cells;have hr:=fV (c:=key[0]) (q:=q) (d:=d) R.place.le;clear M hp hb2;generalize hm:(aJ ks r key[0] q d).length=m at *;have HL:Hid ((aJ ks r key[0] q d).length=m):=hm;clear hm;have hkb:=bC wc _ d1;have HQ:Hid (∀wq:Wj,wq.heap=wc.heap->ak (fun b=>A b/\b<w.heap.size) n wq q (fun x=>f (key[0]::x))/\bf (fun b=>A b/\b<w.heap.size) wq (.slice ha h.length hc) h):=fun wq hq=>
   ⟨ak.keep (fun b h1 h2=>⟨⟨h1,h2⟩,by rw [hq];exact R.below.block b h2⟩) n q _ R.this,bO.keep o.out.2 (fun b h1 h2=>⟨⟨h1,h2⟩,by rw [hq];exact R.below.block b h2⟩)⟩
  have s:Hid ((key.extract 1 key.size).size<n/\(key.extract 1 key.size).size<=1000):=by
   have:(key.extract 1 key.size).size=key.size-1:=by simp
   exact ⟨by omega,by omega⟩
  go_wp2_with fail
  go_region_with (go_at_call 94;refine (IH.out (fun b=>A b/\b<w.heap.size) q (fun x=>f (key[0]::x)) _ _ h _ ?_ ?_ ?_ ?_ hne).mono ?_;exact (HQ.out wc.drew rfl).1;exact s.out.1;exact s.out.2;exact (HQ.out wc.drew rfl).2;rintro e C ⟨g',rfl,hb4,y⟩;have k2:=ai (W:=wc.drew) hb4 c2;have kd:=ai (W:=wc.drew) hb4 d1;have kf:=(hb4.frozen (p:=⟨k,r * 2+1,none⟩) hkb).trans fr)
  all_goals
   go_wp2;go_ret;have hd:=R.done C ((bR _ wc).drew.trans hb4) (some ⟨g',0,none⟩) (upd f (key[0]::(key.extract 1 key.size).data.toList) h) (io _ _ _ _) (fun c' hc'=>nG _ _ _ _ _ hc') (by rw [upd_same];exact y) _ rfl;rw [o.out.1];exact ⟨g,rfl,hd.1,hd.2.1 (by simp)⟩
theorem At:∀n,Fg n:=by
 intro n;induction n with
 |zero=>intro A p f key hv h w _ hk;omega
 |succ n ih=>
  intro A p f key hv h w a hk hk2 b hne;by_cases h0:key.size=0
  .exact uu n A p f key hv h w a h0 b hne
  .exact xT n ih A p f key hv h w a (by omega) hk hk2 b hne
end
