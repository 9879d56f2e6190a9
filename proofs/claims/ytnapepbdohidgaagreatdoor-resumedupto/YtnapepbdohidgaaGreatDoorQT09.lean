/- A part. -/
import Derived.Test.YtnapepbdohidgaaGreatDoorQT08
import Derived.Lib.SliceRun
import Derived.Laws.AppendOwnNone
import Derived.Deep.RegionHeld3
import Derived.Lib.AppendZerosOnto
import Derived.Lib.Overlaps
import Derived.Laws.Externs
import Derived.Laws.NewBlocks
set_option maxHeartbeats 4000000
set_option maxRecDepth 100000
open Go renaming World->Wz,Value->Wq,TypeId->Wk,Addr->Ww
namespace Go.Proofs.Qw
open Tryz
section
open Go.RowKit
theorem Yq.infoKid:(Yq.prog.info? 190).map (fun i=>(i.zero,i.size,i.bytes))=some (some (.agg #[.int .u8 0,.pointer none]),2,16):=by kernel_rfl
theorem Yq.infoVer:(Yq.prog.info? 81).map (fun i=>(i.zero,i.size,i.bytes))=some (some (.agg #[.int .i64 0,.string ⟨#[]⟩,.bool false]),3,32):=by kernel_rfl
theorem bG.src {A:Nat->Prop}{w:Wz}{v:Wq}{n:Nat}{xs:List Wq}(h:bG A w v n xs)(hl:n=0->xs=[]):(v=.slice none 0 0/\n=0\/∃c cap,v=.slice (some c) n cap/\∀j u,xs[j]?=some u->w.cell? (c.add j)=some u)\/(∃cap,v=.slice none n cap/\n≠0/\xs=[]):=by
 obtain ⟨a,cap,rfl,h0,hx⟩:=h;cases a with
 |none=>
  have:=h0 rfl;subst this;by_cases hn:n=0
  .subst hn;exact Or.inl (Or.inl ⟨rfl,rfl⟩)
  .refine Or.inr ⟨0,rfl,hn,?_⟩;by_cases b:xs=[]
   .exact b
   .obtain ⟨g,ha,_⟩:=hx b;cases ha
 |some c=>
  refine Or.inl (Or.inr ⟨c,cap,rfl,fun j u d=>?_⟩);have hne:xs≠[]:=by intro e;subst e;simp at d
  obtain ⟨g,ha,hA,hg,hc⟩:=hx hne;cases ha;have hlt:=(sL d).1;rw [Addr.add_lit,zA,hc j hlt];exact d
theorem yS (A:Nat->Prop)(v:Wq)(n:Nat)(xs:List Wq)(w:Wz)(h:bG A w v n xs)(hl:xs.length=n * 2)(hn:n<=1000)(h1:∀u∈xs,u.oneCell'=true):
  Calls Yq.prog 132 #[v] w fun e w'=>∃v',e=.returned v'/\w'.ownsRow w.heap.size 190 2 v' n xs/\Below w.heap.size w w':=by
 obtain ⟨i0,hi,i,d,f⟩:=info_parts Yq.infoKid;have q:∀ (w:Wz) (a:Option Ww) (n c l c':Nat),(binOp .eql 157 (.slice a n c) (.slice none l c')).run Yq.prog w=.ok (.bool a.isNone) w:=fun w a n c l c'=>Lib.run_eql_slice_nil w _ _ a n c l c' (Yq.u underlying157)
 rcases h.src (fun h=>by subst h;exact List.eq_nil_of_length_eq_zero (by omega)) with (⟨rfl,rfl⟩|⟨ad,cap,rfl,hc⟩)|⟨cap,rfl,hn0,rfl⟩
 .have hx:xs=[]:=List.eq_nil_of_length_eq_zero (by omega);subst hx;go_enter (Yq.nq func132),ntmps132;go_wp2;go_ret;exact ⟨_,rfl,World.ownsRow_nil _ _ _ _,bR _ _⟩
 .have HC:Hid (∀j u,xs[j]?=some u->w.cell? (ad.add j)=some u):=hc;clear hc;go_enter (Yq.nq func132),ntmps132;go_wp2_with (at_builtin;refine wpList_append_own _ rfl _ _ 157 rfl w.heap.size 190 i0 _ 2 16 (Yq.u underlying157) hi i d f rfl (by decide) _ _ _ rfl (World.ownsRow_made w #[] 0 (lR _) (Nat.zero_le _) (by simp)) ad n cap xs rfl ?qc1 ?qc2 ?qc3 ?qc4 ?qc5 ?qc6 ?_)
  case qc1=>exact hl
  case qc2=>
   intro j u m;exact aj ((bR _ _).alloc (lR _) _) (HC.out j u m)
  case qc3=>exact h1
  case qc4=>rw [zA];simp only [maxLen];omega
  case qc5=>rw [zA];omega
  case qc6=>simp
  intro v' w1 hown b hnil;go_wp2;go_ret;refine ⟨v',rfl,by simpa using hown,?_⟩;exact ((bR _ w).alloc (lR _) _).grown b (by simp) (by intro k hk;simp [Value.ownBlock] at hk;omega)
 .simp at hl;omega
theorem yT (A:Nat->Prop)(v:Wq)(n:Nat)(xs:List Wq)(w:Wz)(h:bG A w v n xs)(hl:xs.length=n * 3)(hn:n<=2199023255552)(h1:∀u∈xs,u.oneCell'=true):
  Calls Yq.prog 96 #[v] w fun e w'=>∃v',e=.returned v'/\w'.ownsRow w.heap.size 81 3 v' n xs/\Below w.heap.size w w':=by
 obtain ⟨i0,hi,i,d,f⟩:=info_parts Yq.infoVer;have q:∀ (w:Wz) (a:Option Ww) (n c l c':Nat),(binOp .eql 114 (.slice a n c) (.slice none l c')).run Yq.prog w=.ok (.bool a.isNone) w:=fun w a n c l c'=>Lib.run_eql_slice_nil w _ _ a n c l c' (Yq.u underlying114)
 rcases h.src (fun h=>by subst h;exact List.eq_nil_of_length_eq_zero (by omega)) with (⟨rfl,rfl⟩|⟨ad,cap,rfl,hc⟩)|⟨cap,rfl,hn0,rfl⟩
 .have hx:xs=[]:=List.eq_nil_of_length_eq_zero (by omega);subst hx;go_enter (Yq.nq func96),ntmps96;go_wp2;go_ret;exact ⟨_,rfl,World.ownsRow_nil _ _ _ _,bR _ _⟩
 .have HC:Hid (∀j u,xs[j]?=some u->w.cell? (ad.add j)=some u):=hc;clear hc;go_enter (Yq.nq func96),ntmps96;go_wp2_with (at_builtin;refine wpList_append_own _ rfl _ _ 114 rfl w.heap.size 81 i0 _ 3 32 (Yq.u underlying114) hi i d f rfl (by decide) _ _ _ rfl (World.ownsRow_made w #[] 0 (lR _) (Nat.zero_le _) (by simp)) ad n cap xs rfl ?qc1 ?qc2 ?qc3 ?qc4 ?qc5 ?qc6 ?_)
  case qc1=>exact hl
  case qc2=>
   intro j u m;exact aj ((bR _ _).alloc (lR _) _) (HC.out j u m)
  case qc3=>exact h1
  case qc4=>rw [zA];simp only [maxLen];omega
  case qc5=>rw [zA];omega
  case qc6=>simp
  intro v' w1 hown b hnil;go_wp2;go_ret;refine ⟨v',rfl,by simpa using hown,?_⟩;exact ((bR _ w).alloc (lR _) _).grown b (by simp) (by intro k hk;simp [Value.ownBlock] at hk;omega)
 .simp at hl;omega
theorem my (h:List Ver):∀u∈aC h,u.oneCell'=true:=by
 intro u a;simp only [aC,List.mem_flatMap] at a;obtain ⟨v,_,a⟩:=a;simp at a;rcases a with rfl|rfl|rfl<;>rfl
theorem iR (h:List (UInt8×Option Ww)):∀u∈au h,u.oneCell'=true:=by
 intro u a;simp only [au,List.mem_flatMap] at a;obtain ⟨v,_,a⟩:=a;simp at a;rcases a with rfl|rfl<;>rfl
theorem yU (A:Nat->Prop)(v:Wq)(ks:List (UInt8×Option Ww))(w:Wz)(h:gC A w v ks)(hn:ks.length<=256):
  Calls Yq.prog 132 #[v] w fun e w'=>∃v',e=.returned v'/\w'.ownsRow w.heap.size 190 2 v' ks.length (au ks)/\Below w.heap.size w w':=
 yS A v _ _ w h (eF ks) (by omega) (iR ks)
theorem pE (A:Nat->Prop)(v:Wq)(h:List Ver)(w:Wz)(a:aU A w v h)(hn:h.length<=2199023255552):
  Calls Yq.prog 96 #[v] w fun e w'=>∃v',e=.returned v'/\w'.ownsRow w.heap.size 81 3 v' h.length (aC h)/\Below w.heap.size w w':=
 yT A v _ _ w a (fP h) hn (my h)
section
variable {P:Program}
theorem fc (w:Wz)(m n ty e:Wk)(i:TypeInfo)(g o b f:Nat)(a:Ww)(d h:Nat)(c:Array Wq)(t:Wk)(cs:List Wq)
  (p:P.underlying m=some (.slice e)) (hi:P.info? e=some i)
  (hg:w.heap[g]?=some (.cells c t (0,0))) (hn:cs.length=Nat.min d b * i.size)
  (k:∀j v,cs[j]?=some v->w.cell? (a.add j)=some v) (l:o+cs.length<=c.size) (h1:∀v∈cs,v.oneCell'=true):
  (Builtin.copy_ #[m,n] ty #[.slice (some ⟨g,o,none⟩) b f,.slice (some a) d h]).run P w =
   .ok (goInt (Nat.min d b)) (w.setRow g (c.toList.take o++cs++c.toList.drop (o+cs.length)).toArray):=by
 have hl:=run_loadCells_list (P:=P) w a cs k;have hst:=run_storeCells_at P g o t cs 0 c w hg (by simpa using l) h1;simp [Builtin.copy_,run_underlying p,Builtin.lenOf,Builtin.firstCells,sizeOf,typeInfo,hi,<-hn,hl,hst]
theorem kn (w:Wz)(t e ty:Wk)(z:Wq)(ht:P.underlying t=some (.slice e))(hv:∀w,(zeroValue e).run P w=.ok z w)(h1:∀v∈z.cells.toList,v.oneCell'=true)
  (g o c:Nat) (a:Array Wq) (T:Wk) (hg:w.heap[g]?=some (.cells a T (0,0))) (b:o+z.cells.size<=a.size):
  (Builtin.clear_ #[t] ty #[.slice (some ⟨g,o,none⟩) 1 c]).run P w=.ok (.tuple #[]) (w.setRow g (a.toList.take o++z.cells.toList++a.toList.drop (o+z.cells.size)).toArray):=by
 have d:(Builtin.zeroCells z.cells 1)=z.cells:=by
  apply Array.ext
  .simp [Builtin.zeroCells]
  .intro i h1 h2;simp [Builtin.zeroCells,Nat.mod_eq_of_lt h2,h2]
 have hst:=run_storeCells_at P g o T z.cells.toList 0 a w hg (by simpa using b) h1;simp only [Nat.add_zero,lY] at hst;simp [Builtin.clear_,run_underlying ht,hv,d,hst]
theorem ko {ops:Array Oper}{o:Oper}{a:Act}{w:Wz}{K:Act->Wz->Prop}{Q:Exit->Act->Wz->Prop}{E:Prop}
  (hg:o.guard=none) (d x:Operand) (e c:Wk) (b:o.op=Op.call {callee:=Callee.builtin Builtin.copy,args:=#[d,x],argTypes:=#[e,c]})
  (v u:Wq) (hd:a.eval d=v) (hx:a.eval x=u) {v':Wq} {w':Wz} (hr:(Builtin.copy_ #[e,c] o.type #[v,u]).run P w=.ok v' w') (f:K (a.put o.dst v') w'):
  if Region.wanted o (yielded ops a.tmps)=true then Oper.wp P o a w K Q else E:=by
 have hw:Region.wanted o (yielded ops a.tmps)=true:=by simp [Region.wanted,hg]
 rw [if_pos hw];unfold Oper.wp;simp [execOp,b,resolve,invoke,builtin,hd,hx,hr,Result.andThen];exact f
theorem dS {ops:Array Oper}{o:Oper}{a:Act}{w:Wz}{K:Act->Wz->Prop}{Q:Exit->Act->Wz->Prop}{E:Prop}
  (hg:o.guard=none) (d x:Operand) (e c:Wk) (b:o.op=Op.call {callee:=Callee.builtin Builtin.append,args:=#[d,x],argTypes:=#[e,c]})
  (v u:Wq) (hd:a.eval d=v) (hx:a.eval x=u) {v':Wq} {w':Wz} (hr:(Builtin.append_ #[e,c] o.type #[v,u]).run P w=.ok v' w') (f:K (a.put o.dst v') w'):
  if Region.wanted o (yielded ops a.tmps)=true then Oper.wp P o a w K Q else E:=by
 have hw:Region.wanted o (yielded ops a.tmps)=true:=by simp [Region.wanted,hg]
 rw [if_pos hw];unfold Oper.wp;simp [execOp,b,resolve,invoke,builtin,hd,hx,hr,Result.andThen];exact f
end
theorem fd {w:Wz}{base:Nat}{e:Wk}{a g n cap:Nat}{b:Array Wq}{xs:List Wq}(hb:base<=g)(hg:w.heap[g]?=some (.cells b e (0,0)))(hn:n<=cap)(hm:cap<=maxLen)
  (hs:b.size=cap * a) (hx:b.toList.take (n * a)=xs):w.ownsRow base e a (.slice (some ⟨g,0,none⟩) n cap) n xs:=by
 refine ⟨?_,Or.inr ⟨g,cap,b,rfl,hb,hg,hn,hm,hs,hx⟩⟩;rw [<-hx,tL,lY,hs];exact Nat.min_eq_left (Nat.mul_le_mul_right _ hn)
theorem dg (w:Wz)(g:Nat)(cs:Array Wq):w.grownBy (w.setRow g cs) (some g):=
 ⟨rfl,rfl,rfl,by simp,fun k _ hk=>setRow_other w g k _ (fun e=>hk (by rw [e]))⟩
theorem gE {w w':Wz}{r:Option Nat}(h:w.grownBy w' r):w.grownBy w'.drew r:=⟨h.os,h.tape,h.output,h.size,h.block⟩
theorem bN {a b c:Wz}{r:Option Nat}(h:a.grownBy b r)(k:b.grownBy c r):a.grownBy c r:=
 ⟨k.os.trans h.os,k.tape.trans h.tape,k.output.trans h.output,lT h.size k.size,fun i hi hr=>(k.block i (lL hi h.size) hr).trans (h.block i hi hr)⟩
theorem Yq.zeroKid (w:Wz):(zeroValue 190).run Yq.prog w=.ok (.agg #[.int .u8 0,.pointer none]) w:=by kernel_rfl
theorem Yq.zeroVer (w:Wz):(zeroValue 81).run Yq.prog w=.ok (.agg #[.int .i64 0,.string ⟨#[]⟩,.bool false]) w:=by kernel_rfl
theorem xd {α:Type}(a xs C1 Z:List α)(s k i cap:Nat)(hcl:a.length=cap * s)(hk:k+1<=cap)(hi:i<=k)(hx:a.take ((k+1) * s)=xs)
  (c:C1=a.take (i * s)++xs.drop ((i+1) * s)++a.drop (i * s+(xs.drop ((i+1) * s)).length)):
  (C1.take (k * s)++Z++C1.drop (k * s+s)).take (k * s)=xs.take (i * s)++xs.drop ((i+1) * s):=by
 have m1:(k+1) * s=k * s+s:=by rw [Nat.add_mul,Nat.one_mul]
 have m2:(i+1) * s=i * s+s:=by rw [Nat.add_mul,Nat.one_mul]
 have m3:(k+1) * s<=cap * s:=Nat.mul_le_mul_right _ hk;have m4:i * s<=k * s:=Nat.mul_le_mul_right _ hi;have b:xs.length=(k+1) * s:=by rw [<-hx,tL,hcl];omega
 have e1:a.take (i * s)=xs.take (i * s):=by rw [<-hx,List.take_take,Nat.min_eq_left (by omega)]
 have hl:(a.take (i * s)++xs.drop ((i+1) * s)).length=k * s:=by
  rw [lP,tL,lD,hcl,b];omega
 have e2:C1.take (k * s)=a.take (i * s)++xs.drop ((i+1) * s):=by rw [c];exact List.take_left' hl
 rw [e2,pA,List.take_left' hl,e1]
theorem Dg (base g k cap i:Nat)(xs:List Wq)(w:Wz)(hown:w.ownsRow base 190 2 (.slice (some ⟨g,0,none⟩) (k+1) cap) (k+1) xs)(hi:i<=k)(hn:k<=2199023255552)(h1:∀u∈xs,u.oneCell'=true):
  Calls Yq.prog 117 #[.slice (some ⟨g,0,none⟩) (k+1) cap,.int .i64 i,.int .i64 ((i:Int)+1)] w fun e w'=>e=.returned (.slice (some ⟨g,0,none⟩) k cap) /\
   w'.ownsRow base 190 2 (.slice (some ⟨g,0,none⟩) k cap) k (xs.take (i * 2)++xs.drop ((i+1) * 2))/\w.grownBy w' (some g):=by
 obtain ⟨i0,D,hz0,r,hz2⟩:=info_parts Yq.infoKid;obtain ⟨hlen,hr⟩:=hown;rcases hr with ⟨h0,_⟩|⟨g',cap',f,hv,hbg,hg,v,q,hcs,d⟩
 .cases h0
 cases hv;obtain ⟨Z,C⟩:∃Z:List Wq,Z=(Value.agg #[.int .u8 0,.pointer none]).cells.toList:=⟨_,rfl⟩;obtain ⟨news,a⟩:∃news,news=xs.drop ((i+1) * 2):=⟨_,rfl⟩;have p:news.length=(k-i) * 2:=by rw [a,lD,hlen];omega
 obtain ⟨A,hA,B⟩:∃A:Ww,(if cap=i+1 then some (⟨g,0,none⟩:Ww) else some ⟨g,(i+1) * 2,none⟩)=some A/\Hid (∀t u,news[t]?=some u->w.drew.cell? (A.add t)=some u):=by
  by_cases h:cap=i+1
  .refine ⟨⟨g,0,none⟩,by simp [h],fun t u x=>?_⟩;have h0:news=[]:=List.eq_nil_of_length_eq_zero (by omega);rw [h0] at x;simp at x
  .refine ⟨⟨g,(i+1) * 2,none⟩,by simp [h],fun t u x=>?_⟩;rw [Addr.add_lit,a,List.getElem?_drop,<-d,List.getElem?_take] at *;have s:(if (i+1) * 2+t<(k+1) * 2 then f.toList[(i+1) * 2+t]? else none)=some u:=x;split at s
   .show w.cell? _=_;rw [World.cell?];simpa [hg] using s
   .cases s
 have hcl:f.toList.length=cap * 2:=by rw [lY,hcs]
 obtain ⟨C1,n⟩:∃C1,C1=f.toList.take (i * 2)++news++f.toList.drop (i * 2+news.length):=⟨_,rfl⟩;have l:C1.length=cap * 2:=by rw [n];simp only [lP,tL,lD,hcl,p];omega
 obtain ⟨W1,hW1⟩:∃W1,W1=w.drew.setRow g C1.toArray:=⟨_,rfl⟩;have j:W1.heap[g]?=some (.cells C1.toArray 190 (0,0)):=by rw [hW1];exact setRow_heap w.drew g f _ _ _ hg
 have hap:∀ty c,(Builtin.append_ #[157,157] ty #[.slice (some ⟨g,0,none⟩) i cap,.slice (some A) (k-i) c]).run Yq.prog w.drew=.ok (.slice (some ⟨g,0,none⟩) k cap) W1:=fun ty c=>by
  have:=run_append_room (P:=Yq.prog) w.drew 157 ty 190 i0 (Yq.u underlying157) D g i cap f hg A (k-i) c news (by rw [r];exact p) B.out (fun u x=>h1 u (by rw [a] at x;exact List.mem_of_mem_drop x)) (by omega) (by rw [r,p,hcs];omega);rw [this,r,hW1,n,show i+(k-i)=k by omega]
 obtain ⟨C2,m⟩:∃C2,C2=C1.take (k * 2)++Z++C1.drop (k * 2+2):=⟨_,rfl⟩;obtain ⟨W2,o⟩:∃W2,W2=W1.setRow g C2.toArray:=⟨_,rfl⟩;have hcr:∀ty c,(Builtin.clear_ #[157] ty #[.slice (some ⟨g,k * 2,none⟩) 1 c]).run Yq.prog W1=.ok (.tuple #[]) W2:=fun ty c=>by
  rw [o,m,C];exact kn W1 157 190 ty (Value.agg #[.int .u8 0,.pointer none]) (Yq.u underlying157) Yq.zeroKid (by simp [Value.cells,Value.oneCell']) g (k * 2) c C1.toArray _ j (by simp [Value.cells,l];omega)
 have y:W2.ownsRow base 190 2 (.slice (some ⟨g,0,none⟩) k cap) k (xs.take (i * 2)++xs.drop ((i+1) * 2)):=by
  rw [o];refine fd hbg (setRow_heap W1 g _ _ _ _ j) (by omega) q ?_ ?_
  .rw [m,C];simp only [lZ,lP,tL,lD,l,Value.cells,List.length_cons,lN];omega
  .rw [m];exact xd f.toList xs C1 Z 2 k i cap hcl v hi d (by rw [n,a])
 have hgr:w.grownBy W2 (some g):=by
  rw [o];refine bN (b:=W1) ?_ (dg _ _ _);rw [hW1];exact bN (gE (World.grownBy.refl w _)) (dg _ _ _)
 have hb0:(0:Int)<=(i:Int)+1:=by omega
 have hic:i<=cap:=by omega
 have hjc:i+1<=cap:=by omega
 have hkc:k+1<=cap:=v;have hc63:cap<=9223372036854775807:=by unfold maxLen at q;omega
 have z:Hid (∀ty c,(Builtin.append_ #[157,157] ty #[.slice (some ⟨g,0,none⟩) i cap,.slice (some A) (k-i) c]).run Yq.prog w.drew=.ok (.slice (some ⟨g,0,none⟩) k cap) W1):=hap;clear hlen hg hcs d a p hcl n l hW1 j hap v q m o C h1;go_enter (Yq.nq func117),ntmps117;go_wp2_with fail
 go_region_law (refine dS rfl (.tmp 22) (.tmp 25) 157 157 rfl (.slice (some ⟨g,0,none⟩) i cap) (.slice (some A) (k-i) (cap-(i+1))) (by simp [Act.eval,Act.put]) (by simp [Act.eval,Act.put]) (z.out _ _) ?_)
 go_wp2;go_ret;exact ⟨rfl,y,hgr⟩
theorem Dh (base g k cap i:Nat)(xs:List Wq)(w:Wz)(hown:w.ownsRow base 81 3 (.slice (some ⟨g,0,none⟩) (k+1) cap) (k+1) xs)(hi:i<=k)(hn:k<=2199023255552)(h1:∀u∈xs,u.oneCell'=true):
  Calls Yq.prog 95 #[.slice (some ⟨g,0,none⟩) (k+1) cap,.int .i64 i,.int .i64 ((i:Int)+1)] w fun e w'=>e=.returned (.slice (some ⟨g,0,none⟩) k cap) /\
   w'.ownsRow base 81 3 (.slice (some ⟨g,0,none⟩) k cap) k (xs.take (i * 3)++xs.drop ((i+1) * 3))/\w.grownBy w' (some g):=by
 obtain ⟨i0,D,hz0,r,hz2⟩:=info_parts Yq.infoVer;obtain ⟨hlen,hr⟩:=hown;rcases hr with ⟨h0,_⟩|⟨g',cap',f,hv,hbg,hg,v,q,hcs,d⟩
 .cases h0
 cases hv;obtain ⟨Z,C⟩:∃Z:List Wq,Z=(Value.agg #[.int .i64 0,.string ⟨#[]⟩,.bool false]).cells.toList:=⟨_,rfl⟩;obtain ⟨news,a⟩:∃news,news=xs.drop ((i+1) * 3):=⟨_,rfl⟩;have p:news.length=(k-i) * 3:=by rw [a,lD,hlen];omega
 obtain ⟨A,hA,B⟩:∃A:Ww,(if cap=i+1 then some (⟨g,0,none⟩:Ww) else some ⟨g,(i+1) * 3,none⟩)=some A/\Hid (∀t u,news[t]?=some u->w.drew.cell? (A.add t)=some u):=by
  by_cases h:cap=i+1
  .refine ⟨⟨g,0,none⟩,by simp [h],fun t u x=>?_⟩;have h0:news=[]:=List.eq_nil_of_length_eq_zero (by omega);rw [h0] at x;simp at x
  .refine ⟨⟨g,(i+1) * 3,none⟩,by simp [h],fun t u x=>?_⟩;rw [Addr.add_lit,a,List.getElem?_drop,<-d,List.getElem?_take] at *;have s:(if (i+1) * 3+t<(k+1) * 3 then f.toList[(i+1) * 3+t]? else none)=some u:=x;split at s
   .show w.cell? _=_;rw [World.cell?];simpa [hg] using s
   .cases s
 have hcl:f.toList.length=cap * 3:=by rw [lY,hcs]
 obtain ⟨C1,n⟩:∃C1,C1=f.toList.take (i * 3)++news++f.toList.drop (i * 3+news.length):=⟨_,rfl⟩;have l:C1.length=cap * 3:=by rw [n];simp only [lP,tL,lD,hcl,p];omega
 obtain ⟨W1,hW1⟩:∃W1,W1=w.drew.setRow g C1.toArray:=⟨_,rfl⟩;have j:W1.heap[g]?=some (.cells C1.toArray 81 (0,0)):=by rw [hW1];exact setRow_heap w.drew g f _ _ _ hg
 have hap:∀ty c,(Builtin.append_ #[114,114] ty #[.slice (some ⟨g,0,none⟩) i cap,.slice (some A) (k-i) c]).run Yq.prog w.drew=.ok (.slice (some ⟨g,0,none⟩) k cap) W1:=fun ty c=>by
  have:=run_append_room (P:=Yq.prog) w.drew 114 ty 81 i0 (Yq.u underlying114) D g i cap f hg A (k-i) c news (by rw [r];exact p) B.out (fun u x=>h1 u (by rw [a] at x;exact List.mem_of_mem_drop x)) (by omega) (by rw [r,p,hcs];omega);rw [this,r,hW1,n,show i+(k-i)=k by omega]
 obtain ⟨C2,m⟩:∃C2,C2=C1.take (k * 3)++Z++C1.drop (k * 3+3):=⟨_,rfl⟩;obtain ⟨W2,o⟩:∃W2,W2=W1.setRow g C2.toArray:=⟨_,rfl⟩;have hcr:∀ty c,(Builtin.clear_ #[114] ty #[.slice (some ⟨g,k * 3,none⟩) 1 c]).run Yq.prog W1=.ok (.tuple #[]) W2:=fun ty c=>by
  rw [o,m,C];exact kn W1 114 81 ty (Value.agg #[.int .i64 0,.string ⟨#[]⟩,.bool false]) (Yq.u underlying114) Yq.zeroVer (by simp [Value.cells,Value.oneCell']) g (k * 3) c C1.toArray _ j (by simp [Value.cells,l];omega)
 have y:W2.ownsRow base 81 3 (.slice (some ⟨g,0,none⟩) k cap) k (xs.take (i * 3)++xs.drop ((i+1) * 3)):=by
  rw [o];refine fd hbg (setRow_heap W1 g _ _ _ _ j) (by omega) q ?_ ?_
  .rw [m,C];simp only [lZ,lP,tL,lD,l,Value.cells,List.length_cons,lN];omega
  .rw [m];exact xd f.toList xs C1 Z 3 k i cap hcl v hi d (by rw [n,a])
 have hgr:w.grownBy W2 (some g):=by
  rw [o];refine bN (b:=W1) ?_ (dg _ _ _);rw [hW1];exact bN (gE (World.grownBy.refl w _)) (dg _ _ _)
 have hb0:(0:Int)<=(i:Int)+1:=by omega
 have hic:i<=cap:=by omega
 have hjc:i+1<=cap:=by omega
 have hkc:k+1<=cap:=v;have hc63:cap<=9223372036854775807:=by unfold maxLen at q;omega
 have z:Hid (∀ty c,(Builtin.append_ #[114,114] ty #[.slice (some ⟨g,0,none⟩) i cap,.slice (some A) (k-i) c]).run Yq.prog w.drew=.ok (.slice (some ⟨g,0,none⟩) k cap) W1):=hap;clear hlen hg hcs d a p hcl n l hW1 j hap v q m o C h1;go_enter (Yq.nq func95),ntmps95;go_wp2_with fail
 go_region_law (refine dS rfl (.tmp 22) (.tmp 25) 114 114 rfl (.slice (some ⟨g,0,none⟩) i cap) (.slice (some A) (k-i) (cap-(i+1))) (by simp [Act.eval,Act.put]) (by simp [Act.eval,Act.put]) (z.out _ _) ?_)
 go_wp2;go_ret;exact ⟨rfl,y,hgr⟩
def fA (base:Nat)(v:Wq)(i n:Nat)(xs:List Wq)(a b:Wq)(w:Wz)(e:Ending)(w':Wz):Prop:=
 ∃v',e=.returned v'/\w'.ownsRow base 190 2 v' (n+1) (xs.take (i * 2)++[a,b]++xs.drop (i * 2))/\w.grownBy w' v.ownBlock/\(v'.ownBlock=v.ownBlock\/∀k,v'.ownBlock=some k->w.heap.size<=k)
theorem dU {P:Program}(w:Wz){ops:Array Oper}{rest:List Oper}{o:Oper}{a:Act}{Q:Exit->Act->Wz->Prop}(d:o.guard=none)(s x:Operand)(t c:Wk)
  (ho:o.op=.call {callee:=.builtin .append,args:=#[s,x],argTypes:=#[t,c]}) (b e:Wq) (hs:a.eval s=b) (hx:a.eval x=e)
  {v':Wq} {w':Wz} (hr:(Builtin.append_ #[t,c] o.type #[b,e]).run P w=.ok v' w') (h:wpList P ops Q rest (a.put o.dst v') w'):wpList P ops Q (o::rest) a w:=
 Lib.wpList_append_run w d s x t c ho b e hs hx v' w' hr h
theorem FG (base:Nat)(v:Wq)(n:Nat)(xs:List Wq)(m:Nat)(a b:Wq)(w:Wz)(hown:w.ownsRow base 190 2 v n xs)(hn:n<=1000)
    (q:w.cell? ⟨m,0,none⟩=some a) (hv1:w.cell? ⟨m,1,none⟩=some b) (h1:a.oneCell'=true/\b.oneCell'=true) (p:base<=w.heap.size):
    ∃v' w',(∀ty,(Builtin.append_ #[157,157] ty #[v,.slice (some ⟨m,0,none⟩) 1 1]).run Yq.prog w=.ok v' w')/\fA base v n n xs a b w (.returned v') w':=by
  obtain ⟨i0,f,l,e,i⟩:=info_parts Yq.infoKid;have c:∀j u,[a,b][j]?=some u->w.cell? ((⟨m,0,none⟩:Ww).add j)=some u:=by
    intro j u h;rw [Addr.add_lit]
    match j,h with
    | 0,h=>simp at h;subst h;exact q
    | 1,h=>simp at h;subst h;exact hv1
  have o:∀u∈[a,b],u.oneCell'=true:=by intro u t;simp at t;rcases t with rfl|rfl<;>simp [h1]
  have hlen:=hown.1;have hx:xs.take (n * 2)++[a,b]++xs.drop (n * 2)=xs++[a,b]:=by
    rw [tO (by omega),List.drop_eq_nil_of_le (by omega),List.append_nil]
  have hr:=fun ty=>run_append_own (P:=Yq.prog) w base 157 ty 190 i0 _ 2 16 (Yq.u underlying157) f l e i rfl (by decide) v n xs hown ⟨m,0,none⟩ 1 1 [a,b] rfl c o (by simp only [maxLen];omega) (by omega) p
  rcases hown.2 with ⟨rfl,rfl⟩|⟨g,cap,s,rfl,hbg,hg,hnc,hcm,hcs,htake⟩
  . have r:xs=[]:=List.eq_nil_of_length_eq_zero (by omega)
    subst r;refine ⟨_,_,fun ty=>run_append_nil (P:=Yq.prog) w 157 ty 190 i0 _ (Yq.u underlying157) f l ⟨m,0,none⟩ 1 1 [a,b] (by rw [e];rfl) c (by omega) (by omega) (by rw [i];omega),_,rfl,?_,?_,?_⟩
    . obtain ⟨v',w',d,ho,hgr,_⟩:=hr 0
      rw [run_append_nil (P:=Yq.prog) w 157 0 190 i0 _ (Yq.u underlying157) f l ⟨m,0,none⟩ 1 1 [a,b] (by rw [e];rfl) c (by omega) (by omega) (by rw [i];omega)] at d;cases d;rw [hx];exact ho
    . exact bN (gE (World.grownBy.refl w _)) (World.grownBy_alloc _ _ _)
    . exact Or.inr (fun k hk=>by simp [Value.ownBlock] at hk;omega)
  . by_cases hroom:n+1<=cap
    . have hq:=fun ty=>run_append_room (P:=Yq.prog) w 157 ty 190 i0 (Yq.u underlying157) f g n cap s hg ⟨m,0,none⟩ 1 1 [a,b] (by rw [e];rfl) c o hroom (by rw [e,hcs];simp;omega)
      refine ⟨_,_,hq,_,rfl,?_,?_,?_⟩
      . obtain ⟨v',w',d,ho,hgr,_⟩:=hr 0
        rw [hq 0] at d;cases d;rw [hx];exact ho
      . exact dg _ _ _
      . exact Or.inl rfl
    . have hq := fun ty => run_append_grow (P := Yq.prog) w 157 ty 190 i0 _ (Yq.u underlying157) f l ⟨g, 0, none⟩ n cap xs (by rw [e]; exact hlen) (fun j u h => by
          have:=hown.cells (g:=g) rfl j u h;exact this) ⟨m,0,none⟩ 1 1 [a,b] (by rw [e];rfl) c (by omega) (by omega) (growslice_fits (by omega) (by rw [i];omega))
      refine ⟨_,_,hq,_,rfl,?_,?_,?_⟩
      . obtain ⟨v',w',d,ho,hgr,_⟩:=hr 0
        rw [hq 0] at d;cases d;rw [hx];exact ho
      . exact bN (gE (World.grownBy.refl w _)) (World.grownBy_alloc _ _ _)
      . exact Or.inr (fun k hk=>by simp [Value.ownBlock] at hk;omega)
theorem Di (base:Nat)(v:Wq)(n:Nat)(xs:List Wq)(f:Nat)(a b:Wq)(w:Wz)(hown:w.ownsRow base 190 2 v n xs)(hn:n<=1000)
  (e:w.cell? ⟨f,0,none⟩=some a) (hv1:w.cell? ⟨f,1,none⟩=some b) (h1:a.oneCell'=true/\b.oneCell'=true) (c:base<=w.heap.size):
  Calls Yq.prog 118 #[v,.int .i64 n,.slice (some ⟨f,0,none⟩) 1 1] w (fA base v n n xs a b w):=by
 obtain ⟨v',w1,hr,hp⟩:=FG base v n xs f a b w hown hn e hv1 h1 c;obtain ⟨j,cap,hv,d,i⟩:∃j cap,v=.slice j n cap/\n<=cap/\cap<=9223372036854775807:=by
  rcases hown.2 with ⟨rfl,rfl⟩|⟨g,cap,cur,rfl,hbg,hg,d,i,hcs,htake⟩
  .exact ⟨none,0,rfl,lR _,by omega⟩
  .exact ⟨_,cap,rfl,d,by unfold maxLen at i;omega⟩
 subst hv;have HP:Hid (fA base (.slice j n cap) n n xs a b w (.returned v') w1):=hp;clear hp hown e hv1 h1;have h:Hid (∀ty,(Builtin.append_ #[157,157] ty #[.slice j n cap,.slice (some ⟨f,0,none⟩) 1 1]).run Yq.prog w=.ok v' w1):=hr;clear hr;by_cases k:cap=n
 .subst k;go_enter (Yq.nq func118),ntmps118;go_wp2_with (at_builtin;refine dU _ rfl _ _ 157 157 rfl _ _ rfl rfl (h.out _) ?_)
  go_ret;exact HP.out
 .go_enter (Yq.nq func118),ntmps118;go_wp2_with (at_builtin;refine dU _ rfl _ _ 157 157 rfl _ _ rfl rfl (h.out _) ?_)
  go_ret;exact HP.out
theorem Dj (g b:Nat)(a:Array Wq)(h:Array Wq)(d:Wk)(o la c lb f:Nat)(w:Wz)(hne:b≠g)(hg:w.heap[g]?=some (.cells a 190 (0,0)))(h0:a.size≠0)(hv:w.heap[b]?=some (.cells h d (0,0))):
  (callFunc 136 #[.slice (some ⟨b,0,none⟩) la c,.slice (some ⟨g,o,none⟩) lb f]).run Yq.prog w=.ok (.value (.bool false)) w:=by
 rw [run_callFunc_extern (Yq.nq func136) (by kernel_rfl) (by kernel_rfl) (by kernel_rfl) (e:=Extern.SlicesOverlaps.overlaps #[157,157] #[4]) (by kernel_rfl),
  Lib.run_overlaps_apart w 157 4 190 (Yq.u underlying157) 2 (fun w=>Yq.s (sizeOf190 w)) ⟨b,0,none⟩ ⟨g,o,none⟩ la c lb f hne d 190 h.size a.size (by simp [World.shape?,hv]) (by simp [World.shape?,hg]) h0 (by simp [World.frozen?,hv]) (by simp [World.frozen?,hv])]
 rfl
theorem Dl {α:Type}(c xs C1 C2:List α)(n i cap:Nat)(a b:α)(hcl:c.length=cap * 2)(hk:n+1<=cap)(hi:i<=n)(hx:c.take (n * 2)=xs)
  (d:C1=c.take ((i+1) * 2)++xs.drop (i * 2)++c.drop ((i+1) * 2+(xs.drop (i * 2)).length)) (h:C2=C1.take (i * 2)++[a,b]++C1.drop (i * 2+2)):
  C2.length=cap * 2/\C2.take ((n+1) * 2)=xs.take (i * 2)++[a,b]++xs.drop (i * 2):=by
 have e:xs.length=n * 2:=by rw [<-hx,tL,hcl];omega
 have hdl:(xs.drop (i * 2)).length=(n-i) * 2:=by rw [lD,e];omega
 have e1:c.take (i * 2)=xs.take (i * 2):=by rw [<-hx,List.take_take,Nat.min_eq_left (by omega)]
 have hA:(c.take ((i+1) * 2)).length=(i+1) * 2:=by rw [tL,hcl];omega
 have f:C1.length=cap * 2:=by rw [d];simp only [lP,lD,hA,hcl,e];omega
 have e2:C1.take (i * 2)=xs.take (i * 2):=by
  rw [d,pA,List.take_append_of_le_length (by omega),List.take_take,Nat.min_eq_left (by omega),e1]
 have e3:C1.drop (i * 2+2)=xs.drop (i * 2)++c.drop ((i+1) * 2+(xs.drop (i * 2)).length):=by
  rw [d,pA];exact List.drop_left' (by rw [hA];omega)
 have j:(xs.take (i * 2)).length=i * 2:=by rw [tL,e];omega
 refine ⟨?_,?_⟩
 .rw [h,lP,lP,e2,j,lD,f];simp;omega
 .rw [h,e2,e3,<-pA];exact List.take_left' (by simp only [lP,j,hdl,List.length_cons,lN];omega)
theorem yV (base g n cap i:Nat)(xs:List Wq)(k:Nat)(a b:Wq)(w:Wz)(hown:w.ownsRow base 190 2 (.slice (some ⟨g,0,none⟩) n cap) n xs)(hn:n<=1000)(hi:i<n)(hroom:n+1<=cap)
  (H:Wk) (hv:w.heap[k]?=some (.cells #[a,b] H (0,0))) (hne:k≠g) (h1:a.oneCell'=true/\b.oneCell'=true) (B:∀u∈xs,u.oneCell'=true):
  Calls Yq.prog 118 #[.slice (some ⟨g,0,none⟩) n cap,.int .i64 i,.slice (some ⟨k,0,none⟩) 1 1] w (fA base (.slice (some ⟨g,0,none⟩) n cap) i n xs a b w):=by
 obtain ⟨i0,C,hz0,A,hz2⟩:=info_parts Yq.infoKid;obtain ⟨hlen,hr⟩:=hown;rcases hr with ⟨h0,_⟩|⟨g',cap',e,F,hbg,hg,G,y,hcs,d⟩
 .cases h0
 cases F;have hcl:e.toList.length=cap * 2:=by rw [lY,hcs]
 obtain ⟨cs,c⟩:∃cs,cs=xs.drop (i * 2):=⟨_,rfl⟩;have hdl:cs.length=(n-i) * 2:=by rw [c,lD,hlen];omega
 obtain ⟨C1,l⟩:∃C1,C1=e.toList.take ((i+1) * 2)++cs++e.toList.drop ((i+1) * 2+cs.length):=⟨_,rfl⟩;obtain ⟨C2,x⟩:∃C2,C2=C1.take (i * 2)++[a,b]++C1.drop (i * 2+2):=⟨_,rfl⟩;obtain ⟨s,q⟩:=Dl e.toList xs C1 C2 n i cap a b hcl hroom (by omega) d (by rw [l,c]) x;have t:C1.length=cap * 2:=by rw [l];simp only [lP,tL,lD,hcl,hdl];omega
 obtain ⟨W1,hW1⟩:∃W1,W1=w.drew.setRow g C1.toArray:=⟨_,rfl⟩;obtain ⟨W2,m⟩:∃W2,W2=W1.setRow g C2.toArray:=⟨_,rfl⟩;have f:W1.heap[g]?=some (.cells C1.toArray 190 (0,0)):=by rw [hW1];exact setRow_heap w.drew g e _ _ _ hg
 have D:∀lb I,(callFunc 136 #[.slice (some ⟨k,0,none⟩) 1 1,.slice (some ⟨g,(i+1) * 2,none⟩) lb I]).run Yq.prog w=.ok (.value (.bool false)) w:=fun lb I=>
  Dj g k e _ H ((i+1) * 2) 1 1 lb I w hne hg (by omega) hv
 have r:∀ty h sc,(Builtin.copy_ #[157,157] ty #[.slice (some ⟨g,(i+1) * 2,none⟩) (n-i) h,.slice (some ⟨g,i * 2,none⟩) (n+1-i) sc]).run Yq.prog w.drew=.ok (goInt ((n-i:Nat):Int)) W1:=fun ty h sc=>by
  have hm:Nat.min (n+1-i) (n-i)=n-i:=Nat.min_eq_right (by omega);rw [fc (P:=Yq.prog) w.drew 157 157 ty 190 i0 g ((i+1) * 2) (n-i) h ⟨g,i * 2,none⟩ (n+1-i) sc e 190 cs (Yq.u underlying157) C hg (by rw [hm,A,hdl])
   (fun j v z=>by
    rw [Addr.add_lit];rw [c,List.getElem?_drop,<-d,List.getElem?_take] at z;split at z
    .show w.cell? _=_;rw [World.cell?];simpa [hg] using z
    .cases z)
   (by rw [hdl,hcs];omega) (fun v hv=>B v (by rw [c] at hv;exact List.mem_of_mem_drop hv)),hW1,l,hm]
 have p:∀ty h,(Builtin.copy_ #[157,157] ty #[.slice (some ⟨g,i * 2,none⟩) (n+1-i) h,.slice (some ⟨k,0,none⟩) 1 1]).run Yq.prog W1=.ok (goInt 1) W2:=fun ty h=>by
  have hm:Nat.min 1 (n+1-i)=1:=Nat.min_eq_left (by omega);have E:W1.heap[k]?=some (.cells #[a,b] H (0,0)):=by rw [hW1,setRow_other w.drew g k _ hne];exact hv
  rw [fc (P:=Yq.prog) W1 157 157 ty 190 i0 g (i * 2) (n+1-i) h ⟨k,0,none⟩ 1 1 C1.toArray 190 [a,b] (Yq.u underlying157) C f (by rw [hm,A];rfl)
   (fun j v z=>by
    rw [Addr.add_lit,World.cell?];simpa [E] using z)
   (by simp [t];omega) (fun v hv=>by simp at hv;rcases hv with rfl|rfl<;>simp [h1]),m,x,hm]
  rfl
 have o:fA base (.slice (some ⟨g,0,none⟩) n cap) i n xs a b w (.returned (.slice (some ⟨g,0,none⟩) (n+1) cap)) W2:=by
  refine ⟨_,rfl,?_,?_,Or.inl rfl⟩
  .rw [m];exact fd hbg (setRow_heap W1 g _ _ _ _ f) hroom y (by simp [s]) (by simpa using q)
  .rw [m];refine bN (b:=W1) ?_ (dg _ _ _);rw [hW1];exact bN (gE (World.grownBy.refl w _)) (dg _ _ _)
 have HP:Hid (fA base (.slice (some ⟨g,0,none⟩) n cap) i n xs a b w (.returned (.slice (some ⟨g,0,none⟩) (n+1) cap)) W2):=o;have h63:cap<=9223372036854775807:=by unfold maxLen at y;omega
 have hz2':¬((i:Int)=(n:Int)):=by omega
 have hc1:¬cap=i:=by omega
 have hc2:¬cap=i+1:=by omega
 have H1:Hid (∀ty h sc,(Builtin.copy_ #[157,157] ty #[.slice (some ⟨g,(i+1) * 2,none⟩) (n-i) h,.slice (some ⟨g,i * 2,none⟩) (n+1-i) sc]).run Yq.prog w.drew=.ok (goInt ((n-i:Nat):Int)) W1):=r;have H2:Hid (∀ty h,(Builtin.copy_ #[157,157] ty #[.slice (some ⟨g,i * 2,none⟩) (n+1-i) h,.slice (some ⟨k,0,none⟩) 1 1]).run Yq.prog W1=.ok (goInt 1) W2):=p;have hw1:IntKind.i64.wrap ((i:Int)+1)=(i:Int)+1:=by rw [IntKind.wrap_i64];omega
 have hb0:(0:Int)<=(i:Int)+1:=by omega
 have htn:((i:Int)+1).toNat=i+1:=by omega
 have hb3:(i:Int)<=(n:Int)+1:=by omega
 have hb4:(i:Int)<=(n:Int):=by omega
 have hin:i<=n:=by omega
 clear hlen hg hcs d hcl c hdl l x s q t hW1 m f r p o hv h1 B G y;go_enter (Yq.nq func118),ntmps118;go_wp2_with (simp only [D])
 go_region_law (refine ko rfl _ _ 157 157 rfl (.slice (some ⟨g,(i+1) * 2,none⟩) (n-i) (cap-(i+1))) (.slice (some ⟨g,i * 2,none⟩) (n+1-i) (cap-i)) (by simp [Act.eval,Act.put]) (by simp [Act.eval,Act.put]) (H1.out _ _ _) ?_)
 have h2:=H2.out;go_wp2;go_ret;exact HP.out
theorem Bb (base g n cap i:Nat)(xs:List Wq)(Q:Nat)(a b:Wq)(w:Wz)(hown:w.ownsRow base 190 2 (.slice (some ⟨g,0,none⟩) n cap) n xs)(hn:n<=1000)(hi:i<n)(hroom:cap<n+1)
  (tv:Wk) (hv:w.heap[Q]?=some (.cells #[a,b] tv (0,0))) (h1:a.oneCell'=true/\b.oneCell'=true) (S:∀u∈xs,u.oneCell'=true) (M:base<=w.heap.size):
  Calls Yq.prog 118 #[.slice (some ⟨g,0,none⟩) n cap,.int .i64 i,.slice (some ⟨Q,0,none⟩) 1 1] w (fA base (.slice (some ⟨g,0,none⟩) n cap) i n xs a b w):=by
 obtain ⟨i0,L,X,I,R⟩:=info_parts Yq.infoKid;obtain ⟨hlen,hr⟩:=hown;rcases hr with ⟨h0,_⟩|⟨g',cap',cur,Y,hbg,hg,Z,U,hcs,q⟩
 .cases h0
 cases Y;have ad:cap=n:=by omega
 subst ad;have hgl:g<w.heap.size:=(eS hg).1;have V:Q<w.heap.size:=(eS hv).1;have hcell:∀j u,xs[j]?=some u->w.cell? ⟨g,j,none⟩=some u:=fun j u f=>by
  rw [<-q,List.getElem?_take] at f;split at f
  .rw [World.cell?];simpa [hg] using f
  .cases f
 have C:(Builtin.firstCells i0.size i (.slice (some ⟨g,0,none⟩) i cap)).run Yq.prog w.drew=.ok (xs.take (i * 2)).toArray w.drew:=by
  rw [I];exact run_firstCells_some w.drew 2 i ⟨g,0,none⟩ i cap (xs.take (i * 2)) (by rw [tL,hlen];omega) (fun j v f=>by
   rw [Addr.add_lit,zA];rw [List.getElem?_take] at f;split at f
   .exact hcell j v f
   .cases f)
 have hkk:(cap:Int)+1-(i:Int)=((cap+1-i:Nat):Int):=by omega
 have K:i+(cap+1-i)=cap+1:=by omega
 obtain ⟨G,hG⟩:∃G,G=grownCap w (cap+1) cap 190:=⟨_,rfl⟩;obtain ⟨Z1,N⟩:∃Z1,Z1=(Builtin.zeroCells (Value.agg #[.int .u8 0,.pointer none]).cells (cap+1-i)):=⟨_,rfl⟩;obtain ⟨Z2,O⟩:∃Z2,Z2=(Builtin.zeroCells (Value.agg #[.int .u8 0,.pointer none]).cells (G-(cap+1))):=⟨_,rfl⟩;have H:Z1.size=(cap+1-i) * 2:=by rw [N,size_zeroCells];rfl
 have E:Z2.size=(G-(cap+1)) * 2:=by rw [O,size_zeroCells];rfl
 obtain ⟨ROW,l⟩:∃ROW:Array Wq,ROW=(xs.take (i * 2)).toArray++Z1++Z2:=⟨_,rfl⟩;have ab:cap+1<=G:=by rw [hG];exact grownCap_ge w _ _ _
 have o:G<=maxLen:=by rw [hG];exact grownCap_le_maxLen w (cap+1) cap 190 (by simp only [maxLen];omega)
 have J:ROW.size=G * 2:=by
  rw [l];simp only [Array.size_append,lZ,tL,hlen,H,E];omega
 obtain ⟨W0,e⟩:∃W0,W0=w.drew.alloc (.cells ROW 190):=⟨_,rfl⟩;have T:∀ty,(Builtin.append_ #[157,3] ty #[.slice (some ⟨g,0,none⟩) i cap,.int .i64 ((cap:Int)+1-(i:Int))]).run Yq.prog w =
   .ok (.slice (some ⟨w.heap.size,0,none⟩) (cap+1) G) W0:=fun ty=>by
  have h:=Lib.run_append_grow_zeros (P:=Yq.prog) w 157 3 ty 190 i0 _ .i64 .i64 (Yq.u underlying157) (Yq.u underlying3) L X (some ⟨g,0,none⟩) i cap (xs.take (i * 2)) C (cap+1-i) (by omega) (by omega) (by omega) (by omega) (by rw [R];omega) (by rw [R,K];exact growslice_fits (by omega) (by omega));rw [K] at h;rw [hkk,h,e,l,N,O,hG]
 have r:W0.heap[w.heap.size]?=some (.cells ROW 190 (0,0)):=by rw [e];exact heap_alloc_new w.drew _
 obtain ⟨C1,x⟩:∃C1,C1=ROW.toList.take (i * 2)++[a,b]++ROW.toList.drop (i * 2+2):=⟨_,rfl⟩;have s:C1.length=G * 2:=by rw [x];simp only [lP,tL,lD,lY,J,List.length_cons,lN];omega
 obtain ⟨cs,c⟩:∃cs,cs=xs.drop (i * 2):=⟨_,rfl⟩;have hdl:cs.length=(cap-i) * 2:=by rw [c,lD,hlen];omega
 obtain ⟨C2,t⟩:∃C2,C2=C1.take ((i+1) * 2)++cs++C1.drop ((i+1) * 2+cs.length):=⟨_,rfl⟩;have F:C2.length=G * 2:=by rw [t];simp only [lP,tL,lD,s,hdl];omega
 have y:(xs.take (i * 2)).length=i * 2:=by rw [tL,hlen];omega
 have D:C2.take ((cap+1) * 2)=xs.take (i * 2)++[a,b]++xs.drop (i * 2):=by
  have e0:ROW.toList.take (i * 2)=xs.take (i * 2):=by
   rw [l];simp only [Array.toList_append,pA];exact List.take_left' y
  have e1:C1.take ((i+1) * 2)=xs.take (i * 2)++[a,b]:=by
   rw [x,e0];exact List.take_left' (by simp only [lP,y,List.length_cons,lN];omega)
  rw [t,e1,c];exact List.take_left' (by rw [<-c];simp only [lP,y,hdl,List.length_cons,lN];omega)
 obtain ⟨W1,hW1⟩:∃W1,W1=W0.setRow w.heap.size C1.toArray:=⟨_,rfl⟩;have p:W1.heap[w.heap.size]?=some (.cells C1.toArray 190 (0,0)):=by rw [hW1];exact setRow_heap W0 _ _ _ _ _ r
 obtain ⟨W2,d⟩:∃W2,W2=W1.drew.setRow w.heap.size C2.toArray:=⟨_,rfl⟩;have m:∀k,k<w.heap.size->W0.heap[k]?=w.heap[k]?:=fun k hk=>by rw [e];exact bA w.drew _ k hk
 have hcp1:∀ty z,(Builtin.copy_ #[157,157] ty #[.slice (some ⟨w.heap.size,i * 2,none⟩) (cap+1-i) z,.slice (some ⟨Q,0,none⟩) 1 1]).run Yq.prog W0=.ok (goInt 1) W1:=fun ty z=>by
  have hm:Nat.min 1 (cap+1-i)=1:=Nat.min_eq_left (by omega);rw [fc (P:=Yq.prog) W0 157 157 ty 190 i0 w.heap.size (i * 2) (cap+1-i) z ⟨Q,0,none⟩ 1 1 ROW 190 [a,b] (Yq.u underlying157) L r (by rw [hm,I];rfl)
   (fun j v f=>by
    have:=m Q V;rw [Addr.add_lit,World.cell?];simpa [this,hv] using f)
   (by rw [J];simp;omega) (fun v hv=>by simp at hv;rcases hv with rfl|rfl<;>simp [h1]),hW1,x,hm]
  rfl
 have B:∀ty z sc,(Builtin.copy_ #[157,157] ty #[.slice (some ⟨w.heap.size,(i+1) * 2,none⟩) (cap-i) z,.slice (some ⟨g,i * 2,none⟩) (cap-i) sc]).run Yq.prog W1.drew=.ok (goInt ((cap-i:Nat):Int)) W2:=fun ty z sc=>by
  have hm:Nat.min (cap-i) (cap-i)=cap-i:=Nat.min_self _;rw [fc (P:=Yq.prog) W1.drew 157 157 ty 190 i0 w.heap.size ((i+1) * 2) (cap-i) z ⟨g,i * 2,none⟩ (cap-i) sc C1.toArray 190 cs (Yq.u underlying157) L p (by rw [hm,I,hdl])
   (fun j v f=>by
    rw [Addr.add_lit];rw [c,List.getElem?_drop] at f;have hb:W1.heap[g]?=w.heap[g]?:=by rw [hW1,setRow_other W0 _ g _ (by omega)];exact m g hgl
    show W1.cell? _=_;rw [cB (w:=w) (w':=W1) (a:=⟨g,i * 2+j,none⟩) hb];exact hcell _ v f)
   (by rw [hdl];simp [s];omega) (fun v hv=>S v (by rw [c] at hv;exact List.mem_of_mem_drop hv)),d,t,hm]
 have A:fA base (.slice (some ⟨g,0,none⟩) cap cap) i cap xs a b w (.returned (.slice (some ⟨w.heap.size,0,none⟩) (cap+1) G)) W2:=by
  refine ⟨_,rfl,?_,?_,Or.inr (fun k hk=>by simp [Value.ownBlock] at hk;omega)⟩
  .rw [d];exact fd M (setRow_heap W1.drew _ _ _ _ _ p) ab o (by simp [F]) (by simpa using D)
  .have hs0:w.heap.size<=W0.heap.size:=by rw [e];simp
   refine ⟨by rw [d,hW1,e];rfl,by rw [d,hW1,e];rfl,by rw [d,hW1,e];rfl,by rw [d,hW1];simpa using hs0,fun k hk _=>?_⟩;rw [d,setRow_other _ _ k _ (by omega)];show W1.heap[k]?=_;rw [hW1,setRow_other _ _ k _ (by omega)];exact m k hk
 have HP:Hid (fA base (.slice (some ⟨g,0,none⟩) cap cap) i cap xs a b w (.returned (.slice (some ⟨w.heap.size,0,none⟩) (cap+1) G)) W2):=A;have hz2':¬((i:Int)=(cap:Int)):=by omega
 have hc1:¬cap=i:=by omega
 have hc2:¬G=i:=by omega
 have hc3:¬G=i+1:=by omega
 have hG63':G<=9223372036854775807:=by unfold maxLen at o;omega
 have H2:Hid (∀ty z sc,(Builtin.copy_ #[157,157] ty #[.slice (some ⟨w.heap.size,(i+1) * 2,none⟩) (cap-i) z,.slice (some ⟨g,i * 2,none⟩) (cap-i) sc]).run Yq.prog W1.drew=.ok (goInt ((cap-i:Nat):Int)) W2):=B;have HR:Hid (∀ty,(Builtin.append_ #[157,3] ty #[.slice (some ⟨g,0,none⟩) i cap,.int .i64 ((cap:Int)+1-(i:Int))]).run Yq.prog w=.ok (.slice (some ⟨w.heap.size,0,none⟩) (cap+1) G) W0):=T;have hw1:IntKind.i64.wrap ((i:Int)+1)=(i:Int)+1:=by rw [IntKind.wrap_i64];omega
 have hb0:(0:Int)<=(i:Int)+1:=by omega
 have htn:((i:Int)+1).toNat=i+1:=by omega
 have hb3:(i:Int)<=(cap:Int)+1:=by omega
 have hb4:(i:Int)<=(cap:Int):=by omega
 have hin:i<=cap:=by omega
 clear hlen hg hcs q c hdl x t F D s e hW1 d r p B A hv h1 S Z U C hkk K hG N O H E l J y m hcell T o;go_enter (Yq.nq func118),ntmps118;go_wp2_with (at_builtin;refine dU _ rfl _ _ 157 3 rfl _ _ rfl rfl (HR.out _) ?_)
 go_region_law (refine ko rfl _ _ 157 157 rfl (.slice (some ⟨w.heap.size,(i+1) * 2,none⟩) (cap-i) (G-(i+1))) (.slice (some ⟨g,i * 2,none⟩) (cap-i) (cap-i)) (by simp [Act.eval,Act.put]) (by simp [Act.eval,Act.put]) (H2.out _ _ _) ?_)
 go_wp2;go_ret;exact HP.out
theorem Dm (base:Nat)(v:Wq)(n i:Nat)(xs:List Wq)(d:Nat)(a b:Wq)(w:Wz)(hown:w.ownsRow base 190 2 v n xs)(hn:n<=1000)(hi:i<=n)
  (k:Wk) (hv:w.heap[d]?=some (.cells #[a,b] k (0,0))) (hne:v.ownBlock≠some d) (h1:a.oneCell'=true/\b.oneCell'=true) (h:∀u∈xs,u.oneCell'=true) (c:base<=w.heap.size):
  Calls Yq.prog 118 #[v,.int .i64 i,.slice (some ⟨d,0,none⟩) 1 1] w (fA base v i n xs a b w):=by
 by_cases j:i=n
 .subst j;exact Di base v i xs d a b w hown hn (by simp [World.cell?,hv]) (by simp [World.cell?,hv]) h1 c
 .rcases hown.2 with ⟨rfl,rfl⟩|⟨g,cap,cur,rfl,hbg,hg,hnc,hcm,hcs,htake⟩
  .omega
  .have f:d≠g:=fun e=>hne (by simp [Value.ownBlock,e])
   by_cases hroom:n+1<=cap
   .exact yV base g n cap i xs d a b w hown hn (by omega) hroom k hv f h1 h
   .exact Bb base g n cap i xs d a b w hown hn (by omega) (by omega) k hv h1 h c
theorem az {w:Wz}{base:Nat}{e:Wk}{b:Nat}{v:Wq}{n:Nat}{xs:List Wq}(h:w.ownsRow base e b v n xs):∃a cap,v=.slice a n cap/\(a=none->cap=0):=by
 rcases h.2 with ⟨rfl,rfl⟩|⟨g,cap,cur,rfl,_⟩
 .exact ⟨none,0,rfl,fun _=>rfl⟩
 .exact ⟨_,cap,rfl,fun h=>by cases h⟩
structure Made (A:Nat->Prop)(n:Nat)(w w':Wz)(f:List UInt8->List Ver)(g:Nat)(hv kv:Wq)(ks:List (UInt8×Option Ww)):Prop where
 below:Below w.heap.size w w'
 node:w'.ownsRow w.heap.size 159 3 (.slice (some ⟨g,0,none⟩) 1 1) 1 [.bool (!(f []).isEmpty),hv,kv]
 kids:w'.ownsRow w.heap.size 190 2 kv ks.length (au ks)
 apart:kv.ownBlock≠some g
 hist:aU A w hv (f [])
 sorted:ks.Pairwise (fun a b=>a.1<b.1)
 child:∀c q,(c,q)∈ks->ai A n w q (fun k=>f (c::k))
 noKid:∀c,(∀q,(c,q) ∉ ks)->∀k,f (c::k)=[]
 noNil:∀c q,(c,q)∈ks->q≠none
theorem Bc (w:Wz):Calls Yq.prog 114 #[.pointer none] w fun e w'=>e=.returned (.pointer (some ⟨w.heap.size,0,none⟩))/\w'=w.alloc (.cells #[.bool false,.slice none 0 0,.slice none 0 0] 159):=by
 go_enter (Yq.nq func114),ntmps114;go_wp2;go_ret;exact ⟨rfl,rfl⟩
theorem yW (A:Nat->Prop)(g:Nat)(a:Bool)(ha:Option Ww)(hl hc:Nat)(d:Option Ww)(c kc:Nat)(ks:List (UInt8×Option Ww))(w:Wz)
  (c0:w.cell? ⟨g,0,none⟩=some (.bool a)) (c1:w.cell? ⟨g,1,none⟩=some (.slice ha hl hc)) (c2:w.cell? ⟨g,2,none⟩=some (.slice d c kc)) (hk:gC A w (.slice d c kc) ks) (hn:ks.length<=256):
  Calls Yq.prog 114 #[.pointer (some ⟨g,0,none⟩)] w fun e w'=>∃w1 f j h,e=.returned (.pointer (some ⟨w1.heap.size,0,none⟩))/\w1.ownsRow w.heap.size 190 2 (.slice f j h) ks.length (au ks)/\Below w.heap.size w w1 /\
   w'=w1.alloc (.cells #[.bool a,.slice ha hl hc,.slice f j h] 159):=by
 have hcl:∀wq:Wz,wq.heap=w.heap->Calls Yq.prog 132 #[.slice d c kc] wq fun e w'=>∃v',e=.returned v'/\w'.ownsRow wq.heap.size 190 2 v' ks.length (au ks)/\Below wq.heap.size wq w':=fun wq hq=>
  yU A _ ks wq (hk.keep (fun b hb _=>⟨hb,by rw [hq]⟩)) hn
 have i:Hid (∀wq:Wz,wq.heap=w.heap->Calls Yq.prog 132 #[.slice d c kc] wq fun e w'=>∃v',e=.returned v'/\w'.ownsRow wq.heap.size 190 2 v' ks.length (au ks)/\Below wq.heap.size wq w'):=hcl;clear hcl hk;go_enter (Yq.nq func114),ntmps114;go_wp2_with fail
 go_region_held3 (fun w'=>w'.cell? ⟨g,0,none⟩=some (.bool a)/\w'.cell? ⟨g,1,none⟩=some (.slice ha hl hc)/\w'.cell? ⟨g,2,none⟩=some (.slice d c kc)) (go_keep)
  (first|(go_at_call 132;refine (i.out _ ?_).mono ?_;rfl;rintro e w' ⟨v',rfl,hown,hb⟩;obtain ⟨f,h,rfl,-⟩:=az hown;have k0:=aj (W:=w.drew) hb c0;have k1:=aj (W:=w.drew) hb c1;have k2:=aj (W:=w.drew) hb c2))
 go_wp2;go_ret;exact ⟨w',f,_,h,rfl,hown,(bR _ w).drew.trans hb,rfl⟩
theorem sZ (w:Wz)(base:Nat)(x y z:Wq)(hb:base<=w.heap.size):(w.alloc (.cells #[x,y,z] 159)).ownsRow base 159 3 (.slice (some ⟨w.heap.size,0,none⟩) 1 1) 1 [x,y,z]:=
 World.ownsRow_lit w #[x,y,z] 1 hb (by simp only [maxLen];omega) rfl
theorem ku (A:Nat->Prop)(n:Nat)(p:Option Ww)(f:List UInt8->List Ver)(w:Wz)(h:ai A (n+1) w p f):
  Calls Yq.prog 114 #[.pointer p] w fun e w'=>∃g hv kv ks,e=.returned (.pointer (some ⟨g,0,none⟩))/\Made A n w w' f g hv kv ks:=by
 rcases h with ⟨rfl,h⟩|⟨g,hv,kv,ks,hp,hA,c0,c1,c2,a,hks,hs,hch,hno⟩
 .refine (Bc w).mono ?_;rintro e w' ⟨rfl,rfl⟩;refine ⟨w.heap.size,.slice none 0 0,.slice none 0 0,[],rfl,(bR _ _).alloc (lR _) _,?_,World.ownsRow_nil _ _ _ _,by simp [Value.ownBlock],by rw [h];exact nd A w,List.Pairwise.nil,fun c q hq=>absurd hq List.not_mem_nil,fun c _ k=>h _,fun c q hq=>absurd hq List.not_mem_nil⟩;rw [h];exact sZ w _ _ _ _ (lR _)
 .cases hp;have hh2:=a;have hks2:=hks;obtain ⟨ha,hc,rfl,-⟩:=hh2;obtain ⟨b,kc,rfl,-⟩:=hks2;refine (yW A g _ ha _ hc b _ kc ks w c0 c1 c2 hks (lw ks hs)).mono ?_;rintro e w' ⟨w1,va,vl,vc,rfl,hown,hb,rfl⟩;refine ⟨w1.heap.size,_,_,ks,rfl,hb.alloc hb.size _,sZ w1 _ _ _ _ hb.size,hown.alloc _,?_,a,hs,hch,hno.1,hno.2⟩;intro e;have:=(hown.lt _ e).2;omega
def orP (a:Bool)(b g:Nat):Option Ww:=if a=false/\b=0 then none else some ⟨g,0,none⟩
theorem oc (g:Nat)(a:Bool)(c:Option Ww)(b kc:Nat)(w:Wz)(hkl:b<=1000)
  (c0:w.cell? ⟨g,0,none⟩=some (.bool a)) (c2:w.cell? ⟨g,2,none⟩=some (.slice c b kc)):
  Calls Yq.prog 115 #[.pointer (some ⟨g,0,none⟩)] w fun e w'=>e=.returned (.pointer (orP a b g))/\w'=w:=by
 cases a with
 |true=>
  go_enter (Yq.nq func115),ntmps115;go_wp2;go_ret;exact ⟨by simp [orP],rfl⟩
 |false=>
  by_cases h0:b=0
  .subst h0;go_enter (Yq.nq func115),ntmps115;go_wp2;go_ret;exact ⟨by simp [orP],rfl⟩
  .have h0':((b:Int)==0)=false:=by simp;omega
   go_enter (Yq.nq func115),ntmps115;go_wp2;go_ret;exact ⟨by simp [orP,h0],rfl⟩
theorem od {α:Type}(m:Nat)(g:α->List Wq)(hg:∀a,(g a).length=m)(l:List α)(i:Nat):(l.flatMap g).take (i * m)=(l.take i).flatMap g:=by
 induction l generalizing i with
 |nil=>simp
 |cons a l ih=>
  cases i with
  |zero=>simp
  |succ i=>
   rw [List.flatMap_cons,List.take_succ_cons,List.flatMap_cons,List.take_append,hg];have e:(i+1) * m-m=i * m:=by rw [Nat.add_mul,Nat.one_mul];omega
   rw [e,ih,tO (by rw [hg,Nat.add_mul,Nat.one_mul];omega)]
theorem oe {α:Type}(m:Nat)(g:α->List Wq)(hg:∀a,(g a).length=m)(l:List α)(i:Nat):(l.flatMap g).drop (i * m)=(l.drop i).flatMap g:=by
 induction l generalizing i with
 |nil=>simp
 |cons a l ih=>
  cases i with
  |zero=>simp
  |succ i=>
   rw [List.flatMap_cons,List.drop_succ_cons,List.drop_append,hg];have e:(i+1) * m-m=i * m:=by rw [Nat.add_mul,Nat.one_mul];omega
   rw [e,ih,List.drop_eq_nil_of_le (by rw [hg,Nat.add_mul,Nat.one_mul];omega),List.nil_append]
theorem tb (ks:List (UInt8×Option Ww))(r:Nat)(c:UInt8)(q:Option Ww):
  (au ks).take (r * 2)++[.int .u8 (c.toNat:Int),.pointer q]++(au ks).drop (r * 2)=au (ks.take r++(c,q)::ks.drop r):=by
 unfold au;rw [od 2 _ (fun _=>rfl),oe 2 _ (fun _=>rfl)];simp
theorem tc (ks:List (UInt8×Option Ww))(r:Nat):(au ks).take (r * 2)++(au ks).drop ((r+1) * 2)=au (ks.take r++ks.drop (r+1)):=by
 unfold au;rw [od 2 _ (fun _=>rfl),oe 2 _ (fun _=>rfl)];simp
theorem te (h:List Ver)(r:Nat):(aC h).take (r * 3)++(aC h).drop ((r+1) * 3)=aC (h.take r++h.drop (r+1)):=by
 unfold aC;rw [od 3 _ (fun _=>rfl),oe 3 _ (fun _=>rfl)];simp
theorem th (ks:List (UInt8×Option Ww))(r:Nat)(c:UInt8)(q:Option Ww)(hr:r<ks.length)(hc:ks[r].1=c):(au ks).set (r * 2+1) (.pointer q)=au (ks.take r++(c,q)::ks.drop (r+1)):=by
 have e1:ks=ks.take r++ks[r]::ks.drop (r+1):=by rw [List.getElem_cons_drop,List.take_append_drop]
 have hl:(au (ks.take r)).length=r * 2:=by rw [eF,tL,Nat.min_eq_left (by omega)]
 have e2:au ks=au (ks.take r)++(.int .u8 (c.toNat:Int) :: .pointer ks[r].2::au (ks.drop (r+1))):=by
  have e4:∀ (A B:List (UInt8×Option Ww)) (x:UInt8×Option Ww),au (A++x::B)=au A++(.int .u8 (x.1.toNat:Int) :: .pointer x.2::au B):=fun A B x=>by simp [au]
  conv=>lhs;rw [e1]
  rw [e4,hc]
 have e3:au (ks.take r++(c,q)::ks.drop (r+1))=au (ks.take r)++(.int .u8 (c.toNat:Int) :: .pointer q::au (ks.drop (r+1))):=by simp [au]
 rw [e2,e3,List.set_append_right _ _ (by omega),hl];have:r * 2+1-r * 2=1:=by omega
 rw [this];rfl
def aF (ks:List (UInt8×Option Ww))(r:Nat)(c:UInt8)(q:Option Ww)(d:Nat):List (UInt8×Option Ww):=ks.take r++(c,q)::ks.drop (r+d)
theorem g7 {ks:List (UInt8×Option Ww)}{c:UInt8}{r:Nat}(hs:ks.Pairwise (fun a b=>a.1<b.1))(hp:Place ks c r)(q:Option Ww)(d:Nat)(hd:d=if nc ks c r then 1 else 0):(aF ks r c q d).Pairwise (fun a b=>a.1<b.1):=by
 unfold aF;rw [List.pairwise_append];have i:∀x∈ks.take r,x.1<c:=by
  intro x hx;obtain ⟨j,l,e⟩:=gM hx;rw [tL] at l;rw [List.getElem_take] at e;rw [<-e];exact hp.lo j (by omega) (by omega)
 have k:∀x∈ks.drop (r+d),c<x.1:=by
  intro x hx;obtain ⟨j,l,e⟩:=gM hx;rw [lD] at l;rw [List.getElem_drop] at e;have h1:=hp.hi (r+d+j) (by omega) (by omega);rw [e] at h1;by_cases hne:c=x.1
  .exfalso;cases f:nc ks c r with
   |true=>
    rw [f] at hd;obtain ⟨hr,m⟩:=Place.mem f;have h2:=jN hs r (r+d+j) (by simp at hd;omega) (by omega);rw [m,e,hne] at h2;omega
   |false=>
    have:=hp.nomem hs f x.2;rw [hne] at this;exact this (List.mem_of_mem_drop hx)
  .have:=UInt8.le_iff_toNat_le.1 h1;have hn:c.toNat≠x.1.toNat:=fun h=>hne (UInt8.toNat_inj.1 h)
   exact UInt8.lt_iff_toNat_lt.2 (by omega)
 refine ⟨hs.sublist (List.take_sublist _ _),?_,?_⟩
 .rw [List.pairwise_cons];exact ⟨fun x hx=>k x hx,hs.sublist (List.drop_sublist _ _)⟩
 .intro x hx y hy;rcases List.mem_cons.1 hy with rfl|hy
  .exact i x hx
  .have h1:=UInt8.lt_iff_toNat_lt.1 (i x hx);have h2:=UInt8.lt_iff_toNat_lt.1 (k y hy);exact UInt8.lt_iff_toNat_lt.2 (by omega)
theorem vA {ks:List (UInt8×Option Ww)}(hs:ks.Pairwise (fun a b=>a.1<b.1)){c:UInt8}{p q:Option Ww}(hp:(c,p)∈ks)(hq:(c,q)∈ks):p=q:=by
 obtain ⟨i,hi,f⟩:=gM hp;obtain ⟨j,k,e⟩:=gM hq;by_cases d:i=j
 .subst d;rw [f] at e;cases e;rfl
 .rcases Nat.lt_or_gt_of_ne d with h|h
  .have:=jN hs i j h k;rw [f,e] at this;simp at this
  .have:=jN hs j i h hi;rw [f,e] at this;simp at this
theorem pG {ks:List (UInt8×Option Ww)}{c:UInt8}{r:Nat}(hs:ks.Pairwise (fun a b=>a.1<b.1))(hp:Place ks c r)(q:Option Ww)(d:Nat)(hd:d=if nc ks c r then 1 else 0)(c':UInt8)(x:Option Ww)
  (hm:(c',x)∈aF ks r c q d):(c'=c/\x=q)\/(c'≠c/\(c',x)∈ks):=by
 by_cases hc:c'=c
 .subst hc;exact Or.inl ⟨rfl,vA (g7 hs hp q d hd) hm (by unfold aF;simp)⟩
 .refine Or.inr ⟨hc,?_⟩;unfold aF at hm;rcases List.mem_append.1 hm with h|h
  .exact List.mem_of_mem_take h
  .rcases List.mem_cons.1 h with h|h
   .cases h;exact absurd rfl hc
   .exact List.mem_of_mem_drop h
theorem ti {ks:List (UInt8×Option Ww)}{c:UInt8}{r:Nat}(_hs:ks.Pairwise (fun a b=>a.1<b.1))(q:Option Ww)(d:Nat)(hd:d=if nc ks c r then 1 else 0)(c':UInt8)
  (hm:∀x,(c',x) ∉ aF ks r c q d):c'≠c/\∀x,(c',x) ∉ ks:=by
 have hc:c'≠c:=fun e=>hm q (by subst e;unfold aF;simp)
 refine ⟨hc,fun x hx=>hm x ?_⟩;unfold aF;cases f:nc ks c r with
 |false=>
  rw [f] at hd;have:d=0:=by simpa using hd
  subst this;rw [Nat.add_zero,List.mem_append,List.mem_cons];rw [<-List.take_append_drop r ks,List.mem_append] at hx;exact hx.imp id Or.inr
 |true=>
  rw [f] at hd;have:d=1:=by simpa using hd
  subst this;obtain ⟨hr,i⟩:=Place.mem f;have e1:ks=ks.take r++ks[r]::ks.drop (r+1):=by rw [List.getElem_cons_drop,List.take_append_drop]
  rw [e1,List.mem_append,List.mem_cons] at hx;rw [List.mem_append,List.mem_cons];rcases hx with h|h|h
  .exact Or.inl h
  .rw [<-h] at i;exact absurd i hc
  .exact Or.inr (Or.inr h)
def upd (f:List UInt8->List Ver)(key:List UInt8)(h:List Ver):List UInt8->List Ver:=fun k=>if k=key then h else f k
theorem xe (key:ByteArray)(h:0<key.size):key.data.toList=key[0]::(key.extract 1 key.size).data.toList:=by
 have e:(key.extract 1 key.size).data.toList=key.data.toList.drop 1:=by
  simp;exact tO (by simp)
 rw [e];have hl:0<key.data.toList.length:=by simpa using h
 exact (List.getElem_cons_drop hl).symm
theorem dh {R:Nat->Prop}{w:Wz}{base:Nat}{v:Wq}{ks:List (UInt8×Option Ww)}{n:Nat}(hn:n=ks.length)(h:w.ownsRow base 190 2 v n (au ks))(b:∀k,v.ownBlock=some k->R k):gC R w v ks:=by
 subst hn;rcases h.2 with ⟨rfl,h0⟩|⟨g,cap,cur,rfl,hbg,hg,hnc,hcm,hcs,htake⟩
 .have:ks=[]:=List.length_eq_zero_iff.1 h0;subst this;exact ⟨none,0,rfl,fun _=>rfl,fun h=>absurd rfl h⟩
 .refine ⟨_,cap,rfl,(fun h=>by cases h),fun _=>⟨g,rfl,b g rfl,(eS hg).1,fun j a=>?_⟩⟩;rw [eF] at a;exact h.cellAt j a
theorem mz {R:Nat->Prop}{w:Wz}{base:Nat}{v:Wq}{h:List Ver}{n:Nat}(hn:n=h.length)(ho:w.ownsRow base 81 3 v n (aC h))(b:∀k,v.ownBlock=some k->R k):aU R w v h:=by
 subst hn;rcases ho.2 with ⟨rfl,h0⟩|⟨g,cap,cur,rfl,hbg,hg,hnc,hcm,hcs,htake⟩
 .have:h=[]:=List.length_eq_zero_iff.1 h0;subst this;exact ⟨none,0,rfl,fun _=>rfl,fun h=>absurd rfl h⟩
 .refine ⟨_,cap,rfl,(fun h=>by cases h),fun _=>⟨g,rfl,b g rfl,(eS hg).1,fun j a=>?_⟩⟩;rw [fP] at a;exact ho.cellAt j a
theorem bK {w:Wz}{base g:Nat}{x y z:Wq}(h:w.ownsRow base 159 3 (.slice (some ⟨g,0,none⟩) 1 1) 1 [x,y,z]):
  (w.cell? ⟨g,0,none⟩=some x/\w.cell? ⟨g,1,none⟩=some y/\w.cell? ⟨g,2,none⟩=some z)/\∀j,w.frozen? ⟨g,j,none⟩=false:=
 ⟨⟨h.cellAt 0 (by omega),h.cellAt 1 (by omega),h.cellAt 2 (by omega)⟩,fun j=>h.frozenAt j⟩
def Grow (A:Nat->Prop)(w:Wz):Nat->Prop:=fun b=>(A b/\b<w.heap.size)\/w.heap.size<=b
def FH (n:Nat):Prop:=∀ (A:Nat->Prop)(p:Option Ww)(f:List UInt8->List Ver)(key:ByteArray)(hv:Wq)(h:List Ver)(w:Wz),ai A n w p f->key.size<n->key.size<=1000->aU A w hv h->h≠[] ->
 Calls Yq.prog 94 #[.pointer p,.string key,hv] w fun e w'=>∃g,e=.returned (.pointer (some ⟨g,0,none⟩))/\Below w.heap.size w w'/\ai (Grow A w) n w' (some ⟨g,0,none⟩) (upd f key.data.toList h)
theorem je {A:Nat->Prop}{w w':Wz}(hb:Below w.heap.size w w'):∀b,A b->b<w.heap.size->Grow A w b/\w'.heap[b]?=w.heap[b]?:=
 fun b ha hlt=>⟨Or.inl ⟨ha,hlt⟩,hb.block b hlt⟩
theorem Bd (f:List UInt8->List Ver)(h:List Ver):upd f [] h []=h:=by simp [upd]
theorem mA (f:List UInt8->List Ver)(h:List Ver)(c:UInt8)(k:List UInt8):upd f [] h (c::k)=f (c::k):=by simp [upd]
theorem iS (f:List UInt8->List Ver)(h:List Ver)(c:UInt8)(k:List UInt8):upd f (c::k) h []=f []:=by simp [upd]
theorem upd_same (f:List UInt8->List Ver)(h:List Ver)(c:UInt8)(k:List UInt8):(fun x=>upd f (c::k) h (c::x))=upd (fun x=>f (c::x)) k h:=by funext x;simp [upd]
theorem oh (f:List UInt8->List Ver)(h:List Ver)(c d:UInt8)(k:List UInt8)(hne:d≠c):(fun x=>upd f (c::k) h (d::x))=fun x=>f (d::x):=by funext x;simp [upd,hne]
theorem pH {n:Nat}{A:Nat->Prop}{w w1:Wz}{f:List UInt8->List Ver}{g:Nat}{a kv:Wq}{ks:List (UInt8×Option Ww)}(M:Made A n w w1 f g a kv ks)(b:Bool)(hv:Wq)(h:List Ver)(d:aU A w hv h)(hb:b=!h.isEmpty)(w2:Wz)
  (hw:w2=(w1.setCell ⟨g,0,none⟩ (.bool b)).setCell ⟨g,1,none⟩ hv):
  Below w.heap.size w w2/\ai (Grow A w) (n+1) w2 (some ⟨g,0,none⟩) (upd f [] h):=by
 subst hw;have hg:=M.node.lt g rfl;have s1:=M.node.stored 0 (.bool b);have s2:=s1.1.stored 1 hv;simp only [List.set_cons_zero,List.set_cons_succ] at s2;have hbl:Below w.heap.size w ((w1.setCell ⟨g,0,none⟩ (.bool b)).setCell ⟨g,1,none⟩ hv):=(M.below.setCell hg.1 _).setCell hg.1 _;have hgr:=bN s1.2 s2.2;obtain ⟨⟨c0,c1,c2⟩,fz⟩:=bK s2.1;have hk:=M.kids.kept hgr (Or.inr M.apart);refine ⟨hbl,Or.inr ⟨g,hv,kv,ks,rfl,Or.inr hg.1,?_,c1,c2,?_,?_,M.sorted,?_,?_,M.noNil⟩⟩
 .rw [Bd,<-hb];exact c0
 .rw [Bd];exact bG.keep d (je hbl)
 .exact dh rfl hk (fun k e=>Or.inr (M.kids.lt k e).1)
 .intro c q hq;have:(fun k=>upd f [] h (c::k))=fun k=>f (c::k):=by funext k;exact mA f h c k
  rw [this];exact ai.keep (je hbl) n q _ (M.child c q hq)
 .intro c hc k;rw [mA];exact M.noKid c hc k
theorem vB (n:Nat)(A:Nat->Prop)(p:Option Ww)(f:List UInt8->List Ver)(key:ByteArray)(hv:Wq)(h:List Ver)(w:Wz)(c:ai A (n+1) w p f)(hk:key.size=0)(b:aU A w hv h)(hne:h≠[]):
  Calls Yq.prog 94 #[.pointer p,.string key,hv] w fun e w'=>∃g,e=.returned (.pointer (some ⟨g,0,none⟩))/\Below w.heap.size w w'/\ai (Grow A w) (n+1) w' (some ⟨g,0,none⟩) (upd f key.data.toList h):=by
 have hfr:=ku A n p f w c;have hkl:key.data.toList=[]:=List.eq_nil_of_length_eq_zero (by simpa using hk);have hke:key.toList.isEmpty=true:=by rw [ByteArray.toList_eq,hkl];rfl
 have hh2:=b;obtain ⟨ha,hc,rfl,-⟩:=hh2;have a:Hid (key.data.toList=[]/\aU A w (.slice ha h.length hc) h):=⟨hkl,b⟩;clear hkl hk c b;go_enter (Yq.nq func94),ntmps94;go_wp2_with fail
 refine hfr.mono ?_;rintro e w1 ⟨g,hv0,kv,ks,rfl,M⟩;obtain ⟨⟨c0,c1,c2⟩,d⟩:=bK M.node;have f0:=d 0;have f1:=d 1;clear hfr;go_wp2;go_ret;have hd:=pH M true _ h a.out.2 (by simp [hne]) _ rfl;rw [a.out.1];exact ⟨g,rfl,hd⟩
structure Rdy (A:Nat->Prop)(n:Nat)(w w3:Wz)(f:List UInt8->List Ver)(g:Nat)(hv0:Wq)(k cap:Nat)(ks:List (UInt8×Option Ww))(r:Nat)(c:UInt8)(q:Option Ww)(d:Nat):Prop where
 below:Below w.heap.size w w3
 node:w3.ownsRow w.heap.size 159 3 (.slice (some ⟨g,0,none⟩) 1 1) 1 [.bool (!(f []).isEmpty),hv0,.slice (some ⟨k,0,none⟩) (aF ks r c q d).length cap]
 kids:w3.ownsRow w.heap.size 190 2 (.slice (some ⟨k,0,none⟩) (aF ks r c q d).length cap) (aF ks r c q d).length (au (aF ks r c q d))
 apart:k≠g
 hist:aU A w hv0 (f [])
 sorted:ks.Pairwise (fun a b=>a.1<b.1)
 place:Place ks c r
 isd:d=if nc ks c r then 1 else 0
 child:∀c q,(c,q)∈ks->ai A n w q (fun k=>f (c::k))
 noKid:∀c,(∀q,(c,q) ∉ ks)->∀k,f (c::k)=[]
 noNil:∀c q,(c,q)∈ks->q≠none
 this:ai A n w q (fun k=>f (c::k))
theorem gF {ks:List (UInt8×Option Ww)}{r:Nat}{c:UInt8}{q:Option Ww}{d:Nat}(hr:r<=ks.length):r<(aF ks r c q d).length:=by
 unfold aF;rw [lP,tL,List.length_cons];omega
theorem lF {ks:List (UInt8×Option Ww)}{r:Nat}{c:UInt8}{q:Option Ww}{d:Nat}(hr:r<=ks.length):(aF ks r c q d)[r]'(gF hr)=(c,q):=by
 have e:(aF ks r c q d)[r]?=some (c,q):=by
  have e:r-(ks.take r).length=0:=by rw [tL];omega
  unfold aF;rw [aR (by rw [tL];omega),e];rfl
 exact (sL e).2
theorem yX {ks:List (UInt8×Option Ww)}{r:Nat}{c:UInt8}{q q':Option Ww}{d:Nat}(hr:r<=ks.length):(aF ks r c q d).take r++(c,q')::(aF ks r c q d).drop (r+1)=aF ks r c q' d:=by
 have hl:(ks.take r).length=r:=by rw [tL];omega
 unfold aF;rw [List.take_left' hl,show (ks.take r++(c,q)::ks.drop (r+d))=(ks.take r++[(c,q)])++ks.drop (r+d) by simp,List.drop_left' (by simp [hl])]
theorem ie {ks:List (UInt8×Option Ww)}{r:Nat}{c:UInt8}{q q':Option Ww}{d:Nat}:(aF ks r c q d).length=(aF ks r c q' d).length:=by
 unfold aF;simp
theorem Rdy.cells {A:Nat->Prop}{n:Nat}{w w3:Wz}{f:List UInt8->List Ver}{g:Nat}{a:Wq}{k cap:Nat}{ks:List (UInt8×Option Ww)}{r:Nat}{c:UInt8}{q:Option Ww}{d:Nat}(R:Rdy A n w w3 f g a k cap ks r c q d):
  w3.cell? ⟨g,2,none⟩=some (.slice (some ⟨k,0,none⟩) (aF ks r c q d).length cap)/\w3.cell? ⟨k,r * 2+1,none⟩=some (.pointer q)/\w3.frozen? ⟨k,r * 2+1,none⟩=false/\(aF ks r c q d).length<=256:=by
 obtain ⟨⟨c0,c1,c2⟩,fz⟩:=bK R.node;have hk:gC (fun _=>True) w3 _ (aF ks r c q d):=dh rfl R.kids (fun _ _=>trivial);have hlt:=gF (c:=c) (q:=q) (d:=d) R.place.le;have hne:aF ks r c q d≠[]:=by intro e;rw [e] at hlt;simp at hlt
 obtain ⟨g',cap',he,-,-,hc,-⟩:=hk.cells hne;cases he;refine ⟨c2,?_,R.kids.frozenAt _,lw _ (g7 R.sorted R.place q d R.isd)⟩;have:=(hc r hlt).2;rw [lF R.place.le] at this;exact this
theorem Rdy.done {A:Nat->Prop}{n:Nat}{w w3:Wz}{f:List UInt8->List Ver}{g:Nat}{h:Wq}{k cap:Nat}{ks:List (UInt8×Option Ww)}{r:Nat}{c:UInt8}{q:Option Ww}{d:Nat}(R:Rdy A n w w3 f g h k cap ks r c q d)
  (o:Wz) (hb:Below w3.heap.size w3 o) (q':Option Ww) (F:List UInt8->List Ver) (m:F []=f []) (l:∀c',c'≠c->(fun x=>F (c'::x))=fun x=>f (c'::x))
  (hq:ai (Grow (fun b=>A b/\b<w.heap.size) w3) n o q' (fun x=>F (c::x))) (wf:Wz) (s:wf=o.setCell ⟨k,r * 2+1,none⟩ (.pointer q')):
  Below w.heap.size w wf/\(q'≠none->ai (Grow A w) (n+1) wf (some ⟨g,0,none⟩) F) /\
   wf.ownsRow w.heap.size 159 3 (.slice (some ⟨g,0,none⟩) 1 1) 1 [.bool (!(f []).isEmpty),h,.slice (some ⟨k,0,none⟩) (aF ks r c q' d).length cap] /\
   wf.ownsRow w.heap.size 190 2 (.slice (some ⟨k,0,none⟩) (aF ks r c q' d).length cap) (aF ks r c q' d).length (au (aF ks r c q' d)):=by
 subst s;have hgk:=R.kids.lt k rfl;have hgg:=R.node.lt g rfl;have a:w3.grownBy o none:=⟨hb.os,hb.tape,hb.output,hb.size,fun i hi _=>hb.block i hi⟩;have n4:=R.node.kept a (by simp [Value.ownBlock]);have k4:=R.kids.kept a (by simp [Value.ownBlock]);have k5:=k4.stored (r * 2+1) (.pointer q');have n5:=n4.kept k5.2 (Or.inr (by simp [Value.ownBlock];exact fun e=>R.apart e.symm));rw [th _ r c q' (gF R.place.le) (by rw [lF R.place.le]),yX R.place.le,ie (q':=q')] at k5;rw [ie (q':=q')] at n5;have hbl:Below w.heap.size w (o.setCell ⟨k,r * 2+1,none⟩ (.pointer q')):=(R.below.trans (hb.mono R.below.size)).setCell hgk.1 _;obtain ⟨⟨c0,c1,c2⟩,-⟩:=bK n5;refine ⟨hbl,fun p=>Or.inr ⟨g,h,_,aF ks r c q' d,rfl,Or.inr hgg.1,by rw [m];exact c0,c1,c2,by rw [m];exact bG.keep R.hist (je hbl),?_,g7 R.sorted R.place q' d R.isd,?_,?_,?_⟩,n5,k5.1⟩
 .exact dh rfl k5.1 (fun j e=>by simp [Value.ownBlock] at e;subst e;exact Or.inr hgk.1)
 .intro c' x hx;rcases pG R.sorted R.place q' d R.isd c' x hx with ⟨rfl,rfl⟩|⟨hne,hm⟩
  .refine ai.keep (fun b hb1 hb2=>?_) n x _ hq;rcases hb1 with ⟨⟨hA,hlt⟩,_⟩|hge
   .exact ⟨Or.inl ⟨hA,hlt⟩,bS _ _ _ _ (by show b≠k;omega)⟩
   .have:=R.below.size;exact ⟨Or.inr (by omega),bS _ _ _ _ (by show b≠k;omega)⟩
  .rw [l c' hne];exact ai.keep (je hbl) n x _ (R.child c' x hm)
 .intro c' hc' y;obtain ⟨hne,hno⟩:=ti R.sorted q' d R.isd c' hc';have:F (c'::y)=f (c'::y):=congrFun (l c' hne) y;rw [this];exact R.noKid c' hno y
 .intro c' x hx;rcases pG R.sorted R.place q' d R.isd c' x hx with ⟨rfl,rfl⟩|⟨hne,hm⟩
  .exact p
  .exact R.noNil c' x hm
theorem Made.rdy {A:Nat->Prop}{n:Nat}{w w1 w2:Wz}{f:List UInt8->List Ver}{g:Nat}{b kv:Wq}{ks:List (UInt8×Option Ww)}(M:Made A n w w1 f g b kv ks)(hb:Below w1.heap.size w1 w2){r:Nat}{c:UInt8}(hp:Place ks c r)(d:nc ks c r=true):
  ∃k cap q,kv=.slice (some ⟨k,0,none⟩) (aF ks r c q 1).length cap/\Rdy A n w w2 f g b k cap ks r c q 1:=by
 obtain ⟨hr,a⟩:=Place.mem d;have e1:aF ks r c ks[r].2 1=ks:=by
  unfold aF;have:(c,ks[r].2)=ks[r]:=by rw [<-a]
  rw [this,List.getElem_cons_drop,List.take_append_drop]
 have hb12:w1.grownBy w2 none:=⟨hb.os,hb.tape,hb.output,hb.size,fun i hi _=>hb.block i hi⟩;have n2:=M.node.kept hb12 (by simp [Value.ownBlock]);have hap:=M.apart;have k2:=M.kids;rcases k2.2 with ⟨_,h0⟩|⟨k,cap,cur,rfl,_⟩
 .omega
 have k2:=M.kids.kept hb12 (by simp [Value.ownBlock]);refine ⟨k,cap,ks[r].2,by rw [e1],M.below.trans (hb.mono M.below.size),?_,?_,fun e=>hap (by simp [Value.ownBlock,e]),M.hist,M.sorted,hp,by simp [d],M.child,M.noKid,M.noNil,M.child c _ (by rw [<-a];exact List.getElem_mem hr)⟩
 .rw [e1];exact n2
 .rw [e1];exact k2
theorem tj {w:Wz}{base:Nat}{e:Wk}{a:Nat}{v:Wq}{n:Nat}{xs:List Wq}(h:w.ownsRow base e a v n xs)(hn:0<n):∃g cap,v=.slice (some ⟨g,0,none⟩) n cap/\base<=g/\g<w.heap.size/\n<=cap:=by
 rcases h.2 with ⟨rfl,rfl⟩|⟨g,cap,cur,rfl,hb,hg,hc,_⟩
 .omega
 .exact ⟨g,cap,rfl,hb,(eS hg).1,hc⟩
theorem dJ {w w':Wz}(hb:Below w.heap.size w w')(r:Option Nat):w.grownBy w' r:=⟨hb.os,hb.tape,hb.output,hb.size,fun i hi _=>hb.block i hi⟩
theorem Made.rdyNew {A:Nat->Prop}{n:Nat}{w w1 w2 wq w3:Wz}{f:List UInt8->List Ver}{g:Nat}{d kv:Wq}{ks:List (UInt8×Option Ww)}(M:Made A n w w1 f g d kv ks)(hb:Below w1.heap.size w1 w2){r:Nat}{c:UInt8}(hp:Place ks c r)(a:nc ks c r=false)
  (hbq:Below w2.heap.size w2 wq) (k cap:Nat) (ho:w3.ownsRow w.heap.size 190 2 (.slice (some ⟨k,0,none⟩) (ks.length+1) cap) (ks.length+1) (au (aF ks r c none 0))) (b:wq.grownBy w3 kv.ownBlock)
  (l:(Value.slice (some ⟨k,0,none⟩) (ks.length+1) cap).ownBlock=kv.ownBlock\/∀j,(Value.slice (some ⟨k,0,none⟩) (ks.length+1) cap).ownBlock=some j->wq.heap.size<=j):
  (aF ks r c none 0).length=ks.length+1/\Rdy A n w (w3.setCell ⟨g,2,none⟩ (.slice (some ⟨k,0,none⟩) (ks.length+1) cap)) f g d k cap ks r c none 0:=by
 have hl:(aF ks r c none 0).length=ks.length+1:=by
  unfold aF;rw [lP,tL,List.length_cons,lD];have:=hp.le;omega
 have hgg:=M.node.lt g rfl;have i:k≠g:=by
  intro e;rcases l with h|h
  .exact M.apart (by rw [<-h,e];rfl)
  .have:=h k rfl;have:=hb.size;have:=hbq.size;omega
 have b2:Below w.heap.size w w2:=M.below.trans (hb.mono M.below.size);have m:Below w.heap.size w wq:=b2.trans (hbq.mono b2.size);have n2:=M.node.kept (dJ hb none) (by simp [Value.ownBlock]);have nq:=n2.kept (dJ hbq none) (by simp [Value.ownBlock]);have n3:=nq.kept b (Or.inr (by simp only [Value.ownBlock];exact fun e=>M.apart e.symm));have n4:=n3.stored 2 (.slice (some ⟨k,0,none⟩) (ks.length+1) cap);have k4:=ho.kept n4.2 (Or.inr (by simp [Value.ownBlock];exact i));have b3:Below w.heap.size w w3:=m.grown b m.size (fun j e=>(M.kids.lt j e).1);refine ⟨hl,b3.setCell hgg.1 _,by rw [hl];exact n4.1,by rw [hl];exact k4,i,M.hist,M.sorted,hp,by simp [a],M.child,M.noKid,M.noNil,ai.nil (M.noKid c (hp.nomem M.sorted a))⟩
theorem fR {w w':Wz}{row:Option Nat}(hg:w.grownBy w' row)(a:Ww)(hlt:a.block<w.heap.size)(hne:some a.block≠row):w'.frozen? a=w.frozen? a:=
 fB (w:=w) (hg.block a.block hlt hne)
theorem yY (n:Nat)(ih:FH n)(A:Nat->Prop)(p:Option Ww)(f:List UInt8->List Ver)(key:ByteArray)(hv:Wq)(h:List Ver)(w:Wz)(B:ai A (n+1) w p f)(hk:0<key.size)(hkn:key.size<n+1)(hk2:key.size<=1000)(v:aU A w hv h)(hne:h≠[]):
  Calls Yq.prog 94 #[.pointer p,.string key,hv] w fun e w'=>∃g,e=.returned (.pointer (some ⟨g,0,none⟩))/\Below w.heap.size w w'/\ai (Grow A w) (n+1) w' (some ⟨g,0,none⟩) (upd f key.data.toList h):=by
 have hfr:=ku A n p f w B;have hkc:=xe key hk;have hke:key.toList.isEmpty=false:=by rw [ByteArray.toList_eq,hkc];rfl
 have hh2:=v;obtain ⟨ha,hc,rfl,-⟩:=hh2;have t:Hid (key.data.toList=key[0]::(key.extract 1 key.size).data.toList/\aU A w (.slice ha h.length hc) h):=⟨hkc,v⟩;have IH:Hid (FH n):=ih;clear hkc B v ih;go_enter (Yq.nq func94),ntmps94;go_wp2_with fail
 refine hfr.mono ?_;rintro e w1 ⟨g,l,kv,ks,rfl,M⟩;obtain ⟨⟨c0,c1,c2⟩,D⟩:=bK M.node;have hK1:gC (fun _=>True) w1 kv ks:=dh rfl M.kids (fun _ _=>trivial);have hnf:=oa (fun _=>True) g kv ks key[0] w1 c2 hK1 M.sorted;clear hfr c0 c1 c2 D hK1;go_wp2_with fail
 refine hnf.mono ?_;rintro e w2 ⟨r,hp,rfl,hb2⟩;clear hnf
 go_upto_if 30 with fail
 go_cut [9] (fun _ C=>∃k cap q d,Rdy A n w C f g l k cap ks r key[0] q d)
 case first=>
  cases i:nc ks key[0] r with
  |true=>
   obtain ⟨k,cap,q,rfl,R⟩:=M.rdy hb2 hp i;have HR:Hid (Rdy A n w w2 f g l k cap ks r key[0] q 1):=R;clear R M hp;go_wp2
   go_meet
   case rel=>exact ⟨k,cap,q,1,HR.out⟩
  |false=>
   have hK1:=M.kids;obtain ⟨o,kc,rfl,-⟩:=az M.kids;have hle:=lw ks M.sorted;have hrl:=hp.le;have cc2:=aj hb2 (bK M.node).1.2.2;have cf2:=(hb2.frozen (p:=⟨g,2,none⟩) (M.node.lt g rfl).2).trans ((bK M.node).2 2);have hlt2:g<w2.heap.size:=bC w2 _ cc2;have HI:Hid (∀wq:Wz,wq.heap=(w2.alloc (.cells #[.int .u8 (key[0].toNat:Int),.pointer none] 190)).heap ->
     Calls Yq.prog 118 #[.slice o ks.length kc,.int .i64 r,.slice (some ⟨w2.heap.size,0,none⟩) 1 1] wq (fA w.heap.size (.slice o ks.length kc) r ks.length (au ks) (.int .u8 (key[0].toNat:Int)) (.pointer none) wq)):=fun wq hq=>by
    have hbq:Below w2.heap.size w2 (w2.alloc (.cells #[.int .u8 (key[0].toNat:Int),.pointer none] 190)):=(bR _ _).alloc (lR _) _;have b2:Below w.heap.size w w2:=M.below.trans (hb2.mono M.below.size);have kq:=(M.kids.kept (dJ hb2 none) (by cases h:Value.ownBlock (.slice o ks.length kc)<;>simp)).alloc (.cells #[.int .u8 (key[0].toNat:Int),.pointer none] 190);have y:wq.ownsRow w.heap.size 190 2 (.slice o ks.length kc) ks.length (au ks):=by
     unfold World.ownsRow at kq ⊢;rw [hq];exact kq
    refine Dm w.heap.size _ ks.length r (au ks) w2.heap.size _ _ wq y (by omega) hrl 190 (by rw [hq];exact heap_alloc_new w2 _) ?_ ⟨rfl,rfl⟩ (iR ks) (by rw [hq];have:=b2.size;have:=hbq.size;omega);intro e;have:=(M.kids.lt _ e).2;have:=hb2.size;omega
   have HM:Hid (nc ks key[0] r=false/\Place ks key[0] r/\Made A n w w1 f g l (.slice o ks.length kc) ks):=⟨i,hp,M⟩;clear i hp M hK1;go_wp2_with fail
   go_region_with (go_at_call 118;refine (HI.out ((w2.alloc (.cells #[.int .u8 (key[0].toNat:Int),.pointer none] 190)).drew) rfl).mono ?_;rintro e w3 ⟨v',rfl,ho,j,u⟩;obtain ⟨k,cap,rfl,-,-,-⟩:=tj ho (Nat.succ_pos _);have k2:w3.cell? ⟨g,2,none⟩=some (.slice o ks.length kc):=j.cell (a:=⟨g,2,none⟩) (aj ((bR _ w2).alloc (lR _) _) cc2) (fun e=>HM.out.2.2.apart e.symm);have kf:w3.frozen? ⟨g,2,none⟩=false:=(fR j ⟨g,2,none⟩ (lL hlt2 (by simp)) (fun e=>HM.out.2.2.apart e.symm)).trans ((((bR _ w2).alloc (lR _) _).frozen (p:=⟨g,2,none⟩) hlt2).trans cf2))
   all_goals
    go_wp2_with fail
    go_meet
    case rel=>
     rw [tb] at ho;exact ⟨k,cap,none,0,(HM.out.2.2.rdyNew hb2 HM.out.2.1 HM.out.1 ((bR _ w2).alloc (lR _) _).drew k cap ho j u).2⟩
 case rest=>
  obtain ⟨k,cap,q,d,R⟩:=hcut;obtain ⟨c2,d1,fr,hl⟩:=R.cells;have hr:=gF (c:=key[0]) (q:=q) (d:=d) R.place.le;clear M hp hb2;generalize hm:(aF ks r key[0] q d).length=m at *;have HL:Hid ((aF ks r key[0] q d).length=m):=hm;clear hm;have hkb:=bC wc _ d1;have HQ:Hid (∀wq:Wz,wq.heap=wc.heap->ai (fun b=>A b/\b<w.heap.size) n wq q (fun x=>f (key[0]::x))/\aU (fun b=>A b/\b<w.heap.size) wq (.slice ha h.length hc) h):=fun wq hq=>
   ⟨ai.keep (fun b h1 h2=>⟨⟨h1,h2⟩,by rw [hq];exact R.below.block b h2⟩) n q _ R.this,bG.keep t.out.2 (fun b h1 h2=>⟨⟨h1,h2⟩,by rw [hq];exact R.below.block b h2⟩)⟩
  have s:Hid ((key.extract 1 key.size).size<n/\(key.extract 1 key.size).size<=1000):=by
   have:(key.extract 1 key.size).size=key.size-1:=by simp
   exact ⟨by omega,by omega⟩
  go_wp2_with fail
  go_region_with (go_at_call 94;refine (IH.out (fun b=>A b/\b<w.heap.size) q (fun x=>f (key[0]::x)) _ _ h _ ?_ ?_ ?_ ?_ hne).mono ?_;exact (HQ.out wc.drew rfl).1;exact s.out.1;exact s.out.2;exact (HQ.out wc.drew rfl).2;rintro e E ⟨g',rfl,hb4,z⟩;have k2:=aj (W:=wc.drew) hb4 c2;have kd:=aj (W:=wc.drew) hb4 d1;have kf:=(hb4.frozen (p:=⟨k,r * 2+1,none⟩) hkb).trans fr)
  all_goals
   go_wp2;go_ret;have hd:=R.done E ((bR _ wc).drew.trans hb4) (some ⟨g',0,none⟩) (upd f (key[0]::(key.extract 1 key.size).data.toList) h) (iS _ _ _ _) (fun c' hc'=>oh _ _ _ _ _ hc') (by rw [upd_same];exact z) _ rfl;rw [t.out.1];exact ⟨g,rfl,hd.1,hd.2.1 (by simp)⟩
theorem Be:∀n,FH n:=by
 intro n;induction n with
 |zero=>intro A p f key hv h w _ hk;omega
 |succ n ih=>
  intro A p f key hv h w b hk hk2 a hne;by_cases h0:key.size=0
  .exact vB n A p f key hv h w b h0 a hne
  .exact yY n ih A p f key hv h w b (by omega) hk hk2 a hne
end
