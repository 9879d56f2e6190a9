/- A part. -/
import Derived.Test.YtnapepbdohidgaaGreatDoorQU09
import Derived.Lib.SliceRun
import Derived.Laws.AppendOwnNone
import Derived.Deep.RegionHeld3
import Derived.Lib.AppendZerosOnto
import Derived.Lib.Overlaps
import Derived.Laws.Externs
import Derived.Laws.NewBlocks
set_option maxHeartbeats 4000000
set_option maxRecDepth 100000
open Go renaming World->Wz,Value->Wq,TypeId->Wk,Addr->Ww
namespace Go.Proofs.Qw
section
open Go.RowKit
theorem Yq.infoKid:(Yq.prog.info? 190).map (fun i=>(i.zero,i.size,i.bytes))=some (some (.agg #[.int .u8 0,.pointer none]),2,16):=by kernel_rfl
theorem Yq.infoVer:(Yq.prog.info? 81).map (fun i=>(i.zero,i.size,i.bytes))=some (some (.agg #[.int .i64 0,.string ⟨#[]⟩,.bool false]),3,32):=by kernel_rfl
theorem bD.src {A:Nat->Prop}{w:Wz}{v:Wq}{n:Nat}{xs:List Wq}(h:bD A w v n xs)(hl:n=0->xs=[]):(v=.slice none 0 0/\n=0\/∃ad cap,v=.slice (some ad) n cap/\∀j u,xs[j]?=some u->w.cell? (ad.add j)=some u)\/(∃cap,v=.slice none n cap/\n≠0/\xs=[]):=by
 obtain ⟨a,cap,rfl,h0,hx⟩:=h;cases a with
 |none=>
  have:=h0 rfl;subst this;by_cases hn:n=0
  .subst hn;exact Or.inl (Or.inl ⟨rfl,rfl⟩)
  .refine Or.inr ⟨0,rfl,hn,?_⟩;by_cases hxs:xs=[]
   .exact hxs
   .obtain ⟨g,ha,_⟩:=hx hxs;cases ha
 |some ad=>
  refine Or.inl (Or.inr ⟨ad,cap,rfl,fun j u hj=>?_⟩);have hne:xs≠[]:=by intro e;subst e;simp at hj
  obtain ⟨g,ha,hA,hg,hc⟩:=hx hne;cases ha;have hlt:=(sL hj).1;rw [Addr.add_lit,zA,hc j hlt];exact hj
theorem xO (A:Nat->Prop)(v:Wq)(n:Nat)(xs:List Wq)(w:Wz)(h:bD A w v n xs)(hl:xs.length=n * 2)(hn:n<=1000)(h1:∀u∈xs,u.oneCell'=true):
  Calls Yq.prog 132 #[v] w fun e w'=>∃v',e=.returned v'/\w'.ownsRow w.heap.size 190 2 v' n xs/\Below w.heap.size w w':=by
 obtain ⟨i0,hi,hz0,hz1,hz2⟩:=info_parts Yq.infoKid;have q:∀ (w:Wz) (a:Option Ww) (n c n' c':Nat),(binOp .eql 157 (.slice a n c) (.slice none n' c')).run Yq.prog w=.ok (.bool a.isNone) w:=fun w a n c n' c'=>Lib.run_eql_slice_nil w _ _ a n c n' c' (Yq.u Tryz.underlying157)
 rcases h.src (fun h=>by subst h;exact List.eq_nil_of_length_eq_zero (by omega)) with (⟨rfl,rfl⟩|⟨ad,cap,rfl,hc⟩)|⟨cap,rfl,hn0,rfl⟩
 .have hx:xs=[]:=List.eq_nil_of_length_eq_zero (by omega);subst hx;go_enter (Yq.nq Tryz.func132),Tryz.ntmps132;go_wp2;go_ret;exact ⟨_,rfl,World.ownsRow_nil _ _ _ _,bR _ _⟩
 .have HC:Hid (∀j u,xs[j]?=some u->w.cell? (ad.add j)=some u):=hc;clear hc;go_enter (Yq.nq Tryz.func132),Tryz.ntmps132;go_wp2_with (at_builtin;refine wpList_append_own _ rfl _ _ 157 rfl w.heap.size 190 i0 _ 2 16 (Yq.u Tryz.underlying157) hi hz0 hz1 hz2 rfl (by decide) _ _ _ rfl (World.ownsRow_made w #[] 0 (lR _) (Nat.zero_le _) (by simp)) ad n cap xs rfl ?qc1 ?qc2 ?qc3 ?qc4 ?qc5 ?qc6 ?_)
  case qc1=>exact hl
  case qc2=>
   intro j u hj;exact aj ((bR _ _).alloc (lR _) _) (HC.out j u hj)
  case qc3=>exact h1
  case qc4=>rw [zA];simp only [maxLen];omega
  case qc5=>rw [zA];omega
  case qc6=>simp
  intro v' w1 hown hgrow hnil;go_wp2;go_ret;refine ⟨v',rfl,by simpa using hown,?_⟩;exact ((bR _ w).alloc (lR _) _).grown hgrow (by simp) (by intro k hk;simp [Value.ownBlock] at hk;omega)
 .simp at hl;omega
theorem xP (A:Nat->Prop)(v:Wq)(n:Nat)(xs:List Wq)(w:Wz)(h:bD A w v n xs)(hl:xs.length=n * 3)(hn:n<=2199023255552)(h1:∀u∈xs,u.oneCell'=true):
  Calls Yq.prog 96 #[v] w fun e w'=>∃v',e=.returned v'/\w'.ownsRow w.heap.size 81 3 v' n xs/\Below w.heap.size w w':=by
 obtain ⟨i0,hi,hz0,hz1,hz2⟩:=info_parts Yq.infoVer;have q:∀ (w:Wz) (a:Option Ww) (n c n' c':Nat),(binOp .eql 114 (.slice a n c) (.slice none n' c')).run Yq.prog w=.ok (.bool a.isNone) w:=fun w a n c n' c'=>Lib.run_eql_slice_nil w _ _ a n c n' c' (Yq.u Tryz.underlying114)
 rcases h.src (fun h=>by subst h;exact List.eq_nil_of_length_eq_zero (by omega)) with (⟨rfl,rfl⟩|⟨ad,cap,rfl,hc⟩)|⟨cap,rfl,hn0,rfl⟩
 .have hx:xs=[]:=List.eq_nil_of_length_eq_zero (by omega);subst hx;go_enter (Yq.nq Tryz.func96),Tryz.ntmps96;go_wp2;go_ret;exact ⟨_,rfl,World.ownsRow_nil _ _ _ _,bR _ _⟩
 .have HC:Hid (∀j u,xs[j]?=some u->w.cell? (ad.add j)=some u):=hc;clear hc;go_enter (Yq.nq Tryz.func96),Tryz.ntmps96;go_wp2_with (at_builtin;refine wpList_append_own _ rfl _ _ 114 rfl w.heap.size 81 i0 _ 3 32 (Yq.u Tryz.underlying114) hi hz0 hz1 hz2 rfl (by decide) _ _ _ rfl (World.ownsRow_made w #[] 0 (lR _) (Nat.zero_le _) (by simp)) ad n cap xs rfl ?qc1 ?qc2 ?qc3 ?qc4 ?qc5 ?qc6 ?_)
  case qc1=>exact hl
  case qc2=>
   intro j u hj;exact aj ((bR _ _).alloc (lR _) _) (HC.out j u hj)
  case qc3=>exact h1
  case qc4=>rw [zA];simp only [maxLen];omega
  case qc5=>rw [zA];omega
  case qc6=>simp
  intro v' w1 hown hgrow hnil;go_wp2;go_ret;refine ⟨v',rfl,by simpa using hown,?_⟩;exact ((bR _ w).alloc (lR _) _).grown hgrow (by simp) (by intro k hk;simp [Value.ownBlock] at hk;omega)
 .simp at hl;omega
theorem lH (h:List Ver):∀u∈aC h,u.oneCell'=true:=by
 intro u hu;simp only [aC,List.mem_flatMap] at hu;obtain ⟨v,_,hu⟩:=hu;simp at hu;rcases hu with rfl|rfl|rfl<;>rfl
theorem ix (h:List (UInt8×Option Ww)):∀u∈au h,u.oneCell'=true:=by
 intro u hu;simp only [au,List.mem_flatMap] at hu;obtain ⟨v,_,hu⟩:=hu;simp at hu;rcases hu with rfl|rfl<;>rfl
theorem xQ (A:Nat->Prop)(v:Wq)(ks:List (UInt8×Option Ww))(w:Wz)(h:fZ A w v ks)(hn:ks.length<=256):
  Calls Yq.prog 132 #[v] w fun e w'=>∃v',e=.returned v'/\w'.ownsRow w.heap.size 190 2 v' ks.length (au ks)/\Below w.heap.size w w':=
 xO A v _ _ w h (dY ks) (by omega) (ix ks)
theorem oP (A:Nat->Prop)(v:Wq)(h:List Ver)(w:Wz)(hh:aT A w v h)(hn:h.length<=2199023255552):
  Calls Yq.prog 96 #[v] w fun e w'=>∃v',e=.returned v'/\w'.ownsRow w.heap.size 81 3 v' h.length (aC h)/\Below w.heap.size w w':=
 xP A v _ _ w hh (fv h) hn (lH h)
section
variable {P:Program}
theorem eE (w:Wz)(dT sT ty elem:Wk)(i:TypeInfo)(g o dLen dCap:Nat)(a:Ww)(sLen sCap:Nat)(cur:Array Wq)(t:Wk)(cs:List Wq)
  (hu:P.underlying dT=some (.slice elem)) (hi:P.info? elem=some i)
  (hg:w.heap[g]?=some (.cells cur t (0,0))) (hn:cs.length=Nat.min sLen dLen * i.size)
  (hsrc:∀j v,cs[j]?=some v->w.cell? (a.add j)=some v) (hfit:o+cs.length<=cur.size) (h1:∀v∈cs,v.oneCell'=true):
  (Builtin.copy_ #[dT,sT] ty #[.slice (some ⟨g,o,none⟩) dLen dCap,.slice (some a) sLen sCap]).run P w =
   .ok (goInt (Nat.min sLen dLen)) (w.setRow g (cur.toList.take o++cs++cur.toList.drop (o+cs.length)).toArray):=by
 have hl:=run_loadCells_list (P:=P) w a cs hsrc;have hst:=run_storeCells_at P g o t cs 0 cur w hg (by simpa using hfit) h1;simp [Builtin.copy_,run_underlying hu,Builtin.lenOf,Builtin.firstCells,sizeOf,typeInfo,hi,<-hn,hl,hst]
theorem jP (w:Wz)(t e ty:Wk)(z:Wq)(ht:P.underlying t=some (.slice e))(hv:∀w,(zeroValue e).run P w=.ok z w)(h1:∀v∈z.cells.toList,v.oneCell'=true)
  (g o c:Nat) (cur:Array Wq) (T:Wk) (hg:w.heap[g]?=some (.cells cur T (0,0))) (hfit:o+z.cells.size<=cur.size):
  (Builtin.clear_ #[t] ty #[.slice (some ⟨g,o,none⟩) 1 c]).run P w=.ok (.tuple #[]) (w.setRow g (cur.toList.take o++z.cells.toList++cur.toList.drop (o+z.cells.size)).toArray):=by
 have hzc:(Builtin.zeroCells z.cells 1)=z.cells:=by
  apply Array.ext
  .simp [Builtin.zeroCells]
  .intro i h1 h2;simp [Builtin.zeroCells,Nat.mod_eq_of_lt h2,h2]
 have hst:=run_storeCells_at P g o T z.cells.toList 0 cur w hg (by simpa using hfit) h1;simp only [Nat.add_zero,lY] at hst;simp [Builtin.clear_,run_underlying ht,hv,hzc,hst]
theorem jQ {ops:Array Oper}{o:Oper}{a:Act}{w:Wz}{K:Act->Wz->Prop}{Q:Exit->Act->Wz->Prop}{E:Prop}
  (hg:o.guard=none) (d x:Operand) (dT sT:Wk) (hop:o.op=Op.call {callee:=Callee.builtin Builtin.copy,args:=#[d,x],argTypes:=#[dT,sT]})
  (v u:Wq) (hd:a.eval d=v) (hx:a.eval x=u) {v':Wq} {w':Wz} (hr:(Builtin.copy_ #[dT,sT] o.type #[v,u]).run P w=.ok v' w') (hK:K (a.put o.dst v') w'):
  if Region.wanted o (yielded ops a.tmps)=true then Oper.wp P o a w K Q else E:=by
 have hw:Region.wanted o (yielded ops a.tmps)=true:=by simp [Region.wanted,hg]
 rw [if_pos hw];unfold Oper.wp;simp [execOp,hop,resolve,invoke,builtin,hd,hx,hr,Result.andThen];exact hK
theorem dH {ops:Array Oper}{o:Oper}{a:Act}{w:Wz}{K:Act->Wz->Prop}{Q:Exit->Act->Wz->Prop}{E:Prop}
  (hg:o.guard=none) (d x:Operand) (dT sT:Wk) (hop:o.op=Op.call {callee:=Callee.builtin Builtin.append,args:=#[d,x],argTypes:=#[dT,sT]})
  (v u:Wq) (hd:a.eval d=v) (hx:a.eval x=u) {v':Wq} {w':Wz} (hr:(Builtin.append_ #[dT,sT] o.type #[v,u]).run P w=.ok v' w') (hK:K (a.put o.dst v') w'):
  if Region.wanted o (yielded ops a.tmps)=true then Oper.wp P o a w K Q else E:=by
 have hw:Region.wanted o (yielded ops a.tmps)=true:=by simp [Region.wanted,hg]
 rw [if_pos hw];unfold Oper.wp;simp [execOp,hop,resolve,invoke,builtin,hd,hx,hr,Result.andThen];exact hK
end
theorem eF {w:Wz}{base:Nat}{e:Wk}{size g n cap:Nat}{cur:Array Wq}{xs:List Wq}(hb:base<=g)(hg:w.heap[g]?=some (.cells cur e (0,0)))(hn:n<=cap)(hm:cap<=maxLen)
  (hs:cur.size=cap * size) (hx:cur.toList.take (n * size)=xs):w.ownsRow base e size (.slice (some ⟨g,0,none⟩) n cap) n xs:=by
 refine ⟨?_,Or.inr ⟨g,cap,cur,rfl,hb,hg,hn,hm,hs,hx⟩⟩;rw [<-hx,tL,lY,hs];exact Nat.min_eq_left (Nat.mul_le_mul_right _ hn)
theorem cQ (w:Wz)(g:Nat)(cs:Array Wq):w.grownBy (w.setRow g cs) (some g):=
 ⟨rfl,rfl,rfl,by simp,fun k _ hk=>setRow_other w g k _ (fun e=>hk (by rw [e]))⟩
theorem ge {w w':Wz}{r:Option Nat}(h:w.grownBy w' r):w.grownBy w'.drew r:=⟨h.os,h.tape,h.output,h.size,h.block⟩
theorem bK {a b c:Wz}{r:Option Nat}(h:a.grownBy b r)(k:b.grownBy c r):a.grownBy c r:=
 ⟨k.os.trans h.os,k.tape.trans h.tape,k.output.trans h.output,lT h.size k.size,fun i hi hr=>(k.block i (lL hi h.size) hr).trans (h.block i hi hr)⟩
theorem Yq.zeroKid (w:Wz):(zeroValue 190).run Yq.prog w=.ok (.agg #[.int .u8 0,.pointer none]) w:=by kernel_rfl
theorem Yq.zeroVer (w:Wz):(zeroValue 81).run Yq.prog w=.ok (.agg #[.int .i64 0,.string ⟨#[]⟩,.bool false]) w:=by kernel_rfl
theorem vW {α:Type}(cur xs C1 Z:List α)(s k i cap:Nat)(hcl:cur.length=cap * s)(hk:k+1<=cap)(hi:i<=k)(hx:cur.take ((k+1) * s)=xs)
  (hC1:C1=cur.take (i * s)++xs.drop ((i+1) * s)++cur.drop (i * s+(xs.drop ((i+1) * s)).length)):
  (C1.take (k * s)++Z++C1.drop (k * s+s)).take (k * s)=xs.take (i * s)++xs.drop ((i+1) * s):=by
 have m1:(k+1) * s=k * s+s:=by rw [Nat.add_mul,Nat.one_mul]
 have m2:(i+1) * s=i * s+s:=by rw [Nat.add_mul,Nat.one_mul]
 have m3:(k+1) * s<=cap * s:=Nat.mul_le_mul_right _ hk;have m4:i * s<=k * s:=Nat.mul_le_mul_right _ hi;have hxl:xs.length=(k+1) * s:=by rw [<-hx,tL,hcl];omega
 have e1:cur.take (i * s)=xs.take (i * s):=by rw [<-hx,List.take_take,Nat.min_eq_left (by omega)]
 have hl:(cur.take (i * s)++xs.drop ((i+1) * s)).length=k * s:=by
  rw [lP,tL,lD,hcl,hxl];omega
 have e2:C1.take (k * s)=cur.take (i * s)++xs.drop ((i+1) * s):=by rw [hC1];exact List.take_left' hl
 rw [e2,pA,List.take_left' hl,e1]
theorem Co (base g k cap i:Nat)(xs:List Wq)(w:Wz)(hown:w.ownsRow base 190 2 (.slice (some ⟨g,0,none⟩) (k+1) cap) (k+1) xs)(hi:i<=k)(hn:k<=2199023255552)(h1:∀u∈xs,u.oneCell'=true):
  Calls Yq.prog 117 #[.slice (some ⟨g,0,none⟩) (k+1) cap,.int .i64 i,.int .i64 ((i:Int)+1)] w fun e w'=>e=.returned (.slice (some ⟨g,0,none⟩) k cap) /\
   w'.ownsRow base 190 2 (.slice (some ⟨g,0,none⟩) k cap) k (xs.take (i * 2)++xs.drop ((i+1) * 2))/\w.grownBy w' (some g):=by
 obtain ⟨i0,hi0,hz0,hz1,hz2⟩:=info_parts Yq.infoKid;obtain ⟨hlen,hr⟩:=hown;rcases hr with ⟨h0,_⟩|⟨g',cap',cur,hv,hbg,hg,hnc,hcm,hcs,htake⟩
 .cases h0
 cases hv;obtain ⟨Z,hZ⟩:∃Z:List Wq,Z=(Value.agg #[.int .u8 0,.pointer none]).cells.toList:=⟨_,rfl⟩;obtain ⟨news,hnews⟩:∃news,news=xs.drop ((i+1) * 2):=⟨_,rfl⟩;have hnl:news.length=(k-i) * 2:=by rw [hnews,lD,hlen];omega
 obtain ⟨A,hA,hsrc⟩:∃A:Ww,(if cap=i+1 then some (⟨g,0,none⟩:Ww) else some ⟨g,(i+1) * 2,none⟩)=some A/\Hid (∀t u,news[t]?=some u->w.drew.cell? (A.add t)=some u):=by
  by_cases h:cap=i+1
  .refine ⟨⟨g,0,none⟩,by simp [h],fun t u hu=>?_⟩;have h0:news=[]:=List.eq_nil_of_length_eq_zero (by omega);rw [h0] at hu;simp at hu
  .refine ⟨⟨g,(i+1) * 2,none⟩,by simp [h],fun t u hu=>?_⟩;rw [Addr.add_lit,hnews,List.getElem?_drop,<-htake,List.getElem?_take] at *;have hu2:(if (i+1) * 2+t<(k+1) * 2 then cur.toList[(i+1) * 2+t]? else none)=some u:=hu;split at hu2
   .show w.cell? _=_;rw [World.cell?];simpa [hg] using hu2
   .cases hu2
 have hcl:cur.toList.length=cap * 2:=by rw [lY,hcs]
 obtain ⟨C1,hC1⟩:∃C1,C1=cur.toList.take (i * 2)++news++cur.toList.drop (i * 2+news.length):=⟨_,rfl⟩;have hC1l:C1.length=cap * 2:=by rw [hC1];simp only [lP,tL,lD,hcl,hnl];omega
 obtain ⟨W1,hW1⟩:∃W1,W1=w.drew.setRow g C1.toArray:=⟨_,rfl⟩;have hW1g:W1.heap[g]?=some (.cells C1.toArray 190 (0,0)):=by rw [hW1];exact setRow_heap w.drew g cur _ _ _ hg
 have hap:∀ty c,(Builtin.append_ #[157,157] ty #[.slice (some ⟨g,0,none⟩) i cap,.slice (some A) (k-i) c]).run Yq.prog w.drew=.ok (.slice (some ⟨g,0,none⟩) k cap) W1:=fun ty c=>by
  have:=run_append_room (P:=Yq.prog) w.drew 157 ty 190 i0 (Yq.u Tryz.underlying157) hi0 g i cap cur hg A (k-i) c news (by rw [hz1];exact hnl) hsrc.out (fun u hu=>h1 u (by rw [hnews] at hu;exact List.mem_of_mem_drop hu)) (by omega) (by rw [hz1,hnl,hcs];omega);rw [this,hz1,hW1,hC1,show i+(k-i)=k by omega]
 obtain ⟨C2,hC2⟩:∃C2,C2=C1.take (k * 2)++Z++C1.drop (k * 2+2):=⟨_,rfl⟩;obtain ⟨W2,hW2⟩:∃W2,W2=W1.setRow g C2.toArray:=⟨_,rfl⟩;have hcr:∀ty c,(Builtin.clear_ #[157] ty #[.slice (some ⟨g,k * 2,none⟩) 1 c]).run Yq.prog W1=.ok (.tuple #[]) W2:=fun ty c=>by
  rw [hW2,hC2,hZ];exact jP W1 157 190 ty (Value.agg #[.int .u8 0,.pointer none]) (Yq.u Tryz.underlying157) Yq.zeroKid (by simp [Value.cells,Value.oneCell']) g (k * 2) c C1.toArray _ hW1g (by simp [Value.cells,hC1l];omega)
 have hfin:W2.ownsRow base 190 2 (.slice (some ⟨g,0,none⟩) k cap) k (xs.take (i * 2)++xs.drop ((i+1) * 2)):=by
  rw [hW2];refine eF hbg (setRow_heap W1 g _ _ _ _ hW1g) (by omega) hcm ?_ ?_
  .rw [hC2,hZ];simp only [lZ,lP,tL,lD,hC1l,Value.cells,lC,lN];omega
  .rw [hC2];exact vW cur.toList xs C1 Z 2 k i cap hcl hnc hi htake (by rw [hC1,hnews])
 have hgr:w.grownBy W2 (some g):=by
  rw [hW2];refine bK (b:=W1) ?_ (cQ _ _ _);rw [hW1];exact bK (ge (World.grownBy.refl w _)) (cQ _ _ _)
 have hb0:(0:Int)<=(i:Int)+1:=by omega
 have hic:i<=cap:=by omega
 have hjc:i+1<=cap:=by omega
 have hkc:k+1<=cap:=hnc;have hc63:cap<=9223372036854775807:=by unfold maxLen at hcm;omega
 have hap':Hid (∀ty c,(Builtin.append_ #[157,157] ty #[.slice (some ⟨g,0,none⟩) i cap,.slice (some A) (k-i) c]).run Yq.prog w.drew=.ok (.slice (some ⟨g,0,none⟩) k cap) W1):=hap;clear hlen hg hcs htake hnews hnl hcl hC1 hC1l hW1 hW1g hap hnc hcm hC2 hW2 hZ h1;go_enter (Yq.nq Tryz.func117),Tryz.ntmps117;go_wp2_with fail
 go_region_law (refine dH rfl (.tmp 22) (.tmp 25) 157 157 rfl (.slice (some ⟨g,0,none⟩) i cap) (.slice (some A) (k-i) (cap-(i+1))) (by simp [Act.eval,Act.put]) (by simp [Act.eval,Act.put]) (hap'.out _ _) ?_)
 go_wp2;go_ret;exact ⟨rfl,hfin,hgr⟩
theorem Cp (base g k cap i:Nat)(xs:List Wq)(w:Wz)(hown:w.ownsRow base 81 3 (.slice (some ⟨g,0,none⟩) (k+1) cap) (k+1) xs)(hi:i<=k)(hn:k<=2199023255552)(h1:∀u∈xs,u.oneCell'=true):
  Calls Yq.prog 95 #[.slice (some ⟨g,0,none⟩) (k+1) cap,.int .i64 i,.int .i64 ((i:Int)+1)] w fun e w'=>e=.returned (.slice (some ⟨g,0,none⟩) k cap) /\
   w'.ownsRow base 81 3 (.slice (some ⟨g,0,none⟩) k cap) k (xs.take (i * 3)++xs.drop ((i+1) * 3))/\w.grownBy w' (some g):=by
 obtain ⟨i0,hi0,hz0,hz1,hz2⟩:=info_parts Yq.infoVer;obtain ⟨hlen,hr⟩:=hown;rcases hr with ⟨h0,_⟩|⟨g',cap',cur,hv,hbg,hg,hnc,hcm,hcs,htake⟩
 .cases h0
 cases hv;obtain ⟨Z,hZ⟩:∃Z:List Wq,Z=(Value.agg #[.int .i64 0,.string ⟨#[]⟩,.bool false]).cells.toList:=⟨_,rfl⟩;obtain ⟨news,hnews⟩:∃news,news=xs.drop ((i+1) * 3):=⟨_,rfl⟩;have hnl:news.length=(k-i) * 3:=by rw [hnews,lD,hlen];omega
 obtain ⟨A,hA,hsrc⟩:∃A:Ww,(if cap=i+1 then some (⟨g,0,none⟩:Ww) else some ⟨g,(i+1) * 3,none⟩)=some A/\Hid (∀t u,news[t]?=some u->w.drew.cell? (A.add t)=some u):=by
  by_cases h:cap=i+1
  .refine ⟨⟨g,0,none⟩,by simp [h],fun t u hu=>?_⟩;have h0:news=[]:=List.eq_nil_of_length_eq_zero (by omega);rw [h0] at hu;simp at hu
  .refine ⟨⟨g,(i+1) * 3,none⟩,by simp [h],fun t u hu=>?_⟩;rw [Addr.add_lit,hnews,List.getElem?_drop,<-htake,List.getElem?_take] at *;have hu2:(if (i+1) * 3+t<(k+1) * 3 then cur.toList[(i+1) * 3+t]? else none)=some u:=hu;split at hu2
   .show w.cell? _=_;rw [World.cell?];simpa [hg] using hu2
   .cases hu2
 have hcl:cur.toList.length=cap * 3:=by rw [lY,hcs]
 obtain ⟨C1,hC1⟩:∃C1,C1=cur.toList.take (i * 3)++news++cur.toList.drop (i * 3+news.length):=⟨_,rfl⟩;have hC1l:C1.length=cap * 3:=by rw [hC1];simp only [lP,tL,lD,hcl,hnl];omega
 obtain ⟨W1,hW1⟩:∃W1,W1=w.drew.setRow g C1.toArray:=⟨_,rfl⟩;have hW1g:W1.heap[g]?=some (.cells C1.toArray 81 (0,0)):=by rw [hW1];exact setRow_heap w.drew g cur _ _ _ hg
 have hap:∀ty c,(Builtin.append_ #[114,114] ty #[.slice (some ⟨g,0,none⟩) i cap,.slice (some A) (k-i) c]).run Yq.prog w.drew=.ok (.slice (some ⟨g,0,none⟩) k cap) W1:=fun ty c=>by
  have:=run_append_room (P:=Yq.prog) w.drew 114 ty 81 i0 (Yq.u Tryz.underlying114) hi0 g i cap cur hg A (k-i) c news (by rw [hz1];exact hnl) hsrc.out (fun u hu=>h1 u (by rw [hnews] at hu;exact List.mem_of_mem_drop hu)) (by omega) (by rw [hz1,hnl,hcs];omega);rw [this,hz1,hW1,hC1,show i+(k-i)=k by omega]
 obtain ⟨C2,hC2⟩:∃C2,C2=C1.take (k * 3)++Z++C1.drop (k * 3+3):=⟨_,rfl⟩;obtain ⟨W2,hW2⟩:∃W2,W2=W1.setRow g C2.toArray:=⟨_,rfl⟩;have hcr:∀ty c,(Builtin.clear_ #[114] ty #[.slice (some ⟨g,k * 3,none⟩) 1 c]).run Yq.prog W1=.ok (.tuple #[]) W2:=fun ty c=>by
  rw [hW2,hC2,hZ];exact jP W1 114 81 ty (Value.agg #[.int .i64 0,.string ⟨#[]⟩,.bool false]) (Yq.u Tryz.underlying114) Yq.zeroVer (by simp [Value.cells,Value.oneCell']) g (k * 3) c C1.toArray _ hW1g (by simp [Value.cells,hC1l];omega)
 have hfin:W2.ownsRow base 81 3 (.slice (some ⟨g,0,none⟩) k cap) k (xs.take (i * 3)++xs.drop ((i+1) * 3)):=by
  rw [hW2];refine eF hbg (setRow_heap W1 g _ _ _ _ hW1g) (by omega) hcm ?_ ?_
  .rw [hC2,hZ];simp only [lZ,lP,tL,lD,hC1l,Value.cells,lC,lN];omega
  .rw [hC2];exact vW cur.toList xs C1 Z 3 k i cap hcl hnc hi htake (by rw [hC1,hnews])
 have hgr:w.grownBy W2 (some g):=by
  rw [hW2];refine bK (b:=W1) ?_ (cQ _ _ _);rw [hW1];exact bK (ge (World.grownBy.refl w _)) (cQ _ _ _)
 have hb0:(0:Int)<=(i:Int)+1:=by omega
 have hic:i<=cap:=by omega
 have hjc:i+1<=cap:=by omega
 have hkc:k+1<=cap:=hnc;have hc63:cap<=9223372036854775807:=by unfold maxLen at hcm;omega
 have hap':Hid (∀ty c,(Builtin.append_ #[114,114] ty #[.slice (some ⟨g,0,none⟩) i cap,.slice (some A) (k-i) c]).run Yq.prog w.drew=.ok (.slice (some ⟨g,0,none⟩) k cap) W1):=hap;clear hlen hg hcs htake hnews hnl hcl hC1 hC1l hW1 hW1g hap hnc hcm hC2 hW2 hZ h1;go_enter (Yq.nq Tryz.func95),Tryz.ntmps95;go_wp2_with fail
 go_region_law (refine dH rfl (.tmp 22) (.tmp 25) 114 114 rfl (.slice (some ⟨g,0,none⟩) i cap) (.slice (some A) (k-i) (cap-(i+1))) (by simp [Act.eval,Act.put]) (by simp [Act.eval,Act.put]) (hap'.out _ _) ?_)
 go_wp2;go_ret;exact ⟨rfl,hfin,hgr⟩
def fe (base:Nat)(v:Wq)(i n:Nat)(xs:List Wq)(a b:Wq)(w:Wz)(e:Ending)(w':Wz):Prop:=
 ∃v',e=.returned v'/\w'.ownsRow base 190 2 v' (n+1) (xs.take (i * 2)++[a,b]++xs.drop (i * 2))/\w.grownBy w' v.ownBlock/\(v'.ownBlock=v.ownBlock\/∀k,v'.ownBlock=some k->w.heap.size<=k)
theorem dI {P:Program}(w:Wz){ops:Array Oper}{rest:List Oper}{o:Oper}{a:Act}{Q:Exit->Act->Wz->Prop}(hgd:o.guard=none)(s x:Operand)(t tn:Wk)
  (ho:o.op=.call {callee:=.builtin .append,args:=#[s,x],argTypes:=#[t,tn]}) (vs vx:Wq) (hs:a.eval s=vs) (hx:a.eval x=vx)
  {v':Wq} {w':Wz} (hr:(Builtin.append_ #[t,tn] o.type #[vs,vx]).run P w=.ok v' w') (h:wpList P ops Q rest (a.put o.dst v') w'):wpList P ops Q (o::rest) a w:=
 Lib.wpList_append_run w hgd s x t tn ho vs vx hs hx v' w' hr h
theorem EG (base:Nat)(v:Wq)(n:Nat)(xs:List Wq)(vb:Nat)(a b:Wq)(w:Wz)(hown:w.ownsRow base 190 2 v n xs)(hn:n<=1000)
    (hv0:w.cell? ⟨vb,0,none⟩=some a) (hv1:w.cell? ⟨vb,1,none⟩=some b) (h1:a.oneCell'=true/\b.oneCell'=true) (hbase:base<=w.heap.size):
    ∃v' w',(∀ty,(Builtin.append_ #[157,157] ty #[v,.slice (some ⟨vb,0,none⟩) 1 1]).run Yq.prog w=.ok v' w')/\fe base v n n xs a b w (.returned v') w':=by
  obtain ⟨i0,hi0,hz0,hz1,hz2⟩:=info_parts Yq.infoKid;have hnews:∀j u,[a,b][j]?=some u->w.cell? ((⟨vb,0,none⟩:Ww).add j)=some u:=by
    intro j u hj;rw [Addr.add_lit]
    match j,hj with
    | 0,hj=>simp at hj;subst hj;exact hv0
    | 1,hj=>simp at hj;subst hj;exact hv1
  have hone:∀u∈[a,b],u.oneCell'=true:=by intro u hu;simp at hu;rcases hu with rfl|rfl<;>simp [h1]
  have hlen:=hown.1;have hx:xs.take (n * 2)++[a,b]++xs.drop (n * 2)=xs++[a,b]:=by
    rw [tO (by omega),List.drop_eq_nil_of_le (by omega),List.append_nil]
  have hr:=fun ty=>run_append_own (P:=Yq.prog) w base 157 ty 190 i0 _ 2 16 (Yq.u Tryz.underlying157) hi0 hz0 hz1 hz2 rfl (by decide) v n xs hown ⟨vb,0,none⟩ 1 1 [a,b] rfl hnews hone (by simp only [maxLen];omega) (by omega) hbase
  rcases hown.2 with ⟨rfl,rfl⟩|⟨g,cap,cur,rfl,hbg,hg,hnc,hcm,hcs,htake⟩
  . have hxn:xs=[]:=List.eq_nil_of_length_eq_zero (by omega)
    subst hxn;refine ⟨_,_,fun ty=>run_append_nil (P:=Yq.prog) w 157 ty 190 i0 _ (Yq.u Tryz.underlying157) hi0 hz0 ⟨vb,0,none⟩ 1 1 [a,b] (by rw [hz1];rfl) hnews (by omega) (by omega) (by rw [hz2];omega),_,rfl,?_,?_,?_⟩
    . obtain ⟨v',w',hr',ho,hgr,_⟩:=hr 0
      rw [run_append_nil (P:=Yq.prog) w 157 0 190 i0 _ (Yq.u Tryz.underlying157) hi0 hz0 ⟨vb,0,none⟩ 1 1 [a,b] (by rw [hz1];rfl) hnews (by omega) (by omega) (by rw [hz2];omega)] at hr';cases hr';rw [hx];exact ho
    . exact bK (ge (World.grownBy.refl w _)) (World.grownBy_alloc _ _ _)
    . exact Or.inr (fun k hk=>by simp [Value.ownBlock] at hk;omega)
  . by_cases hroom:n+1<=cap
    . have hq:=fun ty=>run_append_room (P:=Yq.prog) w 157 ty 190 i0 (Yq.u Tryz.underlying157) hi0 g n cap cur hg ⟨vb,0,none⟩ 1 1 [a,b] (by rw [hz1];rfl) hnews hone hroom (by rw [hz1,hcs];simp;omega)
      refine ⟨_,_,hq,_,rfl,?_,?_,?_⟩
      . obtain ⟨v',w',hr',ho,hgr,_⟩:=hr 0
        rw [hq 0] at hr';cases hr';rw [hx];exact ho
      . exact cQ _ _ _
      . exact Or.inl rfl
    . have hq := fun ty => run_append_grow (P := Yq.prog) w 157 ty 190 i0 _ (Yq.u Tryz.underlying157) hi0 hz0 ⟨g, 0, none⟩ n cap xs (by rw [hz1]; exact hlen) (fun j u hj => by
          have:=hown.cells (g:=g) rfl j u hj;exact this) ⟨vb,0,none⟩ 1 1 [a,b] (by rw [hz1];rfl) hnews (by omega) (by omega) (growslice_fits (by omega) (by rw [hz2];omega))
      refine ⟨_,_,hq,_,rfl,?_,?_,?_⟩
      . obtain ⟨v',w',hr',ho,hgr,_⟩:=hr 0
        rw [hq 0] at hr';cases hr';rw [hx];exact ho
      . exact bK (ge (World.grownBy.refl w _)) (World.grownBy_alloc _ _ _)
      . exact Or.inr (fun k hk=>by simp [Value.ownBlock] at hk;omega)
theorem Cq (base:Nat)(v:Wq)(n:Nat)(xs:List Wq)(vb:Nat)(a b:Wq)(w:Wz)(hown:w.ownsRow base 190 2 v n xs)(hn:n<=1000)
  (hv0:w.cell? ⟨vb,0,none⟩=some a) (hv1:w.cell? ⟨vb,1,none⟩=some b) (h1:a.oneCell'=true/\b.oneCell'=true) (hbase:base<=w.heap.size):
  Calls Yq.prog 118 #[v,.int .i64 n,.slice (some ⟨vb,0,none⟩) 1 1] w (fe base v n n xs a b w):=by
 obtain ⟨v',w1,hr,hp⟩:=EG base v n xs vb a b w hown hn hv0 hv1 h1 hbase;obtain ⟨ad,cap,hv,hnc,hcm⟩:∃ad cap,v=.slice ad n cap/\n<=cap/\cap<=9223372036854775807:=by
  rcases hown.2 with ⟨rfl,rfl⟩|⟨g,cap,cur,rfl,hbg,hg,hnc,hcm,hcs,htake⟩
  .exact ⟨none,0,rfl,lR _,by omega⟩
  .exact ⟨_,cap,rfl,hnc,by unfold maxLen at hcm;omega⟩
 subst hv;have HP:Hid (fe base (.slice ad n cap) n n xs a b w (.returned v') w1):=hp;clear hp hown hv0 hv1 h1;have hr':Hid (∀ty,(Builtin.append_ #[157,157] ty #[.slice ad n cap,.slice (some ⟨vb,0,none⟩) 1 1]).run Yq.prog w=.ok v' w1):=hr;clear hr;by_cases hcn:cap=n
 .subst hcn;go_enter (Yq.nq Tryz.func118),Tryz.ntmps118;go_wp2_with (at_builtin;refine dI _ rfl _ _ 157 157 rfl _ _ rfl rfl (hr'.out _) ?_)
  go_ret;exact HP.out
 .go_enter (Yq.nq Tryz.func118),Tryz.ntmps118;go_wp2_with (at_builtin;refine dI _ rfl _ _ 157 157 rfl _ _ rfl rfl (hr'.out _) ?_)
  go_ret;exact HP.out
theorem Cr (g vb:Nat)(curK:Array Wq)(cv:Array Wq)(tv:Wk)(o la ca lb cb:Nat)(w:Wz)(hne:vb≠g)(hg:w.heap[g]?=some (.cells curK 190 (0,0)))(h0:curK.size≠0)(hv:w.heap[vb]?=some (.cells cv tv (0,0))):
  (callFunc 136 #[.slice (some ⟨vb,0,none⟩) la ca,.slice (some ⟨g,o,none⟩) lb cb]).run Yq.prog w=.ok (.value (.bool false)) w:=by
 rw [run_callFunc_extern (Yq.nq Tryz.func136) (by kernel_rfl) (by kernel_rfl) (by kernel_rfl) (e:=Extern.SlicesOverlaps.overlaps #[157,157] #[4]) (by kernel_rfl),
  Lib.run_overlaps_apart w 157 4 190 (Yq.u Tryz.underlying157) 2 (fun w=>Yq.s (Tryz.sizeOf190 w)) ⟨vb,0,none⟩ ⟨g,o,none⟩ la ca lb cb hne tv 190 cv.size curK.size (by simp [World.shape?,hv]) (by simp [World.shape?,hg]) h0 (by simp [World.frozen?,hv]) (by simp [World.frozen?,hv])]
 rfl
theorem Cs {α:Type}(cur xs C1 C2:List α)(n i cap:Nat)(a b:α)(hcl:cur.length=cap * 2)(hk:n+1<=cap)(hi:i<=n)(hx:cur.take (n * 2)=xs)
  (hC1:C1=cur.take ((i+1) * 2)++xs.drop (i * 2)++cur.drop ((i+1) * 2+(xs.drop (i * 2)).length)) (hC2:C2=C1.take (i * 2)++[a,b]++C1.drop (i * 2+2)):
  C2.length=cap * 2/\C2.take ((n+1) * 2)=xs.take (i * 2)++[a,b]++xs.drop (i * 2):=by
 have hxl:xs.length=n * 2:=by rw [<-hx,tL,hcl];omega
 have hdl:(xs.drop (i * 2)).length=(n-i) * 2:=by rw [lD,hxl];omega
 have e1:cur.take (i * 2)=xs.take (i * 2):=by rw [<-hx,List.take_take,Nat.min_eq_left (by omega)]
 have hA:(cur.take ((i+1) * 2)).length=(i+1) * 2:=by rw [tL,hcl];omega
 have hC1l:C1.length=cap * 2:=by rw [hC1];simp only [lP,lD,hA,hcl,hxl];omega
 have e2:C1.take (i * 2)=xs.take (i * 2):=by
  rw [hC1,pA,List.take_append_of_le_length (by omega),List.take_take,Nat.min_eq_left (by omega),e1]
 have e3:C1.drop (i * 2+2)=xs.drop (i * 2)++cur.drop ((i+1) * 2+(xs.drop (i * 2)).length):=by
  rw [hC1,pA];exact List.drop_left' (by rw [hA];omega)
 have hil:(xs.take (i * 2)).length=i * 2:=by rw [tL,hxl];omega
 refine ⟨?_,?_⟩
 .rw [hC2,lP,lP,e2,hil,lD,hC1l];simp;omega
 .rw [hC2,e2,e3,<-pA];exact List.take_left' (by simp only [lP,hil,hdl,lC,lN];omega)
theorem xR (base g n cap i:Nat)(xs:List Wq)(vb:Nat)(a b:Wq)(w:Wz)(hown:w.ownsRow base 190 2 (.slice (some ⟨g,0,none⟩) n cap) n xs)(hn:n<=1000)(hi:i<n)(hroom:n+1<=cap)
  (tv:Wk) (hv:w.heap[vb]?=some (.cells #[a,b] tv (0,0))) (hne:vb≠g) (h1:a.oneCell'=true/\b.oneCell'=true) (h1x:∀u∈xs,u.oneCell'=true):
  Calls Yq.prog 118 #[.slice (some ⟨g,0,none⟩) n cap,.int .i64 i,.slice (some ⟨vb,0,none⟩) 1 1] w (fe base (.slice (some ⟨g,0,none⟩) n cap) i n xs a b w):=by
 obtain ⟨i0,hi0,hz0,hz1,hz2⟩:=info_parts Yq.infoKid;obtain ⟨hlen,hr⟩:=hown;rcases hr with ⟨h0,_⟩|⟨g',cap',cur,hv',hbg,hg,hnc,hcm,hcs,htake⟩
 .cases h0
 cases hv';have hcl:cur.toList.length=cap * 2:=by rw [lY,hcs]
 obtain ⟨cs,hcsd⟩:∃cs,cs=xs.drop (i * 2):=⟨_,rfl⟩;have hdl:cs.length=(n-i) * 2:=by rw [hcsd,lD,hlen];omega
 obtain ⟨C1,hC1⟩:∃C1,C1=cur.toList.take ((i+1) * 2)++cs++cur.toList.drop ((i+1) * 2+cs.length):=⟨_,rfl⟩;obtain ⟨C2,hC2⟩:∃C2,C2=C1.take (i * 2)++[a,b]++C1.drop (i * 2+2):=⟨_,rfl⟩;obtain ⟨hC2l,hC2t⟩:=Cs cur.toList xs C1 C2 n i cap a b hcl hroom (by omega) htake (by rw [hC1,hcsd]) hC2;have hC1l:C1.length=cap * 2:=by rw [hC1];simp only [lP,tL,lD,hcl,hdl];omega
 obtain ⟨W1,hW1⟩:∃W1,W1=w.drew.setRow g C1.toArray:=⟨_,rfl⟩;obtain ⟨W2,hW2⟩:∃W2,W2=W1.setRow g C2.toArray:=⟨_,rfl⟩;have hW1g:W1.heap[g]?=some (.cells C1.toArray 190 (0,0)):=by rw [hW1];exact setRow_heap w.drew g cur _ _ _ hg
 have hov:∀lb cb,(callFunc 136 #[.slice (some ⟨vb,0,none⟩) 1 1,.slice (some ⟨g,(i+1) * 2,none⟩) lb cb]).run Yq.prog w=.ok (.value (.bool false)) w:=fun lb cb=>
  Cr g vb cur _ tv ((i+1) * 2) 1 1 lb cb w hne hg (by omega) hv
 have hcp1:∀ty dc sc,(Builtin.copy_ #[157,157] ty #[.slice (some ⟨g,(i+1) * 2,none⟩) (n-i) dc,.slice (some ⟨g,i * 2,none⟩) (n+1-i) sc]).run Yq.prog w.drew=.ok (goInt ((n-i:Nat):Int)) W1:=fun ty dc sc=>by
  have hm:Nat.min (n+1-i) (n-i)=n-i:=Nat.min_eq_right (by omega);rw [eE (P:=Yq.prog) w.drew 157 157 ty 190 i0 g ((i+1) * 2) (n-i) dc ⟨g,i * 2,none⟩ (n+1-i) sc cur 190 cs (Yq.u Tryz.underlying157) hi0 hg (by rw [hm,hz1,hdl])
   (fun j v hj=>by
    rw [Addr.add_lit];rw [hcsd,List.getElem?_drop,<-htake,List.getElem?_take] at hj;split at hj
    .show w.cell? _=_;rw [World.cell?];simpa [hg] using hj
    .cases hj)
   (by rw [hdl,hcs];omega) (fun v hv=>h1x v (by rw [hcsd] at hv;exact List.mem_of_mem_drop hv)),hW1,hC1,hm]
 have hcp2:∀ty dc,(Builtin.copy_ #[157,157] ty #[.slice (some ⟨g,i * 2,none⟩) (n+1-i) dc,.slice (some ⟨vb,0,none⟩) 1 1]).run Yq.prog W1=.ok (goInt 1) W2:=fun ty dc=>by
  have hm:Nat.min 1 (n+1-i)=1:=Nat.min_eq_left (by omega);have hvw:W1.heap[vb]?=some (.cells #[a,b] tv (0,0)):=by rw [hW1,setRow_other w.drew g vb _ hne];exact hv
  rw [eE (P:=Yq.prog) W1 157 157 ty 190 i0 g (i * 2) (n+1-i) dc ⟨vb,0,none⟩ 1 1 C1.toArray 190 [a,b] (Yq.u Tryz.underlying157) hi0 hW1g (by rw [hm,hz1];rfl)
   (fun j v hj=>by
    rw [Addr.add_lit,World.cell?];simpa [hvw] using hj)
   (by simp [hC1l];omega) (fun v hv=>by simp at hv;rcases hv with rfl|rfl<;>simp [h1]),hW2,hC2,hm]
  rfl
 have hfin:fe base (.slice (some ⟨g,0,none⟩) n cap) i n xs a b w (.returned (.slice (some ⟨g,0,none⟩) (n+1) cap)) W2:=by
  refine ⟨_,rfl,?_,?_,Or.inl rfl⟩
  .rw [hW2];exact eF hbg (setRow_heap W1 g _ _ _ _ hW1g) hroom hcm (by simp [hC2l]) (by simpa using hC2t)
  .rw [hW2];refine bK (b:=W1) ?_ (cQ _ _ _);rw [hW1];exact bK (ge (World.grownBy.refl w _)) (cQ _ _ _)
 have HP:Hid (fe base (.slice (some ⟨g,0,none⟩) n cap) i n xs a b w (.returned (.slice (some ⟨g,0,none⟩) (n+1) cap)) W2):=hfin;have h63:cap<=9223372036854775807:=by unfold maxLen at hcm;omega
 have hz2':¬((i:Int)=(n:Int)):=by omega
 have hc1:¬cap=i:=by omega
 have hc2:¬cap=i+1:=by omega
 have H1:Hid (∀ty dc sc,(Builtin.copy_ #[157,157] ty #[.slice (some ⟨g,(i+1) * 2,none⟩) (n-i) dc,.slice (some ⟨g,i * 2,none⟩) (n+1-i) sc]).run Yq.prog w.drew=.ok (goInt ((n-i:Nat):Int)) W1):=hcp1;have H2:Hid (∀ty dc,(Builtin.copy_ #[157,157] ty #[.slice (some ⟨g,i * 2,none⟩) (n+1-i) dc,.slice (some ⟨vb,0,none⟩) 1 1]).run Yq.prog W1=.ok (goInt 1) W2):=hcp2;have hw1:IntKind.i64.wrap ((i:Int)+1)=(i:Int)+1:=by rw [IntKind.wrap_i64];omega
 have hb0:(0:Int)<=(i:Int)+1:=by omega
 have htn:((i:Int)+1).toNat=i+1:=by omega
 have hb3:(i:Int)<=(n:Int)+1:=by omega
 have hb4:(i:Int)<=(n:Int):=by omega
 have hin:i<=n:=by omega
 clear hlen hg hcs htake hcl hcsd hdl hC1 hC2 hC2l hC2t hC1l hW1 hW2 hW1g hcp1 hcp2 hfin hv h1 h1x hnc hcm;go_enter (Yq.nq Tryz.func118),Tryz.ntmps118;go_wp2_with (simp only [hov])
 go_region_law (refine jQ rfl _ _ 157 157 rfl (.slice (some ⟨g,(i+1) * 2,none⟩) (n-i) (cap-(i+1))) (.slice (some ⟨g,i * 2,none⟩) (n+1-i) (cap-i)) (by simp [Act.eval,Act.put]) (by simp [Act.eval,Act.put]) (H1.out _ _ _) ?_)
 have h2:=H2.out;go_wp2;go_ret;exact HP.out
theorem Ai (base g n cap i:Nat)(xs:List Wq)(vb:Nat)(a b:Wq)(w:Wz)(hown:w.ownsRow base 190 2 (.slice (some ⟨g,0,none⟩) n cap) n xs)(hn:n<=1000)(hi:i<n)(hroom:cap<n+1)
  (tv:Wk) (hv:w.heap[vb]?=some (.cells #[a,b] tv (0,0))) (h1:a.oneCell'=true/\b.oneCell'=true) (h1x:∀u∈xs,u.oneCell'=true) (hbase:base<=w.heap.size):
  Calls Yq.prog 118 #[.slice (some ⟨g,0,none⟩) n cap,.int .i64 i,.slice (some ⟨vb,0,none⟩) 1 1] w (fe base (.slice (some ⟨g,0,none⟩) n cap) i n xs a b w):=by
 obtain ⟨i0,hi0,hz0,hz1,hz2⟩:=info_parts Yq.infoKid;obtain ⟨hlen,hr⟩:=hown;rcases hr with ⟨h0,_⟩|⟨g',cap',cur,hv',hbg,hg,hnc,hcm,hcs,htake⟩
 .cases h0
 cases hv';have hcn:cap=n:=by omega
 subst hcn;have hgl:g<w.heap.size:=(eS hg).1;have hvl:vb<w.heap.size:=(eS hv).1;have hcell:∀j u,xs[j]?=some u->w.cell? ⟨g,j,none⟩=some u:=fun j u hj=>by
  rw [<-htake,List.getElem?_take] at hj;split at hj
  .rw [World.cell?];simpa [hg] using hj
  .cases hj
 have hold:(Builtin.firstCells i0.size i (.slice (some ⟨g,0,none⟩) i cap)).run Yq.prog w.drew=.ok (xs.take (i * 2)).toArray w.drew:=by
  rw [hz1];exact run_firstCells_some w.drew 2 i ⟨g,0,none⟩ i cap (xs.take (i * 2)) (by rw [tL,hlen];omega) (fun j v hj=>by
   rw [Addr.add_lit,zA];rw [List.getElem?_take] at hj;split at hj
   .exact hcell j v hj
   .cases hj)
 have hkk:(cap:Int)+1-(i:Int)=((cap+1-i:Nat):Int):=by omega
 have hik:i+(cap+1-i)=cap+1:=by omega
 obtain ⟨G,hG⟩:∃G,G=grownCap w (cap+1) cap 190:=⟨_,rfl⟩;obtain ⟨Z1,hZ1⟩:∃Z1,Z1=(Builtin.zeroCells (Value.agg #[.int .u8 0,.pointer none]).cells (cap+1-i)):=⟨_,rfl⟩;obtain ⟨Z2,hZ2⟩:∃Z2,Z2=(Builtin.zeroCells (Value.agg #[.int .u8 0,.pointer none]).cells (G-(cap+1))):=⟨_,rfl⟩;have hZ1l:Z1.size=(cap+1-i) * 2:=by rw [hZ1,size_zeroCells];rfl
 have hZ2l:Z2.size=(G-(cap+1)) * 2:=by rw [hZ2,size_zeroCells];rfl
 obtain ⟨ROW,hROW⟩:∃ROW:Array Wq,ROW=(xs.take (i * 2)).toArray++Z1++Z2:=⟨_,rfl⟩;have hGn:cap+1<=G:=by rw [hG];exact grownCap_ge w _ _ _
 have hG63:G<=maxLen:=by rw [hG];exact grownCap_le_maxLen w (cap+1) cap 190 (by simp only [maxLen];omega)
 have hRl:ROW.size=G * 2:=by
  rw [hROW];simp only [Array.size_append,lZ,tL,hlen,hZ1l,hZ2l];omega
 obtain ⟨W0,hW0⟩:∃W0,W0=w.drew.alloc (.cells ROW 190):=⟨_,rfl⟩;have hrz:∀ty,(Builtin.append_ #[157,3] ty #[.slice (some ⟨g,0,none⟩) i cap,.int .i64 ((cap:Int)+1-(i:Int))]).run Yq.prog w =
   .ok (.slice (some ⟨w.heap.size,0,none⟩) (cap+1) G) W0:=fun ty=>by
  have h:=Lib.run_append_grow_zeros (P:=Yq.prog) w 157 3 ty 190 i0 _ .i64 .i64 (Yq.u Tryz.underlying157) (Yq.u Tryz.underlying3) hi0 hz0 (some ⟨g,0,none⟩) i cap (xs.take (i * 2)) hold (cap+1-i) (by omega) (by omega) (by omega) (by omega) (by rw [hz2];omega) (by rw [hz2,hik];exact growslice_fits (by omega) (by omega));rw [hik] at h;rw [hkk,h,hW0,hROW,hZ1,hZ2,hG]
 have hW0g:W0.heap[w.heap.size]?=some (.cells ROW 190 (0,0)):=by rw [hW0];exact heap_alloc_new w.drew _
 obtain ⟨C1,hC1⟩:∃C1,C1=ROW.toList.take (i * 2)++[a,b]++ROW.toList.drop (i * 2+2):=⟨_,rfl⟩;have hC1l:C1.length=G * 2:=by rw [hC1];simp only [lP,tL,lD,lY,hRl,lC,lN];omega
 obtain ⟨cs,hcsd⟩:∃cs,cs=xs.drop (i * 2):=⟨_,rfl⟩;have hdl:cs.length=(cap-i) * 2:=by rw [hcsd,lD,hlen];omega
 obtain ⟨C2,hC2⟩:∃C2,C2=C1.take ((i+1) * 2)++cs++C1.drop ((i+1) * 2+cs.length):=⟨_,rfl⟩;have hC2l:C2.length=G * 2:=by rw [hC2];simp only [lP,tL,lD,hC1l,hdl];omega
 have hxi:(xs.take (i * 2)).length=i * 2:=by rw [tL,hlen];omega
 have hC2t:C2.take ((cap+1) * 2)=xs.take (i * 2)++[a,b]++xs.drop (i * 2):=by
  have e0:ROW.toList.take (i * 2)=xs.take (i * 2):=by
   rw [hROW];simp only [Array.toList_append,pA];exact List.take_left' hxi
  have e1:C1.take ((i+1) * 2)=xs.take (i * 2)++[a,b]:=by
   rw [hC1,e0];exact List.take_left' (by simp only [lP,hxi,lC,lN];omega)
  rw [hC2,e1,hcsd];exact List.take_left' (by rw [<-hcsd];simp only [lP,hxi,hdl,lC,lN];omega)
 obtain ⟨W1,hW1⟩:∃W1,W1=W0.setRow w.heap.size C1.toArray:=⟨_,rfl⟩;have hW1g:W1.heap[w.heap.size]?=some (.cells C1.toArray 190 (0,0)):=by rw [hW1];exact setRow_heap W0 _ _ _ _ _ hW0g
 obtain ⟨W2,hW2⟩:∃W2,W2=W1.drew.setRow w.heap.size C2.toArray:=⟨_,rfl⟩;have hgW0:∀k,k<w.heap.size->W0.heap[k]?=w.heap[k]?:=fun k hk=>by rw [hW0];exact bA w.drew _ k hk
 have hcp1:∀ty dc,(Builtin.copy_ #[157,157] ty #[.slice (some ⟨w.heap.size,i * 2,none⟩) (cap+1-i) dc,.slice (some ⟨vb,0,none⟩) 1 1]).run Yq.prog W0=.ok (goInt 1) W1:=fun ty dc=>by
  have hm:Nat.min 1 (cap+1-i)=1:=Nat.min_eq_left (by omega);rw [eE (P:=Yq.prog) W0 157 157 ty 190 i0 w.heap.size (i * 2) (cap+1-i) dc ⟨vb,0,none⟩ 1 1 ROW 190 [a,b] (Yq.u Tryz.underlying157) hi0 hW0g (by rw [hm,hz1];rfl)
   (fun j v hj=>by
    have:=hgW0 vb hvl;rw [Addr.add_lit,World.cell?];simpa [this,hv] using hj)
   (by rw [hRl];simp;omega) (fun v hv=>by simp at hv;rcases hv with rfl|rfl<;>simp [h1]),hW1,hC1,hm]
  rfl
 have hcp2:∀ty dc sc,(Builtin.copy_ #[157,157] ty #[.slice (some ⟨w.heap.size,(i+1) * 2,none⟩) (cap-i) dc,.slice (some ⟨g,i * 2,none⟩) (cap-i) sc]).run Yq.prog W1.drew=.ok (goInt ((cap-i:Nat):Int)) W2:=fun ty dc sc=>by
  have hm:Nat.min (cap-i) (cap-i)=cap-i:=Nat.min_self _;rw [eE (P:=Yq.prog) W1.drew 157 157 ty 190 i0 w.heap.size ((i+1) * 2) (cap-i) dc ⟨g,i * 2,none⟩ (cap-i) sc C1.toArray 190 cs (Yq.u Tryz.underlying157) hi0 hW1g (by rw [hm,hz1,hdl])
   (fun j v hj=>by
    rw [Addr.add_lit];rw [hcsd,List.getElem?_drop] at hj;have hb:W1.heap[g]?=w.heap[g]?:=by rw [hW1,setRow_other W0 _ g _ (by omega)];exact hgW0 g hgl
    show W1.cell? _=_;rw [cB (w:=w) (w':=W1) (a:=⟨g,i * 2+j,none⟩) hb];exact hcell _ v hj)
   (by rw [hdl];simp [hC1l];omega) (fun v hv=>h1x v (by rw [hcsd] at hv;exact List.mem_of_mem_drop hv)),hW2,hC2,hm]
 have hfin:fe base (.slice (some ⟨g,0,none⟩) cap cap) i cap xs a b w (.returned (.slice (some ⟨w.heap.size,0,none⟩) (cap+1) G)) W2:=by
  refine ⟨_,rfl,?_,?_,Or.inr (fun k hk=>by simp [Value.ownBlock] at hk;omega)⟩
  .rw [hW2];exact eF hbase (setRow_heap W1.drew _ _ _ _ _ hW1g) hGn hG63 (by simp [hC2l]) (by simpa using hC2t)
  .have hs0:w.heap.size<=W0.heap.size:=by rw [hW0];simp
   refine ⟨by rw [hW2,hW1,hW0];rfl,by rw [hW2,hW1,hW0];rfl,by rw [hW2,hW1,hW0];rfl,by rw [hW2,hW1];simpa using hs0,fun k hk _=>?_⟩;rw [hW2,setRow_other _ _ k _ (by omega)];show W1.heap[k]?=_;rw [hW1,setRow_other _ _ k _ (by omega)];exact hgW0 k hk
 have HP:Hid (fe base (.slice (some ⟨g,0,none⟩) cap cap) i cap xs a b w (.returned (.slice (some ⟨w.heap.size,0,none⟩) (cap+1) G)) W2):=hfin;have hz2':¬((i:Int)=(cap:Int)):=by omega
 have hc1:¬cap=i:=by omega
 have hc2:¬G=i:=by omega
 have hc3:¬G=i+1:=by omega
 have hG63':G<=9223372036854775807:=by unfold maxLen at hG63;omega
 have H2:Hid (∀ty dc sc,(Builtin.copy_ #[157,157] ty #[.slice (some ⟨w.heap.size,(i+1) * 2,none⟩) (cap-i) dc,.slice (some ⟨g,i * 2,none⟩) (cap-i) sc]).run Yq.prog W1.drew=.ok (goInt ((cap-i:Nat):Int)) W2):=hcp2;have HR:Hid (∀ty,(Builtin.append_ #[157,3] ty #[.slice (some ⟨g,0,none⟩) i cap,.int .i64 ((cap:Int)+1-(i:Int))]).run Yq.prog w=.ok (.slice (some ⟨w.heap.size,0,none⟩) (cap+1) G) W0):=hrz;have hw1:IntKind.i64.wrap ((i:Int)+1)=(i:Int)+1:=by rw [IntKind.wrap_i64];omega
 have hb0:(0:Int)<=(i:Int)+1:=by omega
 have htn:((i:Int)+1).toNat=i+1:=by omega
 have hb3:(i:Int)<=(cap:Int)+1:=by omega
 have hb4:(i:Int)<=(cap:Int):=by omega
 have hin:i<=cap:=by omega
 clear hlen hg hcs htake hcsd hdl hC1 hC2 hC2l hC2t hC1l hW0 hW1 hW2 hW0g hW1g hcp2 hfin hv h1 h1x hnc hcm hold hkk hik hG hZ1 hZ2 hZ1l hZ2l hROW hRl hxi hgW0 hcell hrz hG63;go_enter (Yq.nq Tryz.func118),Tryz.ntmps118;go_wp2_with (at_builtin;refine dI _ rfl _ _ 157 3 rfl _ _ rfl rfl (HR.out _) ?_)
 go_region_law (refine jQ rfl _ _ 157 157 rfl (.slice (some ⟨w.heap.size,(i+1) * 2,none⟩) (cap-i) (G-(i+1))) (.slice (some ⟨g,i * 2,none⟩) (cap-i) (cap-i)) (by simp [Act.eval,Act.put]) (by simp [Act.eval,Act.put]) (H2.out _ _ _) ?_)
 go_wp2;go_ret;exact HP.out
theorem Ct (base:Nat)(v:Wq)(n i:Nat)(xs:List Wq)(vb:Nat)(a b:Wq)(w:Wz)(hown:w.ownsRow base 190 2 v n xs)(hn:n<=1000)(hi:i<=n)
  (tv:Wk) (hv:w.heap[vb]?=some (.cells #[a,b] tv (0,0))) (hne:v.ownBlock≠some vb) (h1:a.oneCell'=true/\b.oneCell'=true) (h1x:∀u∈xs,u.oneCell'=true) (hbase:base<=w.heap.size):
  Calls Yq.prog 118 #[v,.int .i64 i,.slice (some ⟨vb,0,none⟩) 1 1] w (fe base v i n xs a b w):=by
 by_cases hin:i=n
 .subst hin;exact Cq base v i xs vb a b w hown hn (by simp [World.cell?,hv]) (by simp [World.cell?,hv]) h1 hbase
 .rcases hown.2 with ⟨rfl,rfl⟩|⟨g,cap,cur,rfl,hbg,hg,hnc,hcm,hcs,htake⟩
  .omega
  .have hne':vb≠g:=fun e=>hne (by simp [Value.ownBlock,e])
   by_cases hroom:n+1<=cap
   .exact xR base g n cap i xs vb a b w hown hn (by omega) hroom tv hv hne' h1 h1x
   .exact Ai base g n cap i xs vb a b w hown hn (by omega) (by omega) tv hv h1 h1x hbase
theorem aw {w:Wz}{base:Nat}{e:Wk}{size:Nat}{v:Wq}{n:Nat}{xs:List Wq}(h:w.ownsRow base e size v n xs):∃a cap,v=.slice a n cap/\(a=none->cap=0):=by
 rcases h.2 with ⟨rfl,rfl⟩|⟨g,cap,cur,rfl,_⟩
 .exact ⟨none,0,rfl,fun _=>rfl⟩
 .exact ⟨_,cap,rfl,fun h=>by cases h⟩
structure Made (A:Nat->Prop)(n:Nat)(w w':Wz)(f:List UInt8->List Ver)(g:Nat)(hv kv:Wq)(ks:List (UInt8×Option Ww)):Prop where
 below:Below w.heap.size w w'
 node:w'.ownsRow w.heap.size 159 3 (.slice (some ⟨g,0,none⟩) 1 1) 1 [.bool (!(f []).isEmpty),hv,kv]
 kids:w'.ownsRow w.heap.size 190 2 kv ks.length (au ks)
 apart:kv.ownBlock≠some g
 hist:aT A w hv (f [])
 sorted:ks.Pairwise (fun a b=>a.1<b.1)
 child:∀c q,(c,q)∈ks->ai A n w q (fun k=>f (c::k))
 noKid:∀c,(∀q,(c,q) ∉ ks)->∀k,f (c::k)=[]
 noNil:∀c q,(c,q)∈ks->q≠none
theorem Aj (w:Wz):Calls Yq.prog 114 #[.pointer none] w fun e w'=>e=.returned (.pointer (some ⟨w.heap.size,0,none⟩))/\w'=w.alloc (.cells #[.bool false,.slice none 0 0,.slice none 0 0] 159):=by
 go_enter (Yq.nq Tryz.func114),Tryz.ntmps114;go_wp2;go_ret;exact ⟨rfl,rfl⟩
theorem xS (A:Nat->Prop)(g:Nat)(full:Bool)(ha:Option Ww)(hl hc:Nat)(ka:Option Ww)(kl kc:Nat)(ks:List (UInt8×Option Ww))(w:Wz)
  (c0:w.cell? ⟨g,0,none⟩=some (.bool full)) (c1:w.cell? ⟨g,1,none⟩=some (.slice ha hl hc)) (c2:w.cell? ⟨g,2,none⟩=some (.slice ka kl kc)) (hk:fZ A w (.slice ka kl kc) ks) (hn:ks.length<=256):
  Calls Yq.prog 114 #[.pointer (some ⟨g,0,none⟩)] w fun e w'=>∃w1 va vl vc,e=.returned (.pointer (some ⟨w1.heap.size,0,none⟩))/\w1.ownsRow w.heap.size 190 2 (.slice va vl vc) ks.length (au ks)/\Below w.heap.size w w1 /\
   w'=w1.alloc (.cells #[.bool full,.slice ha hl hc,.slice va vl vc] 159):=by
 have hcl:∀wq:Wz,wq.heap=w.heap->Calls Yq.prog 132 #[.slice ka kl kc] wq fun e w'=>∃v',e=.returned v'/\w'.ownsRow wq.heap.size 190 2 v' ks.length (au ks)/\Below wq.heap.size wq w':=fun wq hq=>
  xQ A _ ks wq (hk.keep (fun b hb _=>⟨hb,by rw [hq]⟩)) hn
 have HCL:Hid (∀wq:Wz,wq.heap=w.heap->Calls Yq.prog 132 #[.slice ka kl kc] wq fun e w'=>∃v',e=.returned v'/\w'.ownsRow wq.heap.size 190 2 v' ks.length (au ks)/\Below wq.heap.size wq w'):=hcl;clear hcl hk;go_enter (Yq.nq Tryz.func114),Tryz.ntmps114;go_wp2_with fail
 go_region_held3 (fun w'=>w'.cell? ⟨g,0,none⟩=some (.bool full)/\w'.cell? ⟨g,1,none⟩=some (.slice ha hl hc)/\w'.cell? ⟨g,2,none⟩=some (.slice ka kl kc)) (go_keep)
  (first|(go_at_call 132;refine (HCL.out _ ?_).mono ?_;rfl;rintro e w' ⟨v',rfl,hown,hb⟩;obtain ⟨va,vc,rfl,-⟩:=aw hown;have k0:=aj (W:=w.drew) hb c0;have k1:=aj (W:=w.drew) hb c1;have k2:=aj (W:=w.drew) hb c2))
 go_wp2;go_ret;exact ⟨w',va,_,vc,rfl,hown,(bR _ w).drew.trans hb,rfl⟩
theorem rN (w:Wz)(base:Nat)(x y z:Wq)(hb:base<=w.heap.size):(w.alloc (.cells #[x,y,z] 159)).ownsRow base 159 3 (.slice (some ⟨w.heap.size,0,none⟩) 1 1) 1 [x,y,z]:=
 World.ownsRow_lit w #[x,y,z] 1 hb (by simp only [maxLen];omega) rfl
theorem jR (A:Nat->Prop)(n:Nat)(p:Option Ww)(f:List UInt8->List Ver)(w:Wz)(h:ai A (n+1) w p f):
  Calls Yq.prog 114 #[.pointer p] w fun e w'=>∃g hv kv ks,e=.returned (.pointer (some ⟨g,0,none⟩))/\Made A n w w' f g hv kv ks:=by
 rcases h with ⟨rfl,h⟩|⟨g,hv,kv,ks,hp,hA,c0,c1,c2,hh,hks,hs,hch,hno⟩
 .refine (Aj w).mono ?_;rintro e w' ⟨rfl,rfl⟩;refine ⟨w.heap.size,.slice none 0 0,.slice none 0 0,[],rfl,(bR _ _).alloc (lR _) _,?_,World.ownsRow_nil _ _ _ _,by simp [Value.ownBlock],by rw [h];exact mF A w,List.Pairwise.nil,fun c q hq=>absurd hq List.not_mem_nil,fun c _ k=>h _,fun c q hq=>absurd hq List.not_mem_nil⟩;rw [h];exact rN w _ _ _ _ (lR _)
 .cases hp;have hh2:=hh;have hks2:=hks;obtain ⟨ha,hc,rfl,-⟩:=hh2;obtain ⟨ka,kc,rfl,-⟩:=hks2;refine (xS A g _ ha _ hc ka _ kc ks w c0 c1 c2 hks (kH ks hs)).mono ?_;rintro e w' ⟨w1,va,vl,vc,rfl,hown,hb,rfl⟩;refine ⟨w1.heap.size,_,_,ks,rfl,hb.alloc hb.size _,rN w1 _ _ _ _ hb.size,hown.alloc _,?_,hh,hs,hch,hno.1,hno.2⟩;intro e;have:=(hown.lt _ e).2;omega
def orP (full:Bool)(kl g:Nat):Option Ww:=if full=false/\kl=0 then none else some ⟨g,0,none⟩
theorem nC (g:Nat)(full:Bool)(ka:Option Ww)(kl kc:Nat)(w:Wz)(hkl:kl<=1000)
  (c0:w.cell? ⟨g,0,none⟩=some (.bool full)) (c2:w.cell? ⟨g,2,none⟩=some (.slice ka kl kc)):
  Calls Yq.prog 115 #[.pointer (some ⟨g,0,none⟩)] w fun e w'=>e=.returned (.pointer (orP full kl g))/\w'=w:=by
 cases full with
 |true=>
  go_enter (Yq.nq Tryz.func115),Tryz.ntmps115;go_wp2;go_ret;exact ⟨by simp [orP],rfl⟩
 |false=>
  by_cases h0:kl=0
  .subst h0;go_enter (Yq.nq Tryz.func115),Tryz.ntmps115;go_wp2;go_ret;exact ⟨by simp [orP],rfl⟩
  .have h0':((kl:Int)==0)=false:=by simp;omega
   go_enter (Yq.nq Tryz.func115),Tryz.ntmps115;go_wp2;go_ret;exact ⟨by simp [orP,h0],rfl⟩
theorem nD {α:Type}(m:Nat)(g:α->List Wq)(hg:∀a,(g a).length=m)(l:List α)(i:Nat):(l.flatMap g).take (i * m)=(l.take i).flatMap g:=by
 induction l generalizing i with
 |nil=>simp
 |cons a l ih=>
  cases i with
  |zero=>simp
  |succ i=>
   rw [List.flatMap_cons,List.take_succ_cons,List.flatMap_cons,List.take_append,hg];have e:(i+1) * m-m=i * m:=by rw [Nat.add_mul,Nat.one_mul];omega
   rw [e,ih,tO (by rw [hg,Nat.add_mul,Nat.one_mul];omega)]
theorem nE {α:Type}(m:Nat)(g:α->List Wq)(hg:∀a,(g a).length=m)(l:List α)(i:Nat):(l.flatMap g).drop (i * m)=(l.drop i).flatMap g:=by
 induction l generalizing i with
 |nil=>simp
 |cons a l ih=>
  cases i with
  |zero=>simp
  |succ i=>
   rw [List.flatMap_cons,List.drop_succ_cons,List.drop_append,hg];have e:(i+1) * m-m=i * m:=by rw [Nat.add_mul,Nat.one_mul];omega
   rw [e,ih,List.drop_eq_nil_of_le (by rw [hg,Nat.add_mul,Nat.one_mul];omega),List.nil_append]
theorem rO (ks:List (UInt8×Option Ww))(r:Nat)(c:UInt8)(q:Option Ww):
  (au ks).take (r * 2)++[.int .u8 (c.toNat:Int),.pointer q]++(au ks).drop (r * 2)=au (ks.take r++(c,q)::ks.drop r):=by
 unfold au;rw [nD 2 _ (fun _=>rfl),nE 2 _ (fun _=>rfl)];simp
theorem rP (ks:List (UInt8×Option Ww))(r:Nat):(au ks).take (r * 2)++(au ks).drop ((r+1) * 2)=au (ks.take r++ks.drop (r+1)):=by
 unfold au;rw [nD 2 _ (fun _=>rfl),nE 2 _ (fun _=>rfl)];simp
theorem rQ (h:List Ver)(r:Nat):(aC h).take (r * 3)++(aC h).drop ((r+1) * 3)=aC (h.take r++h.drop (r+1)):=by
 unfold aC;rw [nD 3 _ (fun _=>rfl),nE 3 _ (fun _=>rfl)];simp
theorem rR (ks:List (UInt8×Option Ww))(r:Nat)(c:UInt8)(q:Option Ww)(hr:r<ks.length)(hc:ks[r].1=c):(au ks).set (r * 2+1) (.pointer q)=au (ks.take r++(c,q)::ks.drop (r+1)):=by
 have e1:ks=ks.take r++ks[r]::ks.drop (r+1):=by rw [List.getElem_cons_drop,List.take_append_drop]
 have hl:(au (ks.take r)).length=r * 2:=by rw [dY,tL,Nat.min_eq_left (by omega)]
 have e2:au ks=au (ks.take r)++(.int .u8 (c.toNat:Int) :: .pointer ks[r].2::au (ks.drop (r+1))):=by
  have e4:∀ (A B:List (UInt8×Option Ww)) (x:UInt8×Option Ww),au (A++x::B)=au A++(.int .u8 (x.1.toNat:Int) :: .pointer x.2::au B):=fun A B x=>by simp [au]
  conv=>lhs;rw [e1]
  rw [e4,hc]
 have e3:au (ks.take r++(c,q)::ks.drop (r+1))=au (ks.take r)++(.int .u8 (c.toNat:Int) :: .pointer q::au (ks.drop (r+1))):=by simp [au]
 rw [e2,e3,List.set_append_right _ _ (by omega),hl];have:r * 2+1-r * 2=1:=by omega
 rw [this];rfl
def aE (ks:List (UInt8×Option Ww))(r:Nat)(c:UInt8)(q:Option Ww)(d:Nat):List (UInt8×Option Ww):=ks.take r++(c,q)::ks.drop (r+d)
theorem gE {ks:List (UInt8×Option Ww)}{c:UInt8}{r:Nat}(hs:ks.Pairwise (fun a b=>a.1<b.1))(hp:Place ks c r)(q:Option Ww)(d:Nat)(hd:d=if mE ks c r then 1 else 0):(aE ks r c q d).Pairwise (fun a b=>a.1<b.1):=by
 unfold aE;rw [List.pairwise_append];have hlo:∀x∈ks.take r,x.1<c:=by
  intro x hx;obtain ⟨j,hj,e⟩:=gM hx;rw [tL] at hj;rw [List.getElem_take] at e;rw [<-e];exact hp.lo j (by omega) (by omega)
 have hhi:∀x∈ks.drop (r+d),c<x.1:=by
  intro x hx;obtain ⟨j,hj,e⟩:=gM hx;rw [lD] at hj;rw [List.getElem_drop] at e;have h1:=hp.hi (r+d+j) (by omega) (by omega);rw [e] at h1;by_cases hne:c=x.1
  .exfalso;cases hat:mE ks c r with
   |true=>
    rw [hat] at hd;obtain ⟨hr,hrc⟩:=Place.mem hat;have h2:=jr hs r (r+d+j) (by simp at hd;omega) (by omega);rw [hrc,e,hne] at h2;omega
   |false=>
    have:=hp.nomem hs hat x.2;rw [hne] at this;exact this (List.mem_of_mem_drop hx)
  .have:=UInt8.le_iff_toNat_le.1 h1;have hn:c.toNat≠x.1.toNat:=fun h=>hne (UInt8.toNat_inj.1 h)
   exact UInt8.lt_iff_toNat_lt.2 (by omega)
 refine ⟨hs.sublist (List.take_sublist _ _),?_,?_⟩
 .rw [List.pairwise_cons];exact ⟨fun x hx=>hhi x hx,hs.sublist (List.drop_sublist _ _)⟩
 .intro x hx y hy;rcases List.mem_cons.1 hy with rfl|hy
  .exact hlo x hx
  .have h1:=UInt8.lt_iff_toNat_lt.1 (hlo x hx);have h2:=UInt8.lt_iff_toNat_lt.1 (hhi y hy);exact UInt8.lt_iff_toNat_lt.2 (by omega)
theorem uz {ks:List (UInt8×Option Ww)}(hs:ks.Pairwise (fun a b=>a.1<b.1)){c:UInt8}{p q:Option Ww}(hp:(c,p)∈ks)(hq:(c,q)∈ks):p=q:=by
 obtain ⟨i,hi,ei⟩:=gM hp;obtain ⟨j,hj,ej⟩:=gM hq;by_cases hij:i=j
 .subst hij;rw [ei] at ej;cases ej;rfl
 .rcases Nat.lt_or_gt_of_ne hij with h|h
  .have:=jr hs i j h hj;rw [ei,ej] at this;simp at this
  .have:=jr hs j i h hi;rw [ei,ej] at this;simp at this
theorem oQ {ks:List (UInt8×Option Ww)}{c:UInt8}{r:Nat}(hs:ks.Pairwise (fun a b=>a.1<b.1))(hp:Place ks c r)(q:Option Ww)(d:Nat)(hd:d=if mE ks c r then 1 else 0)(c':UInt8)(x:Option Ww)
  (hm:(c',x)∈aE ks r c q d):(c'=c/\x=q)\/(c'≠c/\(c',x)∈ks):=by
 by_cases hc:c'=c
 .subst hc;exact Or.inl ⟨rfl,uz (gE hs hp q d hd) hm (by unfold aE;simp)⟩
 .refine Or.inr ⟨hc,?_⟩;unfold aE at hm;rcases List.mem_append.1 hm with h|h
  .exact List.mem_of_mem_take h
  .rcases List.mem_cons.1 h with h|h
   .cases h;exact absurd rfl hc
   .exact List.mem_of_mem_drop h
theorem rT {ks:List (UInt8×Option Ww)}{c:UInt8}{r:Nat}(_hs:ks.Pairwise (fun a b=>a.1<b.1))(q:Option Ww)(d:Nat)(hd:d=if mE ks c r then 1 else 0)(c':UInt8)
  (hm:∀x,(c',x) ∉ aE ks r c q d):c'≠c/\∀x,(c',x) ∉ ks:=by
 have hc:c'≠c:=fun e=>hm q (by subst e;unfold aE;simp)
 refine ⟨hc,fun x hx=>hm x ?_⟩;unfold aE;cases hat:mE ks c r with
 |false=>
  rw [hat] at hd;have:d=0:=by simpa using hd
  subst this;rw [Nat.add_zero,List.mem_append,List.mem_cons];rw [<-List.take_append_drop r ks,List.mem_append] at hx;exact hx.imp id Or.inr
 |true=>
  rw [hat] at hd;have:d=1:=by simpa using hd
  subst this;obtain ⟨hr,hrc⟩:=Place.mem hat;have e1:ks=ks.take r++ks[r]::ks.drop (r+1):=by rw [List.getElem_cons_drop,List.take_append_drop]
  rw [e1,List.mem_append,List.mem_cons] at hx;rw [List.mem_append,List.mem_cons];rcases hx with h|h|h
  .exact Or.inl h
  .rw [<-h] at hrc;exact absurd hrc hc
  .exact Or.inr (Or.inr h)
def upd (f:List UInt8->List Ver)(key:List UInt8)(h:List Ver):List UInt8->List Ver:=fun k=>if k=key then h else f k
theorem vX (key:ByteArray)(h:0<key.size):key.data.toList=key[0]::(key.extract 1 key.size).data.toList:=by
 have e:(key.extract 1 key.size).data.toList=key.data.toList.drop 1:=by
  simp;exact tO (by simp)
 rw [e];have hl:0<key.data.toList.length:=by simpa using h
 exact (List.getElem_cons_drop hl).symm
theorem cR {R:Nat->Prop}{w:Wz}{base:Nat}{v:Wq}{ks:List (UInt8×Option Ww)}{n:Nat}(hn:n=ks.length)(h:w.ownsRow base 190 2 v n (au ks))(hR:∀k,v.ownBlock=some k->R k):fZ R w v ks:=by
 subst hn;rcases h.2 with ⟨rfl,h0⟩|⟨g,cap,cur,rfl,hbg,hg,hnc,hcm,hcs,htake⟩
 .have:ks=[]:=List.length_eq_zero_iff.1 h0;subst this;exact ⟨none,0,rfl,fun _=>rfl,fun h=>absurd rfl h⟩
 .refine ⟨_,cap,rfl,(fun h=>by cases h),fun _=>⟨g,rfl,hR g rfl,(eS hg).1,fun j hj=>?_⟩⟩;rw [dY] at hj;exact h.cellAt j hj
theorem lI {R:Nat->Prop}{w:Wz}{base:Nat}{v:Wq}{h:List Ver}{n:Nat}(hn:n=h.length)(ho:w.ownsRow base 81 3 v n (aC h))(hR:∀k,v.ownBlock=some k->R k):aT R w v h:=by
 subst hn;rcases ho.2 with ⟨rfl,h0⟩|⟨g,cap,cur,rfl,hbg,hg,hnc,hcm,hcs,htake⟩
 .have:h=[]:=List.length_eq_zero_iff.1 h0;subst this;exact ⟨none,0,rfl,fun _=>rfl,fun h=>absurd rfl h⟩
 .refine ⟨_,cap,rfl,(fun h=>by cases h),fun _=>⟨g,rfl,hR g rfl,(eS hg).1,fun j hj=>?_⟩⟩;rw [fv] at hj;exact ho.cellAt j hj
theorem bH {w:Wz}{base g:Nat}{x y z:Wq}(h:w.ownsRow base 159 3 (.slice (some ⟨g,0,none⟩) 1 1) 1 [x,y,z]):
  (w.cell? ⟨g,0,none⟩=some x/\w.cell? ⟨g,1,none⟩=some y/\w.cell? ⟨g,2,none⟩=some z)/\∀j,w.frozen? ⟨g,j,none⟩=false:=
 ⟨⟨h.cellAt 0 (by omega),h.cellAt 1 (by omega),h.cellAt 2 (by omega)⟩,fun j=>h.frozenAt j⟩
def Grow (A:Nat->Prop)(w:Wz):Nat->Prop:=fun b=>(A b/\b<w.heap.size)\/w.heap.size<=b
def EH (n:Nat):Prop:=∀ (A:Nat->Prop)(p:Option Ww)(f:List UInt8->List Ver)(key:ByteArray)(hv:Wq)(h:List Ver)(w:Wz),ai A n w p f->key.size<n->key.size<=1000->aT A w hv h->h≠[] ->
 Calls Yq.prog 94 #[.pointer p,.string key,hv] w fun e w'=>∃g,e=.returned (.pointer (some ⟨g,0,none⟩))/\Below w.heap.size w w'/\ai (Grow A w) n w' (some ⟨g,0,none⟩) (upd f key.data.toList h)
theorem iP {A:Nat->Prop}{w w':Wz}(hb:Below w.heap.size w w'):∀b,A b->b<w.heap.size->Grow A w b/\w'.heap[b]?=w.heap[b]?:=
 fun b ha hlt=>⟨Or.inl ⟨ha,hlt⟩,hb.block b hlt⟩
theorem Ak (f:List UInt8->List Ver)(h:List Ver):upd f [] h []=h:=by simp [upd]
theorem lK (f:List UInt8->List Ver)(h:List Ver)(c:UInt8)(k:List UInt8):upd f [] h (c::k)=f (c::k):=by simp [upd]
theorem iy (f:List UInt8->List Ver)(h:List Ver)(c:UInt8)(k:List UInt8):upd f (c::k) h []=f []:=by simp [upd]
theorem upd_same (f:List UInt8->List Ver)(h:List Ver)(c:UInt8)(k:List UInt8):(fun x=>upd f (c::k) h (c::x))=upd (fun x=>f (c::x)) k h:=by funext x;simp [upd]
theorem nG (f:List UInt8->List Ver)(h:List Ver)(c d:UInt8)(k:List UInt8)(hne:d≠c):(fun x=>upd f (c::k) h (d::x))=fun x=>f (d::x):=by funext x;simp [upd,hne]
theorem oR {n:Nat}{A:Nat->Prop}{w w1:Wz}{f:List UInt8->List Ver}{g:Nat}{hv0 kv:Wq}{ks:List (UInt8×Option Ww)}(M:Made A n w w1 f g hv0 kv ks)(b:Bool)(hv:Wq)(h:List Ver)(hh:aT A w hv h)(hb:b=!h.isEmpty)(w2:Wz)
  (hw:w2=(w1.setCell ⟨g,0,none⟩ (.bool b)).setCell ⟨g,1,none⟩ hv):
  Below w.heap.size w w2/\ai (Grow A w) (n+1) w2 (some ⟨g,0,none⟩) (upd f [] h):=by
 subst hw;have hg:=M.node.lt g rfl;have s1:=M.node.stored 0 (.bool b);have s2:=s1.1.stored 1 hv;simp only [List.set_cons_zero,List.set_cons_succ] at s2;have hbl:Below w.heap.size w ((w1.setCell ⟨g,0,none⟩ (.bool b)).setCell ⟨g,1,none⟩ hv):=(M.below.setCell hg.1 _).setCell hg.1 _;have hgr:=bK s1.2 s2.2;obtain ⟨⟨c0,c1,c2⟩,fz⟩:=bH s2.1;have hk:=M.kids.kept hgr (Or.inr M.apart);refine ⟨hbl,Or.inr ⟨g,hv,kv,ks,rfl,Or.inr hg.1,?_,c1,c2,?_,?_,M.sorted,?_,?_,M.noNil⟩⟩
 .rw [Ak,<-hb];exact c0
 .rw [Ak];exact bD.keep hh (iP hbl)
 .exact cR rfl hk (fun k e=>Or.inr (M.kids.lt k e).1)
 .intro c q hq;have:(fun k=>upd f [] h (c::k))=fun k=>f (c::k):=by funext k;exact lK f h c k
  rw [this];exact ai.keep (iP hbl) n q _ (M.child c q hq)
 .intro c hc k;rw [lK];exact M.noKid c hc k
theorem uA (n:Nat)(A:Nat->Prop)(p:Option Ww)(f:List UInt8->List Ver)(key:ByteArray)(hv:Wq)(h:List Ver)(w:Wz)(hN:ai A (n+1) w p f)(hk:key.size=0)(hh:aT A w hv h)(hne:h≠[]):
  Calls Yq.prog 94 #[.pointer p,.string key,hv] w fun e w'=>∃g,e=.returned (.pointer (some ⟨g,0,none⟩))/\Below w.heap.size w w'/\ai (Grow A w) (n+1) w' (some ⟨g,0,none⟩) (upd f key.data.toList h):=by
 have hfr:=jR A n p f w hN;have hkl:key.data.toList=[]:=List.eq_nil_of_length_eq_zero (by simpa using hk);have hke:key.toList.isEmpty=true:=by rw [ByteArray.toList_eq,hkl];rfl
 have hh2:=hh;obtain ⟨ha,hc,rfl,-⟩:=hh2;have HKL:Hid (key.data.toList=[]/\aT A w (.slice ha h.length hc) h):=⟨hkl,hh⟩;clear hkl hk hN hh;go_enter (Yq.nq Tryz.func94),Tryz.ntmps94;go_wp2_with fail
 refine hfr.mono ?_;rintro e w1 ⟨g,hv0,kv,ks,rfl,M⟩;obtain ⟨⟨c0,c1,c2⟩,fz⟩:=bH M.node;have f0:=fz 0;have f1:=fz 1;clear hfr;go_wp2;go_ret;have hd:=oR M true _ h HKL.out.2 (by simp [hne]) _ rfl;rw [HKL.out.1];exact ⟨g,rfl,hd⟩
structure Rdy (A:Nat->Prop)(n:Nat)(w w3:Wz)(f:List UInt8->List Ver)(g:Nat)(hv0:Wq)(k cap:Nat)(ks:List (UInt8×Option Ww))(r:Nat)(c:UInt8)(q:Option Ww)(d:Nat):Prop where
 below:Below w.heap.size w w3
 node:w3.ownsRow w.heap.size 159 3 (.slice (some ⟨g,0,none⟩) 1 1) 1 [.bool (!(f []).isEmpty),hv0,.slice (some ⟨k,0,none⟩) (aE ks r c q d).length cap]
 kids:w3.ownsRow w.heap.size 190 2 (.slice (some ⟨k,0,none⟩) (aE ks r c q d).length cap) (aE ks r c q d).length (au (aE ks r c q d))
 apart:k≠g
 hist:aT A w hv0 (f [])
 sorted:ks.Pairwise (fun a b=>a.1<b.1)
 place:Place ks c r
 isd:d=if mE ks c r then 1 else 0
 child:∀c q,(c,q)∈ks->ai A n w q (fun k=>f (c::k))
 noKid:∀c,(∀q,(c,q) ∉ ks)->∀k,f (c::k)=[]
 noNil:∀c q,(c,q)∈ks->q≠none
 this:ai A n w q (fun k=>f (c::k))
theorem gg {ks:List (UInt8×Option Ww)}{r:Nat}{c:UInt8}{q:Option Ww}{d:Nat}(hr:r<=ks.length):r<(aE ks r c q d).length:=by
 unfold aE;rw [lP,tL,lC];omega
theorem kK {ks:List (UInt8×Option Ww)}{r:Nat}{c:UInt8}{q:Option Ww}{d:Nat}(hr:r<=ks.length):(aE ks r c q d)[r]'(gg hr)=(c,q):=by
 have e:(aE ks r c q d)[r]?=some (c,q):=by
  have e:r-(ks.take r).length=0:=by rw [tL];omega
  unfold aE;rw [aR (by rw [tL];omega),e];rfl
 exact (sL e).2
theorem xT {ks:List (UInt8×Option Ww)}{r:Nat}{c:UInt8}{q q':Option Ww}{d:Nat}(hr:r<=ks.length):(aE ks r c q d).take r++(c,q')::(aE ks r c q d).drop (r+1)=aE ks r c q' d:=by
 have hl:(ks.take r).length=r:=by rw [tL];omega
 unfold aE;rw [List.take_left' hl,show (ks.take r++(c,q)::ks.drop (r+d))=(ks.take r++[(c,q)])++ks.drop (r+d) by simp,List.drop_left' (by simp [hl])]
theorem gF {ks:List (UInt8×Option Ww)}{r:Nat}{c:UInt8}{q q':Option Ww}{d:Nat}:(aE ks r c q d).length=(aE ks r c q' d).length:=by
 unfold aE;simp
theorem Rdy.cells {A:Nat->Prop}{n:Nat}{w w3:Wz}{f:List UInt8->List Ver}{g:Nat}{hv0:Wq}{k cap:Nat}{ks:List (UInt8×Option Ww)}{r:Nat}{c:UInt8}{q:Option Ww}{d:Nat}(R:Rdy A n w w3 f g hv0 k cap ks r c q d):
  w3.cell? ⟨g,2,none⟩=some (.slice (some ⟨k,0,none⟩) (aE ks r c q d).length cap)/\w3.cell? ⟨k,r * 2+1,none⟩=some (.pointer q)/\w3.frozen? ⟨k,r * 2+1,none⟩=false/\(aE ks r c q d).length<=256:=by
 obtain ⟨⟨c0,c1,c2⟩,fz⟩:=bH R.node;have hk:fZ (fun _=>True) w3 _ (aE ks r c q d):=cR rfl R.kids (fun _ _=>trivial);have hlt:=gg (c:=c) (q:=q) (d:=d) R.place.le;have hne:aE ks r c q d≠[]:=by intro e;rw [e] at hlt;simp at hlt
 obtain ⟨g',cap',he,-,-,hc,-⟩:=hk.cells hne;cases he;refine ⟨c2,?_,R.kids.frozenAt _,kH _ (gE R.sorted R.place q d R.isd)⟩;have:=(hc r hlt).2;rw [kK R.place.le] at this;exact this
theorem Rdy.done {A:Nat->Prop}{n:Nat}{w w3:Wz}{f:List UInt8->List Ver}{g:Nat}{hv0:Wq}{k cap:Nat}{ks:List (UInt8×Option Ww)}{r:Nat}{c:UInt8}{q:Option Ww}{d:Nat}(R:Rdy A n w w3 f g hv0 k cap ks r c q d)
  (w4:Wz) (hb:Below w3.heap.size w3 w4) (q':Option Ww) (F:List UInt8->List Ver) (hF0:F []=f []) (hFo:∀c',c'≠c->(fun x=>F (c'::x))=fun x=>f (c'::x))
  (hq:ai (Grow (fun b=>A b/\b<w.heap.size) w3) n w4 q' (fun x=>F (c::x))) (wf:Wz) (hwf:wf=w4.setCell ⟨k,r * 2+1,none⟩ (.pointer q')):
  Below w.heap.size w wf/\(q'≠none->ai (Grow A w) (n+1) wf (some ⟨g,0,none⟩) F) /\
   wf.ownsRow w.heap.size 159 3 (.slice (some ⟨g,0,none⟩) 1 1) 1 [.bool (!(f []).isEmpty),hv0,.slice (some ⟨k,0,none⟩) (aE ks r c q' d).length cap] /\
   wf.ownsRow w.heap.size 190 2 (.slice (some ⟨k,0,none⟩) (aE ks r c q' d).length cap) (aE ks r c q' d).length (au (aE ks r c q' d)):=by
 subst hwf;have hgk:=R.kids.lt k rfl;have hgg:=R.node.lt g rfl;have hb34:w3.grownBy w4 none:=⟨hb.os,hb.tape,hb.output,hb.size,fun i hi _=>hb.block i hi⟩;have n4:=R.node.kept hb34 (by simp [Value.ownBlock]);have k4:=R.kids.kept hb34 (by simp [Value.ownBlock]);have k5:=k4.stored (r * 2+1) (.pointer q');have n5:=n4.kept k5.2 (Or.inr (by simp [Value.ownBlock];exact fun e=>R.apart e.symm));rw [rR _ r c q' (gg R.place.le) (by rw [kK R.place.le]),xT R.place.le,gF (q':=q')] at k5;rw [gF (q':=q')] at n5;have hbl:Below w.heap.size w (w4.setCell ⟨k,r * 2+1,none⟩ (.pointer q')):=(R.below.trans (hb.mono R.below.size)).setCell hgk.1 _;obtain ⟨⟨c0,c1,c2⟩,-⟩:=bH n5;refine ⟨hbl,fun hq0=>Or.inr ⟨g,hv0,_,aE ks r c q' d,rfl,Or.inr hgg.1,by rw [hF0];exact c0,c1,c2,by rw [hF0];exact bD.keep R.hist (iP hbl),?_,gE R.sorted R.place q' d R.isd,?_,?_,?_⟩,n5,k5.1⟩
 .exact cR rfl k5.1 (fun j e=>by simp [Value.ownBlock] at e;subst e;exact Or.inr hgk.1)
 .intro c' x hx;rcases oQ R.sorted R.place q' d R.isd c' x hx with ⟨rfl,rfl⟩|⟨hne,hm⟩
  .refine ai.keep (fun b hb1 hb2=>?_) n x _ hq;rcases hb1 with ⟨⟨hA,hlt⟩,_⟩|hge
   .exact ⟨Or.inl ⟨hA,hlt⟩,bS _ _ _ _ (by show b≠k;omega)⟩
   .have:=R.below.size;exact ⟨Or.inr (by omega),bS _ _ _ _ (by show b≠k;omega)⟩
  .rw [hFo c' hne];exact ai.keep (iP hbl) n x _ (R.child c' x hm)
 .intro c' hc' y;obtain ⟨hne,hno⟩:=rT R.sorted q' d R.isd c' hc';have:F (c'::y)=f (c'::y):=congrFun (hFo c' hne) y;rw [this];exact R.noKid c' hno y
 .intro c' x hx;rcases oQ R.sorted R.place q' d R.isd c' x hx with ⟨rfl,rfl⟩|⟨hne,hm⟩
  .exact hq0
  .exact R.noNil c' x hm
theorem Made.rdy {A:Nat->Prop}{n:Nat}{w w1 w2:Wz}{f:List UInt8->List Ver}{g:Nat}{hv0 kv:Wq}{ks:List (UInt8×Option Ww)}(M:Made A n w w1 f g hv0 kv ks)(hb:Below w1.heap.size w1 w2){r:Nat}{c:UInt8}(hp:Place ks c r)(hat:mE ks c r=true):
  ∃k cap q,kv=.slice (some ⟨k,0,none⟩) (aE ks r c q 1).length cap/\Rdy A n w w2 f g hv0 k cap ks r c q 1:=by
 obtain ⟨hr,hrc⟩:=Place.mem hat;have e1:aE ks r c ks[r].2 1=ks:=by
  unfold aE;have:(c,ks[r].2)=ks[r]:=by rw [<-hrc]
  rw [this,List.getElem_cons_drop,List.take_append_drop]
 have hb12:w1.grownBy w2 none:=⟨hb.os,hb.tape,hb.output,hb.size,fun i hi _=>hb.block i hi⟩;have n2:=M.node.kept hb12 (by simp [Value.ownBlock]);have hap:=M.apart;have k2:=M.kids;rcases k2.2 with ⟨_,h0⟩|⟨k,cap,cur,rfl,_⟩
 .omega
 have k2:=M.kids.kept hb12 (by simp [Value.ownBlock]);refine ⟨k,cap,ks[r].2,by rw [e1],M.below.trans (hb.mono M.below.size),?_,?_,fun e=>hap (by simp [Value.ownBlock,e]),M.hist,M.sorted,hp,by simp [hat],M.child,M.noKid,M.noNil,M.child c _ (by rw [<-hrc];exact List.getElem_mem hr)⟩
 .rw [e1];exact n2
 .rw [e1];exact k2
theorem rV {w:Wz}{base:Nat}{e:Wk}{size:Nat}{v:Wq}{n:Nat}{xs:List Wq}(h:w.ownsRow base e size v n xs)(hn:0<n):∃g cap,v=.slice (some ⟨g,0,none⟩) n cap/\base<=g/\g<w.heap.size/\n<=cap:=by
 rcases h.2 with ⟨rfl,rfl⟩|⟨g,cap,cur,rfl,hb,hg,hc,_⟩
 .omega
 .exact ⟨g,cap,rfl,hb,(eS hg).1,hc⟩
theorem dz {w w':Wz}(hb:Below w.heap.size w w')(r:Option Nat):w.grownBy w' r:=⟨hb.os,hb.tape,hb.output,hb.size,fun i hi _=>hb.block i hi⟩
theorem Made.rdyNew {A:Nat->Prop}{n:Nat}{w w1 w2 wq w3:Wz}{f:List UInt8->List Ver}{g:Nat}{hv0 kv:Wq}{ks:List (UInt8×Option Ww)}(M:Made A n w w1 f g hv0 kv ks)(hb:Below w1.heap.size w1 w2){r:Nat}{c:UInt8}(hp:Place ks c r)(hat:mE ks c r=false)
  (hbq:Below w2.heap.size w2 wq) (k cap:Nat) (ho:w3.ownsRow w.heap.size 190 2 (.slice (some ⟨k,0,none⟩) (ks.length+1) cap) (ks.length+1) (au (aE ks r c none 0))) (hg3:wq.grownBy w3 kv.ownBlock)
  (hblk:(Value.slice (some ⟨k,0,none⟩) (ks.length+1) cap).ownBlock=kv.ownBlock\/∀j,(Value.slice (some ⟨k,0,none⟩) (ks.length+1) cap).ownBlock=some j->wq.heap.size<=j):
  (aE ks r c none 0).length=ks.length+1/\Rdy A n w (w3.setCell ⟨g,2,none⟩ (.slice (some ⟨k,0,none⟩) (ks.length+1) cap)) f g hv0 k cap ks r c none 0:=by
 have hl:(aE ks r c none 0).length=ks.length+1:=by
  unfold aE;rw [lP,tL,lC,lD];have:=hp.le;omega
 have hgg:=M.node.lt g rfl;have hkg:k≠g:=by
  intro e;rcases hblk with h|h
  .exact M.apart (by rw [<-h,e];rfl)
  .have:=h k rfl;have:=hb.size;have:=hbq.size;omega
 have b2:Below w.heap.size w w2:=M.below.trans (hb.mono M.below.size);have bq:Below w.heap.size w wq:=b2.trans (hbq.mono b2.size);have n2:=M.node.kept (dz hb none) (by simp [Value.ownBlock]);have nq:=n2.kept (dz hbq none) (by simp [Value.ownBlock]);have n3:=nq.kept hg3 (Or.inr (by simp only [Value.ownBlock];exact fun e=>M.apart e.symm));have n4:=n3.stored 2 (.slice (some ⟨k,0,none⟩) (ks.length+1) cap);have k4:=ho.kept n4.2 (Or.inr (by simp [Value.ownBlock];exact hkg));have b3:Below w.heap.size w w3:=bq.grown hg3 bq.size (fun j e=>(M.kids.lt j e).1);refine ⟨hl,b3.setCell hgg.1 _,by rw [hl];exact n4.1,by rw [hl];exact k4,hkg,M.hist,M.sorted,hp,by simp [hat],M.child,M.noKid,M.noNil,ai.nil (M.noKid c (hp.nomem M.sorted hat))⟩
theorem fx {w w':Wz}{row:Option Nat}(hg:w.grownBy w' row)(a:Ww)(hlt:a.block<w.heap.size)(hne:some a.block≠row):w'.frozen? a=w.frozen? a:=
 fB (w:=w) (hg.block a.block hlt hne)
end
