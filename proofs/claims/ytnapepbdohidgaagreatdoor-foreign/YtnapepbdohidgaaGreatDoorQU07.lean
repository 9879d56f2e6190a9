/- A part. -/
import Derived.Test.YtnapepbdohidgaaGreatDoorQU06
import Derived.KernelRfl
import Derived.RangeFuncNested
import Derived.OrdersIn
set_option maxHeartbeats 4000000
set_option maxRecDepth 100000
open Go renaming World->Wz,Value->Wq,Goroutine->Wj,Program->Wx,TypeId->Wk,Frame->Wv,Addr->Ww,undef->Wy
namespace Go.Proofs.Qw
section
open Go
def Ren.plus (ρ:Ren)(n m:Nat)(I:Nat->Prop)(hlt:∀a b,ρ a b->a<n/\b<m)(ch:Nat->Prop)(hS:ρ.F fS=false):Ren where
 rel:=fun a b=>ρ a b\/∃i,I i/\a=n+i/\b=m+i
 fn:=fun a b b' h1 h2=>by
  rcases h1 with h1|⟨i,-,h1,h3⟩<;>rcases h2 with h2|⟨j,-,h2,h4⟩
  .exact ρ.fn _ _ _ h1 h2
  .have:=(hlt _ _ h1).1;omega
  .have:=(hlt _ _ h2).1;omega
  .omega
 inj:=fun a a' b h1 h2=>by
  rcases h1 with h1|⟨i,-,h1,h3⟩<;>rcases h2 with h2|⟨j,-,h2,h4⟩
  .exact ρ.inj _ _ _ h1 h2
  .have:=(hlt _ _ h1).2;omega
  .have:=(hlt _ _ h2).2;omega
  .omega
 prog:=ρ.prog
 F:=ρ.F
 old:=fun _=>False
 ch:=ch
 loose:=true
 wide:=true
 tight:=fun h=>by rw [hS] at h;cases h
 pin:=ρ.pin
 bad:=ρ.bad
 noM:=ρ.noM
section
variable {ρ:Ren} {n m:Nat} {I:Nat->Prop} {hlt:∀a b,ρ a b->a<n/\b<m} {ch:Nat->Prop} {hS:ρ.F fS=false} {V W V' W':Wz}
theorem pJ:ρ.sub' (ρ.plus n m I hlt ch hS):=⟨fun _ _ h=>.inl h,rfl,fun _ h=>h,rfl⟩
theorem mC {i:Nat}(h:I i):(ρ.plus n m I hlt ch hS) (n+i) (m+i):=.inr ⟨i,h,rfl,rfl⟩
theorem B8 (S:bm ρ V W)(hV:∀a b,ρ a b->V'.heap[a]?=V.heap[a]?)(hW:∀b,b<m->W'.heap[b]?=W.heap[b]?)(hos:W'.os=V'.os)
  (hnew:∀i,I i->∃o o',V'.heap[n+i]?=some o/\W'.heap[m+i]?=some o'/\RO (ρ.plus n m I hlt ch hS) o o') (hch:∀c,ch c->∃o,V'.heap[c]?=some o/\o.isChan=true):bm (ρ.plus n m I hlt ch hS) V' W':=by
 refine ⟨fun a b hab=>?_,fun a h=>h.elim,hch,hos,fun hb a c0 hp=>?_⟩
 rotate_left
 .obtain ⟨b,hab,hP⟩:=S.pin hb a c0 hp;exact ⟨b,.inl hab,hP.same (hV a b hab) (hW b (hlt a b hab).2)⟩
 rcases hab with hab|⟨i,hi,rfl,rfl⟩
 .obtain ⟨o,o',h1,h2,h3⟩:=S.obj a b hab;refine ⟨o,o',(hV a b hab).trans h1,(hW b (hlt a b hab).2).trans h2,RO.re pJ rfl h3 (fun hc=>?_)⟩;cases h3 with
  |chan=>exact .chan _ _ _ _ _ _ _ _ _ (.inl rfl) (.inl rfl)
  |_=>cases hc
 .exact hnew i hi
end
structure fX (P:Wx) [Two P](F:FuncId->Bool):Prop where
 code:∀ (f:FuncId) fn b,F f=true->P.funcs[f]?=some fn->fn.body=some b->aA P F b=true
 alt:∀f,F f=true->P.alt.funcs[f]?=P.funcs[f]?
 same:∀f:Nat,(P.alt.funcs[f]?).map strip=(P.funcs[f]?).map strip
 size:P.alt.funcs.size=P.funcs.size
 apart:∀f,Mk F f=true->∃a b,P.alt.funcs[f]?=some a/\P.funcs[f]?=some b/\a.body.isSome=true/\b.body.isSome=true/\a.name=b.name
 ext:fH P F
theorem fX.gid {P:Wx} [Two P]{σ:Ren}(h:fX P σ.F)(hg:∀g,g<P.globals.size->σ g g)(hp:σ.prog=P)(hf:σ.F lp=true->∀a,¬σ.old a):GId P σ:=⟨hg,hp,h.code,h.alt,hf,h.same,h.size,h.apart⟩
theorem RV.any {σ σ':Ren}(hrel:∀a b,σ a b->σ' a b)(hF:∀f,σ.F f=true->σ'.F f=true)(ho:σ'.bad=σ.bad){v v':Wq}(h:RV σ v v'):RV σ' v v':=by
 have hAo:∀ {a a':Option Ww},RAo σ a a'->RAo σ' a a':=fun h=>by
  cases h with
  |none=>exact .none
  |some h=>exact .some ⟨hrel _ _ h.1,h.2⟩
 have hNo:∀ {a a':Option Nat},RNo σ a a'->RNo σ' a a':=fun h=>by
  cases h with
  |none=>exact .none
  |some h=>exact .some (hrel _ _ h)
 induction h with
 |bool b=>exact .bool b
 |int k n=>exact .int k n
 |string s=>exact .string s
 |pointer h=>exact .pointer (hAo h)
 |slice n c h=>exact .slice n c (hAo h)
 |map h=>exact .map (hNo h)
 |chan h=>exact .chan (hNo h)
 |func hf ha hc _ _ ih1 ih2=>
  refine .func ?_ ha hc ih1 ih2;cases hf with
  |func f h=>exact .func f (hF f h)
  |yield h=>exact .yield (hrel _ _ h)
 |nilFunc=>exact .nilFunc
 |iface t _ ih=>exact .iface t ih
 |nilIface=>exact .nilIface
 |agg hc _ ih=>exact .agg hc ih
 |tuple hc _ ih=>exact .tuple hc ih
 |dead v' h=>exact .dead v' h
 |odd n s a c hn=>exact .odd n s a c (hn.trans ho.symm)
theorem RVs.any {σ σ':Ren}(hrel:∀a b,σ a b->σ' a b)(hF:∀f,σ.F f=true->σ'.F f=true)(ho:σ'.bad=σ.bad){c c':Array Wq}(h:RVs σ c c'):RVs σ' c c':=⟨h.size,fun i v v' h1 h2=>(h.at_ i v v' h1 h2).any hrel hF ho⟩
theorem RO.any {σ σ':Ren}(hrel:∀a b,σ a b->σ' a b)(hF:∀f,σ.F f=true->σ'.F f=true)(ho:σ'.bad=σ.bad)(hb:σ'.F lp=σ.F lp){o o':Obj}(hp:vM o)(h:RO σ o o'):RO σ' o o':=by
 have hno:∀ {q:Obj},vM q->(∀c e z,q≠.cells c e z)->Fixed q:=fun h k=>by
  rcases h with ⟨c,e,z,h⟩|h
  .exact absurd h (k c e z)
  .exact h
 cases h with
 |cells e hz h=>exact .cells e (by rw [hb];exact hz) (h.any hrel hF ho)
 |number b h=>exact .number b ⟨hrel _ _ h.1,h.2⟩
 |dead _ h=>exact .dead _ h
 |_=>exact (hno hp (fun _ _ _ h=>by cases h)).elim
theorem lA {P:Wx} [Two P](hZ:bu P)(hN:bI P){A:Nat->Prop}{F:FuncId->Bool}{T:Wj->Wz->Prop}(hT:∀g w,T g w->g.callers≠[]/\g.dying=none/\g.status=.running)(hTt:∀g w τ d,T g (w.on τ d)↔T g w){h:Wj}{w:Wz}(hS:Self P ([trap P],[]) A F h w)
  (hst:∀τ d,∃g' w',Steps P (solo h (w.on τ d)) (solo g' w')/\T g' w'):Dem P (jF P ([trap P],[]) A F) T h w:=by
 refine Way.dem (N:=jF P ([trap P],[]) A F) ⟨fun g w h=>h.mir hZ hN,fun g w τ d h=>⟨h.1.on τ d,h.2⟩,hTt⟩ (fun τ d=>?_);obtain ⟨g',w',⟨n,hn⟩,hT'⟩:=hst τ d;exact nh hZ hN hT n _ _ _ w' (hS.on τ d) hn hT'
def Ren.firm (σ:Ren)(P:Wx)(hb:NoM P σ.bad)(c:Nat):Ren where
 rel:=σ.rel
 fn:=σ.fn
 inj:=σ.inj
 prog:=P
 F:=σ.F
 old:=fun _=>False
 ch:=fun a=>a=c
 loose:=false
 wide:=false
 tight:=fun _=>rfl
 pin:=σ.pin
 bad:=σ.bad
 noM:=hb
theorem vO {σ:Ren}{P:Wx}{hb0:NoM P σ.bad}{V W W':Wz}(S:bm σ V W){c c':Nat}(hc:σ c c')(hpl:∀a b,σ a b->a≠c->∃o,V.heap[a]?=some o/\vM o)(hW:∀b,b≠c'->W'.heap[b]?=W.heap[b]?)(hos:W'.os=W.os){n n' s s' q q':Nat}{b b':Array Wq}{cl tm:Bool}(hV:V.heap[c]?=some (.chan n b cl s q tm))(hW':W'.heap[c']?=some (.chan n' b' cl s' q' tm))(hb:RVs (σ.firm P hb0 c) b b'):bm (σ.firm P hb0 c) V W':=by
 refine ⟨fun x y hxy=>?_,fun _ h=>h.elim,fun a h=>?_,hos.trans S.os,fun hb a c0 hp=>?_⟩
 rotate_left 2
 .obtain ⟨y,hay,hP⟩:=S.pin hb a c0 hp;refine ⟨y,hay,hP.same rfl (hW y (fun e=>?_))⟩;obtain rfl:=σ.inj _ _ _ hay (e▸hc);obtain ⟨_,_,_,_,_,k1,-⟩:=hP;rw [hV] at k1;cases k1
 .have hxy:σ x y:=hxy;by_cases e:x=c
  .subst e;obtain rfl:=σ.fn _ _ _ hxy hc;exact ⟨_,_,hV,hW',.chan _ _ _ _ _ _ _ _ _ (.inr hb) (.inr rfl)⟩
  .obtain ⟨o,o',h1,h2,h3⟩:=S.obj x y hxy;obtain ⟨o2,k1,k2⟩:=hpl x y hxy e;rw [h1] at k1;cases k1;exact ⟨o,o',h1,(hW y (fun k=>e (σ.inj _ _ _ hxy (k▸hc)))).trans h2,RO.any (σ:=σ) (σ':=σ.firm P hb0 c) (fun _ _ h=>h) (fun _ h=>h) rfl rfl k2 h3⟩
 .have h:a=c:=h;subst h;exact ⟨_,hV,rfl⟩
end
section
open Go
open Go.Conc Go.ConcX Go.ConcX.Gen Go.RowKit
structure zH (Pre:Lst->List Wq->Wz->Prop):Prop where
 low:∀ (ρ:Ren) (V W V':Wz) (l:Lst) (L:List Wq),bm ρ V W->(∃r,RAo ρ l.root r)->(∀g,g<Tryz.prog.globals.size->∃y,ρ g y)->(∀a y i v,ρ a y->V.cell? ⟨a,i,none⟩=some v->Good v->V'.cell? ⟨a,i,none⟩=some v)->V.heap.size<=V'.heap.size->Pre l L V->Pre l L V'
 on:∀ (V V':Wz) (l:Lst) (L:List Wq),(∀a,a.block<V.heap.size->V'.cell? a=V.cell? a)->V.heap.size<=V'.heap.size->Pre l L V->Pre l L V'
 item:∀l L V,Pre l L V->∀v∈L,∃ (a b:Int) (s:ByteArray),v=.agg #[.int .i64 a,.string s,.int .i64 b]
 len:∀l L V,Pre l L V->L.length<=1000
 send:∀ (l:Lst) (L:List Wq) (w:Wz) (c:Nat),Pre l L w->w.heap[c]?=some (.chan 1000 #[] false 0 0 false) ->
  Calls Yq.prog 120 #[qV l.vs l.p l.d l.af,sV l.root,.chan (some c)] w fun e w'=>e=.returned (.tuple #[])/\((∀b,b<w.heap.size->b≠c->w'.heap[b]?=w.heap[b]?)/\w.heap.size<=w'.heap.size/\w'.os=w.os)/\w'.heap[c]?=some (.chan 1000 L.toArray false L.length 0 false)
section
variable (V:Wz) (l:Lst)
def bG (room:Nat):Wz:=itW (pgW V l) l.root l.vs l.p l.d l.af room
theorem vP:(pgW V l).heap.size=V.heap.size+3:=by simp only [pgW,World.alloc,Array.size_push]
theorem eP (room:Nat):(bG V l room).heap.size=V.heap.size+7:=by simp only [bG,itW,pgW,World.alloc,Array.size_push]
theorem dX (room:Nat){a:Nat}(h:a<V.heap.size):(bG V l room).heap[a]?=V.heap[a]?:=by
 simp only [bG,itW,pgW,World.alloc,gP,Array.size_push]
 repeat rw [if_neg (by omega)]
theorem bJ (room:Nat)(i:Nat)(h:i<7):(bG V l room).heap[V.heap.size+i]?=(#[.cells (aD l) 125,.cells #[.slice none 0 0,.string ⟨#[]⟩] 88,.cells #[.slice none 0 0,.string ⟨#[]⟩] 88,.cells #[.bool l.vs,.string l.p,.string l.d,.string l.af] 93,.cells #[.pointer l.root] 56,.chan room #[] false 0 0 false,.cells #[.chan (some (V.heap.size+5))] 193]:Array Obj)[i]?:=by
 simp only [bG,itW,pgW,World.alloc,gP,Array.size_push];rcases i with - | - | - | - | - | - | - |i;all_goals first|omega|skip
 all_goals
  repeat (first|rw [if_pos (by omega)] |rw [if_neg (by omega)])
  rfl
theorem jm (room:Nat):Boxes (bG V l room) (V.heap.size+3+3) (V.heap.size+3) (V.heap.size+3+1) (V.heap.size+3+2) l.root l.vs l.p l.d l.af:=by
 have h3:=bJ V l room 3 (by omega);have h4:=bJ V l room 4 (by omega);have h6:=bJ V l room 6 (by omega);have c:∀ (b i:Nat) (x:Array Wq) (t:Wk),(bG V l room).heap[b]?=some (.cells x t)->(bG V l room).cell? ⟨b,i,none⟩=x[i]?:=fun b i x t h=>by unfold World.cell?;simp [h]
 refine ⟨?_,?_,?_,?_,?_,?_⟩
 .rw [c (V.heap.size+6) 0 _ _ h6];rfl
 .rw [c (V.heap.size+3) 0 _ _ h3];rfl
 .rw [c (V.heap.size+3) 1 _ _ h3];rfl
 .rw [c (V.heap.size+3) 2 _ _ h3];rfl
 .rw [c (V.heap.size+3) 3 _ _ h3];rfl
 .rw [c (V.heap.size+4) 0 _ _ h4];rfl
theorem oG (room:Nat):∀a:Ww,a.block<V.heap.size->(bG V l room).cell? a=V.cell? a:=fun _a h=>cB (dX V l room h)
end
theorem rz {Pre:Lst->List Wq->Wz->Prop}(hPre:zH Pre)(l:Lst)(pn:Int)(L:List Wq)(V:Wz)(cs:List Wv)(hp:Pre l L V)(ht:Region.schedule (Yq.prog.follows .mixedOrders) Yq.drawOps (V.tape V.drawn (.order 69 100))=[1,0]):
  ∃V4:Wz,Steps Yq.prog (lone (Frame.enter Yq.prog 69 #[lV l,.int .i64 pn] .normal) cs V) (lone (pF2 V.heap.size l pn (V.heap.size+5)) cs V4) /\
   (∀b,b<V.heap.size+7->b≠V.heap.size+5->V4.heap[b]?=(bG V l 1000).heap[b]?)/\V4.heap[V.heap.size+5]?=some (.chan 1000 L.toArray true L.length 0 false)/\V4.os=V.os:=by
 obtain ⟨Va,hVa⟩:∃Va:Wz,Va={V with drawn:=V.drawn+1}:=⟨_,rfl⟩;have e1:Va.heap=V.heap:=by rw [hVa]
 have e2:Va.os=V.os:=by rw [hVa]
 have s1:=B6 (lV l) (.int .i64 pn) cs V ht;rw [<-hVa,<-ru] at s1;have s2:=B5 l pn cs Va;have hcall:step Yq.prog (lone ((base 69).at ⟨jL Va.heap.size l pn,[]⟩ (.inRegion rr [4]::lx)) cs (pgW Va l))=.next (lone (Frame.enter Yq.prog 97 #[qV l.vs l.p l.d l.af,sV l.root] .normal) (pF Va.heap.size l pn::cs) (pgW Va l)):=by
  refine pH (o := { dst := some 17, op := .call { callee := .value (.func 97), args := #[.tmp 14, .tmp 16], argTypes := #[93, 56] }, type := 165, pos := "listing.go:108", after := #[{ on := 1, ground := .data }, { on := 3, ground := .data }], guard := none }) rfl rfl ?_
  have := run_call_body (P := Yq.prog) (a := ⟨jL Va.heap.size l pn, []⟩) (w := pgW Va l) (o := { dst := some 17, op := .call { callee := .value (.func 97), args := #[.tmp 14, .tmp 16], argTypes := #[93, 56] }, type := 165, pos := "listing.go:108", after := #[{ on := 1, ground := .data }, { on := 3, ground := .data }], guard := none }) rfl Yq.func97 rfl rfl
  have e:(#[.tmp 14,.tmp 16]:Array Operand).map (Act.eval ⟨jL Va.heap.size l pn,[]⟩)=#[qV l.vs l.p l.d l.af,sV l.root]:=by
   simp only [List.map_toArray,List.map_cons,List.map_nil];rfl
  rw [e] at this;exact this
 have s3:=zF l.root l.vs l.p l.d l.af (pF Va.heap.size l pn::cs) (pgW Va l);have hsz:(pgW Va l).heap.size=V.heap.size+3:=by rw [vP,e1]
 rw [hsz] at s3;have hcw:bG Va l 1000=itW (pgW Va l) l.root l.vs l.p l.d l.af 1000:=rfl;rw [<-hcw] at s3;have hb:Boxes (bG Va l 1000) (V.heap.size+3+3) (V.heap.size+3) (V.heap.size+3+1) (V.heap.size+3+2) l.root l.vs l.p l.d l.af:=by
  have:=jm Va l 1000;rw [e1] at this;exact this
 have hpa:Pre l L (bG Va l 1000):=hPre.on V _ l L (fun a ha=>by
  rw [oG Va l 1000 a (by rw [e1];exact ha)];unfold World.cell?;rw [e1]) (by rw [eP,e1];omega) hp
 have hrow:(bG Va l 1000).heap[V.heap.size+3+2]?=some (.chan 1000 #[] false 0 0 false):=by
  have:=bJ Va l 1000 5 (by omega);rw [e1] at this;exact this
 obtain ⟨w',⟨hold,hsize,hos⟩,hr',s4⟩:=ry (root0:=l.root) hb (hPre.send l L _ _ hpa hrow) (pF Va.heap.size l pn::cs);have heq:∀b:Nat,(bG Va l 1000).heap[b]?=(bG V l 1000).heap[b]?:=fun b=>by
  have:(bG Va l 1000).heap=(bG V l 1000).heap:=by simp only [bG,itW,pgW,World.alloc,e1]
  rw [this]
 have hot:∀b,b≠V.heap.size+5->(dN w' (V.heap.size+3+2) 1000 L.toArray L.length 0 false).heap[b]?=w'.heap[b]?:=fun b hb=>by
  unfold dN World.setChan;exact sN (by omega)
 have hout:(dN w' (V.heap.size+3+2) 1000 L.toArray L.length 0 false).cell? ⟨V.heap.size+3+3,0,none⟩=some (.chan (some (V.heap.size+3+2))):=by
  rw [cB (w:=bG Va l 1000) (a:=⟨V.heap.size+3+3,0,none⟩)]
  .exact hb.out
  .show (dN w' (V.heap.size+3+2) 1000 L.toArray L.length 0 false).heap[V.heap.size+3+3]?=(bG Va l 1000).heap[V.heap.size+3+3]?;rw [hot _ (by omega)];exact hold _ (by rw [eP,e1];omega) (by omega)
 have s5:=zG Va.heap.size (V.heap.size+3) l pn cs (dN w' (V.heap.size+3+2) 1000 L.toArray L.length 0 false) l.root hout;refine ⟨dN w' (V.heap.size+3+2) 1000 L.toArray L.length 0 false,?_,fun b h1 h2=>?_,?_,?_⟩
 .rw [<-e1];refine Steps.trans s1 (Steps.trans s2 (.head hcall (Steps.trans s3 (Steps.trans s4 ?_))));rw [e1] at s5 ⊢;exact s5
 .rw [hot b h2,<-heq];exact hold b (by rw [eP,e1];exact h1) (by omega)
 .exact heap_setChan _ _ _ _ _ _ _ _ (eS hr').1
 .exact (show w'.os=_ from hos.trans (by simp only [bG,itW,pgW,World.alloc];exact e2))
inductive RVl (ρ:Ren):List Wq->List Wq->Prop
 |nil:RVl ρ [] []
 |cons {v v':Wq} {l l':List Wq} (h:RV ρ v v') (hl:RVl ρ l l'):RVl ρ (v::l) (v'::l')
theorem RVl.len {ρ:Ren}{l l':List Wq}(h:RVl ρ l l'):l.length=l'.length:=by
 induction h with
 |nil=>rfl
 |cons _ _ ih=>simp [ih]
theorem RVl.at_ {ρ:Ren}{l l':List Wq}(h:RVl ρ l l'):∀ (i:Nat) v v',l[i]?=some v->l'[i]?=some v'->RV ρ v v':=by
 induction h with
 |nil=>intro i v v' h;simp at h
 |cons h _ ih=>
  intro i v v' h1 h2;cases i with
  |zero=>simp at h1 h2;subst h1;subst h2;exact h
  |succ i=>exact ih i v v' (by simpa using h1) (by simpa using h2)
theorem RVl.arr {ρ:Ren}{l l':List Wq}(h:RVl ρ l l'):RVs ρ l.toArray l'.toArray:=⟨by simp [h.len],fun i v v' h1 h2=>h.at_ i v v' (by simpa using h1) (by simpa using h2)⟩
theorem RVl.agg {ρ:Ren}{l l':List Wq}(h:RVl ρ l l'):RV ρ (.agg l.toArray) (.agg l'.toArray):=.agg h.arr.size h.arr.at_
section
variable {σ:Ren} {l:Lst} {r':Option Ww}
theorem kC (h:RAo σ l.root r'):RVs σ (aD l) (aD {l with root:=r'}):=
 RVl.arr (.cons (.int _ _) (.cons (.pointer h) (.cons (.bool _) (.cons (.string _) (.cons (.string _) (.cons (.string _) (.cons (.int _ _) (.cons (.int _ _) .nil))))))))
theorem FO (h:RAo σ l.root r'):RV σ (lV l) (lV {l with root:=r'}):=.agg (kC h).size (kC h).at_
theorem FP (vs:Bool)(p d af:ByteArray):RV σ (qV vs p d af) (qV vs p d af):=RVl.agg (.cons (.bool _) (.cons (.string _) (.cons (.string _) (.cons (.string _) .nil))))
theorem FQ {r:Option Ww}(h:RAo σ r r'):RV σ (sV r) (sV r'):=RVl.agg (.cons (.pointer h) .nil)
end
theorem FR {ρ:Ren}{l:Lst}{v:Wq}(h:RV ρ (lV l) v):∃r',RAo ρ l.root r'/\v=lV {l with root:=r'}:=by
 unfold lV at h;cases h with
 | @agg _ c' hc hx=>
  have hsz:c'.size=8:=by rw [<-hc];rfl
  obtain ⟨cl⟩:=c';have hlen:cl.length=8:=by simpa using hsz
  rcases cl with - |⟨x0,- |⟨x1,- |⟨x2,- |⟨x3,- |⟨x4,- |⟨x5,- |⟨x6,- |⟨x7,- |⟨x8,cl⟩⟩⟩⟩⟩⟩⟩⟩⟩<;>simp at hlen
  have h0:=hx 0 _ x0 rfl rfl;have h1:=hx 1 _ x1 rfl rfl;have h2:=hx 2 _ x2 rfl rfl;have h3:=hx 3 _ x3 rfl rfl;have h4:=hx 4 _ x4 rfl rfl;have h5:=hx 5 _ x5 rfl rfl;have h6:=hx 6 _ x6 rfl rfl;have h7:=hx 7 _ x7 rfl rfl;cases h0;cases h2;cases h3;cases h4;cases h5;cases h6;cases h7;cases h1 with
  |pointer h=>exact ⟨_,h,rfl⟩
theorem B9 {ρ:Ren}{l:Lst}{pn:Int}{a':Array Wq}(h:RVs ρ #[lV l,.int .i64 pn] a'):∃r',RAo ρ l.root r'/\a'=#[lV {l with root:=r'},.int .i64 pn]:=by
 obtain ⟨al⟩:=a';have hsz:=h.size;rcases al with - |⟨x0,- |⟨x1,- |⟨x2,al⟩⟩⟩<;>simp at hsz
 have h0:=h.at_ 0 _ x0 rfl rfl;have h1:=h.at_ 1 _ x1 rfl rfl;cases h1;obtain ⟨r',k1,rfl⟩:=FR h0;exact ⟨r',k1,rfl⟩
section
variable {ρ:Ren} {V W V':Wz} {l:Lst} {r':Option Ww} {I:Nat->Prop} {ch:Nat->Prop}
theorem pK (S:bm ρ V W)(hS:ρ.F fS=false)(hr:RAo ρ l.root r')(hI:∀i,I i->i<7)(hI5:I 5)(hV:∀a b,ρ a b->V'.heap[a]?=V.heap[a]?)(hV7:∀i,i<7->i≠5->V'.heap[V.heap.size+i]?=(bG V l 1000).heap[V.heap.size+i]?)(hV5:∃k b cl s q,V'.heap[V.heap.size+5]?=some (.chan k b cl s q false))(hos:V'.os=V.os)(hch:∀c,ch c->∃o,V'.heap[c]?=some o/\o.isChan=true)(dd:Nat):
  bm (ρ.plus V.heap.size W.heap.size I (fun _ _ h=>S.lt h) ch hS) V' ((bG W {l with root:=r'} 20).at dd):=by
 refine B8 S hV (fun b hb=>dX W _ 20 hb) (by rw [hos];exact S.os) (fun i hi=>?_) hch;have h7:=hI i hi;have eW:((bG W {l with root:=r'} 20).at dd).heap[W.heap.size+i]?=_:=bJ W {l with root:=r'} 20 i h7;by_cases h5:i=5
 .subst h5;obtain ⟨k,b,cl,s,q,hk⟩:=hV5;exact ⟨_,_,hk,eW,.chan _ _ _ _ _ _ _ _ _ (.inl rfl) (.inl rfl)⟩
 .have eV:=(hV7 i h7 h5).trans (bJ V l 1000 i h7);have hr2:RAo (ρ.plus V.heap.size W.heap.size I (fun _ _ h=>S.lt h) ch hS) l.root r':=RAo.re pJ hr;rcases i with - | - | - | - | - | - | - |i
  .exact ⟨_,_,eV,eW,.cells 125 (.inl rfl) (kC hr2)⟩
  .exact ⟨_,_,eV,eW,.cells 88 (.inl rfl) (RVl.arr (.cons (.slice _ _ .none) (.cons (.string _) .nil)))⟩
  .exact ⟨_,_,eV,eW,.cells 88 (.inl rfl) (RVl.arr (.cons (.slice _ _ .none) (.cons (.string _) .nil)))⟩
  .exact ⟨_,_,eV,eW,.cells 93 (.inl rfl) (RVl.arr (.cons (.bool _) (.cons (.string _) (.cons (.string _) (.cons (.string _) .nil)))))⟩
  .exact ⟨_,_,eV,eW,.cells 56 (.inl rfl) (RVl.arr (.cons (.pointer hr2) .nil))⟩
  .exact absurd rfl h5
  .exact ⟨_,_,eV,eW,.cells 193 (.inl rfl) (RVl.arr (.cons (.chan (.some (mC hI5))) .nil))⟩
  .omega
end
section
variable {P:Wx} {σ:Ren} {l:Lst} {r':Option Ww} {n m c c':Nat} {pn:Int}
theorem ur (h0:σ n m)(h1:σ (n+1) (m+1))(h2:σ (n+2) (m+2))(hc:σ c c')(hr:RAo σ l.root r')(ho:aA P σ.F (bB (fI bE))=true/\aA P σ.F (bB bE)=true):RFr P σ (pF2 n l pn c) (pF2 m {l with root:=r'} pn c'):=by
 refine ⟨rfl,?_,.cons (.regionEnd _ _) (.cons (.code ho.1) (.cons (.code ho.2) .nil)),.nil,.run,⟨rfl,rfl,by simp [pF2,Frame.at,base]⟩,.none⟩;have p:∀ {a b:Nat} (j:Nat),σ a b->RV σ (.pointer (some ⟨a,j,none⟩)) (.pointer (some ⟨b,j,none⟩)):=fun j h=>.pointer (.some ⟨h,rfl,rfl⟩)
 have u:RV σ Wy Wy:=cH;exact RVl.arr (.cons (FO hr) (.cons (.int _ _) (.cons (p 0 h0) (.cons u (.cons (p 0 h1) (.cons (p 0 h2) (.cons (.int _ _) (.cons (.int _ _) (.cons u (.cons (.int _ _) (.cons (p 6 h0) (.cons (.int _ _) (.cons (.int _ _) (.cons (p 2 h0) (.cons (FP _ _ _ _) (.cons (p 1 h0) (.cons (FQ hr) (.cons (.chan (.some hc)) (.cons u (.cons u (.cons u (.cons u (.cons u (.cons u (.cons u (.cons u (.cons u (.cons u (.cons u (.cons u (.cons u (.cons u (.cons u (.cons u (.cons u (.cons u (.cons u (.cons u (.cons u (.cons u (.cons u (.cons u (.cons u (.cons u (.cons u (.cons u (.cons u (.cons u (.cons u .nil)))))))))))))))))))))))))))))))))))))))))))))))))
theorem zI {Q:Wx}(k:CallKind)(hk:(k == .early)=false/\k≠.report){x0 x1 x2 y0 y1 y2:Nat}(h0:σ x0 y0)(h1:σ x1 y1)(h2:σ x2 y2){fn:Func}{b:Code}(hf:P.funcs[119]?=some fn)(hf':Q.funcs[119]?=some fn)(hb:fn.body=some b)(ho:aA P σ.F b=true):RFr P σ (Frame.enter Q 119 #[ptr x0,ptr x1,ptr x2] .normal) (Frame.enter P 119 #[ptr y0,ptr y1,ptr y2] k):=by
 have p:∀ {a b:Nat},σ a b->RV σ (ptr a) (ptr b):=fun h=>.pointer (.some ⟨h,rfl,rfl⟩)
 have e1:(Frame.enter Q 119 #[ptr x0,ptr x1,ptr x2] .normal).todo=[.code b]:=by simp [Frame.enter,hf',hb]
 have e2:(Frame.enter P 119 #[ptr y0,ptr y1,ptr y2] k).todo=[.code b]:=by simp [Frame.enter,hf,hb]
 refine ⟨rfl,?_,by rw [e1,e2];exact .cons (.code ho) .nil,.nil,.run,⟨rfl,hk.1,hk.2⟩,.none⟩;have ht1:(Frame.enter Q 119 #[ptr x0,ptr x1,ptr x2] .normal).tmps=#[ptr x0,ptr x1,ptr x2]++Array.replicate (fn.ntmps-3) Wy:=by simp [Frame.enter,hf']
 have ht2:(Frame.enter P 119 #[ptr y0,ptr y1,ptr y2] k).tmps=#[ptr y0,ptr y1,ptr y2]++Array.replicate (fn.ntmps-3) Wy:=by simp [Frame.enter,hf]
 rw [ht1,ht2];have a:RVs σ #[ptr x0,ptr x1,ptr x2] #[ptr y0,ptr y1,ptr y2]:=RVl.arr (.cons (p h0) (.cons (p h1) (.cons (p h2) .nil)));refine ⟨by simp,fun i v v' e1 e2=>?_⟩;rw [Array.getElem?_append] at e1 e2;by_cases hi:i<3
 .rw [if_pos (by simpa using hi)] at e1 e2;exact a.at_ i v v' e1 e2
 .rw [if_neg (by simpa using hi)] at e1 e2;simp only [Array.getElem?_replicate] at e1 e2;split at e1
  .cases e1;split at e2
   .cases e2;exact cH
   .cases e2
  .cases e1
end
theorem zJ {a:Act}{c:Nat}{cs:List Wv}{w:Wz}{r:List Nat}(h:a.eval (.tmp 17)=.chan (some c)):∃z es,stepG Yq.prog true (G (jM a (0::r)) cs) w=.comm (G (jM a (0::r)) cs) #[rcase c z] true (.recv true) w es:=by
 refine ⟨.agg #[.int .i64 0, .string ⟨#[]⟩, .int .i64 0], _, stepG_comm (o := { dst := some 18, op := .recv 165 (.tmp 17) true, type := 0, pos := "listing.go:108", after := #[], guard := none }) rfl rfl (by decide) ?_⟩
 have e : execOp a.eval { dst := some 18, op := .recv 165 (.tmp 17) true, type := 0, pos := "listing.go:108", after := #[], guard := none } = (do
  let .chan _ elem ← underlying 165 | stuck "receive: channel type expected"
  pure (.comm #[{chan:=a.eval (.tmp 17),send:=none,zero:=<-zeroValue elem}] true (.recv true))):=rfl
 rw [e,h];simp [go_sem,rcase]
theorem rB {v:Wq}(h:∃ (a b:Int)(s:ByteArray),v=.agg #[.int .i64 a,.string s,.int .i64 b]):Flat v:=by
 obtain ⟨a,b,s,rfl⟩:=h;intro ρ;refine ⟨RVl.agg (.cons (.int _ _) (.cons (.string _) (.cons (.int _ _) .nil))),fun v' h=>?_⟩;cases h with
 | @agg _ c' hc hx=>
  obtain ⟨cl⟩:=c';have hlen:cl.length=3:=by simpa using hc.symm
  rcases cl with - |⟨x0,- |⟨x1,- |⟨x2,- |⟨x3,cl⟩⟩⟩⟩<;>simp at hlen
  have h0:=hx 0 _ x0 rfl rfl;have h1:=hx 1 _ x1 rfl rfl;have h2:=hx 2 _ x2 rfl rfl;cases h0;cases h1;cases h2;rfl
section
variable [Two Tryz.prog] [Two Yq.prog]
structure pL (G Fs Fr:FuncId->Bool):Prop where
 alt:Tryz.prog.alt=Yq.prog
 zero:bu Tryz.prog
 zero1:bu Yq.prog
 count:bI Tryz.prog
 count1:bI Yq.prog
 statS:fX Tryz.prog Fs
 statR:fX Tryz.prog Fr
 statS1:fX Yq.prog Fs
 statR1:fX Yq.prog Fr
 mark:∀f,Mk G f=true->f=69
 s:Fs lp=false/\Fs Fz=false/\Fs lq=false
 smk:∀f,¬Mk Fs f=true
 s119:Fs 119=true
 r:Fr lp=false/\Fr fS=false/\Fr lq=false
 rmk:∀f,¬Mk Fr f=true
 okG:aA Tryz.prog G (bB (fI bE))=true/\aA Tryz.prog G (bB bE)=true
 okR:aA Tryz.prog Fr (bB (fI bE))=true/\aA Tryz.prog Fr (bB bE)=true
 okR1:aA Yq.prog Fr (bB (fI bE))=true/\aA Yq.prog Fr (bB bE)=true
 notR:aA Tryz.prog Fr (aZ Tryz.f69)=false
theorem zK {G Fs Fr:FuncId->Bool}(E:pL G Fs Fr){P:Wx}{n:Wk}(h:NoM P n)(hp:P=Tryz.prog):NoM Yq.prog n:=by
 subst hp;rw [<-E.alt];exact h
def Dy (c:Nat)(h:Wj)(V:Wz):Prop:=
 ∃a,h=G (jM a [0,1]) [trap Yq.prog]/\a.eval (.tmp 17)=.chan (some c)/\∃k s q,V.heap[c]?=some (.chan k #[] true s q false)
def Dz (c:Nat)(L:List Wq)(h:Wj)(V:Wz):Prop:=
 (h.callers=[trap Yq.prog]/\h.frame.fn=119/\h.frame.mode=.returning/\∃at_ t k,h.frame.defers=[{target:=.builtin .close at_ t k,args:=#[.chan (some c)]}])/\(h.dying=none/\h.status=.running)/\∃k s q,V.heap[c]?=some (.chan k L.toArray false s q false)
noncomputable def phD (T:Wj->Wz->Prop)(G Fs Fr:FuncId->Bool)(L:List Wq)(n m k:Nat)(X:List Wv×List Wv)(R0:Nat->Nat->Prop)(h0:Wj)(V0:Wz)(U:Outer):PhD Tryz.prog where
 T:=T
 Nr:=jF Yq.prog ([trap Yq.prog],[]) (fun a=>a=n+5) Fr
 Tr:=Dy (n+5)
 Ns:=jF Yq.prog ([trap Yq.prog],[]) (fun a=>a=n+5) Fs
 Ts:=Dz (n+5) L
 h0:=h0
 V0:=V0
 k:=k
 c:=m+5
 cV:=n+5
 cr:=n+5
 cs:=n+5
 X:=X
 Bs:=[dA Tryz.prog]
 L:=L
 R0:=R0
 Fp:=G
 Fr:=Fr
 bo:=m+6
 U:=U
theorem GV {G Fs Fr:FuncId->Bool}(E:pL G Fs Fr){T:Wj->Wz->Prop}{Post:Wq->Wz->Prop}{L:List Wq}{n m k:Nat}{fr fr':Wv}{cs cs':List Wv}{ρ:Ren}{h0:Wj}{V0:Wz}{U:Outer}(hk:k≠0)(hL:∀v∈L,Flat v)(hT:∀h V,T h V->h.callers.length<=1)
  (hI:GId Tryz.prog ρ) (hE:fH Tryz.prog ρ.F) (hFG:ρ.F=G) (hS:ρ.F fS=false) (hM:ρ.F lq=false) (hO0:ρ.bad=U.bad) (hX:RFs Tryz.prog ρ ([trap Tryz.prog.alt],[]) (fr::cs) (fr'::cs')) (hlen:1<=cs.length)
  (hsolo:∀h V,LSs Tryz.prog.alt T h0 V0 h V->oA Tryz.prog U G [] Post h V):vC Tryz.prog (phD T G Fs Fr L n m k (fr::cs,fr'::cs') ρ.rel h0 V0 U) Post where
 zero:=E.zero
 count:=E.count
 mark:=fun f hf fn b h1 h2=>by
  obtain rfl:=E.mark f hf;rw [Tryz.func69] at h1;cases h1;have:aZ Tryz.f69=b:=by unfold aZ;rw [h2];rfl
  rw [<-this];exact E.notR
 k0:=hk
 flat:=hL
 deep:=by show 2<=(fr::cs).length;simp;omega
 leafT:=hT
 nr:=fun h V hN=>by rw [E.alt];exact hN.2
 tr:=fun h V hN=>by
  obtain ⟨a,rfl,h17,kk,s,q,hrow⟩:=hN;refine ⟨fun _=>.inl rfl,fun n1 b s q tm hr=>?_,fun τ d=>?_⟩
  .have hr:V.heap[n+5]?=_:=hr;rw [hrow] at hr;cases hr;rfl
  .obtain ⟨z,es,e⟩:=zJ (cs:=[trap Yq.prog]) (w:=V.on τ d) (r:=[1]) h17;rw [E.alt];exact ⟨_,_,_,_,_,_,_,e,.shut (r:=n+5) rfl rfl hrow⟩
 ns:=fun h V hN=>by rw [E.alt];exact hN.2
 bs:=by simp [phD]
 grow:=fun h V τ d h' V' hN hl n b cl s q tm hr=>by
  rw [E.alt] at hl;exact jF.grow (w:=V.on τ d) E.zero1 E.count1 E.s.2.1 (A:=fun a=>a=_) rfl ⟨hN.1.on τ d,hN.2⟩ hl hr
 ts:=fun h V hN nn b cl s q tm hr=>by
  obtain ⟨-,-,k2,s2,q2,hrow⟩:=hN;have hr:V.heap[n+5]?=_:=hr;rw [hrow] at hr;cases hr;exact ⟨rfl,rfl⟩
 close:=fun h V ρs g W hN S nn b s q tm hrow=>by
  obtain ⟨⟨h1,h2,h3,h4⟩,-⟩:=hN;exact B3 Tryz.func119 rfl S ⟨by rw [E.alt];exact h1,h2,h3,h4⟩ hrow
 fin:=zC (ρ0:=ρ) (fun _ _ h=>h) hI hE hS hM (fun f hf=>by rw [hFG];exact hf) (by rw [hFG];rfl) hO0 hX (by show 2<=(fr::cs).length;simp;omega) (by show 0<(fr'::cs').length;simp) (by rw [hFG];exact hsolo)
end
theorem cZ (V:Wz)(l:Lst)(room:Nat):(bG V l room).heap[V.heap.size+5]?=some (.chan room #[] false 0 0 false):=bJ V l room 5 (by omega)
section
variable [Two Tryz.prog] [Two Yq.prog] {Gf Fs Fr:FuncId->Bool} {Pre:Lst->List Wq->Wz->Prop} {ρ:Ren} {V W:Wz} {l:Lst} {r':Option Ww} {L:List Wq}
def Ca (S:bm ρ V W)(hS:ρ.F fS=false):Ren:=ρ.plus V.heap.size W.heap.size (fun i=>3<=i/\i<7) (fun _ _ h=>S.lt h) (fun a=>a=V.heap.size+5) hS
def tC (S:bm ρ V W)(hS:ρ.F fS=false):Ren:=ρ.plus V.heap.size W.heap.size (fun i=>i<7) (fun _ _ h=>S.lt h) (fun a=>a=V.heap.size+5) hS
noncomputable def GA (n:Nat):Wj:=G (Frame.enter Yq.prog 119 #[ptr (n+6),ptr (n+3),ptr (n+4)] .normal) [trap Yq.prog]
noncomputable def GP (m:Nat):Wj:=G (Frame.enter Tryz.prog 119 #[ptr (m+6),ptr (m+3),ptr (m+4)] .deferred) [dA Tryz.prog]
theorem Cb (E:pL Gf Fs Fr)(hPre:zH Pre)(S:bm ρ V W)(hS:ρ.F fS=false)(hr:RAo ρ l.root r')(hp:Pre l L V)(hI:GId Tryz.prog ρ)(dd:Nat):
  ∃Vs ht,Snd Tryz.prog ([trap Tryz.prog.alt],[dA Tryz.prog]) ((Ca S hS).low Fs (fun _=>False) (V.heap.size+5) false ht) (GA V.heap.size) (GP W.heap.size) Vs ((bG W {l with root:=r'} 20).at dd) (V.heap.size+5) (W.heap.size+5) [] /\
   Dem Yq.prog (jF Yq.prog ([trap Yq.prog],[]) (fun a=>a=V.heap.size+5) Fs) (Dz (V.heap.size+5) L) (GA V.heap.size) Vs:=by
 have hold:∀a b,ρ a b->(bG V l 1000).heap[a]?=V.heap[a]?:=fun a b h=>dX V l 1000 (S.lt h).1
 have S3:bm (Ca S hS) (bG V l 1000) ((bG W {l with root:=r'} 20).at dd):=pK S hS hr (fun i h=>h.2) ⟨by omega,by omega⟩ hold (fun _ _ _=>rfl) ⟨_,_,_,_,_,cZ V l 1000⟩ rfl (fun c h=>by
  have h:c=_:=h;subst h;exact ⟨_,cZ V l 1000,rfl⟩) dd
 have ht:Fs fS=true->false=false:=fun _=>rfl
 have pr:∀i,3<=i->i<7->(Ca S hS) (V.heap.size+i) (W.heap.size+i):=fun i h1 h2=>mC ⟨h1,h2⟩
 obtain ⟨Vs,SS,hsz,htp,hdr,hos,hrow,honly,hcell,-,hplain⟩:=lower (F:=Fs) (live:=fun _=>False) (c:=V.heap.size+5) (c':=W.heap.size+5) (wide:=false) (n:=1000) (b:=#[]) (cl:=false) (s:=0) (q:=0) S3 ht E.s.1 (pr 5 (by omega) (by omega)) (cZ W {l with root:=r'} 20) (.inr rfl) (fun a h=>h.elim);refine ⟨Vs,ht,?_,?_⟩
 .have okb:aA Tryz.prog Fs (aZ Tryz.f119)=true:=E.statS.code 119 _ _ E.s119 Tryz.func119 rfl;refine ⟨⟨zI (P:=Tryz.prog) (σ:=(Ca S hS).low Fs (fun _=>False) (V.heap.size+5) false ht) (Q:=Yq.prog) .deferred ⟨rfl,by simp⟩ (pr 6 (by omega) (by omega)) (pr 3 (by omega) (by omega)) (pr 4 (by omega) (by omega)) Tryz.func119 (Yq.nq Tryz.func119) rfl okb,by rw [E.alt];exact .base,⟨fun h=>?_,fun _=>rfl⟩,⟨rfl,rfl⟩,⟨rfl,rfl⟩,rfl,rfl⟩,SS,E.statS.gid (fun g hg=>.inl (hI.glob g hg)) hI.prog (fun h=>by rw [show (((Ca S hS).low Fs (fun _=>False) (V.heap.size+5) false ht).F)=Fs from rfl,E.s.1] at h;cases h),E.statS.ext,⟨E.s.2.1,E.s.2.2⟩,E.smk,⟨rfl,rfl⟩,fun x=>Iff.rfl,pr 5 (by omega) (by omega),⟨_,_,_,_,_,hrow,rfl⟩,fun a n b s q tm h=>honly a _ h rfl⟩;rcases h with h|h
  .exact absurd rfl h
  .rw [E.alt] at h;simp at h
 .have hb:Boxes Vs (V.heap.size+6) (V.heap.size+3) (V.heap.size+4) (V.heap.size+5) l.root l.vs l.p l.d l.af:=by
   have hb:=jm V l 1000;exact ⟨hcell _ _ _ _ (pr 6 (by omega) (by omega)) hb.out (.chan _),hcell _ _ _ _ (pr 3 (by omega) (by omega)) hb.q0 (.bool _),hcell _ _ _ _ (pr 3 (by omega) (by omega)) hb.q1 (.string _),hcell _ _ _ _ (pr 3 (by omega) (by omega)) hb.q2 (.string _),hcell _ _ _ _ (pr 3 (by omega) (by omega)) hb.q3 (.string _),hcell _ _ _ _ (pr 4 (by omega) (by omega)) hb.st (.pointer _)⟩
  have hp3:Pre l L (bG V l 1000):=hPre.on V _ l L (oG V l 1000) (by rw [eP];omega) hp;have hps:Pre l L Vs:=hPre.low _ _ _ _ l L S3 ⟨r',RAo.re pJ hr⟩ (fun g hg=>⟨_,.inl (hI.glob g hg)⟩) hcell (by rw [hsz];exact lR _) hp3;have okb:aA Yq.prog Fs (aZ Tryz.f119)=true:=E.statS1.code 119 _ _ E.s119 (Yq.nq Tryz.func119) rfl;refine lA E.zero1 E.count1 (fun g w h=>⟨by rw [h.1.1];simp,h.2.1⟩) (fun g w τ d=>Iff.rfl) ⟨rfl,((Ca S hS).low Fs (fun _=>False) (V.heap.size+5) false ht).firm Yq.prog (zK E ρ.noM hI.prog) (V.heap.size+5),G (Frame.enter Yq.prog 119 #[ptr (W.heap.size+6),ptr (W.heap.size+3),ptr (W.heap.size+4)] .normal) [],(bG W {l with root:=r'} 20).at dd,⟨zI (P:=Yq.prog) (σ:=((Ca S hS).low Fs (fun _=>False) (V.heap.size+5) false ht).firm Yq.prog (zK E ρ.noM hI.prog) (V.heap.size+5)) (Q:=Yq.prog) .normal ⟨rfl,by simp⟩ (pr 6 (by omega) (by omega)) (pr 3 (by omega) (by omega)) (pr 4 (by omega) (by omega)) (Yq.nq Tryz.func119) (Yq.nq Tryz.func119) rfl okb,.base,⟨fun _=>rfl,fun _=>rfl⟩,⟨rfl,rfl⟩,⟨rfl,rfl⟩,rfl,rfl⟩,vO SS (pr 5 (by omega) (by omega)) hplain (fun _ _=>rfl) rfl hrow (cZ W {l with root:=r'} 20) RVs.nil,E.statS1.gid (fun g hg=>.inl (hI.glob g (by rw [Yq.globals_size] at hg;exact hg))) rfl (fun _ _ h=>h),E.statS1.ext,rfl,rfl,⟨rfl,fun c h=>⟨W.heap.size+5,by rw [show c=V.heap.size+5 from h];exact pr 5 (by omega) (by omega)⟩,rfl⟩,fun _ h=>h,E.smk⟩ (fun τ d=>?_);have hsend:=hPre.send l L (Vs.on τ d) (V.heap.size+5) (hPre.on Vs _ l L (fun _ _=>rfl) (lR _) hps) hrow;obtain ⟨fr,w',df,hst,hf,hm,hd,⟨at_,t,k,rfl⟩,-,-,-,hrow'⟩:=rx (w:=Vs.on τ d) ⟨hb.out,hb.q0,hb.q1,hb.q2,hb.q3,hb.st⟩ hsend [trap Yq.prog];exact ⟨_,w',hst,⟨rfl,hf,hm,at_,t,k,hd⟩,⟨rfl,rfl⟩,_,_,_,hrow'⟩
end
def vQ:Prop:=∀ (l:Lst)(pn:Int)(L:List Wq)(n c:Nat)(w:Wz)(cs:List Wv),(∀v∈L,∃ (a b:Int)(s:ByteArray),v=.agg #[.int .i64 a,.string s,.int .i64 b])->L.length<=1000->n+2<c ->
 w.heap[n]?=some (.cells (aD l) 125)->w.heap[n+1]?=some (.cells #[.slice none 0 0,.string ⟨#[]⟩] 88)->w.heap[n+2]?=some (.cells #[.slice none 0 0,.string ⟨#[]⟩] 88)->(∃k s q,w.heap[c]?=some (.chan k L.toArray true s q false)) ->
 ∃a w',Steps Yq.prog (lone (pF2 n l pn c) cs w) (lone (jM a [0,1]) cs w')/\a.eval (.tmp 17)=.chan (some c)/\∃k s q,w'.heap[c]?=some (.chan k #[] true s q false)
theorem us (l:Lst):∀ (i:Nat) v,(aD l)[i]?=some v->Good v:=fun i v h=>by
 rcases i with - | - | - | - | - | - | - | - |i<;>simp [aD] at h<;>subst h
 .exact .int _ _
 .exact .pointer _
 .exact .bool _
 .exact .string _
 .exact .string _
 .exact .string _
 .exact .int _ _
 .exact .int _ _
theorem rC:∀ (i:Nat) v,(#[.slice none 0 0,.string ⟨#[]⟩]:Array Wq)[i]?=some v->Good v:=fun i v h=>by
 rcases i with - | - |i<;>simp at h<;>subst h
 .exact .slice _ _ _
 .exact .string _
section
variable [Two Tryz.prog] [Two Yq.prog] {Gf Fs Fr:FuncId->Bool} {ρ:Ren} {V W:Wz} {l:Lst} {r':Option Ww} {L:List Wq}
def own3 (n a:Nat):Prop:=a=n\/a=n+1\/a=n+2
theorem Cc (E:pL Gf Fs Fr)(hR:vQ)(S:bm ρ V W)(hS:ρ.F fS=false)(hr:RAo ρ l.root r')(pn:Int)(hL:∀v∈L,∃ (a b:Int)(s:ByteArray),v=.agg #[.int .i64 a,.string s,.int .i64 b])(hlen:L.length<=1000)(hI:GId Tryz.prog ρ)(Y:List Wv)(dd:Nat):
  ∃Vr ht,Side Tryz.prog ([trap Tryz.prog.alt],Y) ((tC S hS).low Fr (own3 V.heap.size) (V.heap.size+5) true ht) (G (pF2 V.heap.size l pn (V.heap.size+5)) [trap Yq.prog]) (G (pF2 W.heap.size {l with root:=r'} pn (W.heap.size+5)) Y) Vr ((bG W {l with root:=r'} 20).at dd) (V.heap.size+5) (W.heap.size+5) L /\
   (∀ (a:Nat) o,Vr.heap[a]?=some o->o.isChan=true->a=V.heap.size+5) /\
   Dem Yq.prog (jF Yq.prog ([trap Yq.prog],[]) (fun a=>a=V.heap.size+5) Fr) (Dy (V.heap.size+5)) (G (pF2 V.heap.size l pn (V.heap.size+5)) [trap Yq.prog]) Vr:=by
 have hold:∀a b,ρ a b->(bG V l 1000).heap[a]?=V.heap[a]?:=fun a b h=>dX V l 1000 (S.lt h).1
 have S3:bm (tC S hS) (bG V l 1000) ((bG W {l with root:=r'} 20).at dd):=pK S hS hr (fun i h=>h) (by omega) hold (fun _ _ _=>rfl) ⟨_,_,_,_,_,cZ V l 1000⟩ rfl (fun c h=>by
  have h:c=_:=h;subst h;exact ⟨_,cZ V l 1000,rfl⟩) dd
 have ht:Fr fS=true->true=false:=fun h=>by rw [E.r.2.1] at h;cases h
 have pr:∀i,i<7->(tC S hS) (V.heap.size+i) (W.heap.size+i):=fun i h=>mC h
 have r0:=bJ V l 1000 0 (by omega);have r1:=bJ V l 1000 1 (by omega);have r2:=bJ V l 1000 2 (by omega);have hlive:∀a,own3 V.heap.size a->a≠V.heap.size+5/\∃x e z,(bG V l 1000).heap[a]?=some (.cells x e z)/\(∀ (i:Nat) v,x[i]?=some v->Good v)/\∀y,(tC S hS) a y->∃x',((bG W {l with root:=r'} 20).at dd).heap[y]?=some (.cells x' e z):=fun a ha=>by
  rcases ha with rfl|rfl|rfl
  .refine ⟨by omega,_,_,_,r0,us l,fun y hy=>?_⟩;obtain rfl:=(tC S hS).fn _ _ _ hy (pr 0 (by omega));exact ⟨_,bJ W {l with root:=r'} 20 0 (by omega)⟩
  .refine ⟨by omega,_,_,_,r1,rC,fun y hy=>?_⟩;obtain rfl:=(tC S hS).fn _ _ _ hy (pr 1 (by omega));exact ⟨_,bJ W {l with root:=r'} 20 1 (by omega)⟩
  .refine ⟨by omega,_,_,_,r2,rC,fun y hy=>?_⟩;obtain rfl:=(tC S hS).fn _ _ _ hy (pr 2 (by omega));exact ⟨_,bJ W {l with root:=r'} 20 2 (by omega)⟩
 obtain ⟨Vr,SS,hsz,htp,hdr,hos,hrow,honly,hcell,hlv,hplain⟩:=lower (F:=Fr) (live:=own3 V.heap.size) (c:=V.heap.size+5) (c':=W.heap.size+5) (wide:=true) (n:=1000) (b:=L.toArray) (cl:=true) (s:=L.length) (q:=0) S3 ht E.r.1 (pr 5 (by omega)) (cZ W {l with root:=r'} 20) (.inl rfl) hlive;have hr2:∀ {σ:Ren},(∀a b,(tC S hS) a b->σ a b)->RAo σ l.root r':=fun hσ=>by
  generalize l.root=x at hr;cases hr with
  |none=>exact .none
  |some h=>exact .some ⟨hσ _ _ (.inl h.1),h.2⟩
 refine ⟨Vr,ht,?_,honly,?_⟩
 .refine ⟨⟨ur (P:=Tryz.prog) (σ:=(tC S hS).low Fr (own3 V.heap.size) (V.heap.size+5) true ht) (pr 0 (by omega)) (pr 1 (by omega)) (pr 2 (by omega)) (pr 5 (by omega)) (hr2 fun _ _ h=>h) E.okR,by rw [E.alt];exact .base,⟨fun _=>rfl,fun _=>rfl⟩,⟨rfl,rfl⟩,⟨rfl,rfl⟩,rfl,rfl⟩,SS,E.statR.gid (fun g hg=>.inl (hI.glob g hg)) hI.prog (fun h=>by rw [show (((tC S hS).low Fr (own3 V.heap.size) (V.heap.size+5) true ht).F)=Fr from rfl,E.r.1] at h;cases h),E.statR.ext,⟨E.r.2.1,E.r.2.2⟩,⟨rfl,rfl⟩,rfl,pr 5 (by omega),⟨_,_,_,_,_,hrow,rfl⟩⟩
 .have hLr:∀ {σ:Ren},RVs σ L.toArray L.toArray:=⟨rfl,fun i v v' h1 h2=>by
   rw [h1] at h2;cases h2;exact (rB (hL v (by
    have:L[i]?=some v:=by simpa using h1
    exact List.mem_of_getElem? this)) _).1⟩
  refine lA E.zero1 E.count1 (fun g w h=>?_) (fun g w τ d=>Iff.rfl) ⟨rfl,((tC S hS).low Fr (own3 V.heap.size) (V.heap.size+5) true ht).firm Yq.prog (zK E ρ.noM hI.prog) (V.heap.size+5),G (pF2 W.heap.size {l with root:=r'} pn (W.heap.size+5)) [],((bG W {l with root:=r'} 20).at dd).setChan (W.heap.size+5) 20 L.toArray true 0 0 false,⟨ur (P:=Yq.prog) (σ:=((tC S hS).low Fr (own3 V.heap.size) (V.heap.size+5) true ht).firm Yq.prog (zK E ρ.noM hI.prog) (V.heap.size+5)) (pr 0 (by omega)) (pr 1 (by omega)) (pr 2 (by omega)) (pr 5 (by omega)) (hr2 fun _ _ h=>h) E.okR1,.base,⟨fun _=>rfl,fun _=>rfl⟩,⟨rfl,rfl⟩,⟨rfl,rfl⟩,rfl,rfl⟩,vO SS (pr 5 (by omega)) hplain (fun b hb=>aF _ _ _ _ _ _ _ _ hb) rfl hrow (heap_setChan _ _ _ _ _ _ _ _ (eS (cZ W {l with root:=r'} 20)).1) hLr,E.statR1.gid (fun g hg=>.inl (hI.glob g (by rw [Yq.globals_size] at hg;exact hg))) rfl (fun _ _ h=>h),E.statR1.ext,rfl,rfl,⟨rfl,fun c h=>⟨W.heap.size+5,by rw [show c=V.heap.size+5 from h];exact pr 5 (by omega)⟩,rfl⟩,fun _ h=>h,E.rmk⟩ (fun τ d=>?_)
  .obtain ⟨a,rfl,-⟩:=h;exact ⟨by simp [G],rfl,rfl⟩
  .obtain ⟨a,w',hs,h17,hrow'⟩:=hR l pn L V.heap.size (V.heap.size+5) (Vr.on τ d) [trap Yq.prog] hL hlen (by omega) ((hlv _ (.inl rfl)).trans r0) ((hlv _ (.inr (.inl rfl))).trans r1) ((hlv _ (.inr (.inr rfl))).trans r2) ⟨_,_,_,hrow⟩;exact ⟨_,w',hs,a,rfl,h17,hrow'⟩
end
theorem Eh (m:Nat)(l:Lst)(root:Option Ww)(cs:List Wv)(w:Wz):stepG Tryz.prog true (G ((base 97).at ⟨eZ m root l.vs l.p l.d l.af (dL m),[]⟩ [.inRegion uo [1],.code i8]) cs) w=.spawn (G ((base 97).at ⟨eZ m root l.vs l.p l.d l.af (dL m),[]⟩ [.inRegion uo [],.code i8]) cs) (born Tryz.prog {target:=.fn (.func 119) #[ptr (m+3),ptr m,ptr (m+1)],args:=#[]}) w #[]:=by
 have hr : (execOp (Act.eval ⟨eZ m root l.vs l.p l.d l.af (dL m), []⟩) { dst := none, op := .go { callee := .value (.tmp 7), args := #[], argTypes := #[] }, type := 0, pos := "items.go:22", after := #[{ on := 0, ground := .data }], guard := none }).run Tryz.prog w = .ok (.spawn { target := .fn (.func 119) #[ptr (m + 3), ptr m, ptr (m + 1)], args := #[] }) w := by
  simp [go_sem,Act.eval,eZ,dL]
 have := stepG_spawn (P := Tryz.prog) (main := true) (b := base 97) (a := ⟨eZ m root l.vs l.p l.d l.af (dL m), []⟩) (k := [.code i8]) (cs := cs) (w := w) (ops := uo) (i := 1) (rest := []) (o := { dst := none, op := .go { callee := .value (.tmp 7), args := #[], argTypes := #[] }, type := 0, pos := "items.go:22", after := #[{ on := 0, ground := .data }], guard := none }) rfl rfl (by decide) hr rfl
 rw [this]
 have hl : listed Tryz.prog (base 97).fn ⟨eZ m root l.vs l.p l.d l.af (dL m), []⟩ { dst := none, op := .go { callee := .value (.tmp 7), args := #[], argTypes := #[] }, type := 0, pos := "items.go:22", after := #[{ on := 0, ground := .data }], guard := none } w = #[] := listed_nil (by simp [go_sem, Act.eval, eZ, dL])
 rw [hl];rfl
theorem zL {Q : Wx} {i : Nat} {fn : Func} (h : Q.funcs[i]? = some fn) (hn : (fn.name == "runtime.NumGoroutine") = false) (hb : fn.body.isNone = false) (args : Array Wq) (w : Wz) : (callFunc i args).runT Q w #[] = (.ok (.enter i args) w, #[]) := by
 show Sem.runT Q (match Q.funcs[i]? with|none=>_|some fn=>_) w #[]=_;rw [h];simp only [hn,hb];rfl
theorem zM (m:Nat)(w:Wz):stepG Tryz.prog false (born Tryz.prog {target:=.fn (.func 119) #[ptr (m+6),ptr (m+3),ptr (m+4)],args:=#[]}) w=.go (GP m) w #[]:=by
 have hc:(callFunc 119 #[ptr (m+6),ptr (m+3),ptr (m+4)]).runT Tryz.prog w #[]=(.ok (.enter 119 #[ptr (m+6),ptr (m+3),ptr (m+4)]) w,#[]):=zL Tryz.func119 rfl rfl _ w;have hi:(invoke (.fn (.func 119) #[ptr (m+6),ptr (m+3),ptr (m+4)]) #[]).runT Tryz.prog w #[]=(.ok (.enter 119 #[ptr (m+6),ptr (m+3),ptr (m+4)]) w,#[]):=by
  unfold invoke;simpa using hc
 have h0:stepG Tryz.prog false (born Tryz.prog {target:=.fn (.func 119) #[ptr (m+6),ptr (m+3),ptr (m+4)],args:=#[]}) w=callDeferred Tryz.prog (dA Tryz.prog) [] none {target:=.fn (.func 119) #[ptr (m+6),ptr (m+3),ptr (m+4)],args:=#[]} w:=rfl;rw [h0];unfold callDeferred;simp only [hi];rfl
section
variable [Two Tryz.prog] [Two Yq.prog] {Gf Fs Fr:FuncId->Bool} {Pre:Lst->List Wq->Wz->Prop}
structure DA (Pre:Lst->List Wq->Wz->Prop)(R:(Nat->Question->Nat)->Nat->Ending->Wz->Prop):Prop where
 stop:∀τ d x y e u,R τ d (.panicked (stopEntry x y::e)) u->∃l pn L,x=lV l/\y=.int .i64 pn/\Pre l L u
end
section
variable [Two Tryz.prog] [Two Yq.prog] {Gf Fs Fr:FuncId->Bool} {Pre:Lst->List Wq->Wz->Prop}
theorem oh {f0:FuncId}{R:(Nat->Question->Nat)->Nat->Ending->Wz->Prop}(E:pL Gf Fs Fr)(hStop:DA Pre R)(hce:∀l L V u,Ce V u->Pre l L u->Pre l L V){x y:Wq}{fr fr':Wv}{cs cs':List Wv}{V W:Wz}{ρ:Ren}{U:Outer}
  (hRel:Rel Tryz.prog U Gf [] ρ {frame:=fr,callers:=cs,status:=.running,dying:=none} {frame:=fr',callers:=cs',status:=.running,dying:=none} V W)
  (hD:Dem Yq.prog (fun g _=>NB [trap Yq.prog] g) (Ends Yq.prog f0 R) {frame:=Frame.enter Yq.prog 69 #[x,y] .normal,callers:=fr::cs,status:=.running,dying:=none} V):
  ∃l pn L,x=lV l/\y=.int .i64 pn/\Pre l L V:=by
 have hSM:(ρ.F fS||ρ.F lq)=false:=by rw [hRel.calm,hRel.quiet.1];rfl
 have hlen:1<=cs.length:=by
  have:=hRel.go.callers.len1;simpa using this
 have hcal:=hRel.go.callers;rw [E.alt] at hcal;have hDm:=Dem.on (fun _ _ _ _ h=>h) (fun g w τ d=>Ends.on τ d) hD (fun _ _=>0) 0;obtain ⟨frm,hst,hm,hd,hf⟩:=rv x y (fr::cs) (V.on (fun _ _=>0) 0) FN;obtain ⟨k,hk⟩:=hst;obtain ⟨-,hDp⟩:=zE (fun g w h=>oD h) k _ _ hDm rfl {frame:=frm,callers:=fr::cs,status:=.running,dying:=none} _ hk rfl (by simp;omega);have hcat:frm.catches Yq.prog=false:=by unfold Frame.catches;rw [hf,Yq.func69]
 obtain ⟨τ,d,e,u,hR,hC⟩:=Eb (ρ:=ρ) (en:=stopEntry x y) (V:=V) hDp [] hm rfl hcat (by rw [hd];exact fun d h=>by cases h) (.cons (eM hRel.go.frame _).1 (hRel.go.frame.defers.marks hSM) (RFs.fl hSM hcal)) (fun r b hrb l0 h0=>by
  obtain ⟨o,o',h1,h2,h3⟩:=hRel.sim.obj r b hrb;have h0:V.heap[r]?=_:=h0;rw [h1] at h0;cases h0;cases h3 with
  |deferred h=>exact h.marks hSM) ⟨rfl,fun _=>rfl⟩
 obtain ⟨l,pn,L,h1,h2,h3⟩:=hStop.stop τ d x y e u hR;exact ⟨l,pn,L,h1,h2,hce l L V u hC h3⟩
theorem xE {f0:FuncId}{R:(Nat->Question->Nat)->Nat->Ending->Wz->Prop}{Post:Wq->Wz->Prop}{U:Outer}(E:pL Gf Fs Fr)(hPre:zH Pre)(hRecv:vQ)(hStop:DA Pre R)(hce:∀l L V u,Ce V u->Pre l L u->Pre l L V):ui Tryz.prog U Gf [] (Ends Yq.prog f0 R) Post:=by
 intro f a a' fr fr' cs cs' V W ρ hM ⟨hargs,ha2⟩ hRel hD hsolo gs sl t q h0 hL hP;obtain rfl:f=69:=E.mark f (by rw [<-hRel.same];exact hM);obtain ⟨al⟩:=a;rcases al with - |⟨x,- |⟨y,- |⟨z,al⟩⟩⟩<;>simp at ha2
 have hD0:=hD;rw [E.alt] at hD0;obtain ⟨l,pn,L,rfl,rfl,hp⟩:=oh E hStop hce hRel hD0;obtain ⟨r',hr,rfl⟩:=B9 hargs;have hlen:1<=cs.length:=by
  have:=hRel.go.callers.len1;simpa using this
 have hS:=hRel.calm;have hBM:=hRel.quiet.1;have hX:RFs Tryz.prog ρ ([trap Tryz.prog.alt],[]) (fr::cs) (fr'::cs'):=.cons hRel.go.frame hRel.go.kind hRel.go.callers;have hDn:=Dem.on (fun _ _ _ _ h=>h) (fun g w τ d=>Ends.on τ d) hD0 (fun _ _=>1) 0;obtain ⟨V4,⟨k4,hk4⟩,hV7,hV5,hos4⟩:=rz hPre l pn L (V.on (fun _ _=>1) 0) (fr::cs) (hPre.on V _ l L (fun _ _=>rfl) (lR _) hp) FM;obtain ⟨hls,hDh⟩:=zE (fun g w h=>oD h) k4 _ _ hDn rfl {frame:=pF2 V.heap.size l pn (V.heap.size+5),callers:=fr::cs,status:=.running,dying:=none} V4 hk4 rfl (by simp;omega);have hpath:LSs Yq.prog (Ends Yq.prog f0 R) {frame:=Frame.enter Yq.prog 69 #[lV l,.int .i64 pn] .normal,callers:=fr::cs,status:=.running,dying:=none} V {frame:=pF2 V.heap.size l pn (V.heap.size+5),callers:=fr::cs,status:=.running,dying:=none} V4:=by
  rcases LSs.on (fun g w τ d=>Ends.on τ d) hls with ⟨e,-⟩|h
  .exfalso;have:=congrArg (fun g:Wj=>g.frame.todo) e;rw [oE] at this;cases this
  .exact h
 have hV7:∀b,b<V.heap.size+7->b≠V.heap.size+5->V4.heap[b]?=(bG V l 1000).heap[b]?:=hV7;have hV5:V4.heap[V.heap.size+5]?=some (.chan 1000 L.toArray true L.length 0 false):=hV5;have hos4:V4.os=V.os:=hos4;have hVold:∀a b,ρ a b->V4.heap[a]?=V.heap[a]?:=fun a b h=>by
  have:=(hRel.sim.lt h).1;exact (hV7 a (by omega) (by omega)).trans (dX V l 1000 this)
 have hsz:W.heap.size+7=W.heap.size+7:=rfl;refine vN (B:=W.heap.size+7) (Ed {l with root:=r'} pn (fr'::cs') W (W.heap.size+7) rfl (fun dd=>?_)) gs sl t q h0 hL (hP.mono (by omega));have hpsz:((pgW W {l with root:=r'}).at dd).heap.size=W.heap.size+3:=vP W _;refine vN (B4 _ _ r' l.vs l.p l.d l.af ((pgW W {l with root:=r'}).at dd) (W.heap.size+7) (by rw [hpsz]) (fun d2=>?_));intro gs1 sl1 t1 q1 h1 hL1 hP1;have hrw:∀d3,(itW ((pgW W {l with root:=r'}).at dd) r' l.vs l.p l.d l.af 20).at d3=(bG W {l with root:=r'} 20).at d3:=fun _=>rfl
 rw [hpsz] at h1;rw [hrw];obtain ⟨Vs,hts,hSnd,hDs⟩:=Cb E hPre hRel.sim hS hr hp hRel.gid 0;obtain ⟨Vr,htr,hSide,honly,hDr⟩:=Cc E hRecv hRel.sim hS hr pn (hPre.item l L V hp) (hPre.len l L V hp) hRel.gid (fr'::cs') 0;refine zD (W:=bG W {l with root:=r'} 20) (g:=G ((base 97).at ⟨eZ (W.heap.size+3) r' l.vs l.p l.d l.af (dL (W.heap.size+3)),[]⟩ [.inRegion uo [1],.code i8]) (pF W.heap.size {l with root:=r'} pn::fr'::cs')) rfl (fun d=>Eh (W.heap.size+3) l r' _ _)
  (ρr:=(tC hRel.sim hS).low Fr (own3 V.heap.size) (V.heap.size+5) true htr) (ρs:=(Ca hRel.sim hS).low Fs (fun _=>False) (V.heap.size+5) false hts) (fun gs2 sl2 t2 q2 d k hk0 hg0 hgk hL2 hP2=>?_) gs1 sl1 t1 q1 d2 h1 hL1 (by rw [eP];exact hP1)
 have O:vC Tryz.prog (phD (Ends Yq.prog f0 R) Gf Fs Fr L V.heap.size W.heap.size k (fr::cs,fr'::cs') ρ.rel {frame:=Frame.enter Yq.prog 69 #[lV l,.int .i64 pn] .normal,callers:=fr::cs,status:=.running,dying:=none} V U) Post:=
  GV E hk0 (fun v hv=>rB (hPre.item l L V hp v hv)) (fun h V hT=>by obtain ⟨_,_,_,_,_,_,_,rfl,-⟩:=hT;simp) hRel.gid hRel.ext hRel.same hS hBM hRel.out.2.2.2.2 hX hlen (fun h V2 hl=>hsolo h V2 (by rw [E.alt] at hl ⊢;exact hl))
 have hchA:∀c,(c=V.heap.size+5\/∃b o,ρ c b/\V.heap[c]?=some o/\o.isChan=true)->∃o,V4.heap[c]?=some o/\o.isChan=true:=fun c h=>by
  rcases h with rfl|⟨b,o,h1,h2,h3⟩
  .exact ⟨_,hV5,rfl⟩
  .exact ⟨o,(hVold c b h1).trans h2,h3⟩
 have SA:bm (ρ.plus V.heap.size W.heap.size (fun i=>i<7) (fun _ _ h=>hRel.sim.lt h) (fun c=>c=V.heap.size+5\/∃b o,ρ c b/\V.heap[c]?=some o/\o.isChan=true) hS) V4 ((bG W {l with root:=r'} 20).at d):=
  pK hRel.sim hS hr (fun i h=>h) (by omega) hVold (fun i h h5=>hV7 _ (by omega) (by omega)) ⟨_,_,_,_,_,hV5⟩ hos4 hchA d
 have prA:∀i,i<7->(ρ.plus V.heap.size W.heap.size (fun i=>i<7) (fun _ _ h=>hRel.sim.lt h) (fun c=>c=V.heap.size+5\/∃b o,ρ c b/\V.heap[c]?=some o/\o.isChan=true) hS) (V.heap.size+i) (W.heap.size+i):=fun i h=>mC h
 generalize hρA:ρ.plus V.heap.size W.heap.size (fun i=>i<7) (fun _ _ h=>hRel.sim.lt h) (fun c=>c=V.heap.size+5\/∃b o,ρ c b/\V.heap[c]?=some o/\o.isChan=true) hS=ρA at SA prA;have hFA:ρA.F=Gf:=by subst hρA;exact hRel.same
 have hAinv:∀a b,ρA a b->ρ a b\/∃i,i<7/\a=V.heap.size+i/\b=W.heap.size+i:=fun a b h=>by subst hρA;exact h
 have hAsub:∀a b,ρ a b->ρA a b:=fun a b h=>by subst hρA;exact .inl h
 have hrA:RAo ρA l.root r':=by
  generalize l.root=x at hr;cases hr with
  |none=>exact .none
  |some h=>exact .some ⟨hAsub _ _ h.1,h.2⟩
 have RR:n9 (phD (Ends Yq.prog f0 R) Gf Fs Fr L V.heap.size W.heap.size k (fr::cs,fr'::cs') ρ.rel {frame:=Frame.enter Yq.prog 69 #[lV l,.int .i64 pn] .normal,callers:=fr::cs,status:=.running,dying:=none} V U) ρA ((tC hRel.sim hS).low Fr (own3 V.heap.size) (V.heap.size+5) true htr) ((bG W {l with root:=r'} 20).at d) {frame:=pF2 V.heap.size l pn (V.heap.size+5),callers:=fr::cs,status:=.running,dying:=none} (G (pF2 V.heap.size l pn (V.heap.size+5)) [trap Yq.prog]) (G (pF2 W.heap.size {l with root:=r'} pn (W.heap.size+5)) (fr'::cs')) V4 Vr L:=by
  refine ⟨⟨⟨ur (P:=Tryz.prog) (σ:=ρA) (prA 0 (by omega)) (prA 1 (by omega)) (prA 2 (by omega)) (prA 5 (by omega)) hrA (by rw [hFA];exact E.okG),.base,⟨fun _=>rfl,fun _=>rfl⟩,⟨rfl,rfl⟩,⟨rfl,rfl⟩,rfl,rfl⟩,SA,?_,by rw [hFA,<-hRel.same];exact hRel.ext,⟨by rw [hFA,<-hRel.same];exact hS,by rw [hFA,<-hRel.same];exact hBM⟩,by subst hρA;exact ⟨rfl,rfl⟩,by subst hρA;exact .inl rfl,prA 5 (by omega),⟨_,_,_,_,_,hV5,rfl⟩⟩,hSide.stays rfl (fun _ _ _ _=>rfl) rfl,honly,fun x h=>h,⟨E.rmk,rfl⟩,⟨hAsub,hFA⟩,fun a b o hab ho hc=>?_,fun a b hch hab hne=>?_⟩
  .have hg:=hRel.gid;subst hρA;exact ⟨fun g h=>.inl (hg.glob g h),hg.prog,hg.code,hg.alt,fun _ _ h=>h,hg.same,hg.size,hg.apart⟩
  .have hch:(a=V.heap.size+5\/∃b o,ρ a b/\V.heap[a]?=some o/\o.isChan=true):=by
    rcases hAinv a b hab with h|⟨i,hi,rfl,rfl⟩
    .exact .inr ⟨b,o,h,by rw [<-hVold a b h];exact ho,hc⟩
    .by_cases h5:i=5
     .subst h5;exact .inl rfl
     .exfalso;rw [hV7 _ (by omega) (by omega),bJ V l 1000 i hi] at ho;rcases i with - | - | - | - | - | - | - |i;all_goals first|omega|(cases ho;cases hc)
   subst hρA;exact hch
  .have hne:a≠V.heap.size+5:=hne;have hch:(a=V.heap.size+5\/∃b o,ρ a b/\V.heap[a]?=some o/\o.isChan=true):=by subst hρA;exact hch
   rcases hch with h|⟨b2,o,h1,h2,h3⟩
   .exact absurd h hne
   .obtain rfl:b2=b:=ρA.fn _ _ _ (hAsub _ _ h1) hab;obtain ⟨n1,s1,q1',tm1,rfl⟩:=hRel.quiet.2 a b2 o h1 h2 h3;obtain ⟨o1,o2,e1,e2,e3⟩:=hRel.sim.obj a b2 h1;rw [h2] at e1;cases e1;cases e3 with
    | @chan _ cap' _ b' _ cl' _ _ s' q' _ hb hcl=>
     have hb:RVs ρ #[] b':=hb.resolve_left (by rw [hRel.firm.1];exact fun h=>by cases h);obtain rfl:=hcl.resolve_left (by rw [hRel.firm.2];exact fun h=>by cases h);obtain rfl:b'=#[]:=Array.eq_empty_of_size_eq_zero (by rw [<-hb.size];rfl);exact ⟨_,_,_,_,_,_,_,(hVold a b2 h1).trans h2,(dX W _ 20 (hRel.sim.lt h1).2).trans e2⟩
 have hrinv:∀a b,((tC hRel.sim hS).low Fr (own3 V.heap.size) (V.heap.size+5) true htr) a b->ρ a b\/∃i,i<7/\a=V.heap.size+i/\b=W.heap.size+i:=fun a b h=>h
 have hsinv:∀a b,((Ca hRel.sim hS).low Fs (fun _=>False) (V.heap.size+5) false hts) a b->ρ a b\/∃i,(3<=i/\i<7)/\a=V.heap.size+i/\b=W.heap.size+i:=fun a b h=>h
 have same:∀x y b,(ρ x b\/∃i,i<7/\x=V.heap.size+i/\b=W.heap.size+i)->(ρ y b\/∃i,(3<=i/\i<7)/\y=V.heap.size+i/\b=W.heap.size+i)->x=y/\¬own3 V.heap.size y:=fun x y b h1 h2=>by
  rcases h1 with h1|⟨i,hi,h1,h3⟩<;>rcases h2 with h2|⟨j,hj,h2,h4⟩
  .have:=(hRel.sim.lt h2).1;exact ⟨ρ.inj _ _ _ h1 h2,fun h=>by rcases h with h|h|h<;>omega⟩
  .have:=(hRel.sim.lt h1).2;omega
  .have:=(hRel.sim.lt h2).2;omega
  .exact ⟨by omega,fun h=>by rcases h with h|h|h<;>omega⟩
 have hpr:((tC hRel.sim hS).low Fr (own3 V.heap.size) (V.heap.size+5) true htr) (V.heap.size+6) (W.heap.size+6):=.inr ⟨6,by omega,rfl,rfl⟩;have hDs':Dem Tryz.prog.alt (phD (Ends Yq.prog f0 R) Gf Fs Fr L V.heap.size W.heap.size k (fr::cs,fr'::cs') ρ.rel {frame:=Frame.enter Yq.prog 69 #[lV l,.int .i64 pn] .normal,callers:=fr::cs,status:=.running,dying:=none} V U).Ns (phD (Ends Yq.prog f0 R) Gf Fs Fr L V.heap.size W.heap.size k (fr::cs,fr'::cs') ρ.rel {frame:=Frame.enter Yq.prog 69 #[lV l,.int .i64 pn] .normal,callers:=fr::cs,status:=.running,dying:=none} V U).Ts (GA V.heap.size) Vs:=by rw [E.alt];exact hDs
 have hDr':Dem Tryz.prog.alt (phD (Ends Yq.prog f0 R) Gf Fs Fr L V.heap.size W.heap.size k (fr::cs,fr'::cs') ρ.rel {frame:=Frame.enter Yq.prog 69 #[lV l,.int .i64 pn] .normal,callers:=fr::cs,status:=.running,dying:=none} V U).Nr (phD (Ends Yq.prog f0 R) Gf Fs Fr L V.heap.size W.heap.size k (fr::cs,fr'::cs') ρ.rel {frame:=Frame.enter Yq.prog 69 #[lV l,.int .i64 pn] .normal,callers:=fr::cs,status:=.running,dying:=none} V U).Tr (G (pF2 V.heap.size l pn (V.heap.size+5)) [trap Yq.prog]) Vr:=by rw [E.alt];exact hDr
 refine D6 O hDr' _ _ hDs' gs2 ((bG W {l with root:=r'} 20).at d) sl2 t2 q2 ρA _ _ _ _ L [] [] [] 20 0 0 false 14 2
  (.pre 12 RR (by rw [E.alt];exact hDh) (by rw [E.alt];exact hpath) ⟨⟨_,hpr,fun h=>?_⟩,?_⟩ (uq W.heap.size (W.heap.size+3) {l with root:=r'} pn (fr'::cs') ((bG W {l with root:=r'} 20).at d) r' (jm W {l with root:=r'} 20).out))
  (.new (hSnd.stays rfl (fun _ _ _ _=>rfl) rfl) (fun v=>zM W.heap.size v) rfl) ⟨_,cZ W {l with root:=r'} 20,rfl⟩ (by omega) rfl rfl ?_ ?_ hg0 hgk hL2 hP2
 .have h:V.heap.size+6=V.heap.size+5:=h;omega
 .show W.heap.size+6≠W.heap.size+5;omega
 .intro b x y hx hy;obtain ⟨rfl,ho⟩:=same x y b (hrinv _ _ hx) (hsinv _ _ hy);by_cases h5:x=V.heap.size+5
  .exact .inr ⟨h5,h5⟩
  .exact .inl ⟨⟨⟨b,hx⟩,ho,h5⟩,⟨b,hy⟩,(fun h=>h),h5⟩
 .have hko:∀i,¬U.Ko (W.heap.size+i):=fun i h=>by
   have:=U.lt _ h;have:=hRel.out.1.1;omega
  have hoff:∀a b,(ρ a b\/∃i,i<7/\a=V.heap.size+i/\b=W.heap.size+i)->¬U.Ko b:=fun a b h=>by
   rcases h with h|⟨i,-,-,rfl⟩
   .exact hRel.out.2.1 a b h
   .exact hko i
  refine ⟨fun b x y hx hy=>?_,⟨⟨?_,?_,fun b hb=>?_⟩,⟨fun a b h=>hoff a b (hAinv a b h),fun a b h=>hAsub a b (hRel.out.2.2.1 a b h),by rw [<-hρA];exact hRel.out.2.2.2⟩,⟨fun a b h=>hoff a b (hrinv a b h),fun a b h=>.inl (hRel.out.2.2.1 a b h),hRel.out.2.2.2⟩,hko 5⟩,⟨fun a b h=>hoff a b ((hsinv a b h).imp id (fun ⟨i,h1,h2⟩=>⟨i,h1.2,h2⟩)),fun a b h=>.inl (hRel.out.2.2.1 a b h),hRel.out.2.2.2⟩⟩
  .by_cases h5:y=V.heap.size+5
   .exact .inr h5
   .exact .inl ⟨⟨b,hy⟩,(fun h=>h),h5⟩
  .have:=hRel.out.1.1;show U.W0.heap.size<=(bG W {l with root:=r'} 20).heap.size;rw [eP];omega
  .exact hRel.out.1.2.1
  .have h1:=U.lt b hb;have h2:=hRel.out.1.1;exact (dX W {l with root:=r'} 20 (by omega)).trans (hRel.out.1.2.2 b hb)
end
def pM (P:Wx)(D0:Nat->Prop)(F:FuncId->Bool)(pin:Nat->Option (Array Wq))(hb:NoM P 3):Ren where
 rel:=fun a b=>a=b/\D0 a
 fn:=fun _a _b _b' h1 h2=>h1.1.symm.trans h2.1
 inj:=fun _a _a' _b h1 h2=>h1.1.trans h2.1.symm
 prog:=P
 F:=F
 old:=fun _=>False
 ch:=fun _=>False
 loose:=false
 wide:=false
 tight:=fun _=>rfl
 pin:=pin
 bad:=3
 noM:=hb
structure Start (W:Wz)(D0:Nat->Prop):Prop where
 rows:∀b,D0 b->∃c e z,W.heap[b]?=some (.cells c e z)
 glob:∀g,g<Tryz.prog.globals.size->D0 g
theorem Cd {ρ:Ren}{v:Wq}(h:me v=true):RV ρ v v:=by
 cases v with
 |bool b=>exact .bool b
 |int k n=>exact .int k n
 |string s=>exact .string s
 |pointer a=>cases a with
  |none=>exact .pointer .none
  |some a=>cases h
 |slice a n c=>cases a with
  |none=>exact .slice n c .none
  |some a=>cases h
 |map r=>cases r with
  |none=>exact .map .none
  |some r=>cases h
 |chan r=>cases r with
  |none=>exact .chan .none
  |some r=>cases h
 |nilFunc=>exact .nilFunc
 |nilIface=>exact .nilIface
 |_=>cases h
theorem Cf {ρ:Ren}{v v':Wq}(h:me v=true)(k:RV ρ v v'):v'=v:=by
 cases k with
 |bool|int|string|nilFunc|nilIface=>rfl
 |pointer k=>cases k with
  |none=>rfl
  |some _=>cases h
 |slice n c k=>cases k with
  |none=>rfl
  |some _=>cases h
 |map k=>cases k with
  |none=>rfl
  |some _=>cases h
 |chan k=>cases k with
  |none=>rfl
  |some _=>cases h
 |_=>cases h
structure lB (u v:Wq):Prop where
 rel:∀ρ:Ren,ρ.bad=3->RV ρ u v
 one:me v=true->u=v
 no:me v=false->g8 u=false\/∀ (ρ:Ren) v',RV ρ u v'->v'=v
theorem zN:∀ (n:Nat)(v:Wq),SizeOf.sizeOf v<n->∃u,lB u v:=by
 intro n;induction n with
 |zero=>intro v h;omega
 |succ n ih=>
  intro v hn;have dead:gX v=true->me v=false->∃u,lB u v:=fun h1 h2=>⟨.tuple #[],fun _ _=>.dead v h1,(fun h=>by rw [h2] at h;cases h),fun _=>.inl rfl⟩
  have self:me v=true->∃u,lB u v:=fun h=>⟨v,fun _ _=>Cd h,fun _=>rfl,fun h2=>by rw [h] at h2;cases h2⟩
  cases v with
  |agg c=>
   obtain ⟨c0,h0,h1⟩:=np (c:=c) (c':=c) (Q:=fun v _ u=>lB u v) rfl (fun i v v' hv _=>ih v (by
    have:=Array.sizeOf_lt_of_mem (Array.mem_of_getElem? hv);simp only [Value.agg.sizeOf_spec] at hn;omega))
   refine ⟨.agg c0,fun ρ hb=>.agg h0 (fun i u v k1 k2=>?_),fun h=>(by cases h),fun _=>.inl rfl⟩;obtain ⟨u2,e,k⟩:=h1 i v v k2 k2;rw [k1] at e;cases e;exact k.rel ρ hb
  |pointer a=>cases a with
   |none=>exact self rfl
   |some a=>exact dead rfl rfl
  |slice a n c=>cases a with
   |none=>exact self rfl
   |some a=>exact dead rfl rfl
  |map a=>cases a with
   |none=>exact self rfl
   |some a=>exact dead rfl rfl
  |chan a=>cases a with
   |none=>exact self rfl
   |some a=>exact dead rfl rfl
  |func f a c=>cases f with
   |method s=>
    refine ⟨.func (.method "") #[.iface 3 (.func (.method s) a c)] #[], fun ρ hb => .odd 3 s a c hb.symm, fun h => (by cases h), fun _ => .inr (fun ρ v' h => ?_)⟩
    cases h with
    |func hf=>cases hf
    |odd=>rfl
   |_=>exact dead rfl rfl
  |bool|int|string|nilFunc|nilIface=>exact self rfl
  |_=>exact dead rfl rfl
theorem xF (c:Array Wq):∃c0:Array Wq,c0.size=c.size/\∀ (i:Nat) v,c[i]?=some v->∃u,c0[i]?=some u/\lB u v:=by
 obtain ⟨c0,h0,h1⟩:=np (c:=c) (c':=c) (Q:=fun v _ u=>lB u v) rfl (fun i v v' _ _=>zN _ v (Nat.lt_succ_self _));exact ⟨c0,h0,fun i v hv=>h1 i v v hv hv⟩
structure Clean (D0:Nat->Prop)(W V:Wz):Prop where
 os:V.os=W.os
 size:V.heap.size=W.heap.size
 rest:∀b,¬D0 b->V.heap[b]?=W.heap[b]?
 row:∀b,D0 b->∃c c0 e z,W.heap[b]?=some (.cells c e z)/\V.heap[b]?=some (.cells c0 e z)/\c0.size=c.size/\∀ (i:Nat) v,c[i]?=some v->∃u,c0[i]?=some u/\lB u v
theorem Cg {W:Wz}{D0:Nat->Prop}(h:Start W D0):∃V,Clean D0 W V:=by
 classical
 have key:∀b:Nat,∃o:Obj,(D0 b->∃c c0 e z,W.heap[b]?=some (.cells c e z)/\o=.cells c0 e z/\c0.size=c.size/\∀ (i:Nat) v,c[i]?=some v->∃u,c0[i]?=some u/\lB u v)/\(¬D0 b->b<W.heap.size->W.heap[b]?=some o):=fun b=>by
  by_cases hd:D0 b
  .obtain ⟨c,e,z,h1⟩:=h.rows b hd;obtain ⟨c0,h2,h3⟩:=xF c;exact ⟨.cells c0 e z,fun _=>⟨c,c0,e,z,h1,rfl,h2,h3⟩,fun k=>absurd hd k⟩
  .by_cases hb:b<W.heap.size
   .exact ⟨W.heap[b],fun k=>absurd k hd,fun _ _=>eG hb⟩
   .exact ⟨.coro none,fun k=>absurd k hd,fun _ k=>absurd k hb⟩
 obtain ⟨f,key⟩:=Classical.skolem.1 key;refine ⟨{W with heap:=Array.ofFn (n:=W.heap.size) fun a=>f a.1},rfl,by simp,fun b hb=>?_,fun b hb=>?_⟩
 .by_cases hlt:b<W.heap.size
  .rw [(key b).2 hb hlt];simp [hlt]
  .rw [Array.getElem?_eq_none (by simpa using hlt),Array.getElem?_eq_none (by omega)]
 .obtain ⟨c,c0,e,z,h1,h2,h3⟩:=(key b).1 hb;have hlt:=(eS h1).1;exact ⟨c,c0,e,z,h1,by simp [hlt,h2],h3⟩
theorem Clean.cell {W V:Wz}{D0:Nat->Prop}(h:Clean D0 W V){a:Ww}{v:Wq}(hv:W.cell? a=some v)(h1:me v=true):V.cell? a=some v:=by
 unfold World.cell? at hv ⊢;by_cases hd:D0 a.block
 .obtain ⟨c,c0,e,z,k1,k2,-,k4⟩:=h.row _ hd;rw [k1] at hv;rw [k2];simp only at hv ⊢;split at hv
  .cases hv
  .rename_i hs;obtain ⟨u,e1,e2⟩:=k4 _ _ hv;rw [if_neg hs,e1,e2.one h1]
 .rw [h.rest _ hd];exact hv
noncomputable def jN (W:Wz)(D0:Nat->Prop)(b:Nat):Option (Array Wq):=by
 classical
 exact if D0 b then match W.heap[b]? with|some (.cells c _ _)=>some c|_=>none else none
theorem rD {W V:Wz}{D0:Nat->Prop}(h:Clean D0 W V)(P:Wx)(F:FuncId->Bool)(hb:NoM P 3):bm (pM P D0 F (jN W D0) hb) V W:=by
 refine ⟨fun a b hab=>?_,fun _ h=>h.elim,fun _ h=>h.elim,h.os.symm,fun _ a c0 hp=>?_⟩
 .obtain ⟨rfl,hd⟩:=hab;obtain ⟨c,c0,e,z,h1,h2,h3,h4⟩:=h.row a hd;refine ⟨_,_,h2,h1,.cells e (.inl rfl) ⟨h3,fun i u v k1 k2=>?_⟩⟩;obtain ⟨u2,e1,e2⟩:=h4 i v k2;rw [k1] at e1;cases e1;exact e2.rel _ rfl
 .have hp:jN W D0 a=some c0:=hp;unfold jN at hp;split at hp
  .rename_i hd;obtain ⟨c,c1,e,z,h1,h2,-⟩:=h.row a hd;rw [h1] at hp;cases hp;exact ⟨a,⟨rfl,hd⟩,c1,e,z,c0,z,h2,h1,fun _ _ _ _=>rfl⟩
  .cases hp
structure rE (W W':Wz):Prop where
 os:W'.os=W.os
 output:W'.output=W.output
 size:W.heap.size<=W'.heap.size
 block:∀b,b<W.heap.size->W'.heap[b]?=W.heap[b]?
def kD (Pre:Lst->List Wq->Wz->Prop)(W:Wz)(e:Ending)(u:Wz):Prop:=
 (e=.returned (.bool true)/\u.os=W.os/\∀b,b<W.heap.size->u.heap[b]?=W.heap[b]?)\/∃x y l,e=.panicked (stopEntry x y::l)/\∃ls pn L,x=lV ls/\y=.int .i64 pn/\Pre ls L u
section
variable [Two Tryz.prog] [Two Yq.prog] {Gf Fs Fr Fa:FuncId->Bool} {Pre:Lst->List Wq->Wz->Prop}
theorem Ei (E:pL Gf Fs Fr)(sG:fX Tryz.prog Gf)(sA:fX Yq.prog Fa)(mkA:∀f,¬Mk Fa f=true)(hG:Gf fS=false/\Gf lq=false/\Gf 69=false/\Gf lp=true)(hPre:zH Pre)(hRecv:vQ)(hce:∀l L V u,Ce V u->Pre l L u->Pre l L V)
  {f0:FuncId} {fn:Func} {b0:Code} (hfz:Tryz.prog.funcs[f0]?=some fn) (hfq:Yq.prog.funcs[f0]?=some fn) (hb0:fn.body=some b0) (hinit:Tryz.prog.inits.idxOf? f0=none) (h0G:Gf f0=true) (h0A:Fa f0=true) {args:Array Wq} {W:Wz} {D0:Nat->Prop} (hst:Start W D0) (hargs:∀ (ρ:Ren),(∀b,D0 b->ρ b b)->RVs ρ args args)
  (hcalls:∀V,Clean D0 W V->∀τ d,Calls Yq.prog f0 args (V.on τ d) (kD Pre V)):Fin Tryz.prog (fun v W'=>v=.bool true/\rE W W') #[G (Frame.enter Tryz.prog f0 args .normal) []] W none #[]:=by
 obtain ⟨V0,hcl⟩:=Cg hst;replace hcalls:=hcalls V0 hcl;have hbz:NoM Tryz.prog 3:=by unfold NoM;kernel_rfl
 have hbq:NoM Yq.prog 3:=zK E hbz rfl;have hA:∀F,RVs (pM Tryz.prog D0 F (jN W D0) hbz) args args:=fun F=>hargs _ (fun b h=>⟨rfl,h⟩)
 have hA1:∀F,RVs (pM Yq.prog D0 F (jN W D0) hbq) args args:=fun F=>hargs _ (fun b h=>⟨rfl,h⟩)
 have frm:∀ (P Q:Wx) (σ:Ren),P.funcs[f0]?=some fn->Q.funcs[f0]?=some fn->RVs σ args args->aA P σ.F b0=true->RFr P σ (Frame.enter Q f0 args .normal) (Frame.enter P f0 args .normal):=fun P Q σ hP hQ ha ho=>by
  have e1:(Frame.enter Q f0 args .normal).todo=[.code b0]:=by simp [Frame.enter,hQ,hb0]
  have e2:(Frame.enter P f0 args .normal).todo=[.code b0]:=by simp [Frame.enter,hP,hb0]
  have t1:(Frame.enter Q f0 args .normal).tmps=args++Array.replicate (fn.ntmps-args.size) Wy:=by simp [Frame.enter,hQ]
  have t2:(Frame.enter P f0 args .normal).tmps=args++Array.replicate (fn.ntmps-args.size) Wy:=by simp [Frame.enter,hP]
  refine ⟨rfl,?_,by rw [e1,e2];exact .cons (.code ho) .nil,.nil,.run,⟨rfl,rfl,by simp [Frame.enter]⟩,.none⟩;rw [t1,t2];refine ⟨rfl,fun i v v' h1 h2=>?_⟩;rw [h1] at h2;cases h2;rw [Array.getElem?_append] at h1;split at h1
  .exact ha.at_ i v v h1 h1
  .simp only [Array.getElem?_replicate] at h1;split at h1
   .cases h1;exact cH
   .cases h1
 have hout:∀ (τ:Nat->Question->Nat) (d:Nat) (u:Wz),¬kD Pre V0 .outgrown u:=fun τ d u h=>by
  rcases h with ⟨h,-⟩|⟨_,_,_,h,-⟩<;>cases h
 have hself:Self Yq.prog ([trap Yq.prog],[]) (fun _=>False) Fa {frame:=Frame.enter Yq.prog f0 args .normal,callers:=[trap Yq.prog],status:=.running,dying:=none} V0:=
  ⟨rfl,pM Yq.prog D0 Fa (jN W D0) hbq,{frame:=Frame.enter Yq.prog f0 args .normal,callers:=[],status:=.running,dying:=none},W,⟨frm Yq.prog Yq.prog _ hfq hfq (hA1 _) (sA.code f0 fn b0 h0A hfq hb0),.base,⟨fun _=>rfl,fun _=>rfl⟩,⟨rfl,rfl⟩,⟨rfl,rfl⟩,rfl,rfl⟩,rD hcl _ _ _,sA.gid (σ:=pM Yq.prog D0 Fa (jN W D0) hbq) (fun g hg=>⟨rfl,hst.glob g (by rw [Yq.globals_size] at hg;exact hg)⟩) rfl (fun _ _ h=>h),sA.ext,rfl,rfl,⟨rfl,fun _ h=>h.elim,rfl⟩,fun _ h=>h,mkA⟩
 have hD:=(rm E.zero1 E.count1 (R:=fun _ _=>kD Pre V0) hcalls hout hself).imp (N':=fun g _=>NB [trap Yq.prog] g) (fun g w h=>h.2)
 let U:Outer:=⟨fun b=>b<W.heap.size/\¬D0 b,W,fun b h=>h.1,fun a b=>a=b/\D0 a,jN W D0,3⟩
 have hleaf:Leaf Tryz.prog U Gf (Ends Tryz.prog.alt f0 (fun _ _=>kD Pre V0)) (fun v W'=>v=.bool true/\rE W W'):=by
  refine D8 (page:=69) hG.2.2.1 hinit (fun τ d e u h=>?_) (fun h V ρ g W1 ρ' W' hE hm hRel hle S hK=>⟨rfl,?_⟩)
  .rcases h with ⟨h,-⟩|⟨x,y,l,h,-⟩
   .exact .inl h
   .exact .inr ⟨_,_,_,_,_,_,h⟩
  .obtain ⟨τ,d,τ',d',e,fr,hR,rfl,-,hlv,-⟩:=hE;rcases hR with ⟨rfl,hos,hrow⟩|⟨x,y,l,rfl,-⟩
   .refine ⟨S.os.trans (hos.trans hcl.os),hK.2.1,hK.1,fun b hb=>?_⟩;by_cases hd:D0 b
    .have hbb:ρ' b b:=hle _ _ (hRel.out.2.2.1 b b ⟨rfl,hd⟩);obtain ⟨c,c0,e,z,h1,h0,h3,h2⟩:=hcl.row b hd;obtain ⟨o,o',k1,k2,k3⟩:=S.obj b b hbb;have hF:ρ'.F lp=true:=by rw [hle.F,hRel.same];exact hG.2.2.2
     have hpin:ρ'.pin b=some c:=by
      rw [hle.pin,hRel.out.2.2.2.1];show jN W D0 b=some c;unfold jN;rw [if_pos hd,h1]
     obtain ⟨b2,hb2,c1,e1,z1,c2,z2,p1,p2,p3⟩:=S.pin hF b c hpin;obtain rfl:=ρ'.fn _ _ _ hbb hb2;have hrow:V.heap[b]?=V0.heap[b]?:=hrow b (by rw [hcl.size];exact hb);rw [hrow,h0] at k1 p1;cases k1;cases p1;rw [p2] at k2;cases k2;cases k3 with
     |cells e hz hv=>
      rcases hz with rfl|⟨hz,-⟩
      .rw [p2,h1];refine congrArg (fun x=>some (Obj.cells x e z)) ?_;refine Array.ext_getElem? (fun i=>?_);by_cases hi:i<c.size
       .obtain ⟨u,q1,q2⟩:=h2 i _ (eG hi);by_cases ho:me c[i]=true
        .have q3:i<c2.size:=by rw [<-hv.size,h3];exact hi
         have q4:=q2.one ho;have:=hv.at_ i u _ q1 (eG q3);rw [q4] at this;rw [eG q3,eG hi,Cf ho this]
        .rcases q2.no (by simpa using ho) with q5|q5
         .exact p3 i u q1 q5
         .have q3:i<c2.size:=by rw [<-hv.size,h3];exact hi
          rw [eG q3,eG hi,q5 _ _ (hv.at_ i u _ q1 (eG q3))]
       .rw [Array.getElem?_eq_none (by rw [<-hv.size,h3];omega),Array.getElem?_eq_none (by omega)]
      .rw [hF] at hz;cases hz
    .exact hK.2.2 b ⟨hb,hd⟩
   .have hlv:=hlv.1;rw [hm] at hlv;cases hlv
 have hap:ui Tryz.prog U Gf [] (Ends Tryz.prog.alt f0 (fun _ _=>kD Pre V0)) (fun v W'=>v=.bool true/\rE W W'):=by
  rw [E.alt];refine xE E hPre hRecv ⟨fun τ d x y e u h=>?_⟩ hce;rcases h with ⟨h,-⟩|⟨x',y',l,h,hp⟩
  .cases h
  .cases h;exact hp
 have hD':Dem Tryz.prog.alt (fun g _=>NB [trap Tryz.prog.alt] g) (Ends Tryz.prog.alt f0 (fun _ _=>kD Pre V0)) {frame:=Frame.enter Yq.prog f0 args .normal,callers:=[trap Yq.prog],status:=.running,dying:=none} V0:=by
  rw [E.alt];exact hD
 have hrel:Rel Tryz.prog U Gf [] (pM Tryz.prog D0 Gf (jN W D0) hbz) {frame:=Frame.enter Yq.prog f0 args .normal,callers:=[trap Yq.prog],status:=.running,dying:=none} {frame:=Frame.enter Tryz.prog f0 args .normal,callers:=[],status:=.running,dying:=none} V0 W:=by
  have hf:=frm Tryz.prog Yq.prog (pM Tryz.prog D0 Gf (jN W D0) hbz) hfz hfq (hA _) (sG.code f0 fn b0 h0G hfz hb0);have hgid:GId Tryz.prog (pM Tryz.prog D0 Gf (jN W D0) hbz):=sG.gid (σ:=pM Tryz.prog D0 Gf (jN W D0) hbz) (fun g hg=>⟨rfl,hst.glob g hg⟩) rfl (fun _ _ h=>h);have hk:∀P:Wx,(Frame.enter P f0 args .normal).kind=.normal/\(Frame.enter P f0 args .normal).roundOf=none:=fun _=>⟨rfl,rfl⟩
  refine ⟨⟨hf,by rw [E.alt];exact .base,⟨fun _=>(hk _).1.trans (hk _).1.symm,fun _=>(hk _).2⟩,⟨rfl,rfl⟩,⟨rfl,rfl⟩,rfl,rfl⟩,rD hcl _ _ _,hgid,sG.ext,hG.1,rfl,⟨rfl,rfl⟩,⟨hG.2.1,fun a b o hab ho hc=>?_⟩,⟨⟨lR _,rfl,fun _ _=>rfl⟩,fun a b hab hk=>?_,fun a b h=>h,rfl,rfl⟩⟩
  .obtain ⟨_,c,e,z,-,h1,-⟩:=hcl.row a hab.2;rw [h1] at ho;cases ho;cases hc
  .obtain ⟨rfl,hd⟩:=hab;exact hk.2 hd
 have hlv:Lv Tryz.prog (fun _=>False) #[] #[({frame:=Frame.enter Tryz.prog f0 args .normal,callers:=[],status:=.running,dying:=none}:Wj)] (fun _=>0):=by
  refine ⟨fun j y hj _ hy=>?_,fun j hj=>?_⟩
  .cases j with
   |zero=>omega
   |succ j=>simp at hy
  .exact (Go.Conc.leavers_one Tryz.prog {frame:=Frame.enter Tryz.prog f0 args .normal,callers:=[],status:=.running,dying:=none}).above j hj
 exact D5 E.zero E.count (zz hleaf) hap hD' _ _ (.refl _ _) _ _ W none #[] (fun _=>0) _ rfl hlv (Go.Conc.past_nil.mono (Nat.zero_le _)) hrel
end
end
section
open Go
theorem ir {v:Wq}(h:me v=true)(ρ:Ren):RV ρ v v:=by
 cases v with
 |bool b=>exact .bool b
 |int k n=>exact .int k n
 |string s=>exact .string s
 |pointer a=>cases a with
  |none=>exact .pointer .none
  |some a=>cases h
 |slice a n c=>cases a with
  |none=>exact .slice n c .none
  |some a=>cases h
 |map r=>cases r with
  |none=>exact .map .none
  |some r=>cases h
 |chan r=>cases r with
  |none=>exact .chan .none
  |some r=>cases h
 |nilFunc=>exact .nilFunc
 |nilIface=>exact .nilIface
 |_=>cases h
theorem mD {c:Array Wq}{p:Wq->Bool}(h:c.all p=true){ρ:Ren}(hp:∀v,p v=true->RV ρ v v):RVs ρ c c:=⟨rfl,fun i v v' h1 h2=>by
 rw [h1] at h2;cases h2;obtain ⟨hi,rfl⟩:=eS h1;exact hp _ (Array.all_eq_true.1 h i hi)⟩
theorem jn {v:Wq}(h:mM v=true)(ρ:Ren):RV ρ v v:=by
 unfold mM at h;split at h
 .exact .agg rfl (mD h (fun v h=>ir h ρ)).at_
 .exact .tuple rfl (mD h (fun v h=>ir h ρ)).at_
 .exact .iface _ (ir h ρ)
 .exact ir h ρ
def Ch:Wq->Bool
 | .agg c=>c.all mM
 | .tuple c=>c.all mM
 |v=>mM v
theorem xG {v:Wq}(h:Ch v=true)(ρ:Ren):RV ρ v v:=by
 unfold Ch at h;split at h
 .exact .agg rfl (mD h (fun v h=>jn h ρ)).at_
 .exact .tuple rfl (mD h (fun v h=>jn h ρ)).at_
 .exact jn h ρ
theorem oH {ρ:Ren}{z:Wq}(h:RV ρ z z):RVs ρ z.cells z.cells:=by
 have one:RVs ρ #[z] #[z]:=⟨rfl,fun i v v' h1 h2=>by
  rw [h1] at h2;cases h2;cases i with
  |zero=>simp at h1;subst h1;exact h
  |succ i=>simp at h1⟩
 cases z with
 |agg c=>
  cases h with
  |agg hc hx=>exact ⟨rfl,hx⟩
 |_=>exact one
theorem RVs.append' {ρ:Ren}{a a' b b':Array Wq}(h:RVs ρ a a')(k:RVs ρ b b'):RVs ρ (a++b) (a'++b'):=⟨by simp [h.size,k.size],fun i v v' h1 h2=>by
 rw [Array.getElem?_append] at h1 h2;by_cases hi:i<a.size
 .rw [if_pos hi] at h1;rw [if_pos (by rw [<-h.size];exact hi)] at h2;exact h.at_ i v v' h1 h2
 .rw [if_neg hi] at h1;rw [if_neg (by rw [<-h.size];exact hi),<-h.size] at h2;exact k.at_ _ v v' h1 h2⟩
def Zi (i:TypeInfo):Prop:=∀z,i.zero=some z->∀ρ,RV ρ z z
theorem zO {ρ:Ren}{c:Array Wq}(h:RVs ρ c c)(n:Nat):RVs ρ (Array.replicate n c).flatten (Array.replicate n c).flatten:=by
 induction n with
 |zero=>simp;exact RVs.nil
 |succ n ih=>
  rw [Array.replicate_succ,Array.flatten_push];exact ih.append' h
theorem zP {α β:Type}(body:α->β->Option (ForInStep β))(I:β->Prop)(hb:∀a b s,I b->body a b=some s->I (match s with| .done x=>x| .yield x=>x)):∀ (l:List α)(b r:β),I b->forIn l b body=some r->I r:=by
 intro l;induction l with
 |nil=>intro b r hI h;simp at h;subst h;exact hI
 |cons a l ih=>
  intro b r hI h;rw [List.forIn_cons] at h;cases hx:body a b with
  |none=>rw [hx] at h;cases h
  |some s=>
   rw [hx] at h;have:=hb a b s hI hx;cases s with
   |done x=>cases h;exact this
   |yield x=>exact ih x r this h
theorem kE {d:TypeDesc}{str:String}{z:Wq}{c:Bool}{b:Nat}(h:me z=true):Zi (Made.word d str z c b):=fun y hy ρ=>by
 cases hy;exact ir h ρ
theorem zQ {info:Wk->Option TypeInfo}(hi:∀t i,info t=some i->Zi i){fs:Array Field}{i:TypeInfo}(h:Made.reckonStruct info fs=some i):Zi i:=by
 unfold Made.reckonStruct at h;dsimp only at h;rw [<-Array.forIn_toList] at h;rw [Option.bind_eq_bind,Option.bind_eq_some_iff] at h;obtain ⟨r,hr,h⟩:=h;have key:=zP _ (fun r=>∀a,r.2.2.2.2.2.2.2.1=some a->∀ρ,RVs ρ a a) (fun f b s hI hs=>by
  rw [Option.bind_eq_bind,Option.bind_eq_some_iff] at hs;obtain ⟨i,hf,hs⟩:=hs;have hz:∀a,(if b.2.1+i.size > Made.mostCells then none else (b.2.2.2.2.2.2.2.1.bind fun x=>i.zero.bind fun y=>some (x++y.cells)))=some a->∀ρ,RVs ρ a a:=fun a ha ρ=>by
   split at ha
   .cases ha
   .rw [Option.bind_eq_some_iff] at ha;obtain ⟨x,hx,ha⟩:=ha;rw [Option.bind_eq_some_iff] at ha;obtain ⟨y,hy,ha⟩:=ha;cases ha;exact (hI x hx ρ).append' (oH (hi _ _ hf y hy ρ))
  simp only [Option.bind_eq_bind,Option.pure_def,Option.bind_none,Option.bind_some] at hs;generalize (if b.2.1+i.size > Made.mostCells then none else (b.2.2.2.2.2.2.2.1.bind fun x=>i.zero.bind fun y=>some (x++y.cells)))=zx at hs hz
  generalize (if b.fst.size + 1 < fs.size then ";" else "") = sm at hs
  split at hs
  .cases hs
  .split at hs
   .cases hs
   .split at hs
    .split at hs<;>(cases hs;exact hz)
    .rw [Option.bind_eq_some_iff] at hs;obtain ⟨tg,-,hs⟩:=hs;split at hs<;>(cases hs;exact hz)) _ _ r (fun a ha ρ=>by cases ha;exact RVs.nil) hr
 intro z hz ρ;have fin:∀ (o:Option (Array Wq)),(∀a,o=some a->∀ρ,RVs ρ a a)->o.map Value.agg=some z->RV ρ z z:=fun o ho h=>by
  cases o with
  |none=>cases h
  |some a=>cases h;exact .agg rfl (ho a rfl ρ).at_
 split at h
 .cases h;exact fin _ key hz
 .cases h;exact fin _ key hz
theorem zR {info:Wk->Option TypeInfo}(hi:∀t i,info t=some i->Zi i){d:TypeDesc}{i:TypeInfo}(h:Made.reckon info d=some i):Zi i:=by
 unfold Made.reckon at h;cases d with
 |struct fs=>exact zQ hi h
 |array n e=>
  simp only [Option.bind_eq_bind,Option.pure_def,Option.bind_eq_some_iff] at h;obtain ⟨j,hj,s,-,h⟩:=h;cases h;intro z hz ρ;simp only at hz;split at hz
  .cases hz
  .split at hz
   .cases hz;exact .agg rfl RVs.nil.at_
   .cases hx:j.zero with
    |none=>rw [hx] at hz;cases hz
    |some y=>
     rw [hx] at hz;cases hz;exact .agg rfl (zO (oH (hi _ _ hj y hx ρ)) n).at_
 |pointer e=>
  simp only [Option.bind_eq_bind,Option.pure_def,Option.bind_eq_some_iff] at h;obtain ⟨j,hj,h⟩:=h;split at h
  .cases h
  .split at h
   .cases h
   .rw [Option.bind_eq_some_iff] at h;obtain ⟨s,-,h⟩:=h;cases h;exact kE rfl
  .rw [Option.bind_eq_some_iff] at h;obtain ⟨s,-,h⟩:=h;cases h;exact kE rfl
 |slice e=>
  simp only [Option.bind_eq_bind,Option.pure_def,Option.bind_eq_some_iff] at h;obtain ⟨j,hj,s,-,h⟩:=h;cases h;exact kE rfl
 |map k e=>
  simp only [Option.bind_eq_bind,Option.pure_def,Option.bind_eq_some_iff] at h;obtain ⟨j,hj,s,-,j2,-,s2,-,h⟩:=h;cases h;exact kE rfl
 |chan dir e=>
  simp only [Option.bind_eq_bind,Option.pure_def,Option.bind_eq_some_iff] at h;obtain ⟨j,hj,s,-,h⟩:=h;cases h;exact kE rfl
 |func ps rs v=>
  simp only [Option.bind_eq_bind,Option.pure_def,Option.bind_eq_some_iff] at h;obtain ⟨s,-,h⟩:=h;cases h;exact kE rfl
 |_=>cases h
theorem Ej {P:Wx}(h:∀ (t:Nat)(i:TypeInfo)(z:Wq),P.types[t]?=some i->i.zero=some z->Ch z=true):bu P:=by
 have ht:∀ (t:Nat) (i:TypeInfo),P.types[t]?=some i->Zi i:=fun t i hi z hz ρ=>xG (h t i z hi hz) ρ
 have hm:∀f t i,Made.infoAt P.toTables f t=some i->Zi i:=fun f=>by
  induction f with
  |zero=>intro t i h;cases h
  |succ f ih=>
   intro t i h;unfold Made.infoAt at h;split at h
   .exact ht t i h
   .rw [Option.bind_eq_some_iff] at h;obtain ⟨d,-,h⟩:=h;exact zR (fun t i h=>ih t i h) h
 intro t i z hi hz ρ;unfold Tables.info? at hi;split at hi
 .exact ht t i hi z hz ρ
 .exact hm _ t i hi z hz ρ
def rg (a b f:Nat):Bool:=Nat.ble a f&&Nat.ble f b
def Gs (f:Nat):Bool:=rg 3 68 f||rg 70 96 f||rg 98 118 f||rg 121 137 f||rg 141 154 f||rg 158 164 f||rg 167 171 f||rg 176 179 f||rg 182 183 f||f==1000000||f==1000001||f==2000069
def Ss (f:Nat):Bool:=f==64||f==91||f==101||f==111||f==116||rg 119 120 f||rg 122 123 f||rg 133 135 f||rg 138 140 f||f==153||rg 155 157 f||rg 165 166 f||rg 172 175 f||rg 180 181 f||f==1000002
def Rs (f:Nat):Bool:=f==98||f==121||f==141||f==151||f==158||rg 167 170 f||rg 176 179 f||rg 182 183 f||f==1000001
def As (f:Nat):Bool:=rg 3 183 f||rg 1000000 1000003 f
def Ci (P:Wx)(F:FuncId->Bool):Bool:=(List.range 206).all fun f=>!F f||(match P.funcs[f]? with|some fn=>(match fn.body with|some b=>aA P F b|none=>f==136||f==173||f==180)|none=>true)
theorem fY {P:Wx}{F:FuncId->Bool}(h:Ci P F=true)(hs:P.funcs.size=206):∀ (f:FuncId) fn b,F f=true->P.funcs[f]?=some fn->fn.body=some b->aA P F b=true:=fun f fn b hF hf hb=>by
 have hlt:f<206:=by rw [<-hs];exact (eS hf).1
 have:=List.all_eq_true.1 h f (List.mem_range.2 hlt);rw [hF,hf] at this;simp only [hb] at this;simpa using this
theorem zS {P:Wx}{F:FuncId->Bool}(h:Ci P F=true)(hs:P.funcs.size=206):∀ (f:FuncId) fn,F f=true->P.funcs[f]?=some fn->fn.body=none->f=136\/f=173\/f=180:=fun f fn hF hf hb=>by
 have hlt:f<206:=by rw [<-hs];exact (eS hf).1
 have:=List.all_eq_true.1 h f (List.mem_range.2 hlt);rw [hF,hf] at this;simp only [hb] at this;have:=this;simp at this;rcases this with (h|h)|h
 .exact .inl h
 .exact .inr (.inl h)
 .exact .inr (.inr h)
theorem nu:Tryz.prog.funcs.size=206:=by kernel_rfl
theorem nv:Yq.prog.funcs.size=206:=by kernel_rfl
theorem FS:Ci Tryz.prog Gs=true:=by kernel_rfl
theorem FT:Ci Tryz.prog Ss=true:=by kernel_rfl
theorem FU:Ci Tryz.prog Rs=true:=by kernel_rfl
theorem DC:Ci Yq.prog Ss=true:=by kernel_rfl
theorem DD:Ci Yq.prog Rs=true:=by kernel_rfl
theorem DE:Ci Yq.prog As=true:=by kernel_rfl
theorem GB:aA Tryz.prog Gs (bB (fI bE))=true/\aA Tryz.prog Gs (bB bE)=true:=⟨by kernel_rfl,by kernel_rfl⟩
theorem GC:aA Tryz.prog Rs (bB (fI bE))=true/\aA Tryz.prog Rs (bB bE)=true:=⟨by kernel_rfl,by kernel_rfl⟩
theorem GD:aA Yq.prog Rs (bB (fI bE))=true/\aA Yq.prog Rs (bB bE)=true:=⟨by kernel_rfl,by kernel_rfl⟩
theorem FV:aA Tryz.prog Rs (aZ Tryz.f69)=false:=by kernel_rfl
def GW (P:Wx):Bool:=P.types.all fun i=>match i.zero with|some z=>Ch z|none=>true
theorem nw {P:Wx}(h:GW P=true):bu P:=Ej fun t i z hi hz=>by
 obtain ⟨ht,rfl⟩:=eS hi;have:=Array.all_eq_true.1 h t ht;simp only [hz] at this;exact this
theorem FW:bu Tryz.prog:=nw (by kernel_rfl)
theorem FX:bu Yq.prog:=nw (by kernel_rfl)
theorem lE {P : Wx} (h : (P.funcs.all fun f => !(f.name == "runtime.NumGoroutine")) = true) : bI P := fun f fn hf e => by
 obtain ⟨ht,rfl⟩:=eS hf;have:=Array.all_eq_true.1 h f ht;rw [e] at this;cases this
theorem Ek:bI Tryz.prog:=lE (by kernel_rfl)
theorem El:bI Yq.prog:=lE (by kernel_rfl)
section
variable {P:Wx} [Two P] {ρ:Ren}
theorem zT:∀ (n:Nat){ρ:Ren}{a a':Ww}(acc:ByteArray),RA ρ a a'->RS P QE ρ (Extern.Bytes.loadBytes a n acc) (Extern.Bytes.loadBytes a' n acc):=by
 intro n;induction n with
 |zero=>intro ρ a a' acc _;exact aa rfl
 |succ n ih=>
  intro ρ a a' acc h;unfold Extern.Bytes.loadBytes;refine ag (mS h _) (fun ρ1 l1 v v' hv=>?_);cases hv with
  |int k b=>cases k<;>first|exact ac _|exact ih _ ((h.mono l1).add 1)
  |_=>exact ac _
theorem kF {v v':Wq}(h:RV ρ v v'):RS P QE ρ (Extern.Bytes.bytesOf v) (Extern.Bytes.bytesOf v'):=by
 cases h with
 |string s=>exact aa rfl
 |slice n c ha=>
  cases ha with
  |none=>exact aa rfl
  |some ha=>exact zT n _ ha
 |_=>exact ac _
theorem zU {v v':Wq}(h:RV ρ v v'):RS P QE ρ (Extern.Bytes.asByte v) (Extern.Bytes.asByte v'):=by
 cases h with
 |int k n=>cases k<;>first|exact ac _|exact aa rfl
 |_=>exact ac _
theorem zV {Q:Ren->Wq->Wq->Prop}{g:Array Wq->Sem Wq}(h:∀x x' y y',RV ρ x x'->RV ρ y y'->RS P Q ρ (g #[x,y]) (g #[x',y']))(hn:∀a:Array Wq,a.size≠2->cK P (g a)){a a':Array Wq}(hr:RVs ρ a a'):RS P Q ρ (g a) (g a'):=by
 by_cases hs:a.size=2
 .obtain ⟨l⟩:=a;obtain ⟨l'⟩:=a';have hl:l.length=l'.length:=by simpa using hr.size
  rcases l with - |⟨x,- |⟨y,- |⟨z,l⟩⟩⟩<;>simp at hs
  rcases l' with - |⟨x',- |⟨y',- |⟨z',l'⟩⟩⟩<;>simp at hl
  exact h x x' y y' (hr.at_ 0 x x' rfl rfl) (hr.at_ 1 y y' rfl rfl)
 .exact .lost (hn a hs) _
theorem rF {a a':Array Wq}(hr:RVs ρ a a'):RS P QV ρ (Extern.BytealgIndexByte.indexByte a) (Extern.BytealgIndexByte.indexByte a'):=by
 refine zV (fun x x' y y' hx hy=>?_) (fun a ha=>?_) hr
 .unfold Extern.BytealgIndexByte.indexByte;refine ae (kF hx) (fun ρ1 l1 b=>?_);refine ae (zU (hy.mono l1)) (fun ρ2 l2 c=>?_);split<;>exact aa (.int _ _)
 .obtain ⟨l⟩:=a;rcases l with - |⟨x,- |⟨y,- |⟨z,l⟩⟩⟩
  .exact .halt rfl
  .exact .halt rfl
  .simp at ha
  .exact .halt rfl
theorem pN (hI:GId P ρ)(name:String):RS P QA ρ (globalAddr name) (globalAddr name):=by
 unfold globalAddr;refine aU ?_ rfl;cases h:P.globals.findIdx? (·.name==name) with
 |none=>exact ac _
 |some g=>
  refine aa ⟨hI.glob g ?_,rfl,rfl⟩;exact (Array.findIdx?_eq_some_iff_getElem.1 h).1
theorem zW (hI:GId P ρ):RS P QE ρ Extern.BytealgIndex.maxLen Extern.BytealgIndex.maxLen:=by
 unfold Extern.BytealgIndex.maxLen;refine ag (pN hI _) (fun ρ1 l1 a a' h=>?_);refine ag (mS h _) (fun ρ2 l2 v v' hv=>fo hv)
theorem zX (hI:GId P ρ){a a':Array Wq}(hr:RVs ρ a a'):RS P QV ρ (Extern.BytealgIndex.index a) (Extern.BytealgIndex.index a'):=by
 refine zV (fun x x' y y' hx hy=>?_) (fun a ha=>?_) hr
 .unfold Extern.BytealgIndex.index;refine ae (kF hx) (fun ρ1 l1 b=>?_);refine ae (kF (hy.mono l1)) (fun ρ2 l2 c=>?_);refine ae (zW ((hI.mono l1).mono l2)) (fun ρ3 l3 m=>?_);refine av (fun _=>aP (ah _)) (fun _=>?_);refine av (fun _=>aP (ah _)) (fun _=>?_);split<;>exact aa (.int _ _)
 .obtain ⟨l⟩:=a;rcases l with - |⟨x,- |⟨y,- |⟨z,l⟩⟩⟩
  .exact .halt rfl
  .exact .halt rfl
  .simp at ha
  .exact .halt rfl
theorem jO (hB:ρ.F lp=true){a a':Ww}(h:RA ρ a a'):RS P QE ρ (frozen a) (frozen a'):=.frozen h (fun s=>aa rfl) (fun e=>by rw [hB] at e;cases e)
theorem lF (hB:ρ.F lp=true){a a':Ww}(h:RA ρ a a'):RS P QE ρ (stringish a) (stringish a'):=by
 unfold stringish;refine ae (jO hB h) (fun ρ0 l0 z=>?_);refine av (fun _=>aa rfl) (fun _=>?_);refine ae (eB (l0 _ _ h.1)) (fun ρ1 l1 s=>?_);rcases s with - |⟨e,n⟩
 .exact aa rfl
 .exact jO (by rw [l1.F,l0.F];exact hB) ⟨l1 _ _ (l0 _ _ h.1),rfl,rfl⟩
theorem ut (hB:ρ.F lp=true){a a' b b':Ww}(ha:RA ρ a a')(hb:RA ρ b b'):RS P QE ρ (mayBeOne a b) (mayBeOne a' b'):=by
 unfold mayBeOne;refine ae (lF hB ha) (fun ρ1 l1 x=>?_);refine ae (lF (by rw [l1.F];exact hB) (hb.mono l1)) (fun ρ2 l2 y=>?_);refine ae (ae (eB (l2 _ _ (l1 _ _ ha.1))) (fun ρ3 l3 s=>aa rfl)) (fun ρ3 l3 u=>?_);refine ae (ae (eB (l3 _ _ (l2 _ _ (l1 _ _ hb.1)))) (fun ρ4 l4 s=>aa rfl)) (fun ρ4 l4 v=>?_);exact aa rfl
theorem uu (hB:ρ.F lp=true)(ps rs:Array Wk){a a':Array Wq}(hr:RVs ρ a a'):RS P QV ρ (Extern.SlicesOverlaps.overlaps ps rs a) (Extern.SlicesOverlaps.overlaps ps rs a'):=by
 refine zV (g:=Extern.SlicesOverlaps.overlaps ps rs) (fun x x' y y' hx hy=>?_) (fun a ha=>?_) hr
 .cases hx with
  | @slice a a' la ca hxa=>
   cases hy with
   | @slice b b' lb cb hyb=>
    unfold Extern.SlicesOverlaps.overlaps;cases hp:ps[0]? with
    |none=>exact ac _
    |some t=>
     refine ae (ao t) (fun ρ1 l1 d=>?_);cases d with
     |slice el=>
      refine ae (bf el) (fun ρ2 l2 sz=>?_);cases hxa with
      |none=>exact aa (.bool _)
      | @some a a' ha=>
       cases hyb with
       |none=>exact aa (.bool _)
       | @some b b' hb=>
        have l12:=Ren.le_trans l1 l2;refine av (fun _=>aa (.bool _)) (fun _=>?_);refine ae (jO (by rw [l12.F];exact hB) (ha.mono l12)) (fun ρ3 l3 fa=>?_);refine ae (jO (by rw [l3.F,l12.F];exact hB) ((hb.mono l12).mono l3)) (fun ρ4 l4 fb=>?_);have l04:=Ren.le_trans (Ren.le_trans l12 l3) l4;have hA:=ha.mono l04;have hBb:=hb.mono l04;have hne:(a.block != b.block)=(a'.block != b'.block):=by
         have:=fV hA.1 hBb.1;simp only [bne,this]
        have heq:(a.block==b.block)=(a'.block==b'.block):=fV hA.1 hBb.1;have hB4:ρ4.F lp=true:=by rw [l04.F];exact hB
        rw [<-hne,<-ha.2.1,<-hb.2.1,<-heq];refine av (fun _=>ah _) (fun _=>?_);refine av (fun _=>?_) (fun _=>aa (.bool _));refine ag (mX hA) (fun ρ5 l5 _ _ _=>?_);refine ag (mX (hBb.mono l5)) (fun ρ6 l6 _ _ _=>?_);refine ae (ut (by rw [l6.F,l5.F];exact hB4) ((hA.mono l5).mono l6) ((hBb.mono l5).mono l6)) (fun ρ7 l7 m=>?_);refine av (fun _=>?_) (fun _=>aa (.bool _));exact ae (cM _) (fun ρ8 l8 n=>aa (.bool _))
     |_=>exact ac _
   |_=>exact ac _
  |_=>exact ac _
 .obtain ⟨l⟩:=a;rcases l with - |⟨x,- |⟨y,- |⟨z,l⟩⟩⟩
  .exact .halt rfl
  .exact .halt rfl
  .simp at ha
  .exact .halt rfl
end
theorem Cj {P : Wx} [Two P] {F : FuncId → Bool} (hx : ∀ f fn, F f = true → P.funcs[f]? = some fn → fn.body = none → fn.name ≠ "runtime.NumGoroutine" ∧ Extern.findNext fn = none ∧ ∃ e, Extern.find fn = some e ∧ ∀ ρ a a', ρ.F = F → GId P ρ → RVs ρ a a' → RS P QV ρ (e a) (e a')) : fH P F := by
 intro f fn hF hf hb ρ a a' hFF hI h;obtain ⟨h1,h2,e,h3,h4⟩:=hx f fn hF hf hb
 have hn : (fn.name == "runtime.NumGoroutine") = false := beq_eq_false_iff_ne.2 h1
 unfold callFunc;refine aU ?_ (by simp only [hI.alt f (by rw [hFF];exact hF)]);simp only [hf,hn,hb,Option.isNone_none,if_true,h2,h3];exact .mark (.extern f) (bM (h4 ρ a a' hFF hI h))
@[reducible] noncomputable def xH:Two Tryz.prog:=⟨Yq.prog.funcs⟩
@[reducible] noncomputable def xI:Two Yq.prog:=⟨Yq.prog.funcs⟩
theorem FY {P:Wx}{p q:FuncId}{a b:Func}:@Program.alt P ⟨(Sw.prog P p q a b).funcs⟩=Sw.prog P p q a b:=rfl
theorem Em {P:Wx}:@Program.alt P ⟨P.funcs⟩=P:=rfl
theorem ny:@Program.alt Tryz.prog xH=Yq.prog:=FY
theorem pP:@Program.alt Yq.prog xI=Yq.prog:=Em
theorem En:Extern.findNext Tryz.f136=none:=by kernel_rfl
theorem Eo:Extern.findNext Tryz.f173=none:=by kernel_rfl
theorem Ep:Extern.findNext Tryz.f180=none:=by kernel_rfl
theorem Er:Extern.find Tryz.f136=some (Extern.SlicesOverlaps.overlaps Tryz.f136.params Tryz.f136.resultTypes):=by kernel_rfl
theorem Es:Extern.find Tryz.f173=some Extern.BytealgIndex.index:=by kernel_rfl
theorem Et:Extern.find Tryz.f180=some Extern.BytealgIndexByte.indexByte:=by kernel_rfl
theorem oK {P:Wx} [Two P]{F:FuncId->Bool}(hs:P.funcs.size=206)(hc:Ci P F=true)(h136:P.funcs[136]?=some Tryz.f136)(h173:P.funcs[173]?=some Tryz.f173)(h180:P.funcs[180]?=some Tryz.f180)(hB:F 136=true->F lp=true):fH P F:=
 Cj fun f fn hF hf hb=>by
  rcases zS hc hs f fn hF hf hb with rfl|rfl|rfl
  .rw [h136] at hf;cases hf;exact ⟨by decide,En,_,Er,fun ρ a a' hFF hI h=>uu (by rw [hFF];exact hB hF) _ _ h⟩
  .rw [h173] at hf;cases hf;exact ⟨by decide,Eo,_,Es,fun ρ a a' hFF hI h=>zX hI h⟩
  .rw [h180] at hf;cases hf;exact ⟨by decide,Ep,_,Et,fun ρ a a' hFF hI h=>rF h⟩
theorem vR {f:Nat}(h1:69≠f)(h2:97≠f):Yq.prog.funcs[f]?=Tryz.prog.funcs[f]?:=Sw.ne h1 h2 rfl
theorem size_eq:Yq.prog.funcs.size=Tryz.prog.funcs.size:=nv.trans nu.symm
theorem pQ (f:Nat):(Yq.prog.funcs[f]?).map strip=(Tryz.prog.funcs[f]?).map strip:=by
 by_cases h1:69=f
 .subst h1;rw [Yq.func69,Tryz.func69];rfl
 .by_cases h2:97=f
  .subst h2;rw [Yq.func97,Tryz.func97];rfl
  .rw [vR h1 h2]
theorem GQ {f:Nat}(h:Mk Gs f=true):f=69:=by
 have h:Gs (2000000+f)=true:=h;unfold Gs rg at h;simp only [Bool.or_eq_true,bT,Nat.ble_eq,beq_iff_eq] at h;omega
theorem GE (f:Nat):¬Mk Ss f=true:=fun h=>by
 have h:Ss (2000000+f)=true:=h;unfold Ss rg at h;simp only [Bool.or_eq_true,bT,Nat.ble_eq,beq_iff_eq] at h;omega
theorem GF (f:Nat):¬Mk Rs f=true:=fun h=>by
 have h:Rs (2000000+f)=true:=h;unfold Rs rg at h;simp only [Bool.or_eq_true,bT,Nat.ble_eq,beq_iff_eq] at h;omega
theorem GR (f:Nat):¬Mk As f=true:=fun h=>by
 have h:As (2000000+f)=true:=h;unfold As rg at h;simp only [Bool.or_eq_true,bT,Nat.ble_eq] at h;omega
theorem Eu {F:FuncId->Bool}(h1:F 69=false)(h2:F 97=false){f:Nat}(h:F f=true):Yq.prog.funcs[f]?=Tryz.prog.funcs[f]?:=
 vR (fun e=>by subst e;rw [h1] at h;cases h) (fun e=>by subst e;rw [h2] at h;cases h)
theorem FZ:@fX Tryz.prog xH Gs:=
 @fX.mk Tryz.prog xH Gs (fY FS nu) (fun f h=>by rw [ny];exact Eu (by decide) (by decide) h) (fun f=>by rw [ny];exact pQ f) (by rw [ny];exact size_eq) (fun f h=>by
  obtain rfl:=GQ h;rw [ny];exact ⟨_,_,Yq.func69,Tryz.func69,rfl,rfl,rfl⟩) (@oK Tryz.prog xH Gs nu FS Tryz.func136 Tryz.func173 Tryz.func180 (fun _=>by decide))
theorem F0:@fX Tryz.prog xH Ss:=
 @fX.mk Tryz.prog xH Ss (fY FT nu) (fun f h=>by rw [ny];exact Eu (by decide) (by decide) h) (fun f=>by rw [ny];exact pQ f) (by rw [ny];exact size_eq) (fun f h=>absurd h (GE f)) (@oK Tryz.prog xH Ss nu FT Tryz.func136 Tryz.func173 Tryz.func180 (fun h=>absurd h (by decide)))
theorem F1:@fX Tryz.prog xH Rs:=
 @fX.mk Tryz.prog xH Rs (fY FU nu) (fun f h=>by rw [ny];exact Eu (by decide) (by decide) h) (fun f=>by rw [ny];exact pQ f) (by rw [ny];exact size_eq) (fun f h=>absurd h (GF f)) (@oK Tryz.prog xH Rs nu FU Tryz.func136 Tryz.func173 Tryz.func180 (fun h=>absurd h (by decide)))
theorem Ev:@fX Yq.prog xI Ss:=
 @fX.mk Yq.prog xI Ss (fY DC nv) (fun _ _=>by rw [pP]) (fun _=>by rw [pP]) (by rw [pP]) (fun f h=>absurd h (GE f)) (@oK Yq.prog xI Ss nv DC (Yq.nq Tryz.func136) (Yq.nq Tryz.func173) (Yq.nq Tryz.func180) (fun h=>absurd h (by decide)))
theorem Ew:@fX Yq.prog xI Rs:=
 @fX.mk Yq.prog xI Rs (fY DD nv) (fun _ _=>by rw [pP]) (fun _=>by rw [pP]) (by rw [pP]) (fun f h=>absurd h (GF f)) (@oK Yq.prog xI Rs nv DD (Yq.nq Tryz.func136) (Yq.nq Tryz.func173) (Yq.nq Tryz.func180) (fun h=>absurd h (by decide)))
theorem Ex:@fX Yq.prog xI As:=
 @fX.mk Yq.prog xI As (fY DE nv) (fun _ _=>by rw [pP]) (fun _=>by rw [pP]) (by rw [pP]) (fun f h=>absurd h (GR f)) (@oK Yq.prog xI As nv DE (Yq.nq Tryz.func136) (Yq.nq Tryz.func173) (Yq.nq Tryz.func180) (fun _=>by decide))
theorem env:@pL xH xI Gs Ss Rs:=
 @pL.mk xH xI Gs Ss Rs ny FW FX Ek El F0 F1 Ev Ew (fun _f h=>GQ h) ⟨rfl,rfl,rfl⟩ GE rfl ⟨rfl,rfl,rfl⟩ GF GB GC GD FV
end
section
open Go
open Go.Conc Go.ConcX Go.ConcX.Gen Go.RowKit
def wf (ro:Option Nat):Fence:={Fence.wide with round:=ro}
theorem GG {ro:Option Nat}{P:Wx}(m:Machine):m.fenced P (wf ro):=fenced_wide P m
theorem pR {ro:Option Nat}{P:Wx}{m m':Machine}:StepsIn (Machine.fenced P (wf ro)) P m m'↔Steps P m m':=
 ⟨StepsIn.steps,fun h=>(StepsIn.of_steps h).mono fun m _=>GG m⟩
theorem Ey (ro:Option Nat)(k:Nat):(wf ro).room k:=fun _ h=>by cases h
section
variable {P:Wx} {ops:Array Oper} {ro:Option Nat}
def xJ (P:Wx)(ops:Array Oper)(ro:Option Nat)(i:Nat)(a:Act)(w:Wz)(K:Act->Wz->Prop):Prop:=
 ∀ (b:Wv) (k:List Item) (cs:List Wv) (rest:List Nat),b.roundOf=ro ->
  ∃a' w',K a' w'/\Steps P (lone (b.atR a (.inRegion ops (i::rest)::k)) cs w) (lone (b.atR a' (.inRegion ops rest::k)) cs w')
def xK (P:Wx)(ops:Array Oper)(ro:Option Nat)(K:Act->Wz->Prop):List Nat->Act->Wz->Prop
 | [],a,w=>K a w
 |i::r,a,w=>xJ P ops ro i a w (xK P ops ro K r)
theorem xJ.mono {i:Nat}{a:Act}{w:Wz}{K K':Act->Wz->Prop}(h:xJ P ops ro i a w K)(hk:∀a w,K a w->K' a w):xJ P ops ro i a w K':=
 fun b k cs rest hb=>let ⟨a',w',h1,h2⟩:=h b k cs rest hb;⟨a',w',hk _ _ h1,h2⟩
theorem jo {K:Act->Wz->Prop}{b:Wv}{k:List Item}{cs:List Wv}(hb:b.roundOf=ro):∀ (l:List Nat)(a:Act)(w:Wz),xK P ops ro K l a w ->
  ∃a' w',K a' w'/\Steps P (lone (b.atR a (.inRegion ops l::k)) cs w) (lone (b.atR a' k) cs w')
 | [],a,w,h=>⟨a,w,h,.one stepR_region_end⟩
 |i::r,a,w,h=>by
  obtain ⟨a1,w1,h1,s1⟩:=h b k cs r hb;obtain ⟨a2,w2,h2,s2⟩:=jo hb r a1 w1 h1;exact ⟨a2,w2,h2,s1.trans s2⟩
theorem zY {id n:Nat}{Q:Exit->Act->Wz->Prop}{a:Act}{w:Wz}(h:xK P ops ro (Q .normal) (List.range ops.size) a w):(Code.region id ops false).wpIn (wf ro) n P Q a w:=by
 intro b k cs hb _ _;obtain ⟨a',w',h1,h2⟩:=jo (b:=b) (k:=k) (cs:=cs) hb _ _ _ h;exact ⟨.normal,a',w',h1,pR.2 (.head stepR_region h2)⟩
theorem am {i:Nat}{o:Oper}{a:Act}{w w':Wz}{v:Wq}{K:Act->Wz->Prop}(ho:ops[i]?=some o)(hw:Region.wanted o (yielded ops a.tmps)=true)(hd:∀c,o.op≠.defer c)(hr:(execOp a.eval o).run P w=.ok (.value v) w')(hK:K (a.put o.dst v) w'):xJ P ops ro i a w K:=by
 intro b k cs rest hb;refine ⟨_,_,hK,.one ?_⟩;have hg:=stepGR_op (P:=P) (b:=b) (k:=k) (cs:=cs) (w:=w) (rest:=rest) ho hw;rw [Oper.semAt_eq _ _ _ hd] at hg;have hfin:(b.atR a (.inRegion ops (i::rest)::k)).finish v=b.atR (a.put o.dst v) (.inRegion ops rest::k):=by rw [Frame.finish_atR,ho];rfl
 exact step_lone_go (by rw [hg,<-hfin];simp [stepG.apply,hr])
theorem iu {i:Nat}{o:Oper}{a:Act}{w w':Wz}{f:FuncId}{args:Array Wq}{K:Act->Wz->Prop}(ho:ops[i]?=some o)(hw:Region.wanted o (yielded ops a.tmps)=true)(hd:∀c,o.op≠.defer c)(hr:(execOp a.eval o).run P w=.ok (.enter f args) w')
  (hC:Calls P f args w' fun e w''=>∃v,e=.returned v/\K (a.put o.dst v) w''):xJ P ops ro i a w K:=by
 intro b k cs rest hb;obtain ⟨e,w2,fr,⟨v,rfl,hK⟩,hs,-,hl⟩:=hC (b.atR a (.inRegion ops (i::rest)::k)::cs);have hs:Steps P _ _:=hs;refine ⟨_,_,hK,?_⟩;have hg:=stepGR_op (P:=P) (b:=b) (k:=k) (cs:=cs) (w:=w) (rest:=rest) ho hw;rw [Oper.semAt_eq _ _ _ hd] at hg;have henter:step P (lone (b.atR a (.inRegion ops (i::rest)::k)) cs w)=.next (lone (Frame.enter P f args .normal) (b.atR a (.inRegion ops (i::rest)::k)::cs) w'):=
  step_lone_go (by rw [hg];simp [stepG.apply,hr,Frame.atR])
 have hfin:(b.atR a (.inRegion ops (i::rest)::k)).finish v=b.atR (a.put o.dst v) (.inRegion ops rest::k):=by rw [Frame.finish_atR,ho];rfl
 refine .head henter (hs.trans (.one ?_));rw [<-hfin];exact step_leave_returned hl
theorem nz {i:Nat}{o:Oper}{a:Act}{w:Wz}{x y:Operand}{c cap s r:Nat}{buf:Array Wq}{tm:Bool}{K:Act->Wz->Prop}(ho:ops[i]?=some o)(hw:Region.wanted o (yielded ops a.tmps)=true)(hop:o.op=.send x y)(hx:a.eval x=.chan (some c))
  (hc:w.heap[c]?=some (.chan cap buf false s r tm)) (hroom:buf.size<cap) (hK:K (a.put o.dst Wy) (w.setChan c cap (buf.push (a.eval y)) false (s+1) r tm)):xJ P ops ro i a w K:=by
 intro b k cs rest hb;refine ⟨_,_,hK,.one ?_⟩;have hg:=stepGR_op (P:=P) (b:=b) (k:=k) (cs:=cs) (w:=w) (rest:=rest) ho hw;rw [Oper.semAt_eq _ _ _ (by rw [hop];exact fun c h=>by cases h)] at hg;have he:(execOp a.eval o).run P w=.ok (.comm #[scase c (a.eval y) (.tuple #[])] true .send) w:=by
  have e:execOp a.eval o=pure (.comm #[{chan:=a.eval x,send:=some (a.eval y),zero:=.tuple #[]}] true .send):=by simp only [execOp,hop]
  rw [e,hx];rfl
 have hfin:(b.atR a (.inRegion ops (i::rest)::k)).finish Wy=b.atR (a.put o.dst Wy) (.inRegion ops rest::k):=by rw [Frame.finish_atR,ho];rfl
 obtain ⟨es,hcomm⟩:∃es,stepG P true (G (b.atR a (.inRegion ops (i::rest)::k)) cs) w=.comm (G (b.atR a (.inRegion ops (i::rest)::k)) cs) #[scase c (a.eval y) (.tuple #[])] true .send w es:=by
  have hg':stepG P true (G (b.atR a (.inRegion ops (i::rest)::k)) cs) w=_:=hg;rw [hg'];simp only [stepG.apply,G,Frame.atR,GStep.after,if_true];have h1:((execOp a.eval o).runT P w #[]).1=.ok (.comm #[scase c (a.eval y) (.tuple #[])] true .send) w:=by rw [Sem.runT_eq];exact he
  generalize (execOp a.eval o).runT P w #[]=z at h1;obtain ⟨z1,z2⟩:=z;subst h1;exact ⟨_,rfl⟩
 rw [<-hfin];exact step_lone_send_room hcomm hc hroom
theorem zZ {K:Act->Wz->Prop}(I:Array Bool->Act->Wz->Prop)(hstep:∀listed a w i,I listed a w->i∈Region.ready .any ops listed->xJ P ops ro i a w (I (listed.setIfInBounds i true)))(hend:∀listed a w,I listed a w->Region.ready .any ops listed=[]->K a w):
  ∀ (fuel t:Nat) (listed:Array Bool) (a:Act) (w:Wz),I listed a w->(List.range ops.size).countP (fun i=>!listed.getD i true)<=fuel->xK P ops ro K (Region.linearise.go .any ops fuel t listed []) a w:=by
 intro fuel;induction fuel with
 |zero=>
  intro t listed a w hI hz;have hz0:Region.ready .any ops listed=[]:=by
   unfold Region.ready;rw [List.filter_eq_nil_iff];intro i hi h;have:=List.countP_eq_zero.1 (Nat.le_zero.1 hz) i hi;simp only [bT] at h;exact this h.1
  simp only [Region.linearise.go];exact hend _ _ _ hI hz0
 |succ fuel ih=>
  intro t listed a w hI hz;simp only [Region.linearise.go];change xK P ops ro K (match (Region.ready .any ops listed)[t % (Region.ready .any ops listed).length]? with
   |some i=>Region.linearise.go .any ops fuel (t / (Region.ready .any ops listed).length) (listed.setIfInBounds i true) [i]
   |none=>[].reverse) a w
  cases hi:(Region.ready .any ops listed)[t % (Region.ready .any ops listed).length]? with
  |none=>
   refine hend _ _ _ hI ?_;cases hr:Region.ready .any ops listed with
   |nil=>rfl
   |cons x xs=>
    rw [hr,List.getElem?_eq_none_iff] at hi;have:=Nat.mod_lt t (show 0<(x::xs).length by simp);omega
  |some i=>
   simp only [];rw [linearise_go_acc,List.reverse_singleton,List.singleton_append];have hm:=List.mem_of_getElem? hi;refine (hstep _ _ _ i hI hm).mono fun a' w' hI'=>ih _ _ _ _ hI' ?_
   have hm':=List.mem_filter.1 hm;have hlt:i<ops.size:=List.mem_range.1 hm'.1;have h1:(!listed.getD i true)=true:=by
    have:=hm'.2;simp only [bT] at this;exact this.1
   have hls:i<listed.size:=by
    rcases Nat.lt_or_ge i listed.size with h|h
    .exact h
    .rw [gD,Array.getElem?_eq_none h] at h1;cases h1
   have hle:∀j,(!(listed.setIfInBounds i true).getD j true)=true->(!listed.getD j true)=true:=fun j h=>by
    by_cases hj:j=i
    .subst hj;exact h1
    .rw [gD,sN (fun e=>hj e.symm),<-gD] at h;exact h
   have hlt2:(List.range ops.size).countP (fun j=>!(listed.setIfInBounds i true).getD j true)<(List.range ops.size).countP (fun j=>!listed.getD j true):=by
    have hi0:(!(listed.setIfInBounds i true).getD i true)=false:=by
     rw [gD,sS hls];rfl
    obtain ⟨l1,l2,hl⟩:=List.append_of_mem (List.mem_range.2 hlt);rw [hl];simp only [List.countP_append,List.countP_cons,hi0,h1];have e1:=List.countP_mono_left (l:=l1) (fun j _=>hle j);have e2:=List.countP_mono_left (l:=l2) (fun j _=>hle j);simp only [Bool.false_eq_true,if_false,if_true];omega
   omega
theorem oL {id n:Nat}{Q:Exit->Act->Wz->Prop}{a:Act}{w:Wz}(hm:P.follows .mixedOrders=true)(I:Array Bool->Act->Wz->Prop)(hstep:∀listed a w i,I listed a w->i∈Region.ready .any ops listed->xJ P ops ro i a w (I (listed.setIfInBounds i true)))(hend:∀listed a w,I listed a w->Region.ready .any ops listed=[]->Q .normal a w)
  (h0:I (Array.replicate ops.size false) a {w with drawn:=w.drawn+1}):(Code.region id ops true).wpIn (wf ro) n P Q a w:=by
 intro b k cs hb _ _;have ht:=zZ (ro:=ro) I hstep hend ops.size (w.tape w.drawn (.order b.fn id)) _ a _ h0 (by
  have:=List.countP_le_length (p:=fun i=>!(Array.replicate ops.size false).getD i true) (l:=List.range ops.size);simpa using this)
 obtain ⟨a',w',h1,h2⟩:=jo (b:=b) (k:=k) (cs:=cs) hb _ _ _ ht;refine ⟨.normal,a',w',h1,pR.2 (.head stepR_region_draw ?_)⟩;simp only [Region.schedule,hm,Bool.true_or,if_true];exact h2
end
section
variable {P:Wx} {ops:Array Oper} {ro:Option Nat}
theorem rH {i:Nat}{o:Oper}{a:Act}{w:Wz}{K:Act->Wz->Prop}(ho:ops[i]?=some o)(hw:Region.wanted o (yielded ops a.tmps)=false)(hK:K (a.put o.dst Wy) w):xJ P ops ro i a w K:=by
 intro b k cs rest hb;refine ⟨_,_,hK,.one ?_⟩;have hs:=stepR_op_skip (P:=P) (b:=b) (a:=a) (k:=k) (cs:=cs) (w:=w) (ops:=ops) (i:=i) (rest:=rest) (by simp [ho,hw]);simpa only [ho,Option.bind_some] using hs
theorem xL {i:Nat}{o:Oper}{a:Act}{w w':Wz}{l:Nat}{f:FuncId}{tmps:Array Wq}{assign body:Code}{n:Nat}{K:Act->Wz->Prop}(ho:ops[i]?=some o)(hw:Region.wanted o (yielded ops a.tmps)=true)(hd:∀c,o.op≠.defer c)(hr:(execOp a.eval o).run P w=.ok (.round l f tmps assign body) w')
  (hC:RoundIn (wf ro) n P l f tmps assign body w' fun e w''=>∃v,e=.returned v/\K (a.put o.dst v) w''):xJ P ops ro i a w K:=by
 intro b k cs rest hb;obtain ⟨e,w2,⟨v,rfl,hK⟩,hs⟩:=hC.2 (b.atR a (.inRegion ops (i::rest)::k)) cs (Ey _ _);have hs:=pR.1 (show StepsIn (Machine.fenced P (wf ro)) P _ _ from hs);refine ⟨_,_,hK,?_⟩;have hg:=stepGR_op (P:=P) (b:=b) (k:=k) (cs:=cs) (w:=w) (rest:=rest) ho hw;rw [Oper.semAt_eq _ _ _ hd] at hg;have henter:step P (lone (b.atR a (.inRegion ops (i::rest)::k)) cs w)=.next (lone (Frame.round l f tmps assign body .normal) (b.atR a (.inRegion ops (i::rest)::k)::cs) w'):=
  step_lone_go (by rw [hg];simp [stepG.apply,hr,Frame.atR])
 have hfin:(b.atR a (.inRegion ops (i::rest)::k)).finish v=b.atR (a.put o.dst v) (.inRegion ops rest::k):=by rw [Frame.finish_atR,ho];rfl
 rw [<-hfin];exact .head henter hs
theorem ja {a:Act}{d t:Nat}{v:Wq}(h:t≠d):(a.put (some d) v).eval (.tmp t)=a.eval (.tmp t):=by
 simp only [Act.put,Act.eval,gD];rw [sN (fun e=>h e.symm)]
theorem pS {a:Act}{d:Nat}{v:Wq}(h:d<a.tmps.size):(a.put (some d) v).eval (.tmp d)=v:=by
 simp only [Act.put,Act.eval,gD];rw [sS h];rfl
theorem iO {a:Act}{j d:Nat}{o:Oper}{x:Bool}(ho:ops[j]?=some o)(hd:o.dst=some d)(hs:d<a.tmps.size)(he:a.eval (.tmp d)=.bool x):yielded ops a.tmps j=some x:=by
 simp only [Act.eval,gD,eG hs,Option.getD_some] at he;simp [yielded,ho,hd,hs,he]
structure Vals (a0:Act)(base lim:Nat)(vals:Nat->Wq)(Wd:(Nat->Bool)->Wz->Prop)(sz:Nat)(listed:Array Bool)(a:Act)(w:Wz):Prop where
 size:a.tmps.size=a0.tmps.size
 defers:a.defers=a0.defers
 old:∀t,t<base->a.eval (.tmp t)=a0.eval (.tmp t)
 new:∀i,i<lim->listed.getD i false=true->a.eval (.tmp (base+i))=vals i
 world:Wd (fun i=>listed.getD i false) w
 len:listed.size=sz
theorem kG {listed:Array Bool}{i:Nat}{o:Oper}(h:i∈Region.ready .any ops listed)(ho:ops[i]?=some o):∀e∈o.after,Region.binds .any e=true->listed.getD e.on false=true:=by
 have h2:=(List.mem_filter.1 h).2;simp only [ho,Option.map_some,Option.getD_some,bT] at h2;intro e he hb;have:=Array.all_eq_true'.1 h2.2 e he;simpa [hb] using this
theorem cf {listed:Array Bool}{i:Nat}(h:i∈Region.ready .any ops listed):i<ops.size/\listed.getD i true=false:=by
 have h1:=List.mem_filter.1 h;have h2:=h1.2;simp only [bT,Bool.not_eq_true'] at h2;exact ⟨List.mem_range.1 h1.1,h2.1⟩
def dG (d:Nat->Bool)(i:Nat):Nat->Bool:=fun j=>if j=i then true else d j
theorem oM {listed:Array Bool}{i:Nat}(h:i<listed.size):(fun j=>(listed.setIfInBounds i true).getD j false)=dG (fun j=>listed.getD j false) i:=by
 funext j;unfold dG;by_cases hj:j=i
 .subst hj;rw [if_pos rfl,gD,sS h];rfl
 .rw [if_neg hj,gD,sN (fun e=>hj e.symm),<-gD]
theorem Vals.step {a0:Act}{base lim:Nat}{vals:Nat->Wq}{Wd:(Nat->Bool)->Wz->Prop}{listed:Array Bool}{a:Act}{w w':Wz}{i:Nat}{o:Oper}(V:Vals a0 base lim vals Wd ops.size listed a w)(hi:i∈Region.ready .any ops listed)(ho:ops[i]?=some o)(hd:i<lim->o.dst=some (base+i))(hd2:¬i<lim->o.dst=none)(hsz:base+lim<=a0.tmps.size)
  {v:Wq} (hv:i<lim->v=vals i) (hw:Wd (dG (fun j=>listed.getD j false) i) w'):Vals a0 base lim vals Wd ops.size (listed.setIfInBounds i true) (a.put o.dst v) w':=by
 have hlt:i<listed.size:=by rw [V.len];exact (cf hi).1
 by_cases h:i<lim
 .rw [hd h];refine ⟨by simp [Act.put,V.size],V.defers,fun t ht=>(ja (by omega)).trans (V.old t ht),fun j hj hl=>?_,by rw [oM hlt];exact hw,by simp [V.len]⟩;by_cases hji:j=i
  .subst hji;rw [pS (by rw [V.size];omega)];exact hv h
  .rw [ja (by omega)];refine V.new j hj ?_
   rwa [gD,sN (fun e=>hji e.symm),<-gD] at hl
 .rw [hd2 h];refine ⟨V.size,V.defers,V.old,fun j hj hl=>V.new j hj ?_,by rw [oM hlt];exact hw,by simp [V.len]⟩
  rwa [gD,sN (fun e=>h (by omega)),<-gD] at hl
def Aa (ops:Array Oper):Bool:=(List.range ops.size).all fun i=>((ops[i]?).map fun o=>o.after.toList.all fun e=>decide (e.on<i)).getD true
def Ez (ops:Array Oper)(base lim:Nat):Bool:=(List.range ops.size).all fun i=>((ops[i]?).map fun o=>if i<lim then o.dst==some (base+i) else o.dst==none).getD true
theorem vS (hd:Aa ops=true){listed:Array Bool}(hs:listed.size=ops.size)(hr:Region.ready .any ops listed=[]):∀i,i<ops.size->listed.getD i false=true:=by
  intro i;induction i using Nat.strongRecOn with
  |_ i ih=>
    intro hi;by_cases h:listed.getD i false=true
    . exact h
    . exfalso
      have hm:i∈Region.ready .any ops listed:=by
        refine List.mem_filter.2 ⟨List.mem_range.2 hi,?_⟩;have h1:=List.all_eq_true.1 hd i (List.mem_range.2 hi);simp only [eG hi,Option.map_some,Option.getD_some,bT] at h1 ⊢;refine ⟨?_,Array.all_eq_true'.2 fun e he=>?_⟩
        . rw [gD,eG (by omega)] at h ⊢
          simpa using h
        . have h2:=List.all_eq_true.1 h1 e (Array.mem_toList_iff.2 he)
          have h3 := ih e.on (by simpa using h2) (by have : e.on < i := by simpa using h2
                                                     omega)
          simp [h3]
      rw [hr] at hm;cases hm
theorem vT {base lim:Nat}(hd:Ez ops base lim=true):∀i o,ops[i]?=some o->(i<lim->o.dst=some (base+i))/\(¬i<lim->o.dst=none):=by
 intro i o ho;have hi:i<ops.size:=(eS ho).1;have h1:=List.all_eq_true.1 hd i (List.mem_range.2 hi);simp only [ho,Option.map_some,Option.getD_some] at h1;refine ⟨fun h=>?_,fun h=>?_⟩
 .rw [if_pos h] at h1;simpa using h1
 .rw [if_neg h] at h1;simpa using h1
theorem jq {id n:Nat}{Q:Exit->Act->Wz->Prop}{a0:Act}{w0:Wz}(hm:P.follows .mixedOrders=true)(base lim:Nat)(vals:Nat->Wq)(Wd:(Nat->Bool)->Wz->Prop)(hsz:base+lim<=a0.tmps.size)
  (hdst:Ez ops base lim=true) (hdep:Aa ops=true)
  (hstep:∀ (listed:Array Bool) (a:Act) (w:Wz) (i:Nat) (o:Oper),i∈Region.ready .any ops listed->ops[i]?=some o->Vals a0 base lim vals Wd ops.size listed a w->(∀e∈o.after,Region.binds .any e=true->listed.getD e.on false=true) ->
   xJ P ops ro i a w (fun a' w'=>∃v,a'=a.put o.dst v/\(i<lim->v=vals i)/\Wd (dG (fun j=>listed.getD j false) i) w'))
  (hend:∀a w,a.tmps.size=a0.tmps.size->a.defers=a0.defers->(∀t,t<base->a.eval (.tmp t)=a0.eval (.tmp t))->(∀i,i<lim->i<ops.size->a.eval (.tmp (base+i))=vals i)->(∃d,(∀i,i<ops.size->d i=true)/\Wd d w)->Q .normal a w)
  (h0:Wd (fun _=>false) {w0 with drawn:=w0.drawn+1}):(Code.region id ops true).wpIn (wf ro) n P Q a0 w0:=by
 have hf:(fun i=>(Array.replicate ops.size false).getD i false)=fun _=>false:=by
  funext i;rw [gD,Array.getElem?_replicate];split<;>rfl
 refine oL hm (Vals a0 base lim vals Wd ops.size) (fun listed a w i V hi=>?_) (fun listed a w V hr=>?_) ⟨rfl,rfl,fun _ _=>rfl,fun i _ h=>?_,by rw [hf];exact h0,by simp⟩
 .have hlt:=(cf hi).1;have ho:=eG hlt;refine (hstep listed a w i _ hi ho V (kG hi ho)).mono ?_;rintro a' w' ⟨v,rfl,hv,hw⟩;exact V.step hi ho (vT hdst i _ ho).1 (vT hdst i _ ho).2 hsz hv hw
 .have h1:=vS hdep V.len hr;exact hend a w V.size V.defers V.old (fun i hi hi2=>V.new i hi (h1 i hi2)) ⟨_,h1,V.world⟩
 .have:=congrFun hf i;exact absurd (this.symm.trans h) (by simp)
end
end
section
open Go.RowKit
theorem aj {W w1:Wz}(hb:Below W.heap.size W w1){a:Ww}{v:Wq}(h:W.cell? a=some v):w1.cell? a=some v:=by
 rw [hb.cell (bC W a h)];exact h
theorem vU (x y:Int):mc x y<0↔x<y:=by unfold mc;(repeat' split)<;>omega
theorem DF (x y:Int):(mc x y==0)=decide (x=y):=by unfold mc;(repeat' split)<;>simp<;>omega
theorem EA (b n cap:Nat)(L:Nat->Int)(p:Nat->Option Ww)(t:Int)(w:Wz)(hn:n<=2199023255552)
  (hc:∀i,i<n->w.cell? ⟨b,i * 2,none⟩=some (.int .u8 (L i))/\w.cell? ⟨b,i * 2+1,none⟩=some (.pointer (p i)))
  (hs:∀i j,i<j->j<n->L i<L j):
  Calls Yq.prog 133 #[.slice (some ⟨b,0,none⟩) n cap,.int .u8 t,.func (.func 134) #[] #[]] w fun e w'=>∃r:Nat,r<=n/\(∀j,j<r->L j<t)/\(∀j,r<=j->j<n->t<=L j) /\
   e=.returned (.tuple #[.int .i64 r,.bool (decide (r<n/\L r=t))])/\Below w.heap.size w w':=by
 have HS:Hid (∀i j,i<j->j<n->L i<L j):=hs;clear hs;go_enter (Yq.nq Tryz.func133),Tryz.ntmps133;go_wp2
 go_loopw [9,10,11] (fun i j _ wr=>∃x y:Nat,x<=y/\y<=n/\i=.int .i64 x/\j=.int .i64 y/\(∀k,k<x->L k<t)/\(∀k,y<=k->k<n->t<=L k)/\Below w.heap.size w wr) (fun i j _ _=>(intOf j).toNat-(intOf i).toNat)
 case atStart=>exact ⟨0,n,Nat.zero_le _,lR _,rfl,rfl,fun k h=>absurd h (Nat.not_lt_zero _),fun k h1 h2=>absurd h2 (by omega),bR _ _⟩
 case round=>
  obtain ⟨x,y,hxy,hyn,rfl,rfl,hlo,hhi,hb⟩:=hrel;have HL:Hid (∀k,k<x->L k<t):=hlo;have HH:Hid (∀k,y<=k->k<n->t<=L k):=hhi;clear hlo hhi;by_cases hlt:x<y
  .obtain ⟨c0,c1⟩:=hc ((x+y) / 2) (by omega);replace c0:=aj hb c0;replace c1:=aj hb c1;by_cases hcm:L ((x+y) / 2)<t
   .have hcm':=(vU _ _).2 hcm;go_wp2_with (go_at_call 134;refine (pj _ _ _ _).mono ?_;rintro e w' ⟨rfl,rfl⟩)
    refine ⟨⟨(x+y) / 2+1,y,by omega,hyn,by go_num,rfl,fun k hk=>?_,HH.out,hb.alloc hb.size _⟩,by simp [intOf];omega⟩;by_cases hk2:k=(x+y) / 2
    .rw [hk2];exact hcm
    .have:=HS.out k ((x+y) / 2) (by omega) (by omega);omega
   .have hcm':¬mc (L ((x+y) / 2)) t<0:=fun h=>hcm ((vU _ _).1 h)
    go_wp2_with (go_at_call 134;refine (pj _ _ _ _).mono ?_;rintro e w' ⟨rfl,rfl⟩)
    refine ⟨⟨x,(x+y) / 2,by omega,by omega,rfl,by go_num,HL.out,fun k hk1 hk2=>?_,hb.alloc hb.size _⟩,by simp [intOf];omega⟩;by_cases hk3:k=(x+y) / 2
    .rw [hk3];omega
    .have:=HS.out ((x+y) / 2) k (by omega) (by omega);omega
  .have hxy2:x=y:=by omega
   subst hxy2;clear hlt hxy;by_cases hxn:x<n
   .obtain ⟨c0,c1⟩:=hc x hxn;replace c0:=aj hb c0;replace c1:=aj hb c1;go_wp2_with (go_at_call 134;refine (pj _ _ _ _).mono ?_;rintro e w' ⟨rfl,rfl⟩)
    go_ret2
    exact ⟨x,hyn,HL.out,HH.out,by simp [hxn,DF],hb.alloc hb.size _⟩
   .go_wp2
    go_ret2
    exact ⟨x,hyn,HL.out,HH.out,by simp [hxn],hb⟩
theorem Ck (a:Option Ww)(cap:Nat)(t:Int)(w:Wz):
  Calls Yq.prog 133 #[.slice a 0 cap,.int .u8 t,.func (.func 134) #[] #[]] w fun e w'=>e=.returned (.tuple #[.int .i64 0,.bool false])/\w'=w:=by
 go_enter (Yq.nq Tryz.func133),Tryz.ntmps133;go_wp2;refine wp_loop_rounds 1 ?_;rw [rounds_succ];go_wp2
 go_ret2
 exact ⟨rfl,rfl⟩
theorem EB (b n cap:Nat)(L:Nat->Int)(S:Nat->ByteArray)(M:Nat->Bool)(t:Int)(w:Wz)(hn:n<=2199023255552)
  (hc:∀i,i<n->w.cell? ⟨b,i * 3,none⟩=some (.int .i64 (L i))/\w.cell? ⟨b,i * 3+1,none⟩=some (.string (S i))/\w.cell? ⟨b,i * 3+2,none⟩=some (.bool (M i)))
  (hs:∀i j,i<j->j<n->L i<L j):
  Calls Yq.prog 112 #[.slice (some ⟨b,0,none⟩) n cap,.int .i64 t,.func (.func 113) #[] #[]] w fun e w'=>∃r:Nat,r<=n/\(∀j,j<r->L j<t)/\(∀j,r<=j->j<n->t<=L j) /\
   e=.returned (.tuple #[.int .i64 r,.bool (decide (r<n/\L r=t))])/\Below w.heap.size w w':=by
 have HS:Hid (∀i j,i<j->j<n->L i<L j):=hs;clear hs;go_enter (Yq.nq Tryz.func112),Tryz.ntmps112;go_wp2
 go_loopw [9,10,11] (fun i j _ wr=>∃x y:Nat,x<=y/\y<=n/\i=.int .i64 x/\j=.int .i64 y/\(∀k,k<x->L k<t)/\(∀k,y<=k->k<n->t<=L k)/\Below w.heap.size w wr) (fun i j _ _=>(intOf j).toNat-(intOf i).toNat)
 case atStart=>exact ⟨0,n,Nat.zero_le _,lR _,rfl,rfl,fun k h=>absurd h (Nat.not_lt_zero _),fun k h1 h2=>absurd h2 (by omega),bR _ _⟩
 case round=>
  obtain ⟨x,y,hxy,hyn,rfl,rfl,hlo,hhi,hb⟩:=hrel;have HL:Hid (∀k,k<x->L k<t):=hlo;have HH:Hid (∀k,y<=k->k<n->t<=L k):=hhi;clear hlo hhi;by_cases hlt:x<y
  .obtain ⟨c0,c1,c2⟩:=hc ((x+y) / 2) (by omega);replace c0:=aj hb c0;replace c1:=aj hb c1;replace c2:=aj hb c2;by_cases hcm:L ((x+y) / 2)<t
   .have hcm':=(vU _ _).2 hcm;go_wp2_with (go_at_call 113;refine (pk _ _ _ _ _).mono ?_;rintro e w' ⟨rfl,rfl⟩)
    refine ⟨⟨(x+y) / 2+1,y,by omega,hyn,by go_num,rfl,fun k hk=>?_,HH.out,hb.alloc hb.size _⟩,by simp [intOf];omega⟩;by_cases hk2:k=(x+y) / 2
    .rw [hk2];exact hcm
    .have:=HS.out k ((x+y) / 2) (by omega) (by omega);omega
   .have hcm':¬mc (L ((x+y) / 2)) t<0:=fun h=>hcm ((vU _ _).1 h)
    go_wp2_with (go_at_call 113;refine (pk _ _ _ _ _).mono ?_;rintro e w' ⟨rfl,rfl⟩)
    refine ⟨⟨x,(x+y) / 2,by omega,by omega,rfl,by go_num,HL.out,fun k hk1 hk2=>?_,hb.alloc hb.size _⟩,by simp [intOf];omega⟩;by_cases hk3:k=(x+y) / 2
    .rw [hk3];omega
    .have:=HS.out ((x+y) / 2) k (by omega) (by omega);omega
  .have hxy2:x=y:=by omega
   subst hxy2;clear hlt hxy;by_cases hxn:x<n
   .obtain ⟨c0,c1,c2⟩:=hc x hxn;replace c0:=aj hb c0;replace c1:=aj hb c1;replace c2:=aj hb c2;go_wp2_with (go_at_call 113;refine (pk _ _ _ _ _).mono ?_;rintro e w' ⟨rfl,rfl⟩)
    go_ret2
    exact ⟨x,hyn,HL.out,HH.out,by simp [hxn,DF],hb.alloc hb.size _⟩
   .go_wp2
    go_ret2
    exact ⟨x,hyn,HL.out,HH.out,by simp [hxn],hb⟩
theorem Cl (a:Option Ww)(cap:Nat)(t:Int)(w:Wz):
  Calls Yq.prog 112 #[.slice a 0 cap,.int .i64 t,.func (.func 113) #[] #[]] w fun e w'=>e=.returned (.tuple #[.int .i64 0,.bool false])/\w'=w:=by
 go_enter (Yq.nq Tryz.func112),Tryz.ntmps112;go_wp2;refine wp_loop_rounds 1 ?_;rw [rounds_succ];go_wp2
 go_ret2
 exact ⟨rfl,rfl⟩
end
