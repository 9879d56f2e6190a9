/- A part. -/
import Derived.Test.YtnapepbdohidgaaGreatDoorQS08
set_option maxHeartbeats 4000000
set_option maxRecDepth 100000
open Go renaming World->Wz,Value->Wq,Goroutine->Wj,Program->Wx,Frame->Wv,Addr->Ww
namespace Go.Proofs.Qw
section
open Go
def Ren.plus (ρ:Ren)(n m:Nat)(I:Nat->Prop)(hlt:∀a b,ρ a b->a<n/\b<m)(ch:Nat->Prop)(hS:ρ.F fE=false):Ren where
 rel:=fun a b=>ρ a b\/∃i,I i/\a=n+i/\b=m+i
 fn:=fun a b b' h1 h2=>by
  rcases h1 with h1|⟨i,-,h1,h3⟩<;>rcases h2 with h2|⟨j,-,h2,h4⟩
  .exact ρ.fn _ _ _ h1 h2
  .have:=(hlt _ _ h1).1;omega
  .have:=(hlt _ _ h2).1;omega
  .omega
 inj:=fun a a' b h1 h2=>by
  rcases h1 with h1|⟨i,-,h1,h3⟩<;>rcases h2 with h2|⟨j,-,h2,h4⟩
  .exact ρ.inj _ _ _ h1 h2
  .have:=(hlt _ _ h1).2;omega
  .have:=(hlt _ _ h2).2;omega
  .omega
 prog:=ρ.prog
 F:=ρ.F
 old:=fun _=>False
 ch:=ch
 loose:=true
 wide:=true
 tight:=fun h=>by rw [hS] at h;cases h
 pin:=ρ.pin
 bad:=ρ.bad
 noM:=ρ.noM
section
variable {ρ:Ren} {n m:Nat} {I:Nat->Prop} {hlt:∀a b,ρ a b->a<n/\b<m} {ch:Nat->Prop} {hS:ρ.F fE=false} {V W V' W':Wz}
theorem po:ρ.sub' (ρ.plus n m I hlt ch hS):=⟨fun _ _ h=>.inl h,rfl,fun _ h=>h,rfl⟩
theorem ma {i:Nat}(h:I i):(ρ.plus n m I hlt ch hS) (n+i) (m+i):=.inr ⟨i,h,rfl,rfl⟩
theorem Bj (S:bB ρ V W)(hV:∀a b,ρ a b->V'.heap[a]?=V.heap[a]?)(hW:∀b,b<m->W'.heap[b]?=W.heap[b]?)(hos:W'.os=V'.os)
  (hnew:∀i,I i->∃o o',V'.heap[n+i]?=some o/\W'.heap[m+i]?=some o'/\RO (ρ.plus n m I hlt ch hS) o o') (hch:∀c,ch c->∃o,V'.heap[c]?=some o/\o.isChan=true):bB (ρ.plus n m I hlt ch hS) V' W':=by
 refine ⟨fun a b hab=>?_,fun a h=>h.elim,hch,hos,fun hb a c0 hp=>?_⟩
 rotate_left
 .obtain ⟨b,hab,hP⟩:=S.pin hb a c0 hp;exact ⟨b,.inl hab,hP.same (hV a b hab) (hW b (hlt a b hab).2)⟩
 rcases hab with hab|⟨i,hi,rfl,rfl⟩
 .obtain ⟨o,o',h1,h2,h3⟩:=S.obj a b hab;refine ⟨o,o',(hV a b hab).trans h1,(hW b (hlt a b hab).2).trans h2,RO.re po rfl h3 (fun hc=>?_)⟩;cases h3 with
  |chan=>exact .chan _ _ _ _ _ _ _ _ _ (.inl rfl) (.inl rfl)
  |_=>cases hc
 .exact hnew i hi
end
structure fJ (P:Wx) [Two P](F:FuncId->Bool):Prop where
 code:∀ (f:FuncId) fn b,F f=true->P.funcs[f]?=some fn->fn.body=some b->aB P F b=true
 alt:∀f,F f=true->P.alt.funcs[f]?=P.funcs[f]?
 same:∀f:Nat,(P.alt.funcs[f]?).map strip=(P.funcs[f]?).map strip
 size:P.alt.funcs.size=P.funcs.size
 apart:∀f,Mk F f=true->∃a b,P.alt.funcs[f]?=some a/\P.funcs[f]?=some b/\a.body.isSome=true/\b.body.isSome=true/\a.name=b.name
 ext:fu P F
theorem fJ.gid {P:Wx} [Two P]{σ:Ren}(h:fJ P σ.F)(hg:∀g,g<P.globals.size->σ g g)(hp:σ.prog=P)(hf:σ.F kI=true->∀a,¬σ.old a):GId P σ:=⟨hg,hp,h.code,h.alt,hf,h.same,h.size,h.apart⟩
theorem RV.any {σ σ':Ren}(hrel:∀a b,σ a b->σ' a b)(hF:∀f,σ.F f=true->σ'.F f=true)(ho:σ'.bad=σ.bad){v v':Wq}(h:RV σ v v'):RV σ' v v':=by
 have hAo:∀ {a a':Option Ww},RAo σ a a'->RAo σ' a a':=fun h=>by
  cases h with
  |none=>exact .none
  |some h=>exact .some ⟨hrel _ _ h.1,h.2⟩
 have hNo:∀ {a a':Option Nat},RNo σ a a'->RNo σ' a a':=fun h=>by
  cases h with
  |none=>exact .none
  |some h=>exact .some (hrel _ _ h)
 induction h with
 |bool b=>exact .bool b
 |int k n=>exact .int k n
 |string s=>exact .string s
 |pointer h=>exact .pointer (hAo h)
 |slice n c h=>exact .slice n c (hAo h)
 |map h=>exact .map (hNo h)
 |chan h=>exact .chan (hNo h)
 |func hf ha hc _ _ ih1 ih2=>
  refine .func ?_ ha hc ih1 ih2;cases hf with
  |func f h=>exact .func f (hF f h)
  |yield h=>exact .yield (hrel _ _ h)
 |nilFunc=>exact .nilFunc
 |iface t _ ih=>exact .iface t ih
 |nilIface=>exact .nilIface
 |agg hc _ ih=>exact .agg hc ih
 |tuple hc _ ih=>exact .tuple hc ih
 |dead v' h=>exact .dead v' h
 |odd n s a c hn=>exact .odd n s a c (hn.trans ho.symm)
theorem RVs.any {σ σ':Ren}(hrel:∀a b,σ a b->σ' a b)(hF:∀f,σ.F f=true->σ'.F f=true)(ho:σ'.bad=σ.bad){c c':Array Wq}(h:RVs σ c c'):RVs σ' c c':=⟨h.size,fun i v v' h1 h2=>(h.at_ i v v' h1 h2).any hrel hF ho⟩
theorem RO.any {σ σ':Ren}(hrel:∀a b,σ a b->σ' a b)(hF:∀f,σ.F f=true->σ'.F f=true)(ho:σ'.bad=σ.bad)(hb:σ'.F kI=σ.F kI){o o':Obj}(hp:uS o)(h:RO σ o o'):RO σ' o o':=by
 have hno:∀ {q:Obj},uS q->(∀c e z,q≠.cells c e z)->Fixed q:=fun h k=>by
  rcases h with ⟨c,e,z,h⟩|h
  .exact absurd h (k c e z)
  .exact h
 cases h with
 |cells e hz h=>exact .cells e (by rw [hb];exact hz) (h.any hrel hF ho)
 |number b h=>exact .number b ⟨hrel _ _ h.1,h.2⟩
 |dead _ h=>exact .dead _ h
 |_=>exact (hno hp (fun _ _ _ h=>by cases h)).elim
theorem kP {P:Wx} [Two P](hZ:bG P)(hN:bP P){A:Nat->Prop}{F:FuncId->Bool}{T:Wj->Wz->Prop}(hT:∀g w,T g w->g.callers≠[]/\g.dying=none/\g.status=.running)(hTt:∀g w τ d,T g (w.on τ d)↔T g w){h:Wj}{w:Wz}(hS:Self P ([trap P],[]) A F h w)
  (hst:∀τ d,∃g' w',Steps P (solo h (w.on τ d)) (solo g' w')/\T g' w'):Dem P (jr P ([trap P],[]) A F) T h w:=by
 refine Way.dem (N:=jr P ([trap P],[]) A F) ⟨fun g w h=>h.mir hZ hN,fun g w τ d h=>⟨h.1.on τ d,h.2⟩,hTt⟩ (fun τ d=>?_);obtain ⟨g',w',⟨n,hn⟩,hT'⟩:=hst τ d;exact mM hZ hN hT n _ _ _ w' (hS.on τ d) hn hT'
def Ren.firm (σ:Ren)(P:Wx)(hb:NoM P σ.bad)(c:Nat):Ren where
 rel:=σ.rel
 fn:=σ.fn
 inj:=σ.inj
 prog:=P
 F:=σ.F
 old:=fun _=>False
 ch:=fun a=>a=c
 loose:=false
 wide:=false
 tight:=fun _=>rfl
 pin:=σ.pin
 bad:=σ.bad
 noM:=hb
theorem uU {σ:Ren}{P:Wx}{hb0:NoM P σ.bad}{V W W':Wz}(S:bB σ V W){c c':Nat}(hc:σ c c')(hpl:∀a b,σ a b->a≠c->∃o,V.heap[a]?=some o/\uS o)(hW:∀b,b≠c'->W'.heap[b]?=W.heap[b]?)(hos:W'.os=W.os){n n' s s' q q':Nat}{b b':Array Wq}{cl tm:Bool}(hV:V.heap[c]?=some (.chan n b cl s q tm))(hW':W'.heap[c']?=some (.chan n' b' cl s' q' tm))(hb:RVs (σ.firm P hb0 c) b b'):bB (σ.firm P hb0 c) V W':=by
 refine ⟨fun x y hxy=>?_,fun _ h=>h.elim,fun a h=>?_,hos.trans S.os,fun hb a c0 hp=>?_⟩
 rotate_left 2
 .obtain ⟨y,hay,hP⟩:=S.pin hb a c0 hp;refine ⟨y,hay,hP.same rfl (hW y (fun e=>?_))⟩;obtain rfl:=σ.inj _ _ _ hay (e▸hc);obtain ⟨_,_,_,_,_,k1,-⟩:=hP;rw [hV] at k1;cases k1
 .have hxy:σ x y:=hxy;by_cases e:x=c
  .subst e;obtain rfl:=σ.fn _ _ _ hxy hc;exact ⟨_,_,hV,hW',.chan _ _ _ _ _ _ _ _ _ (.inr hb) (.inr rfl)⟩
  .obtain ⟨o,o',h1,h2,h3⟩:=S.obj x y hxy;obtain ⟨o2,k1,k2⟩:=hpl x y hxy e;rw [h1] at k1;cases k1;exact ⟨o,o',h1,(hW y (fun k=>e (σ.inj _ _ _ hxy (k▸hc)))).trans h2,RO.any (σ:=σ) (σ':=σ.firm P hb0 c) (fun _ _ h=>h) (fun _ h=>h) rfl rfl k2 h3⟩
 .have h:a=c:=h;subst h;exact ⟨_,hV,rfl⟩
end
section
open Go
open Go.Conc Go.ConcX Go.ConcX.Gen Go.RowKit
structure yQ (Pre:Lst->List Wq->Wz->Prop):Prop where
 low:∀ (ρ:Ren) (V W V':Wz) (l:Lst) (L:List Wq),bB ρ V W->(∃r,RAo ρ l.root r)->(∀g,g<Tryz.prog.globals.size->∃y,ρ g y)->(∀a y i v,ρ a y->V.cell? ⟨a,i,none⟩=some v->Good v->V'.cell? ⟨a,i,none⟩=some v)->V.heap.size<=V'.heap.size->Pre l L V->Pre l L V'
 on:∀ (V V':Wz) (l:Lst) (L:List Wq),(∀a,a.block<V.heap.size->V'.cell? a=V.cell? a)->V.heap.size<=V'.heap.size->Pre l L V->Pre l L V'
 item:∀l L V,Pre l L V->∀v∈L,∃ (a b:Int) (s:ByteArray),v=.agg #[.int .i64 a,.string s,.int .i64 b]
 len:∀l L V,Pre l L V->L.length<=1000
 send:∀ (l:Lst) (L:List Wq) (w:Wz) (c:Nat),Pre l L w->w.heap[c]?=some (.chan 1000 #[] false 0 0 false) ->
  Calls Yq.prog 120 #[qV l.vs l.p l.d l.af,sV l.root,.chan (some c)] w fun e w'=>e=.returned (.tuple #[])/\((∀b,b<w.heap.size->b≠c->w'.heap[b]?=w.heap[b]?)/\w.heap.size<=w'.heap.size/\w'.os=w.os)/\w'.heap[c]?=some (.chan 1000 L.toArray false L.length 0 false)
section
variable (V:Wz) (l:Lst)
def bN (room:Nat):Wz:=itW (pgW V l) l.root l.vs l.p l.d l.af room
theorem uV:(pgW V l).heap.size=V.heap.size+3:=by simp only [pgW,World.alloc,Array.size_push]
theorem eF (room:Nat):(bN V l room).heap.size=V.heap.size+7:=by simp only [bN,itW,pgW,World.alloc,Array.size_push]
theorem dW (room:Nat){a:Nat}(h:a<V.heap.size):(bN V l room).heap[a]?=V.heap[a]?:=by
 simp only [bN,itW,pgW,World.alloc,gP,Array.size_push]
 repeat rw [if_neg (by omega)]
theorem bQ (room:Nat)(i:Nat)(h:i<7):(bN V l room).heap[V.heap.size+i]?=(#[.cells (aE l) 125,.cells #[.slice none 0 0,.string ⟨#[]⟩] 88,.cells #[.slice none 0 0,.string ⟨#[]⟩] 88,.cells #[.bool l.vs,.string l.p,.string l.d,.string l.af] 93,.cells #[.pointer l.root] 56,.chan room #[] false 0 0 false,.cells #[.chan (some (V.heap.size+5))] 193]:Array Obj)[i]?:=by
 simp only [bN,itW,pgW,World.alloc,gP,Array.size_push];rcases i with - | - | - | - | - | - | - |i;all_goals first|omega|skip
 all_goals
  repeat (first|rw [if_pos (by omega)] |rw [if_neg (by omega)])
  rfl
theorem iX (room:Nat):Boxes (bN V l room) (V.heap.size+3+3) (V.heap.size+3) (V.heap.size+3+1) (V.heap.size+3+2) l.root l.vs l.p l.d l.af:=by
 have h3:=bQ V l room 3 (by omega);have h4:=bQ V l room 4 (by omega);have h6:=bQ V l room 6 (by omega);have c:∀ (b i:Nat) (x:Array Wq) (t:TypeId),(bN V l room).heap[b]?=some (.cells x t)->(bN V l room).cell? ⟨b,i,none⟩=x[i]?:=fun b i x t h=>by unfold World.cell?;simp [h]
 refine ⟨?_,?_,?_,?_,?_,?_⟩
 .rw [c (V.heap.size+6) 0 _ _ h6];rfl
 .rw [c (V.heap.size+3) 0 _ _ h3];rfl
 .rw [c (V.heap.size+3) 1 _ _ h3];rfl
 .rw [c (V.heap.size+3) 2 _ _ h3];rfl
 .rw [c (V.heap.size+3) 3 _ _ h3];rfl
 .rw [c (V.heap.size+4) 0 _ _ h4];rfl
theorem ol (room:Nat):∀a:Ww,a.block<V.heap.size->(bN V l room).cell? a=V.cell? a:=fun _a h=>cB (dW V l room h)
end
theorem qX {Pre:Lst->List Wq->Wz->Prop}(hPre:yQ Pre)(l:Lst)(pn:Int)(L:List Wq)(V:Wz)(cs:List Wv)(hp:Pre l L V)(ht:Region.schedule (Yq.prog.follows .mixedOrders) Yq.drawOps (V.tape V.drawn (.order 69 100))=[1,0]):
  ∃V4:Wz,Steps Yq.prog (lone (Frame.enter Yq.prog 69 #[lV l,.int .i64 pn] .normal) cs V) (lone (pF2 V.heap.size l pn (V.heap.size+5)) cs V4) /\
   (∀b,b<V.heap.size+7->b≠V.heap.size+5->V4.heap[b]?=(bN V l 1000).heap[b]?)/\V4.heap[V.heap.size+5]?=some (.chan 1000 L.toArray true L.length 0 false)/\V4.os=V.os:=by
 obtain ⟨Va,hVa⟩:∃Va:Wz,Va={V with drawn:=V.drawn+1}:=⟨_,rfl⟩;have e1:Va.heap=V.heap:=by rw [hVa]
 have e2:Va.os=V.os:=by rw [hVa]
 have s1:=Bh (lV l) (.int .i64 pn) cs V ht;rw [<-hVa,<-qS] at s1;have s2:=Bg l pn cs Va;have hcall:step Yq.prog (lone ((base 69).at ⟨jx Va.heap.size l pn,[]⟩ (.inRegion qR [4]::kN)) cs (pgW Va l))=.next (lone (Frame.enter Yq.prog 97 #[qV l.vs l.p l.d l.af,sV l.root] .normal) (pF Va.heap.size l pn::cs) (pgW Va l)):=by
  refine pk (o := { dst := some 17, op := .call { callee := .value (.func 97), args := #[.tmp 14, .tmp 16], argTypes := #[93, 56] }, type := 165, pos := "listing.go:108", after := #[{ on := 1, ground := .data }, { on := 3, ground := .data }], guard := none }) rfl rfl ?_
  have := run_call_body (P := Yq.prog) (a := ⟨jx Va.heap.size l pn, []⟩) (w := pgW Va l) (o := { dst := some 17, op := .call { callee := .value (.func 97), args := #[.tmp 14, .tmp 16], argTypes := #[93, 56] }, type := 165, pos := "listing.go:108", after := #[{ on := 1, ground := .data }, { on := 3, ground := .data }], guard := none }) rfl Yq.func97 rfl rfl
  have e:(#[.tmp 14,.tmp 16]:Array Operand).map (Act.eval ⟨jx Va.heap.size l pn,[]⟩)=#[qV l.vs l.p l.d l.af,sV l.root]:=by
   simp only [List.map_toArray,List.map_cons,List.map_nil];rfl
  rw [e] at this;exact this
 have s3:=yO l.root l.vs l.p l.d l.af (pF Va.heap.size l pn::cs) (pgW Va l);have hsz:(pgW Va l).heap.size=V.heap.size+3:=by rw [uV,e1]
 rw [hsz] at s3;have hcw:bN Va l 1000=itW (pgW Va l) l.root l.vs l.p l.d l.af 1000:=rfl;rw [<-hcw] at s3;have hb:Boxes (bN Va l 1000) (V.heap.size+3+3) (V.heap.size+3) (V.heap.size+3+1) (V.heap.size+3+2) l.root l.vs l.p l.d l.af:=by
  have:=iX Va l 1000;rw [e1] at this;exact this
 have hpa:Pre l L (bN Va l 1000):=hPre.on V _ l L (fun a ha=>by
  rw [ol Va l 1000 a (by rw [e1];exact ha)];unfold World.cell?;rw [e1]) (by rw [eF,e1];omega) hp
 have hrow:(bN Va l 1000).heap[V.heap.size+3+2]?=some (.chan 1000 #[] false 0 0 false):=by
  have:=bQ Va l 1000 5 (by omega);rw [e1] at this;exact this
 obtain ⟨w',⟨hold,hsize,hos⟩,hr',s4⟩:=qW (root0:=l.root) hb (hPre.send l L _ _ hpa hrow) (pF Va.heap.size l pn::cs);have heq:∀b:Nat,(bN Va l 1000).heap[b]?=(bN V l 1000).heap[b]?:=fun b=>by
  have:(bN Va l 1000).heap=(bN V l 1000).heap:=by simp only [bN,itW,pgW,World.alloc,e1]
  rw [this]
 have hot:∀b,b≠V.heap.size+5->(dO w' (V.heap.size+3+2) 1000 L.toArray L.length 0 false).heap[b]?=w'.heap[b]?:=fun b hb=>by
  unfold dO World.setChan;exact sN (by omega)
 have hout:(dO w' (V.heap.size+3+2) 1000 L.toArray L.length 0 false).cell? ⟨V.heap.size+3+3,0,none⟩=some (.chan (some (V.heap.size+3+2))):=by
  rw [cB (w:=bN Va l 1000) (a:=⟨V.heap.size+3+3,0,none⟩)]
  .exact hb.out
  .show (dO w' (V.heap.size+3+2) 1000 L.toArray L.length 0 false).heap[V.heap.size+3+3]?=(bN Va l 1000).heap[V.heap.size+3+3]?;rw [hot _ (by omega)];exact hold _ (by rw [eF,e1];omega) (by omega)
 have s5:=yP Va.heap.size (V.heap.size+3) l pn cs (dO w' (V.heap.size+3+2) 1000 L.toArray L.length 0 false) l.root hout;refine ⟨dO w' (V.heap.size+3+2) 1000 L.toArray L.length 0 false,?_,fun b h1 h2=>?_,?_,?_⟩
 .rw [<-e1];refine Steps.trans s1 (Steps.trans s2 (.head hcall (Steps.trans s3 (Steps.trans s4 ?_))));rw [e1] at s5 ⊢;exact s5
 .rw [hot b h2,<-heq];exact hold b (by rw [eF,e1];exact h1) (by omega)
 .exact heap_setChan _ _ _ _ _ _ _ _ (eS hr').1
 .exact (show w'.os=_ from hos.trans (by simp only [bN,itW,pgW,World.alloc];exact e2))
inductive RVl (ρ:Ren):List Wq->List Wq->Prop
 |nil:RVl ρ [] []
 |cons {v v':Wq} {l l':List Wq} (h:RV ρ v v') (hl:RVl ρ l l'):RVl ρ (v::l) (v'::l')
theorem RVl.len {ρ:Ren}{l l':List Wq}(h:RVl ρ l l'):l.length=l'.length:=by
 induction h with
 |nil=>rfl
 |cons _ _ ih=>simp [ih]
theorem RVl.at_ {ρ:Ren}{l l':List Wq}(h:RVl ρ l l'):∀ (i:Nat) v v',l[i]?=some v->l'[i]?=some v'->RV ρ v v':=by
 induction h with
 |nil=>intro i v v' h;simp at h
 |cons h _ ih=>
  intro i v v' h1 h2;cases i with
  |zero=>simp at h1 h2;subst h1;subst h2;exact h
  |succ i=>exact ih i v v' (by simpa using h1) (by simpa using h2)
theorem RVl.arr {ρ:Ren}{l l':List Wq}(h:RVl ρ l l'):RVs ρ l.toArray l'.toArray:=⟨by simp [h.len],fun i v v' h1 h2=>h.at_ i v v' (by simpa using h1) (by simpa using h2)⟩
theorem RVl.agg {ρ:Ren}{l l':List Wq}(h:RVl ρ l l'):RV ρ (.agg l.toArray) (.agg l'.toArray):=.agg h.arr.size h.arr.at_
section
variable {σ:Ren} {l:Lst} {r':Option Ww}
theorem j3 (h:RAo σ l.root r'):RVs σ (aE l) (aE {l with root:=r'}):=
 RVl.arr (.cons (.int _ _) (.cons (.pointer h) (.cons (.bool _) (.cons (.string _) (.cons (.string _) (.cons (.string _) (.cons (.int _ _) (.cons (.int _ _) .nil))))))))
theorem EK (h:RAo σ l.root r'):RV σ (lV l) (lV {l with root:=r'}):=.agg (j3 h).size (j3 h).at_
theorem EL (vs:Bool)(p d af:ByteArray):RV σ (qV vs p d af) (qV vs p d af):=RVl.agg (.cons (.bool _) (.cons (.string _) (.cons (.string _) (.cons (.string _) .nil))))
theorem EM {r:Option Ww}(h:RAo σ r r'):RV σ (sV r) (sV r'):=RVl.agg (.cons (.pointer h) .nil)
end
theorem EN {ρ:Ren}{l:Lst}{v:Wq}(h:RV ρ (lV l) v):∃r',RAo ρ l.root r'/\v=lV {l with root:=r'}:=by
 unfold lV at h;cases h with
 | @agg _ c' hc hx=>
  have hsz:c'.size=8:=by rw [<-hc];rfl
  obtain ⟨cl⟩:=c';have hlen:cl.length=8:=by simpa using hsz
  rcases cl with - |⟨x0,- |⟨x1,- |⟨x2,- |⟨x3,- |⟨x4,- |⟨x5,- |⟨x6,- |⟨x7,- |⟨x8,cl⟩⟩⟩⟩⟩⟩⟩⟩⟩<;>simp at hlen
  have h0:=hx 0 _ x0 rfl rfl;have h1:=hx 1 _ x1 rfl rfl;have h2:=hx 2 _ x2 rfl rfl;have h3:=hx 3 _ x3 rfl rfl;have h4:=hx 4 _ x4 rfl rfl;have h5:=hx 5 _ x5 rfl rfl;have h6:=hx 6 _ x6 rfl rfl;have h7:=hx 7 _ x7 rfl rfl;cases h0;cases h2;cases h3;cases h4;cases h5;cases h6;cases h7;cases h1 with
  |pointer h=>exact ⟨_,h,rfl⟩
theorem Bk {ρ:Ren}{l:Lst}{pn:Int}{a':Array Wq}(h:RVs ρ #[lV l,.int .i64 pn] a'):∃r',RAo ρ l.root r'/\a'=#[lV {l with root:=r'},.int .i64 pn]:=by
 obtain ⟨al⟩:=a';have hsz:=h.size;rcases al with - |⟨x0,- |⟨x1,- |⟨x2,al⟩⟩⟩<;>simp at hsz
 have h0:=h.at_ 0 _ x0 rfl rfl;have h1:=h.at_ 1 _ x1 rfl rfl;cases h1;obtain ⟨r',k1,rfl⟩:=EN h0;exact ⟨r',k1,rfl⟩
section
variable {ρ:Ren} {V W V':Wz} {l:Lst} {r':Option Ww} {I:Nat->Prop} {ch:Nat->Prop}
theorem pp (S:bB ρ V W)(hS:ρ.F fE=false)(hr:RAo ρ l.root r')(hI:∀i,I i->i<7)(hI5:I 5)(hV:∀a b,ρ a b->V'.heap[a]?=V.heap[a]?)(hV7:∀i,i<7->i≠5->V'.heap[V.heap.size+i]?=(bN V l 1000).heap[V.heap.size+i]?)(hV5:∃k b cl s q,V'.heap[V.heap.size+5]?=some (.chan k b cl s q false))(hos:V'.os=V.os)(hch:∀c,ch c->∃o,V'.heap[c]?=some o/\o.isChan=true)(dd:Nat):
  bB (ρ.plus V.heap.size W.heap.size I (fun _ _ h=>S.lt h) ch hS) V' ((bN W {l with root:=r'} 20).at dd):=by
 refine Bj S hV (fun b hb=>dW W _ 20 hb) (by rw [hos];exact S.os) (fun i hi=>?_) hch;have h7:=hI i hi;have eW:((bN W {l with root:=r'} 20).at dd).heap[W.heap.size+i]?=_:=bQ W {l with root:=r'} 20 i h7;by_cases h5:i=5
 .subst h5;obtain ⟨k,b,cl,s,q,hk⟩:=hV5;exact ⟨_,_,hk,eW,.chan _ _ _ _ _ _ _ _ _ (.inl rfl) (.inl rfl)⟩
 .have eV:=(hV7 i h7 h5).trans (bQ V l 1000 i h7);have hr2:RAo (ρ.plus V.heap.size W.heap.size I (fun _ _ h=>S.lt h) ch hS) l.root r':=RAo.re po hr;rcases i with - | - | - | - | - | - | - |i
  .exact ⟨_,_,eV,eW,.cells 125 (.inl rfl) (j3 hr2)⟩
  .exact ⟨_,_,eV,eW,.cells 88 (.inl rfl) (RVl.arr (.cons (.slice _ _ .none) (.cons (.string _) .nil)))⟩
  .exact ⟨_,_,eV,eW,.cells 88 (.inl rfl) (RVl.arr (.cons (.slice _ _ .none) (.cons (.string _) .nil)))⟩
  .exact ⟨_,_,eV,eW,.cells 93 (.inl rfl) (RVl.arr (.cons (.bool _) (.cons (.string _) (.cons (.string _) (.cons (.string _) .nil)))))⟩
  .exact ⟨_,_,eV,eW,.cells 56 (.inl rfl) (RVl.arr (.cons (.pointer hr2) .nil))⟩
  .exact absurd rfl h5
  .exact ⟨_,_,eV,eW,.cells 193 (.inl rfl) (RVl.arr (.cons (.chan (.some (ma hI5))) .nil))⟩
  .omega
end
section
variable {P:Wx} {σ:Ren} {l:Lst} {r':Option Ww} {n m c c':Nat} {pn:Int}
theorem tN (h0:σ n m)(h1:σ (n+1) (m+1))(h2:σ (n+2) (m+2))(hc:σ c c')(hr:RAo σ l.root r')(ho:aB P σ.F (bM (fD bK))=true/\aB P σ.F (bM bK)=true):RFr P σ (pF2 n l pn c) (pF2 m {l with root:=r'} pn c'):=by
 refine ⟨rfl,?_,.cons (.regionEnd _ _) (.cons (.code ho.1) (.cons (.code ho.2) .nil)),.nil,.run,⟨rfl,rfl,by simp [pF2,Frame.at,base]⟩,.none⟩;have p:∀ {a b:Nat} (j:Nat),σ a b->RV σ (.pointer (some ⟨a,j,none⟩)) (.pointer (some ⟨b,j,none⟩)):=fun j h=>.pointer (.some ⟨h,rfl,rfl⟩)
 have u:RV σ undef undef:=cK;exact RVl.arr (.cons (EK hr) (.cons (.int _ _) (.cons (p 0 h0) (.cons u (.cons (p 0 h1) (.cons (p 0 h2) (.cons (.int _ _) (.cons (.int _ _) (.cons u (.cons (.int _ _) (.cons (p 6 h0) (.cons (.int _ _) (.cons (.int _ _) (.cons (p 2 h0) (.cons (EL _ _ _ _) (.cons (p 1 h0) (.cons (EM hr) (.cons (.chan (.some hc)) (.cons u (.cons u (.cons u (.cons u (.cons u (.cons u (.cons u (.cons u (.cons u (.cons u (.cons u (.cons u (.cons u (.cons u (.cons u (.cons u (.cons u (.cons u (.cons u (.cons u (.cons u (.cons u (.cons u (.cons u (.cons u (.cons u (.cons u (.cons u (.cons u (.cons u (.cons u .nil)))))))))))))))))))))))))))))))))))))))))))))))))
theorem yR {Q:Wx}(k:CallKind)(hk:(k == .early)=false/\k≠.report){x0 x1 x2 y0 y1 y2:Nat}(h0:σ x0 y0)(h1:σ x1 y1)(h2:σ x2 y2){fn:Func}{b:Code}(hf:P.funcs[119]?=some fn)(hf':Q.funcs[119]?=some fn)(hb:fn.body=some b)(ho:aB P σ.F b=true):RFr P σ (Frame.enter Q 119 #[ptr x0,ptr x1,ptr x2] .normal) (Frame.enter P 119 #[ptr y0,ptr y1,ptr y2] k):=by
 have p:∀ {a b:Nat},σ a b->RV σ (ptr a) (ptr b):=fun h=>.pointer (.some ⟨h,rfl,rfl⟩)
 have e1:(Frame.enter Q 119 #[ptr x0,ptr x1,ptr x2] .normal).todo=[.code b]:=by simp [Frame.enter,hf',hb]
 have e2:(Frame.enter P 119 #[ptr y0,ptr y1,ptr y2] k).todo=[.code b]:=by simp [Frame.enter,hf,hb]
 refine ⟨rfl,?_,by rw [e1,e2];exact .cons (.code ho) .nil,.nil,.run,⟨rfl,hk.1,hk.2⟩,.none⟩;have ht1:(Frame.enter Q 119 #[ptr x0,ptr x1,ptr x2] .normal).tmps=#[ptr x0,ptr x1,ptr x2]++Array.replicate (fn.ntmps-3) undef:=by simp [Frame.enter,hf']
 have ht2:(Frame.enter P 119 #[ptr y0,ptr y1,ptr y2] k).tmps=#[ptr y0,ptr y1,ptr y2]++Array.replicate (fn.ntmps-3) undef:=by simp [Frame.enter,hf]
 rw [ht1,ht2];have a:RVs σ #[ptr x0,ptr x1,ptr x2] #[ptr y0,ptr y1,ptr y2]:=RVl.arr (.cons (p h0) (.cons (p h1) (.cons (p h2) .nil)));refine ⟨by simp,fun i v v' e1 e2=>?_⟩;rw [Array.getElem?_append] at e1 e2;by_cases hi:i<3
 .rw [if_pos (by simpa using hi)] at e1 e2;exact a.at_ i v v' e1 e2
 .rw [if_neg (by simpa using hi)] at e1 e2;simp only [Array.getElem?_replicate] at e1 e2;split at e1
  .cases e1;split at e2
   .cases e2;exact cK
   .cases e2
  .cases e1
end
theorem yS {a:Act}{c:Nat}{cs:List Wv}{w:Wz}{r:List Nat}(h:a.eval (.tmp 17)=.chan (some c)):∃z es,stepG Yq.prog true (G (jy a (0::r)) cs) w=.comm (G (jy a (0::r)) cs) #[rcase c z] true (.recv true) w es:=by
 refine ⟨.agg #[.int .i64 0, .string ⟨#[]⟩, .int .i64 0], _, stepG_comm (o := { dst := some 18, op := .recv 165 (.tmp 17) true, type := 0, pos := "listing.go:108", after := #[], guard := none }) rfl rfl (by decide) ?_⟩
 have e : execOp a.eval { dst := some 18, op := .recv 165 (.tmp 17) true, type := 0, pos := "listing.go:108", after := #[], guard := none } = (do
  let .chan _ elem ← underlying 165 | stuck "receive: channel type expected"
  pure (.comm #[{chan:=a.eval (.tmp 17),send:=none,zero:=<-zeroValue elem}] true (.recv true))):=rfl
 rw [e,h];simp [go_sem,rcase]
theorem qY {v:Wq}(h:∃ (a b:Int)(s:ByteArray),v=.agg #[.int .i64 a,.string s,.int .i64 b]):Flat v:=by
 obtain ⟨a,b,s,rfl⟩:=h;intro ρ;refine ⟨RVl.agg (.cons (.int _ _) (.cons (.string _) (.cons (.int _ _) .nil))),fun v' h=>?_⟩;cases h with
 | @agg _ c' hc hx=>
  obtain ⟨cl⟩:=c';have hlen:cl.length=3:=by simpa using hc.symm
  rcases cl with - |⟨x0,- |⟨x1,- |⟨x2,- |⟨x3,cl⟩⟩⟩⟩<;>simp at hlen
  have h0:=hx 0 _ x0 rfl rfl;have h1:=hx 1 _ x1 rfl rfl;have h2:=hx 2 _ x2 rfl rfl;cases h0;cases h1;cases h2;rfl
section
variable [Two Tryz.prog] [Two Yq.prog]
structure pq (G Fs Fr:FuncId->Bool):Prop where
 alt:Tryz.prog.alt=Yq.prog
 zero:bG Tryz.prog
 zero1:bG Yq.prog
 count:bP Tryz.prog
 count1:bP Yq.prog
 statS:fJ Tryz.prog Fs
 statR:fJ Tryz.prog Fr
 statS1:fJ Yq.prog Fs
 statR1:fJ Yq.prog Fr
 mark:∀f,Mk G f=true->f=69
 s:Fs kI=false/\Fs Et=false/\Fs kJ=false
 smk:∀f,¬Mk Fs f=true
 s119:Fs 119=true
 r:Fr kI=false/\Fr fE=false/\Fr kJ=false
 rmk:∀f,¬Mk Fr f=true
 okG:aB Tryz.prog G (bM (fD bK))=true/\aB Tryz.prog G (bM bK)=true
 okR:aB Tryz.prog Fr (bM (fD bK))=true/\aB Tryz.prog Fr (bM bK)=true
 okR1:aB Yq.prog Fr (bM (fD bK))=true/\aB Yq.prog Fr (bM bK)=true
 notR:aB Tryz.prog Fr (bm Tryz.f69)=false
theorem yT {G Fs Fr:FuncId->Bool}(E:pq G Fs Fr){P:Wx}{n:TypeId}(h:NoM P n)(hp:P=Tryz.prog):NoM Yq.prog n:=by
 subst hp;rw [<-E.alt];exact h
def CK (c:Nat)(h:Wj)(V:Wz):Prop:=
 ∃a,h=G (jy a [0,1]) [trap Yq.prog]/\a.eval (.tmp 17)=.chan (some c)/\∃k s q,V.heap[c]?=some (.chan k #[] true s q false)
def CL (c:Nat)(L:List Wq)(h:Wj)(V:Wz):Prop:=
 (h.callers=[trap Yq.prog]/\h.frame.fn=119/\h.frame.mode=.returning/\∃at_ t k,h.frame.defers=[{target:=.builtin .close at_ t k,args:=#[.chan (some c)]}])/\(h.dying=none/\h.status=.running)/\∃k s q,V.heap[c]?=some (.chan k L.toArray false s q false)
noncomputable def phD (T:Wj->Wz->Prop)(G Fs Fr:FuncId->Bool)(L:List Wq)(n m k:Nat)(X:List Wv×List Wv)(R0:Nat->Nat->Prop)(h0:Wj)(V0:Wz)(U:Outer):PhD Tryz.prog where
 T:=T
 Nr:=jr Yq.prog ([trap Yq.prog],[]) (fun a=>a=n+5) Fr
 Tr:=CK (n+5)
 Ns:=jr Yq.prog ([trap Yq.prog],[]) (fun a=>a=n+5) Fs
 Ts:=CL (n+5) L
 h0:=h0
 V0:=V0
 k:=k
 c:=m+5
 cV:=n+5
 cr:=n+5
 cs:=n+5
 X:=X
 Bs:=[dD Tryz.prog]
 L:=L
 R0:=R0
 Fp:=G
 Fr:=Fr
 bo:=m+6
 U:=U
theorem FS {G Fs Fr:FuncId->Bool}(E:pq G Fs Fr){T:Wj->Wz->Prop}{Post:Wq->Wz->Prop}{L:List Wq}{n m k:Nat}{fr fr':Wv}{cs cs':List Wv}{ρ:Ren}{h0:Wj}{V0:Wz}{U:Outer}(hk:k≠0)(hL:∀v∈L,Flat v)(hT:∀h V,T h V->h.callers.length<=1)
  (hI:GId Tryz.prog ρ) (hE:fu Tryz.prog ρ.F) (hFG:ρ.F=G) (hS:ρ.F fE=false) (hM:ρ.F kJ=false) (hO0:ρ.bad=U.bad) (hX:RFs Tryz.prog ρ ([trap Tryz.prog.alt],[]) (fr::cs) (fr'::cs')) (hlen:1<=cs.length)
  (hsolo:∀h V,LSs Tryz.prog.alt T h0 V0 h V->oc Tryz.prog U G [] Post h V):uJ Tryz.prog (phD T G Fs Fr L n m k (fr::cs,fr'::cs') ρ.rel h0 V0 U) Post where
 zero:=E.zero
 count:=E.count
 mark:=fun f hf fn b h1 h2=>by
  obtain rfl:=E.mark f hf;rw [Tryz.func69] at h1;cases h1;have:bm Tryz.f69=b:=by unfold bm;rw [h2];rfl
  rw [<-this];exact E.notR
 k0:=hk
 flat:=hL
 deep:=by show 2<=(fr::cs).length;simp;omega
 leafT:=hT
 nr:=fun h V hN=>by rw [E.alt];exact hN.2
 tr:=fun h V hN=>by
  obtain ⟨a,rfl,h17,kk,s,q,hrow⟩:=hN;refine ⟨fun _=>.inl rfl,fun n1 b s q tm hr=>?_,fun τ d=>?_⟩
  .have hr:V.heap[n+5]?=_:=hr;rw [hrow] at hr;cases hr;rfl
  .obtain ⟨z,es,e⟩:=yS (cs:=[trap Yq.prog]) (w:=V.on τ d) (r:=[1]) h17;rw [E.alt];exact ⟨_,_,_,_,_,_,_,e,.shut (r:=n+5) rfl rfl hrow⟩
 ns:=fun h V hN=>by rw [E.alt];exact hN.2
 bs:=by simp [phD]
 grow:=fun h V τ d h' V' hN hl n b cl s q tm hr=>by
  rw [E.alt] at hl;exact jr.grow (w:=V.on τ d) E.zero1 E.count1 E.s.2.1 (A:=fun a=>a=_) rfl ⟨hN.1.on τ d,hN.2⟩ hl hr
 ts:=fun h V hN nn b cl s q tm hr=>by
  obtain ⟨-,-,k2,s2,q2,hrow⟩:=hN;have hr:V.heap[n+5]?=_:=hr;rw [hrow] at hr;cases hr;exact ⟨rfl,rfl⟩
 close:=fun h V ρs g W hN S nn b s q tm hrow=>by
  obtain ⟨⟨h1,h2,h3,h4⟩,-⟩:=hN;exact Be Tryz.func119 rfl S ⟨by rw [E.alt];exact h1,h2,h3,h4⟩ hrow
 fin:=yL (ρ0:=ρ) (fun _ _ h=>h) hI hE hS hM (fun f hf=>by rw [hFG];exact hf) (by rw [hFG];rfl) hO0 hX (by show 2<=(fr::cs).length;simp;omega) (by show 0<(fr'::cs').length;simp) (by rw [hFG];exact hsolo)
end
theorem de (V:Wz)(l:Lst)(room:Nat):(bN V l room).heap[V.heap.size+5]?=some (.chan room #[] false 0 0 false):=bQ V l room 5 (by omega)
section
variable [Two Tryz.prog] [Two Yq.prog] {Gf Fs Fr:FuncId->Bool} {Pre:Lst->List Wq->Wz->Prop} {ρ:Ren} {V W:Wz} {l:Lst} {r':Option Ww} {L:List Wq}
def Bl (S:bB ρ V W)(hS:ρ.F fE=false):Ren:=ρ.plus V.heap.size W.heap.size (fun i=>3<=i/\i<7) (fun _ _ h=>S.lt h) (fun a=>a=V.heap.size+5) hS
def sK (S:bB ρ V W)(hS:ρ.F fE=false):Ren:=ρ.plus V.heap.size W.heap.size (fun i=>i<7) (fun _ _ h=>S.lt h) (fun a=>a=V.heap.size+5) hS
noncomputable def Ft (n:Nat):Wj:=G (Frame.enter Yq.prog 119 #[ptr (n+6),ptr (n+3),ptr (n+4)] .normal) [trap Yq.prog]
noncomputable def FN (m:Nat):Wj:=G (Frame.enter Tryz.prog 119 #[ptr (m+6),ptr (m+3),ptr (m+4)] .deferred) [dD Tryz.prog]
theorem Bm (E:pq Gf Fs Fr)(hPre:yQ Pre)(S:bB ρ V W)(hS:ρ.F fE=false)(hr:RAo ρ l.root r')(hp:Pre l L V)(hI:GId Tryz.prog ρ)(dd:Nat):
  ∃Vs ht,Snd Tryz.prog ([trap Tryz.prog.alt],[dD Tryz.prog]) ((Bl S hS).low Fs (fun _=>False) (V.heap.size+5) false ht) (Ft V.heap.size) (FN W.heap.size) Vs ((bN W {l with root:=r'} 20).at dd) (V.heap.size+5) (W.heap.size+5) [] /\
   Dem Yq.prog (jr Yq.prog ([trap Yq.prog],[]) (fun a=>a=V.heap.size+5) Fs) (CL (V.heap.size+5) L) (Ft V.heap.size) Vs:=by
 have hold:∀a b,ρ a b->(bN V l 1000).heap[a]?=V.heap[a]?:=fun a b h=>dW V l 1000 (S.lt h).1
 have S3:bB (Bl S hS) (bN V l 1000) ((bN W {l with root:=r'} 20).at dd):=pp S hS hr (fun i h=>h.2) ⟨by omega,by omega⟩ hold (fun _ _ _=>rfl) ⟨_,_,_,_,_,de V l 1000⟩ rfl (fun c h=>by
  have h:c=_:=h;subst h;exact ⟨_,de V l 1000,rfl⟩) dd
 have ht:Fs fE=true->false=false:=fun _=>rfl
 have pr:∀i,3<=i->i<7->(Bl S hS) (V.heap.size+i) (W.heap.size+i):=fun i h1 h2=>ma ⟨h1,h2⟩
 obtain ⟨Vs,SS,hsz,htp,hdr,hos,hrow,honly,hcell,-,hplain⟩:=lower (F:=Fs) (live:=fun _=>False) (c:=V.heap.size+5) (c':=W.heap.size+5) (wide:=false) (n:=1000) (b:=#[]) (cl:=false) (s:=0) (q:=0) S3 ht E.s.1 (pr 5 (by omega) (by omega)) (de W {l with root:=r'} 20) (.inr rfl) (fun a h=>h.elim);refine ⟨Vs,ht,?_,?_⟩
 .have okb:aB Tryz.prog Fs (bm Tryz.f119)=true:=E.statS.code 119 _ _ E.s119 Tryz.func119 rfl;refine ⟨⟨yR (P:=Tryz.prog) (σ:=(Bl S hS).low Fs (fun _=>False) (V.heap.size+5) false ht) (Q:=Yq.prog) .deferred ⟨rfl,by simp⟩ (pr 6 (by omega) (by omega)) (pr 3 (by omega) (by omega)) (pr 4 (by omega) (by omega)) Tryz.func119 (Yq.nq Tryz.func119) rfl okb,by rw [E.alt];exact .base,⟨fun h=>?_,fun _=>rfl⟩,⟨rfl,rfl⟩,⟨rfl,rfl⟩,rfl,rfl⟩,SS,E.statS.gid (fun g hg=>.inl (hI.glob g hg)) hI.prog (fun h=>by rw [show (((Bl S hS).low Fs (fun _=>False) (V.heap.size+5) false ht).F)=Fs from rfl,E.s.1] at h;cases h),E.statS.ext,⟨E.s.2.1,E.s.2.2⟩,E.smk,⟨rfl,rfl⟩,fun x=>Iff.rfl,pr 5 (by omega) (by omega),⟨_,_,_,_,_,hrow,rfl⟩,fun a n b s q tm h=>honly a _ h rfl⟩;rcases h with h|h
  .exact absurd rfl h
  .rw [E.alt] at h;simp at h
 .have hb:Boxes Vs (V.heap.size+6) (V.heap.size+3) (V.heap.size+4) (V.heap.size+5) l.root l.vs l.p l.d l.af:=by
   have hb:=iX V l 1000;exact ⟨hcell _ _ _ _ (pr 6 (by omega) (by omega)) hb.out (.chan _),hcell _ _ _ _ (pr 3 (by omega) (by omega)) hb.q0 (.bool _),hcell _ _ _ _ (pr 3 (by omega) (by omega)) hb.q1 (.string _),hcell _ _ _ _ (pr 3 (by omega) (by omega)) hb.q2 (.string _),hcell _ _ _ _ (pr 3 (by omega) (by omega)) hb.q3 (.string _),hcell _ _ _ _ (pr 4 (by omega) (by omega)) hb.st (.pointer _)⟩
  have hp3:Pre l L (bN V l 1000):=hPre.on V _ l L (ol V l 1000) (by rw [eF];omega) hp;have hps:Pre l L Vs:=hPre.low _ _ _ _ l L S3 ⟨r',RAo.re po hr⟩ (fun g hg=>⟨_,.inl (hI.glob g hg)⟩) hcell (by rw [hsz];exact lR _) hp3;have okb:aB Yq.prog Fs (bm Tryz.f119)=true:=E.statS1.code 119 _ _ E.s119 (Yq.nq Tryz.func119) rfl;refine kP E.zero1 E.count1 (fun g w h=>⟨by rw [h.1.1];simp,h.2.1⟩) (fun g w τ d=>Iff.rfl) ⟨rfl,((Bl S hS).low Fs (fun _=>False) (V.heap.size+5) false ht).firm Yq.prog (yT E ρ.noM hI.prog) (V.heap.size+5),G (Frame.enter Yq.prog 119 #[ptr (W.heap.size+6),ptr (W.heap.size+3),ptr (W.heap.size+4)] .normal) [],(bN W {l with root:=r'} 20).at dd,⟨yR (P:=Yq.prog) (σ:=((Bl S hS).low Fs (fun _=>False) (V.heap.size+5) false ht).firm Yq.prog (yT E ρ.noM hI.prog) (V.heap.size+5)) (Q:=Yq.prog) .normal ⟨rfl,by simp⟩ (pr 6 (by omega) (by omega)) (pr 3 (by omega) (by omega)) (pr 4 (by omega) (by omega)) (Yq.nq Tryz.func119) (Yq.nq Tryz.func119) rfl okb,.base,⟨fun _=>rfl,fun _=>rfl⟩,⟨rfl,rfl⟩,⟨rfl,rfl⟩,rfl,rfl⟩,uU SS (pr 5 (by omega) (by omega)) hplain (fun _ _=>rfl) rfl hrow (de W {l with root:=r'} 20) RVs.nil,E.statS1.gid (fun g hg=>.inl (hI.glob g (by rw [Yq.globals_size] at hg;exact hg))) rfl (fun _ _ h=>h),E.statS1.ext,rfl,rfl,⟨rfl,fun c h=>⟨W.heap.size+5,by rw [show c=V.heap.size+5 from h];exact pr 5 (by omega) (by omega)⟩,rfl⟩,fun _ h=>h,E.smk⟩ (fun τ d=>?_);have hsend:=hPre.send l L (Vs.on τ d) (V.heap.size+5) (hPre.on Vs _ l L (fun _ _=>rfl) (lR _) hps) hrow;obtain ⟨fr,w',df,hst,hf,hm,hd,⟨at_,t,k,rfl⟩,-,-,-,hrow'⟩:=qU (w:=Vs.on τ d) ⟨hb.out,hb.q0,hb.q1,hb.q2,hb.q3,hb.st⟩ hsend [trap Yq.prog];exact ⟨_,w',hst,⟨rfl,hf,hm,at_,t,k,hd⟩,⟨rfl,rfl⟩,_,_,_,hrow'⟩
end
def uW:Prop:=∀ (l:Lst)(pn:Int)(L:List Wq)(n c:Nat)(w:Wz)(cs:List Wv),(∀v∈L,∃ (a b:Int)(s:ByteArray),v=.agg #[.int .i64 a,.string s,.int .i64 b])->L.length<=1000->n+2<c ->
 w.heap[n]?=some (.cells (aE l) 125)->w.heap[n+1]?=some (.cells #[.slice none 0 0,.string ⟨#[]⟩] 88)->w.heap[n+2]?=some (.cells #[.slice none 0 0,.string ⟨#[]⟩] 88)->(∃k s q,w.heap[c]?=some (.chan k L.toArray true s q false)) ->
 ∃a w',Steps Yq.prog (lone (pF2 n l pn c) cs w) (lone (jy a [0,1]) cs w')/\a.eval (.tmp 17)=.chan (some c)/\∃k s q,w'.heap[c]?=some (.chan k #[] true s q false)
theorem tP (l:Lst):∀ (i:Nat) v,(aE l)[i]?=some v->Good v:=fun i v h=>by
 rcases i with - | - | - | - | - | - | - | - |i<;>simp [aE] at h<;>subst h
 .exact .int _ _
 .exact .pointer _
 .exact .bool _
 .exact .string _
 .exact .string _
 .exact .string _
 .exact .int _ _
 .exact .int _ _
theorem qZ:∀ (i:Nat) v,(#[.slice none 0 0,.string ⟨#[]⟩]:Array Wq)[i]?=some v->Good v:=fun i v h=>by
 rcases i with - | - |i<;>simp at h<;>subst h
 .exact .slice _ _ _
 .exact .string _
section
variable [Two Tryz.prog] [Two Yq.prog] {Gf Fs Fr:FuncId->Bool} {ρ:Ren} {V W:Wz} {l:Lst} {r':Option Ww} {L:List Wq}
def own3 (n a:Nat):Prop:=a=n\/a=n+1\/a=n+2
theorem Bn (E:pq Gf Fs Fr)(hR:uW)(S:bB ρ V W)(hS:ρ.F fE=false)(hr:RAo ρ l.root r')(pn:Int)(hL:∀v∈L,∃ (a b:Int)(s:ByteArray),v=.agg #[.int .i64 a,.string s,.int .i64 b])(hlen:L.length<=1000)(hI:GId Tryz.prog ρ)(Y:List Wv)(dd:Nat):
  ∃Vr ht,Side Tryz.prog ([trap Tryz.prog.alt],Y) ((sK S hS).low Fr (own3 V.heap.size) (V.heap.size+5) true ht) (G (pF2 V.heap.size l pn (V.heap.size+5)) [trap Yq.prog]) (G (pF2 W.heap.size {l with root:=r'} pn (W.heap.size+5)) Y) Vr ((bN W {l with root:=r'} 20).at dd) (V.heap.size+5) (W.heap.size+5) L /\
   (∀ (a:Nat) o,Vr.heap[a]?=some o->o.isChan=true->a=V.heap.size+5) /\
   Dem Yq.prog (jr Yq.prog ([trap Yq.prog],[]) (fun a=>a=V.heap.size+5) Fr) (CK (V.heap.size+5)) (G (pF2 V.heap.size l pn (V.heap.size+5)) [trap Yq.prog]) Vr:=by
 have hold:∀a b,ρ a b->(bN V l 1000).heap[a]?=V.heap[a]?:=fun a b h=>dW V l 1000 (S.lt h).1
 have S3:bB (sK S hS) (bN V l 1000) ((bN W {l with root:=r'} 20).at dd):=pp S hS hr (fun i h=>h) (by omega) hold (fun _ _ _=>rfl) ⟨_,_,_,_,_,de V l 1000⟩ rfl (fun c h=>by
  have h:c=_:=h;subst h;exact ⟨_,de V l 1000,rfl⟩) dd
 have ht:Fr fE=true->true=false:=fun h=>by rw [E.r.2.1] at h;cases h
 have pr:∀i,i<7->(sK S hS) (V.heap.size+i) (W.heap.size+i):=fun i h=>ma h
 have r0:=bQ V l 1000 0 (by omega);have r1:=bQ V l 1000 1 (by omega);have r2:=bQ V l 1000 2 (by omega);have hlive:∀a,own3 V.heap.size a->a≠V.heap.size+5/\∃x e z,(bN V l 1000).heap[a]?=some (.cells x e z)/\(∀ (i:Nat) v,x[i]?=some v->Good v)/\∀y,(sK S hS) a y->∃x',((bN W {l with root:=r'} 20).at dd).heap[y]?=some (.cells x' e z):=fun a ha=>by
  rcases ha with rfl|rfl|rfl
  .refine ⟨by omega,_,_,_,r0,tP l,fun y hy=>?_⟩;obtain rfl:=(sK S hS).fn _ _ _ hy (pr 0 (by omega));exact ⟨_,bQ W {l with root:=r'} 20 0 (by omega)⟩
  .refine ⟨by omega,_,_,_,r1,qZ,fun y hy=>?_⟩;obtain rfl:=(sK S hS).fn _ _ _ hy (pr 1 (by omega));exact ⟨_,bQ W {l with root:=r'} 20 1 (by omega)⟩
  .refine ⟨by omega,_,_,_,r2,qZ,fun y hy=>?_⟩;obtain rfl:=(sK S hS).fn _ _ _ hy (pr 2 (by omega));exact ⟨_,bQ W {l with root:=r'} 20 2 (by omega)⟩
 obtain ⟨Vr,SS,hsz,htp,hdr,hos,hrow,honly,hcell,hlv,hplain⟩:=lower (F:=Fr) (live:=own3 V.heap.size) (c:=V.heap.size+5) (c':=W.heap.size+5) (wide:=true) (n:=1000) (b:=L.toArray) (cl:=true) (s:=L.length) (q:=0) S3 ht E.r.1 (pr 5 (by omega)) (de W {l with root:=r'} 20) (.inl rfl) hlive;have hr2:∀ {σ:Ren},(∀a b,(sK S hS) a b->σ a b)->RAo σ l.root r':=fun hσ=>by
  generalize l.root=x at hr;cases hr with
  |none=>exact .none
  |some h=>exact .some ⟨hσ _ _ (.inl h.1),h.2⟩
 refine ⟨Vr,ht,?_,honly,?_⟩
 .refine ⟨⟨tN (P:=Tryz.prog) (σ:=(sK S hS).low Fr (own3 V.heap.size) (V.heap.size+5) true ht) (pr 0 (by omega)) (pr 1 (by omega)) (pr 2 (by omega)) (pr 5 (by omega)) (hr2 fun _ _ h=>h) E.okR,by rw [E.alt];exact .base,⟨fun _=>rfl,fun _=>rfl⟩,⟨rfl,rfl⟩,⟨rfl,rfl⟩,rfl,rfl⟩,SS,E.statR.gid (fun g hg=>.inl (hI.glob g hg)) hI.prog (fun h=>by rw [show (((sK S hS).low Fr (own3 V.heap.size) (V.heap.size+5) true ht).F)=Fr from rfl,E.r.1] at h;cases h),E.statR.ext,⟨E.r.2.1,E.r.2.2⟩,⟨rfl,rfl⟩,rfl,pr 5 (by omega),⟨_,_,_,_,_,hrow,rfl⟩⟩
 .have hLr:∀ {σ:Ren},RVs σ L.toArray L.toArray:=⟨rfl,fun i v v' h1 h2=>by
   rw [h1] at h2;cases h2;exact (qY (hL v (by
    have:L[i]?=some v:=by simpa using h1
    exact List.mem_of_getElem? this)) _).1⟩
  refine kP E.zero1 E.count1 (fun g w h=>?_) (fun g w τ d=>Iff.rfl) ⟨rfl,((sK S hS).low Fr (own3 V.heap.size) (V.heap.size+5) true ht).firm Yq.prog (yT E ρ.noM hI.prog) (V.heap.size+5),G (pF2 W.heap.size {l with root:=r'} pn (W.heap.size+5)) [],((bN W {l with root:=r'} 20).at dd).setChan (W.heap.size+5) 20 L.toArray true 0 0 false,⟨tN (P:=Yq.prog) (σ:=((sK S hS).low Fr (own3 V.heap.size) (V.heap.size+5) true ht).firm Yq.prog (yT E ρ.noM hI.prog) (V.heap.size+5)) (pr 0 (by omega)) (pr 1 (by omega)) (pr 2 (by omega)) (pr 5 (by omega)) (hr2 fun _ _ h=>h) E.okR1,.base,⟨fun _=>rfl,fun _=>rfl⟩,⟨rfl,rfl⟩,⟨rfl,rfl⟩,rfl,rfl⟩,uU SS (pr 5 (by omega)) hplain (fun b hb=>aG _ _ _ _ _ _ _ _ hb) rfl hrow (heap_setChan _ _ _ _ _ _ _ _ (eS (de W {l with root:=r'} 20)).1) hLr,E.statR1.gid (fun g hg=>.inl (hI.glob g (by rw [Yq.globals_size] at hg;exact hg))) rfl (fun _ _ h=>h),E.statR1.ext,rfl,rfl,⟨rfl,fun c h=>⟨W.heap.size+5,by rw [show c=V.heap.size+5 from h];exact pr 5 (by omega)⟩,rfl⟩,fun _ h=>h,E.rmk⟩ (fun τ d=>?_)
  .obtain ⟨a,rfl,-⟩:=h;exact ⟨by simp [G],rfl,rfl⟩
  .obtain ⟨a,w',hs,h17,hrow'⟩:=hR l pn L V.heap.size (V.heap.size+5) (Vr.on τ d) [trap Yq.prog] hL hlen (by omega) ((hlv _ (.inl rfl)).trans r0) ((hlv _ (.inr (.inl rfl))).trans r1) ((hlv _ (.inr (.inr rfl))).trans r2) ⟨_,_,_,hrow⟩;exact ⟨_,w',hs,a,rfl,h17,hrow'⟩
end
theorem Dt (m:Nat)(l:Lst)(root:Option Ww)(cs:List Wv)(w:Wz):stepG Tryz.prog true (G ((base 97).at ⟨eO m root l.vs l.p l.d l.af (dM m),[]⟩ [.inRegion tJ [1],.code iL]) cs) w=.spawn (G ((base 97).at ⟨eO m root l.vs l.p l.d l.af (dM m),[]⟩ [.inRegion tJ [],.code iL]) cs) (born Tryz.prog {target:=.fn (.func 119) #[ptr (m+3),ptr m,ptr (m+1)],args:=#[]}) w #[]:=by
 have hr : (execOp (Act.eval ⟨eO m root l.vs l.p l.d l.af (dM m), []⟩) { dst := none, op := .go { callee := .value (.tmp 7), args := #[], argTypes := #[] }, type := 0, pos := "items.go:22", after := #[{ on := 0, ground := .data }], guard := none }).run Tryz.prog w = .ok (.spawn { target := .fn (.func 119) #[ptr (m + 3), ptr m, ptr (m + 1)], args := #[] }) w := by
  simp [go_sem,Act.eval,eO,dM]
 have := stepG_spawn (P := Tryz.prog) (main := true) (b := base 97) (a := ⟨eO m root l.vs l.p l.d l.af (dM m), []⟩) (k := [.code iL]) (cs := cs) (w := w) (ops := tJ) (i := 1) (rest := []) (o := { dst := none, op := .go { callee := .value (.tmp 7), args := #[], argTypes := #[] }, type := 0, pos := "items.go:22", after := #[{ on := 0, ground := .data }], guard := none }) rfl rfl (by decide) hr rfl
 rw [this]
 have hl : listed Tryz.prog (base 97).fn ⟨eO m root l.vs l.p l.d l.af (dM m), []⟩ { dst := none, op := .go { callee := .value (.tmp 7), args := #[], argTypes := #[] }, type := 0, pos := "items.go:22", after := #[{ on := 0, ground := .data }], guard := none } w = #[] := listed_nil (by simp [go_sem, Act.eval, eO, dM])
 rw [hl];rfl
theorem yU {Q : Wx} {i : Nat} {fn : Func} (h : Q.funcs[i]? = some fn) (hn : (fn.name == "runtime.NumGoroutine") = false) (hb : fn.body.isNone = false) (args : Array Wq) (w : Wz) : (callFunc i args).runT Q w #[] = (.ok (.enter i args) w, #[]) := by
 show Sem.runT Q (match Q.funcs[i]? with|none=>_|some fn=>_) w #[]=_;rw [h];simp only [hn,hb];rfl
theorem yV (m:Nat)(w:Wz):stepG Tryz.prog false (born Tryz.prog {target:=.fn (.func 119) #[ptr (m+6),ptr (m+3),ptr (m+4)],args:=#[]}) w=.go (FN m) w #[]:=by
 have hc:(callFunc 119 #[ptr (m+6),ptr (m+3),ptr (m+4)]).runT Tryz.prog w #[]=(.ok (.enter 119 #[ptr (m+6),ptr (m+3),ptr (m+4)]) w,#[]):=yU Tryz.func119 rfl rfl _ w;have hi:(invoke (.fn (.func 119) #[ptr (m+6),ptr (m+3),ptr (m+4)]) #[]).runT Tryz.prog w #[]=(.ok (.enter 119 #[ptr (m+6),ptr (m+3),ptr (m+4)]) w,#[]):=by
  unfold invoke;simpa using hc
 have h0:stepG Tryz.prog false (born Tryz.prog {target:=.fn (.func 119) #[ptr (m+6),ptr (m+3),ptr (m+4)],args:=#[]}) w=callDeferred Tryz.prog (dD Tryz.prog) [] none {target:=.fn (.func 119) #[ptr (m+6),ptr (m+3),ptr (m+4)],args:=#[]} w:=rfl;rw [h0];unfold callDeferred;simp only [hi];rfl
section
variable [Two Tryz.prog] [Two Yq.prog] {Gf Fs Fr:FuncId->Bool} {Pre:Lst->List Wq->Wz->Prop}
structure CM (Pre:Lst->List Wq->Wz->Prop)(R:(Nat->Question->Nat)->Nat->Ending->Wz->Prop):Prop where
 stop:∀τ d x y e u,R τ d (.panicked (stopEntry x y::e)) u->∃l pn L,x=lV l/\y=.int .i64 pn/\Pre l L u
end
end
