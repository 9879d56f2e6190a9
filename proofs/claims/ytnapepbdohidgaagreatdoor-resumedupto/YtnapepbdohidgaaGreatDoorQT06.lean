/- A part. -/
import Derived.Test.YtnapepbdohidgaaGreatDoorQT05
import Derived.KernelRfl
import Derived.RangeFuncNested
import Derived.OrdersIn
set_option maxHeartbeats 4000000
set_option maxRecDepth 100000
open Go renaming World->Wz,Value->Wq,Goroutine->Wj,Program->Wx,TypeId->Wk,Frame->Wv,Addr->Ww,undef->Wy
namespace Go.Proofs.Qw
open Tryz
def Ren.plus (ρ:Ren)(n m:Nat)(I:Nat->Prop)(hlt:∀a b,ρ a b->a<n/\b<m)(ch:Nat->Prop)(hS:ρ.F gu=false):Ren where
 rel:=fun a b=>ρ a b\/∃i,I i/\a=n+i/\b=m+i
 fn:=fun a b b' h1 h2=>by
  rcases h1 with h1|⟨i,-,h1,h3⟩<;>rcases h2 with h2|⟨j,-,h2,h4⟩
  .exact ρ.fn _ _ _ h1 h2
  .have:=(hlt _ _ h1).1;omega
  .have:=(hlt _ _ h2).1;omega
  .omega
 inj:=fun a a' b h1 h2=>by
  rcases h1 with h1|⟨i,-,h1,h3⟩<;>rcases h2 with h2|⟨j,-,h2,h4⟩
  .exact ρ.inj _ _ _ h1 h2
  .have:=(hlt _ _ h1).2;omega
  .have:=(hlt _ _ h2).2;omega
  .omega
 prog:=ρ.prog
 F:=ρ.F
 old:=fun _=>False
 ch:=ch
 loose:=true
 wide:=true
 tight:=fun h=>by rw [hS] at h;cases h
 pin:=ρ.pin
 bad:=ρ.bad
 noM:=ρ.noM
section
variable {ρ:Ren} {n m:Nat} {I:Nat->Prop} {hlt:∀a b,ρ a b->a<n/\b<m} {ch:Nat->Prop} {hS:ρ.F gu=false} {V W V' W':Wz}
theorem qH:ρ.sub' (ρ.plus n m I hlt ch hS):=⟨fun _ _ h=>.inl h,rfl,fun _ h=>h,rfl⟩
theorem m9 {i:Nat}(h:I i):(ρ.plus n m I hlt ch hS) (n+i) (m+i):=.inr ⟨i,h,rfl,rfl⟩
theorem CZ (S:bB ρ V W)(k:∀a b,ρ a b->V'.heap[a]?=V.heap[a]?)(j:∀b,b<m->W'.heap[b]?=W.heap[b]?)(f:W'.os=V'.os)
  (e:∀i,I i->∃o o',V'.heap[n+i]?=some o/\W'.heap[m+i]?=some o'/\RO (ρ.plus n m I hlt ch hS) o o') (hch:∀c,ch c->∃o,V'.heap[c]?=some o/\o.isChan=true):bB (ρ.plus n m I hlt ch hS) V' W':=by
 refine ⟨fun a b d=>?_,fun a h=>h.elim,hch,f,fun hb a c0 hp=>?_⟩
 rotate_left
 .obtain ⟨b,d,hP⟩:=S.pin hb a c0 hp;exact ⟨b,.inl d,hP.same (k a b d) (j b (hlt a b d).2)⟩
 rcases d with d|⟨i,hi,rfl,rfl⟩
 .obtain ⟨o,o',h1,h2,h3⟩:=S.obj a b d;refine ⟨o,o',(k a b d).trans h1,(j b (hlt a b d).2).trans h2,RO.re qH rfl h3 (fun hc=>?_)⟩;cases h3 with
  |chan=>exact .chan _ _ _ _ _ _ _ _ _ (.inl rfl) (.inl rfl)
  |_=>cases hc
 .exact e i hi
end
structure gz (P:Wx) [Two P](F:FuncId->Bool):Prop where
 code:∀ (f:FuncId) fn b,F f=true->P.funcs[f]?=some fn->fn.body=some b->aA P F b=true
 alt:∀f,F f=true->P.alt.funcs[f]?=P.funcs[f]?
 same:∀f:Nat,(P.alt.funcs[f]?).map strip=(P.funcs[f]?).map strip
 size:P.alt.funcs.size=P.funcs.size
 apart:∀f,Mk F f=true->∃a b,P.alt.funcs[f]?=some a/\P.funcs[f]?=some b/\a.body.isSome=true/\b.body.isSome=true/\a.name=b.name
 ext:ge P F
theorem gz.gid {P:Wx} [Two P]{σ:Ren}(h:gz P σ.F)(hg:∀g,g<P.globals.size->σ g g)(hp:σ.prog=P)(hf:σ.F mh=true->∀a,¬σ.old a):GId P σ:=⟨hg,hp,h.code,h.alt,hf,h.same,h.size,h.apart⟩
theorem RV.any {σ σ':Ren}(hrel:∀a b,σ a b->σ' a b)(hF:∀f,σ.F f=true->σ'.F f=true)(ho:σ'.bad=σ.bad){v v':Wq}(h:RV σ v v'):RV σ' v v':=by
 have d:∀ {a a':Option Ww},RAo σ a a'->RAo σ' a a':=fun h=>by
  cases h with
  |none=>exact .none
  |some h=>exact .some ⟨hrel _ _ h.1,h.2⟩
 have e:∀ {a a':Option Nat},RNo σ a a'->RNo σ' a a':=fun h=>by
  cases h with
  |none=>exact .none
  |some h=>exact .some (hrel _ _ h)
 induction h with
 |bool b=>exact .bool b
 |int k n=>exact .int k n
 |string s=>exact .string s
 |pointer h=>exact .pointer (d h)
 |slice n c h=>exact .slice n c (d h)
 |map h=>exact .map (e h)
 |chan h=>exact .chan (e h)
 |func hf ha hc _ _ j i=>
  refine .func ?_ ha hc j i;cases hf with
  |func f h=>exact .func f (hF f h)
  |yield h=>exact .yield (hrel _ _ h)
 |nilFunc=>exact .nilFunc
 |iface t _ ih=>exact .iface t ih
 |nilIface=>exact .nilIface
 |agg hc _ ih=>exact .agg hc ih
 |tuple hc _ ih=>exact .tuple hc ih
 |dead v' h=>exact .dead v' h
 |odd n s a c hn=>exact .odd n s a c (hn.trans ho.symm)
theorem RVs.any {σ σ':Ren}(hrel:∀a b,σ a b->σ' a b)(hF:∀f,σ.F f=true->σ'.F f=true)(ho:σ'.bad=σ.bad){c c':Array Wq}(h:RVs σ c c'):RVs σ' c c':=⟨h.size,fun i v v' h1 h2=>(h.at_ i v v' h1 h2).any hrel hF ho⟩
theorem RO.any {σ σ':Ren}(hrel:∀a b,σ a b->σ' a b)(hF:∀f,σ.F f=true->σ'.F f=true)(ho:σ'.bad=σ.bad)(hb:σ'.F mh=σ.F mh){o o':Obj}(hp:wS o)(h:RO σ o o'):RO σ' o o':=by
 have hno:∀ {q:Obj},wS q->(∀c e z,q≠.cells c e z)->Fixed q:=fun h k=>by
  rcases h with ⟨c,e,z,h⟩|h
  .exact absurd h (k c e z)
  .exact h
 cases h with
 |cells e hz h=>exact .cells e (by rw [hb];exact hz) (h.any hrel hF ho)
 |number b h=>exact .number b ⟨hrel _ _ h.1,h.2⟩
 |dead _ h=>exact .dead _ h
 |_=>exact (hno hp (fun _ _ _ h=>by cases h)).elim
theorem mq {P:Wx} [Two P](e:bF P)(c:bL P){A:Nat->Prop}{F:FuncId->Bool}{T:Wj->Wz->Prop}(f:∀g w,T g w->g.callers≠[]/\g.dying=none/\g.status=.running)(b:∀g w τ d,T g (w.on τ d)↔T g w){h:Wj}{w:Wz}(hS:Self P ([trap P],[]) A F h w)
  (hst:∀τ d,∃g' w',Steps P (solo h (w.on τ d)) (solo g' w')/\T g' w'):Dem P (j4 P ([trap P],[]) A F) T h w:=by
 refine Way.dem (N:=j4 P ([trap P],[]) A F) ⟨fun g w h=>h.mir e c,fun g w τ d h=>⟨h.1.on τ d,h.2⟩,b⟩ (fun τ d=>?_);obtain ⟨g',w',⟨n,hn⟩,a⟩:=hst τ d;exact nQ e c f n _ _ _ w' (hS.on τ d) hn a
def Ren.firm (σ:Ren)(P:Wx)(hb:NoM P σ.bad)(c:Nat):Ren where
 rel:=σ.rel
 fn:=σ.fn
 inj:=σ.inj
 prog:=P
 F:=σ.F
 old:=fun _=>False
 ch:=fun a=>a=c
 loose:=false
 wide:=false
 tight:=fun _=>rfl
 pin:=σ.pin
 bad:=σ.bad
 noM:=hb
theorem wU {σ:Ren}{P:Wx}{f:NoM P σ.bad}{V W W':Wz}(S:bB σ V W){c c':Nat}(hc:σ c c')(hpl:∀a b,σ a b->a≠c->∃o,V.heap[a]?=some o/\wS o)(l:∀b,b≠c'->W'.heap[b]?=W.heap[b]?)(j:W'.os=W.os){n m s s' q q':Nat}{b b':Array Wq}{cl tm:Bool}(i:V.heap[c]?=some (.chan n b cl s q tm))(hW':W'.heap[c']?=some (.chan m b' cl s' q' tm))(hb:RVs (σ.firm P f c) b b'):bB (σ.firm P f c) V W':=by
 refine ⟨fun x y d=>?_,fun _ h=>h.elim,fun a h=>?_,j.trans S.os,fun hb a c0 hp=>?_⟩
 rotate_left 2
 .obtain ⟨y,hay,hP⟩:=S.pin hb a c0 hp;refine ⟨y,hay,hP.same rfl (l y (fun e=>?_))⟩;obtain rfl:=σ.inj _ _ _ hay (e▸hc);obtain ⟨_,_,_,_,_,k1,-⟩:=hP;rw [i] at k1;cases k1
 .have d:σ x y:=d;by_cases e:x=c
  .subst e;obtain rfl:=σ.fn _ _ _ d hc;exact ⟨_,_,i,hW',.chan _ _ _ _ _ _ _ _ _ (.inr hb) (.inr rfl)⟩
  .obtain ⟨o,o',h1,h2,h3⟩:=S.obj x y d;obtain ⟨o2,k1,k2⟩:=hpl x y d e;rw [h1] at k1;cases k1;exact ⟨o,o',h1,(l y (fun k=>e (σ.inj _ _ _ d (k▸hc)))).trans h2,RO.any (σ:=σ) (σ':=σ.firm P f c) (fun _ _ h=>h) (fun _ h=>h) rfl rfl k2 h3⟩
 .have h:a=c:=h;subst h;exact ⟨_,i,rfl⟩
section
open Go.Conc Go.ConcX Go.ConcX.Gen Go.RowKit
structure AM (Pre:Lst->List Wq->Wz->Prop):Prop where
 low:∀ (ρ:Ren) (V W V':Wz) (l:Lst) (L:List Wq),bB ρ V W->(∃r,RAo ρ l.root r)->(∀g,g<Tryz.prog.globals.size->∃y,ρ g y)->(∀a y i v,ρ a y->V.cell? ⟨a,i,none⟩=some v->Good v->V'.cell? ⟨a,i,none⟩=some v)->V.heap.size<=V'.heap.size->Pre l L V->Pre l L V'
 on:∀ (V V':Wz) (l:Lst) (L:List Wq),(∀a,a.block<V.heap.size->V'.cell? a=V.cell? a)->V.heap.size<=V'.heap.size->Pre l L V->Pre l L V'
 item:∀l L V,Pre l L V->∀v∈L,∃ (a b:Int) (s:ByteArray),v=.agg #[.int .i64 a,.string s,.int .i64 b]
 len:∀l L V,Pre l L V->L.length<=1000
 send:∀ (l:Lst) (L:List Wq) (w:Wz) (c:Nat),Pre l L w->w.heap[c]?=some (.chan 1000 #[] false 0 0 false) ->
  Calls Yq.prog 120 #[qV l.vs l.p l.d l.af,sV l.root,.chan (some c)] w fun e w'=>e=.returned (.tuple #[])/\((∀b,b<w.heap.size->b≠c->w'.heap[b]?=w.heap[b]?)/\w.heap.size<=w'.heap.size/\w'.os=w.os)/\w'.heap[c]?=some (.chan 1000 L.toArray false L.length 0 false)
section
variable (V:Wz) (l:Lst)
def bJ (a:Nat):Wz:=itW (pgW V l) l.root l.vs l.p l.d l.af a
theorem wV:(pgW V l).heap.size=V.heap.size+3:=by simp only [pgW,World.alloc,Array.size_push]
theorem fk (a:Nat):(bJ V l a).heap.size=V.heap.size+7:=by simp only [bJ,itW,pgW,World.alloc,Array.size_push]
theorem eE (b:Nat){a:Nat}(h:a<V.heap.size):(bJ V l b).heap[a]?=V.heap[a]?:=by
 simp only [bJ,itW,pgW,World.alloc,gP,Array.size_push]
 repeat rw [if_neg (by omega)]
theorem bM (a:Nat)(i:Nat)(h:i<7):(bJ V l a).heap[V.heap.size+i]?=(#[.cells (aE l) 125,.cells #[.slice none 0 0,.string ⟨#[]⟩] 88,.cells #[.slice none 0 0,.string ⟨#[]⟩] 88,.cells #[.bool l.vs,.string l.p,.string l.d,.string l.af] 93,.cells #[.pointer l.root] 56,.chan a #[] false 0 0 false,.cells #[.chan (some (V.heap.size+5))] 193]:Array Obj)[i]?:=by
 simp only [bJ,itW,pgW,World.alloc,gP,Array.size_push];rcases i with - | - | - | - | - | - | - |i;all_goals first|omega|skip
 all_goals
  repeat (first|rw [if_pos (by omega)] |rw [if_neg (by omega)])
  rfl
theorem jJ (a:Nat):Boxes (bJ V l a) (V.heap.size+3+3) (V.heap.size+3) (V.heap.size+3+1) (V.heap.size+3+2) l.root l.vs l.p l.d l.af:=by
 have h3:=bM V l a 3 (by omega);have h4:=bM V l a 4 (by omega);have h6:=bM V l a 6 (by omega);have c:∀ (b i:Nat) (x:Array Wq) (t:Wk),(bJ V l a).heap[b]?=some (.cells x t)->(bJ V l a).cell? ⟨b,i,none⟩=x[i]?:=fun b i x t h=>by unfold World.cell?;simp [h]
 refine ⟨?_,?_,?_,?_,?_,?_⟩
 .rw [c (V.heap.size+6) 0 _ _ h6];rfl
 .rw [c (V.heap.size+3) 0 _ _ h3];rfl
 .rw [c (V.heap.size+3) 1 _ _ h3];rfl
 .rw [c (V.heap.size+3) 2 _ _ h3];rfl
 .rw [c (V.heap.size+3) 3 _ _ h3];rfl
 .rw [c (V.heap.size+4) 0 _ _ h4];rfl
theorem pw (b:Nat):∀a:Ww,a.block<V.heap.size->(bJ V l b).cell? a=V.cell? a:=fun _a h=>cB (eE V l b h)
end
theorem sJ {Pre:Lst->List Wq->Wz->Prop}(hPre:AM Pre)(l:Lst)(pn:Int)(L:List Wq)(V:Wz)(cs:List Wv)(hp:Pre l L V)(ht:Region.schedule (Yq.prog.follows .mixedOrders) Yq.drawOps (V.tape V.drawn (.order 69 100))=[1,0]):
  ∃V4:Wz,Steps Yq.prog (lone (Frame.enter Yq.prog 69 #[lV l,.int .i64 pn] .normal) cs V) (lone (pF2 V.heap.size l pn (V.heap.size+5)) cs V4) /\
   (∀b,b<V.heap.size+7->b≠V.heap.size+5->V4.heap[b]?=(bJ V l 1000).heap[b]?)/\V4.heap[V.heap.size+5]?=some (.chan 1000 L.toArray true L.length 0 false)/\V4.os=V.os:=by
 obtain ⟨Va,hVa⟩:∃Va:Wz,Va={V with drawn:=V.drawn+1}:=⟨_,rfl⟩;have e1:Va.heap=V.heap:=by rw [hVa]
 have e2:Va.os=V.os:=by rw [hVa]
 have s1:=CX (lV l) (.int .i64 pn) cs V ht;rw [<-hVa,<-sE] at s1;have s2:=CW l pn cs Va;have hcall:step Yq.prog (lone ((base 69).at ⟨ke Va.heap.size l pn,[]⟩ (.inRegion sD [4]::mn)) cs (pgW Va l))=.next (lone (Frame.enter Yq.prog 97 #[qV l.vs l.p l.d l.af,sV l.root] .normal) (pF Va.heap.size l pn::cs) (pgW Va l)):=by
  refine qF (o := { dst := some 17, op := .call { callee := .value (.func 97), args := #[.tmp 14, .tmp 16], argTypes := #[93, 56] }, type := 165, pos := "listing.go:108", after := #[{ on := 1, ground := .data }, { on := 3, ground := .data }], guard := none }) rfl rfl ?_
  have := run_call_body (P := Yq.prog) (a := ⟨ke Va.heap.size l pn, []⟩) (w := pgW Va l) (o := { dst := some 17, op := .call { callee := .value (.func 97), args := #[.tmp 14, .tmp 16], argTypes := #[93, 56] }, type := 165, pos := "listing.go:108", after := #[{ on := 1, ground := .data }, { on := 3, ground := .data }], guard := none }) rfl Yq.func97 rfl rfl
  have e:(#[.tmp 14,.tmp 16]:Array Operand).map (Act.eval ⟨ke Va.heap.size l pn,[]⟩)=#[qV l.vs l.p l.d l.af,sV l.root]:=by
   simp only [List.map_toArray,List.map_cons,List.map_nil];rfl
  rw [e] at this;exact this
 have s3:=AK l.root l.vs l.p l.d l.af (pF Va.heap.size l pn::cs) (pgW Va l);have hsz:(pgW Va l).heap.size=V.heap.size+3:=by rw [wV,e1]
 rw [hsz] at s3;have hcw:bJ Va l 1000=itW (pgW Va l) l.root l.vs l.p l.d l.af 1000:=rfl;rw [<-hcw] at s3;have hb:Boxes (bJ Va l 1000) (V.heap.size+3+3) (V.heap.size+3) (V.heap.size+3+1) (V.heap.size+3+2) l.root l.vs l.p l.d l.af:=by
  have:=jJ Va l 1000;rw [e1] at this;exact this
 have hpa:Pre l L (bJ Va l 1000):=hPre.on V _ l L (fun a ha=>by
  rw [pw Va l 1000 a (by rw [e1];exact ha)];unfold World.cell?;rw [e1]) (by rw [fk,e1];omega) hp
 have hrow:(bJ Va l 1000).heap[V.heap.size+3+2]?=some (.chan 1000 #[] false 0 0 false):=by
  have:=bM Va l 1000 5 (by omega);rw [e1] at this;exact this
 obtain ⟨w',⟨hold,hsize,hos⟩,hr',s4⟩:=sI (root0:=l.root) hb (hPre.send l L _ _ hpa hrow) (pF Va.heap.size l pn::cs);have heq:∀b:Nat,(bJ Va l 1000).heap[b]?=(bJ V l 1000).heap[b]?:=fun b=>by
  have:(bJ Va l 1000).heap=(bJ V l 1000).heap:=by simp only [bJ,itW,pgW,World.alloc,e1]
  rw [this]
 have hot:∀b,b≠V.heap.size+5->(eb w' (V.heap.size+3+2) 1000 L.toArray L.length 0 false).heap[b]?=w'.heap[b]?:=fun b hb=>by
  unfold eb World.setChan;exact sN (by omega)
 have hout:(eb w' (V.heap.size+3+2) 1000 L.toArray L.length 0 false).cell? ⟨V.heap.size+3+3,0,none⟩=some (.chan (some (V.heap.size+3+2))):=by
  rw [cB (w:=bJ Va l 1000) (a:=⟨V.heap.size+3+3,0,none⟩)]
  .exact hb.out
  .show (eb w' (V.heap.size+3+2) 1000 L.toArray L.length 0 false).heap[V.heap.size+3+3]?=(bJ Va l 1000).heap[V.heap.size+3+3]?;rw [hot _ (by omega)];exact hold _ (by rw [fk,e1];omega) (by omega)
 have s5:=AL Va.heap.size (V.heap.size+3) l pn cs (eb w' (V.heap.size+3+2) 1000 L.toArray L.length 0 false) l.root hout;refine ⟨eb w' (V.heap.size+3+2) 1000 L.toArray L.length 0 false,?_,fun b h1 h2=>?_,?_,?_⟩
 .rw [<-e1];refine Steps.trans s1 (Steps.trans s2 (.head hcall (Steps.trans s3 (Steps.trans s4 ?_))));rw [e1] at s5 ⊢;exact s5
 .rw [hot b h2,<-heq];exact hold b (by rw [fk,e1];exact h1) (by omega)
 .exact heap_setChan _ _ _ _ _ _ _ _ (eS hr').1
 .exact (show w'.os=_ from hos.trans (by simp only [bJ,itW,pgW,World.alloc];exact e2))
inductive RVl (ρ:Ren):List Wq->List Wq->Prop
 |nil:RVl ρ [] []
 |cons {v v':Wq} {l l':List Wq} (h:RV ρ v v') (hl:RVl ρ l l'):RVl ρ (v::l) (v'::l')
theorem RVl.len {ρ:Ren}{l l':List Wq}(h:RVl ρ l l'):l.length=l'.length:=by
 induction h with
 |nil=>rfl
 |cons _ _ ih=>simp [ih]
theorem RVl.at_ {ρ:Ren}{l l':List Wq}(h:RVl ρ l l'):∀ (i:Nat) v v',l[i]?=some v->l'[i]?=some v'->RV ρ v v':=by
 induction h with
 |nil=>intro i v v' h;simp at h
 |cons h _ ih=>
  intro i v v' h1 h2;cases i with
  |zero=>simp at h1 h2;subst h1;subst h2;exact h
  |succ i=>exact ih i v v' (by simpa using h1) (by simpa using h2)
theorem RVl.arr {ρ:Ren}{l l':List Wq}(h:RVl ρ l l'):RVs ρ l.toArray l'.toArray:=⟨by simp [h.len],fun i v v' h1 h2=>h.at_ i v v' (by simpa using h1) (by simpa using h2)⟩
theorem RVl.agg {ρ:Ren}{l l':List Wq}(h:RVl ρ l l'):RV ρ (.agg l.toArray) (.agg l'.toArray):=.agg h.arr.size h.arr.at_
section
variable {σ:Ren} {l:Lst} {r':Option Ww}
theorem ln (h:RAo σ l.root r'):RVs σ (aE l) (aE {l with root:=r'}):=
 RVl.arr (.cons (.int _ _) (.cons (.pointer h) (.cons (.bool _) (.cons (.string _) (.cons (.string _) (.cons (.string _) (.cons (.int _ _) (.cons (.int _ _) .nil))))))))
theorem GH (h:RAo σ l.root r'):RV σ (lV l) (lV {l with root:=r'}):=.agg (ln h).size (ln h).at_
theorem GI (b:Bool)(p d a:ByteArray):RV σ (qV b p d a) (qV b p d a):=RVl.agg (.cons (.bool _) (.cons (.string _) (.cons (.string _) (.cons (.string _) .nil))))
theorem GJ {r:Option Ww}(h:RAo σ r r'):RV σ (sV r) (sV r'):=RVl.agg (.cons (.pointer h) .nil)
end
theorem GK {ρ:Ren}{l:Lst}{v:Wq}(h:RV ρ (lV l) v):∃r',RAo ρ l.root r'/\v=lV {l with root:=r'}:=by
 unfold lV at h;cases h with
 | @agg _ c' hc hx=>
  have hsz:c'.size=8:=by rw [<-hc];rfl
  obtain ⟨cl⟩:=c';have hlen:cl.length=8:=by simpa using hsz
  rcases cl with - |⟨x0,- |⟨x1,- |⟨x2,- |⟨x3,- |⟨a,- |⟨d,- |⟨c,- |⟨b,- |⟨x8,cl⟩⟩⟩⟩⟩⟩⟩⟩⟩<;>simp at hlen
  have h0:=hx 0 _ x0 rfl rfl;have h1:=hx 1 _ x1 rfl rfl;have h2:=hx 2 _ x2 rfl rfl;have h3:=hx 3 _ x3 rfl rfl;have h4:=hx 4 _ a rfl rfl;have h5:=hx 5 _ d rfl rfl;have h6:=hx 6 _ c rfl rfl;have h7:=hx 7 _ b rfl rfl;cases h0;cases h2;cases h3;cases h4;cases h5;cases h6;cases h7;cases h1 with
  |pointer h=>exact ⟨_,h,rfl⟩
theorem C0 {ρ:Ren}{l:Lst}{pn:Int}{a':Array Wq}(h:RVs ρ #[lV l,.int .i64 pn] a'):∃r',RAo ρ l.root r'/\a'=#[lV {l with root:=r'},.int .i64 pn]:=by
 obtain ⟨a⟩:=a';have hsz:=h.size;rcases a with - |⟨x0,- |⟨x1,- |⟨x2,a⟩⟩⟩<;>simp at hsz
 have h0:=h.at_ 0 _ x0 rfl rfl;have h1:=h.at_ 1 _ x1 rfl rfl;cases h1;obtain ⟨r',k1,rfl⟩:=GK h0;exact ⟨r',k1,rfl⟩
section
variable {ρ:Ren} {V W V':Wz} {l:Lst} {r':Option Ww} {I:Nat->Prop} {ch:Nat->Prop}
theorem qI (S:bB ρ V W)(hS:ρ.F gu=false)(hr:RAo ρ l.root r')(r:∀i,I i->i<7)(m:I 5)(p:∀a b,ρ a b->V'.heap[a]?=V.heap[a]?)(e:∀i,i<7->i≠5->V'.heap[V.heap.size+i]?=(bJ V l 1000).heap[V.heap.size+i]?)(j:∃k b cl s q,V'.heap[V.heap.size+5]?=some (.chan k b cl s q false))(f:V'.os=V.os)(hch:∀c,ch c->∃o,V'.heap[c]?=some o/\o.isChan=true)(n:Nat):
  bB (ρ.plus V.heap.size W.heap.size I (fun _ _ h=>S.lt h) ch hS) V' ((bJ W {l with root:=r'} 20).at n):=by
 refine CZ S p (fun b hb=>eE W _ 20 hb) (by rw [f];exact S.os) (fun i hi=>?_) hch;have h7:=r i hi;have d:((bJ W {l with root:=r'} 20).at n).heap[W.heap.size+i]?=_:=bM W {l with root:=r'} 20 i h7;by_cases h5:i=5
 .subst h5;obtain ⟨k,b,cl,s,q,hk⟩:=j;exact ⟨_,_,hk,d,.chan _ _ _ _ _ _ _ _ _ (.inl rfl) (.inl rfl)⟩
 .have eV:=(e i h7 h5).trans (bM V l 1000 i h7);have hr2:RAo (ρ.plus V.heap.size W.heap.size I (fun _ _ h=>S.lt h) ch hS) l.root r':=RAo.re qH hr;rcases i with - | - | - | - | - | - | - |i
  .exact ⟨_,_,eV,d,.cells 125 (.inl rfl) (ln hr2)⟩
  .exact ⟨_,_,eV,d,.cells 88 (.inl rfl) (RVl.arr (.cons (.slice _ _ .none) (.cons (.string _) .nil)))⟩
  .exact ⟨_,_,eV,d,.cells 88 (.inl rfl) (RVl.arr (.cons (.slice _ _ .none) (.cons (.string _) .nil)))⟩
  .exact ⟨_,_,eV,d,.cells 93 (.inl rfl) (RVl.arr (.cons (.bool _) (.cons (.string _) (.cons (.string _) (.cons (.string _) .nil)))))⟩
  .exact ⟨_,_,eV,d,.cells 56 (.inl rfl) (RVl.arr (.cons (.pointer hr2) .nil))⟩
  .exact absurd rfl h5
  .exact ⟨_,_,eV,d,.cells 193 (.inl rfl) (RVl.arr (.cons (.chan (.some (m9 m))) .nil))⟩
  .omega
end
section
variable {P:Wx} {σ:Ren} {l:Lst} {r':Option Ww} {n m c c':Nat} {pn:Int}
theorem vn (h0:σ n m)(h1:σ (n+1) (m+1))(h2:σ (n+2) (m+2))(hc:σ c c')(hr:RAo σ l.root r')(ho:aA P σ.F (cy (gN bH))=true/\aA P σ.F (cy bH)=true):RFr P σ (pF2 n l pn c) (pF2 m {l with root:=r'} pn c'):=by
 refine ⟨rfl,?_,.cons (.regionEnd _ _) (.cons (.code ho.1) (.cons (.code ho.2) .nil)),.nil,.run,⟨rfl,rfl,by simp [pF2,Frame.at,base]⟩,.none⟩;have p:∀ {a b:Nat} (j:Nat),σ a b->RV σ (.pointer (some ⟨a,j,none⟩)) (.pointer (some ⟨b,j,none⟩)):=fun j h=>.pointer (.some ⟨h,rfl,rfl⟩)
 have u:RV σ Wy Wy:=cT;exact RVl.arr (.cons (GH hr) (.cons (.int _ _) (.cons (p 0 h0) (.cons u (.cons (p 0 h1) (.cons (p 0 h2) (.cons (.int _ _) (.cons (.int _ _) (.cons u (.cons (.int _ _) (.cons (p 6 h0) (.cons (.int _ _) (.cons (.int _ _) (.cons (p 2 h0) (.cons (GI _ _ _ _) (.cons (p 1 h0) (.cons (GJ hr) (.cons (.chan (.some hc)) (.cons u (.cons u (.cons u (.cons u (.cons u (.cons u (.cons u (.cons u (.cons u (.cons u (.cons u (.cons u (.cons u (.cons u (.cons u (.cons u (.cons u (.cons u (.cons u (.cons u (.cons u (.cons u (.cons u (.cons u (.cons u (.cons u (.cons u (.cons u (.cons u (.cons u (.cons u .nil)))))))))))))))))))))))))))))))))))))))))))))))))
theorem AN {Q:Wx}(k:CallKind)(hk:(k == .early)=false/\k≠.report){x0 x1 x2 y0 y1 y2:Nat}(h0:σ x0 y0)(h1:σ x1 y1)(h2:σ x2 y2){fn:Func}{b:Code}(hf:P.funcs[119]?=some fn)(hf':Q.funcs[119]?=some fn)(hb:fn.body=some b)(ho:aA P σ.F b=true):RFr P σ (Frame.enter Q 119 #[ptr x0,ptr x1,ptr x2] .normal) (Frame.enter P 119 #[ptr y0,ptr y1,ptr y2] k):=by
 have p:∀ {a b:Nat},σ a b->RV σ (ptr a) (ptr b):=fun h=>.pointer (.some ⟨h,rfl,rfl⟩)
 have e1:(Frame.enter Q 119 #[ptr x0,ptr x1,ptr x2] .normal).todo=[.code b]:=by simp [Frame.enter,hf',hb]
 have e2:(Frame.enter P 119 #[ptr y0,ptr y1,ptr y2] k).todo=[.code b]:=by simp [Frame.enter,hf,hb]
 refine ⟨rfl,?_,by rw [e1,e2];exact .cons (.code ho) .nil,.nil,.run,⟨rfl,hk.1,hk.2⟩,.none⟩;have d:(Frame.enter Q 119 #[ptr x0,ptr x1,ptr x2] .normal).tmps=#[ptr x0,ptr x1,ptr x2]++Array.replicate (fn.ntmps-3) Wy:=by simp [Frame.enter,hf']
 have c:(Frame.enter P 119 #[ptr y0,ptr y1,ptr y2] k).tmps=#[ptr y0,ptr y1,ptr y2]++Array.replicate (fn.ntmps-3) Wy:=by simp [Frame.enter,hf]
 rw [d,c];have a:RVs σ #[ptr x0,ptr x1,ptr x2] #[ptr y0,ptr y1,ptr y2]:=RVl.arr (.cons (p h0) (.cons (p h1) (.cons (p h2) .nil)));refine ⟨by simp,fun i v v' e1 e2=>?_⟩;rw [Array.getElem?_append] at e1 e2;by_cases hi:i<3
 .rw [if_pos (by simpa using hi)] at e1 e2;exact a.at_ i v v' e1 e2
 .rw [if_neg (by simpa using hi)] at e1 e2;simp only [Array.getElem?_replicate] at e1 e2;split at e1
  .cases e1;split at e2
   .cases e2;exact cT
   .cases e2
  .cases e1
end
theorem AO {a:Act}{c:Nat}{cs:List Wv}{w:Wz}{r:List Nat}(h:a.eval (.tmp 17)=.chan (some c)):∃z es,stepG Yq.prog true (G (kg a (0::r)) cs) w=.comm (G (kg a (0::r)) cs) #[rcase c z] true (.recv true) w es:=by
 refine ⟨.agg #[.int .i64 0, .string ⟨#[]⟩, .int .i64 0], _, stepG_comm (o := { dst := some 18, op := .recv 165 (.tmp 17) true, type := 0, pos := "listing.go:108", after := #[], guard := none }) rfl rfl (by decide) ?_⟩
 have e : execOp a.eval { dst := some 18, op := .recv 165 (.tmp 17) true, type := 0, pos := "listing.go:108", after := #[], guard := none } = (do
  let .chan _ elem ← underlying 165 | stuck "receive: channel type expected"
  pure (.comm #[{chan:=a.eval (.tmp 17),send:=none,zero:=<-zeroValue elem}] true (.recv true))):=rfl
 rw [e,h];simp [go_sem,rcase]
theorem sK {v:Wq}(h:∃ (a b:Int)(s:ByteArray),v=.agg #[.int .i64 a,.string s,.int .i64 b]):Flat v:=by
 obtain ⟨a,b,s,rfl⟩:=h;intro ρ;refine ⟨RVl.agg (.cons (.int _ _) (.cons (.string _) (.cons (.int _ _) .nil))),fun v' h=>?_⟩;cases h with
 | @agg _ c' hc hx=>
  obtain ⟨cl⟩:=c';have hlen:cl.length=3:=by simpa using hc.symm
  rcases cl with - |⟨x0,- |⟨x1,- |⟨x2,- |⟨x3,cl⟩⟩⟩⟩<;>simp at hlen
  have h0:=hx 0 _ x0 rfl rfl;have h1:=hx 1 _ x1 rfl rfl;have h2:=hx 2 _ x2 rfl rfl;cases h0;cases h1;cases h2;rfl
section
variable [Two Tryz.prog] [Two Yq.prog]
structure qJ (G Fs Fr:FuncId->Bool):Prop where
 alt:Tryz.prog.alt=Yq.prog
 zero:bF Tryz.prog
 zero1:bF Yq.prog
 count:bL Tryz.prog
 count1:bL Yq.prog
 statS:gz Tryz.prog Fs
 statR:gz Tryz.prog Fr
 statS1:gz Yq.prog Fs
 statR1:gz Yq.prog Fr
 mark:∀f,Mk G f=true->f=69
 s:Fs mh=false/\Fs Gr=false/\Fs mi=false
 smk:∀f,¬Mk Fs f=true
 s119:Fs 119=true
 r:Fr mh=false/\Fr gu=false/\Fr mi=false
 rmk:∀f,¬Mk Fr f=true
 okG:aA Tryz.prog G (cy (gN bH))=true/\aA Tryz.prog G (cy bH)=true
 okR:aA Tryz.prog Fr (cy (gN bH))=true/\aA Tryz.prog Fr (cy bH)=true
 okR1:aA Yq.prog Fr (cy (gN bH))=true/\aA Yq.prog Fr (cy bH)=true
 notR:aA Tryz.prog Fr (bu Tryz.f69)=false
theorem AP {G Fs Fr:FuncId->Bool}(E:qJ G Fs Fr){P:Wx}{n:Wk}(h:NoM P n)(hp:P=Tryz.prog):NoM Yq.prog n:=by
 subst hp;rw [<-E.alt];exact h
def Eu (c:Nat)(h:Wj)(V:Wz):Prop:=
 ∃a,h=G (kg a [0,1]) [trap Yq.prog]/\a.eval (.tmp 17)=.chan (some c)/\∃k s q,V.heap[c]?=some (.chan k #[] true s q false)
def Ev (c:Nat)(L:List Wq)(h:Wj)(V:Wz):Prop:=
 (h.callers=[trap Yq.prog]/\h.frame.fn=119/\h.frame.mode=.returning/\∃at_ t k,h.frame.defers=[{target:=.builtin .close at_ t k,args:=#[.chan (some c)]}])/\(h.dying=none/\h.status=.running)/\∃k s q,V.heap[c]?=some (.chan k L.toArray false s q false)
noncomputable def phD (T:Wj->Wz->Prop)(G Fs Fr:FuncId->Bool)(L:List Wq)(n m k:Nat)(X:List Wv×List Wv)(R0:Nat->Nat->Prop)(h0:Wj)(V0:Wz)(U:Outer):PhD Tryz.prog where
 T:=T
 Nr:=j4 Yq.prog ([trap Yq.prog],[]) (fun a=>a=n+5) Fr
 Tr:=Eu (n+5)
 Ns:=j4 Yq.prog ([trap Yq.prog],[]) (fun a=>a=n+5) Fs
 Ts:=Ev (n+5) L
 h0:=h0
 V0:=V0
 k:=k
 c:=m+5
 cV:=n+5
 cr:=n+5
 cs:=n+5
 X:=X
 Bs:=[dK Tryz.prog]
 L:=L
 R0:=R0
 Fp:=G
 Fr:=Fr
 bo:=m+6
 U:=U
theorem Ia {G Fs Fr:FuncId->Bool}(E:qJ G Fs Fr){T:Wj->Wz->Prop}{Post:Wq->Wz->Prop}{L:List Wq}{n m k:Nat}{fr fr':Wv}{cs j:List Wv}{ρ:Ren}{h0:Wj}{V0:Wz}{U:Outer}(hk:k≠0)(u:∀v∈L,Flat v)(y:∀h V,T h V->h.callers.length<=1)
  (B:GId Tryz.prog ρ) (hE:ge Tryz.prog ρ.F) (o:ρ.F=G) (hS:ρ.F gu=false) (x:ρ.F mi=false) (t:ρ.bad=U.bad) (hX:RFs Tryz.prog ρ ([trap Tryz.prog.alt],[]) (fr::cs) (fr'::j)) (hlen:1<=cs.length)
  (l:∀h V,LSs Tryz.prog.alt T h0 V0 h V->pk Tryz.prog U G [] Post h V):wJ Tryz.prog (phD T G Fs Fr L n m k (fr::cs,fr'::j) ρ.rel h0 V0 U) Post where
 zero:=E.zero
 count:=E.count
 mark:=fun f hf fn b h1 h2=>by
  obtain rfl:=E.mark f hf;rw [func69] at h1;cases h1;have:bu Tryz.f69=b:=by unfold bu;rw [h2];rfl
  rw [<-this];exact E.notR
 k0:=hk
 flat:=u
 deep:=by show 2<=(fr::cs).length;simp;omega
 leafT:=y
 nr:=fun h V i=>by rw [E.alt];exact i.2
 tr:=fun h V i=>by
  obtain ⟨a,rfl,p,kk,s,q,c⟩:=i;refine ⟨fun _=>.inl rfl,fun n1 b s q tm hr=>?_,fun τ d=>?_⟩
  .have hr:V.heap[n+5]?=_:=hr;rw [c] at hr;cases hr;rfl
  .obtain ⟨z,es,e⟩:=AO (cs:=[trap Yq.prog]) (w:=V.on τ d) (r:=[1]) p;rw [E.alt];exact ⟨_,_,_,_,_,_,_,e,.shut (r:=n+5) rfl rfl c⟩
 ns:=fun h V i=>by rw [E.alt];exact i.2
 bs:=by simp [phD]
 grow:=fun h V τ d h' V' i hl n b cl s q tm hr=>by
  rw [E.alt] at hl;exact j4.grow (w:=V.on τ d) E.zero1 E.count1 E.s.2.1 (A:=fun a=>a=_) rfl ⟨i.1.on τ d,i.2⟩ hl hr
 ts:=fun h V i C b cl s q tm hr=>by
  obtain ⟨-,-,k2,s2,q2,c⟩:=i;have hr:V.heap[n+5]?=_:=hr;rw [c] at hr;cases hr;exact ⟨rfl,rfl⟩
 close:=fun h V ρs g W i S C b s q tm c=>by
  obtain ⟨⟨h1,h2,h3,h4⟩,-⟩:=i;exact CU func119 rfl S ⟨by rw [E.alt];exact h1,h2,h3,h4⟩ c
 fin:=AH (ρ0:=ρ) (fun _ _ h=>h) B hE hS x (fun f hf=>by rw [o];exact hf) (by rw [o];rfl) t hX (by show 2<=(fr::cs).length;simp;omega) (by show 0<(fr'::j).length;simp) (by rw [o];exact l)
end
theorem dn (V:Wz)(l:Lst)(a:Nat):(bJ V l a).heap[V.heap.size+5]?=some (.chan a #[] false 0 0 false):=bM V l a 5 (by omega)
section
variable [Two Tryz.prog] [Two Yq.prog] {Gf Fs Fr:FuncId->Bool} {Pre:Lst->List Wq->Wz->Prop} {ρ:Ren} {V W:Wz} {l:Lst} {r':Option Ww} {L:List Wq}
def C3 (S:bB ρ V W)(hS:ρ.F gu=false):Ren:=ρ.plus V.heap.size W.heap.size (fun i=>3<=i/\i<7) (fun _ _ h=>S.lt h) (fun a=>a=V.heap.size+5) hS
def uz (S:bB ρ V W)(hS:ρ.F gu=false):Ren:=ρ.plus V.heap.size W.heap.size (fun i=>i<7) (fun _ _ h=>S.lt h) (fun a=>a=V.heap.size+5) hS
noncomputable def Ho (n:Nat):Wj:=G (Frame.enter Yq.prog 119 #[ptr (n+6),ptr (n+3),ptr (n+4)] .normal) [trap Yq.prog]
noncomputable def HU (m:Nat):Wj:=G (Frame.enter Tryz.prog 119 #[ptr (m+6),ptr (m+3),ptr (m+4)] .deferred) [dK Tryz.prog]
theorem C4 (E:qJ Gf Fs Fr)(hPre:AM Pre)(S:bB ρ V W)(hS:ρ.F gu=false)(hr:RAo ρ l.root r')(hp:Pre l L V)(u:GId Tryz.prog ρ)(y:Nat):
  ∃Vs ht,Snd Tryz.prog ([trap Tryz.prog.alt],[dK Tryz.prog]) ((C3 S hS).low Fs (fun _=>False) (V.heap.size+5) false ht) (Ho V.heap.size) (HU W.heap.size) Vs ((bJ W {l with root:=r'} 20).at y) (V.heap.size+5) (W.heap.size+5) [] /\
   Dem Yq.prog (j4 Yq.prog ([trap Yq.prog],[]) (fun a=>a=V.heap.size+5) Fs) (Ev (V.heap.size+5) L) (Ho V.heap.size) Vs:=by
 have v:∀a b,ρ a b->(bJ V l 1000).heap[a]?=V.heap[a]?:=fun a b h=>eE V l 1000 (S.lt h).1
 have S3:bB (C3 S hS) (bJ V l 1000) ((bJ W {l with root:=r'} 20).at y):=qI S hS hr (fun i h=>h.2) ⟨by omega,by omega⟩ v (fun _ _ _=>rfl) ⟨_,_,_,_,_,dn V l 1000⟩ rfl (fun c h=>by
  have h:c=_:=h;subst h;exact ⟨_,dn V l 1000,rfl⟩) y
 have ht:Fs gu=true->false=false:=fun _=>rfl
 have e:∀i,3<=i->i<7->(C3 S hS) (V.heap.size+i) (W.heap.size+i):=fun i h1 h2=>m9 ⟨h1,h2⟩
 obtain ⟨Vs,SS,hsz,htp,hdr,hos,f,r,hcell,-,j⟩:=lower (F:=Fs) (live:=fun _=>False) (c:=V.heap.size+5) (c':=W.heap.size+5) (wide:=false) (n:=1000) (b:=#[]) (cl:=false) (s:=0) (q:=0) S3 ht E.s.1 (e 5 (by omega) (by omega)) (dn W {l with root:=r'} 20) (.inr rfl) (fun a h=>h.elim);refine ⟨Vs,ht,?_,?_⟩
 .have o:aA Tryz.prog Fs (bu Tryz.f119)=true:=E.statS.code 119 _ _ E.s119 func119 rfl;refine ⟨⟨AN (P:=Tryz.prog) (σ:=(C3 S hS).low Fs (fun _=>False) (V.heap.size+5) false ht) (Q:=Yq.prog) .deferred ⟨rfl,by simp⟩ (e 6 (by omega) (by omega)) (e 3 (by omega) (by omega)) (e 4 (by omega) (by omega)) func119 (Yq.nq func119) rfl o,by rw [E.alt];exact .base,⟨fun h=>?_,fun _=>rfl⟩,⟨rfl,rfl⟩,⟨rfl,rfl⟩,rfl,rfl⟩,SS,E.statS.gid (fun g hg=>.inl (u.glob g hg)) u.prog (fun h=>by rw [show (((C3 S hS).low Fs (fun _=>False) (V.heap.size+5) false ht).F)=Fs from rfl,E.s.1] at h;cases h),E.statS.ext,⟨E.s.2.1,E.s.2.2⟩,E.smk,⟨rfl,rfl⟩,fun x=>Iff.rfl,e 5 (by omega) (by omega),⟨_,_,_,_,_,f,rfl⟩,fun a n b s q tm h=>r a _ h rfl⟩;rcases h with h|h
  .exact absurd rfl h
  .rw [E.alt] at h;simp at h
 .have hb:Boxes Vs (V.heap.size+6) (V.heap.size+3) (V.heap.size+4) (V.heap.size+5) l.root l.vs l.p l.d l.af:=by
   have hb:=jJ V l 1000;exact ⟨hcell _ _ _ _ (e 6 (by omega) (by omega)) hb.out (.chan _),hcell _ _ _ _ (e 3 (by omega) (by omega)) hb.q0 (.bool _),hcell _ _ _ _ (e 3 (by omega) (by omega)) hb.q1 (.string _),hcell _ _ _ _ (e 3 (by omega) (by omega)) hb.q2 (.string _),hcell _ _ _ _ (e 3 (by omega) (by omega)) hb.q3 (.string _),hcell _ _ _ _ (e 4 (by omega) (by omega)) hb.st (.pointer _)⟩
  have z:Pre l L (bJ V l 1000):=hPre.on V _ l L (pw V l 1000) (by rw [fk];omega) hp;have A:Pre l L Vs:=hPre.low _ _ _ _ l L S3 ⟨r',RAo.re qH hr⟩ (fun g hg=>⟨_,.inl (u.glob g hg)⟩) hcell (by rw [hsz];exact lR _) z;have o:aA Yq.prog Fs (bu Tryz.f119)=true:=E.statS1.code 119 _ _ E.s119 (Yq.nq func119) rfl;refine mq E.zero1 E.count1 (fun g w h=>⟨by rw [h.1.1];simp,h.2.1⟩) (fun g w τ d=>Iff.rfl) ⟨rfl,((C3 S hS).low Fs (fun _=>False) (V.heap.size+5) false ht).firm Yq.prog (AP E ρ.noM u.prog) (V.heap.size+5),G (Frame.enter Yq.prog 119 #[ptr (W.heap.size+6),ptr (W.heap.size+3),ptr (W.heap.size+4)] .normal) [],(bJ W {l with root:=r'} 20).at y,⟨AN (P:=Yq.prog) (σ:=((C3 S hS).low Fs (fun _=>False) (V.heap.size+5) false ht).firm Yq.prog (AP E ρ.noM u.prog) (V.heap.size+5)) (Q:=Yq.prog) .normal ⟨rfl,by simp⟩ (e 6 (by omega) (by omega)) (e 3 (by omega) (by omega)) (e 4 (by omega) (by omega)) (Yq.nq func119) (Yq.nq func119) rfl o,.base,⟨fun _=>rfl,fun _=>rfl⟩,⟨rfl,rfl⟩,⟨rfl,rfl⟩,rfl,rfl⟩,wU SS (e 5 (by omega) (by omega)) j (fun _ _=>rfl) rfl f (dn W {l with root:=r'} 20) RVs.nil,E.statS1.gid (fun g hg=>.inl (u.glob g (by rw [Yq.globals_size] at hg;exact hg))) rfl (fun _ _ h=>h),E.statS1.ext,rfl,rfl,⟨rfl,fun c h=>⟨W.heap.size+5,by rw [show c=V.heap.size+5 from h];exact e 5 (by omega) (by omega)⟩,rfl⟩,fun _ h=>h,E.smk⟩ (fun τ d=>?_);have hsend:=hPre.send l L (Vs.on τ d) (V.heap.size+5) (hPre.on Vs _ l L (fun _ _=>rfl) (lR _) A) f;obtain ⟨fr,w',df,hst,hf,hm,hd,⟨at_,t,k,rfl⟩,-,-,-,m⟩:=sH (w:=Vs.on τ d) ⟨hb.out,hb.q0,hb.q1,hb.q2,hb.q3,hb.st⟩ hsend [trap Yq.prog];exact ⟨_,w',hst,⟨rfl,hf,hm,at_,t,k,hd⟩,⟨rfl,rfl⟩,_,_,_,m⟩
end
def wW:Prop:=∀ (l:Lst)(pn:Int)(L:List Wq)(n c:Nat)(w:Wz)(cs:List Wv),(∀v∈L,∃ (a b:Int)(s:ByteArray),v=.agg #[.int .i64 a,.string s,.int .i64 b])->L.length<=1000->n+2<c ->
 w.heap[n]?=some (.cells (aE l) 125)->w.heap[n+1]?=some (.cells #[.slice none 0 0,.string ⟨#[]⟩] 88)->w.heap[n+2]?=some (.cells #[.slice none 0 0,.string ⟨#[]⟩] 88)->(∃k s q,w.heap[c]?=some (.chan k L.toArray true s q false)) ->
 ∃a w',Steps Yq.prog (lone (pF2 n l pn c) cs w) (lone (kg a [0,1]) cs w')/\a.eval (.tmp 17)=.chan (some c)/\∃k s q,w'.heap[c]?=some (.chan k #[] true s q false)
theorem vo (l:Lst):∀ (i:Nat) v,(aE l)[i]?=some v->Good v:=fun i v h=>by
 rcases i with - | - | - | - | - | - | - | - |i<;>simp [aE] at h<;>subst h
 .exact .int _ _
 .exact .pointer _
 .exact .bool _
 .exact .string _
 .exact .string _
 .exact .string _
 .exact .int _ _
 .exact .int _ _
theorem sM:∀ (i:Nat) v,(#[.slice none 0 0,.string ⟨#[]⟩]:Array Wq)[i]?=some v->Good v:=fun i v h=>by
 rcases i with - | - |i<;>simp at h<;>subst h
 .exact .slice _ _ _
 .exact .string _
section
variable [Two Tryz.prog] [Two Yq.prog] {Gf Fs Fr:FuncId->Bool} {ρ:Ren} {V W:Wz} {l:Lst} {r':Option Ww} {L:List Wq}
def own3 (n a:Nat):Prop:=a=n\/a=n+1\/a=n+2
theorem C5 (E:qJ Gf Fs Fr)(J:wW)(S:bB ρ V W)(hS:ρ.F gu=false)(hr:RAo ρ l.root r')(pn:Int)(H:∀v∈L,∃ (a b:Int)(s:ByteArray),v=.agg #[.int .i64 a,.string s,.int .i64 b])(hlen:L.length<=1000)(B:GId Tryz.prog ρ)(Y:List Wv)(A:Nat):
  ∃Vr ht,Side Tryz.prog ([trap Tryz.prog.alt],Y) ((uz S hS).low Fr (own3 V.heap.size) (V.heap.size+5) true ht) (G (pF2 V.heap.size l pn (V.heap.size+5)) [trap Yq.prog]) (G (pF2 W.heap.size {l with root:=r'} pn (W.heap.size+5)) Y) Vr ((bJ W {l with root:=r'} 20).at A) (V.heap.size+5) (W.heap.size+5) L /\
   (∀ (a:Nat) o,Vr.heap[a]?=some o->o.isChan=true->a=V.heap.size+5) /\
   Dem Yq.prog (j4 Yq.prog ([trap Yq.prog],[]) (fun a=>a=V.heap.size+5) Fr) (Eu (V.heap.size+5)) (G (pF2 V.heap.size l pn (V.heap.size+5)) [trap Yq.prog]) Vr:=by
 have u:∀a b,ρ a b->(bJ V l 1000).heap[a]?=V.heap[a]?:=fun a b h=>eE V l 1000 (S.lt h).1
 have S3:bB (uz S hS) (bJ V l 1000) ((bJ W {l with root:=r'} 20).at A):=qI S hS hr (fun i h=>h) (by omega) u (fun _ _ _=>rfl) ⟨_,_,_,_,_,dn V l 1000⟩ rfl (fun c h=>by
  have h:c=_:=h;subst h;exact ⟨_,dn V l 1000,rfl⟩) A
 have ht:Fr gu=true->true=false:=fun h=>by rw [E.r.2.1] at h;cases h
 have f:∀i,i<7->(uz S hS) (V.heap.size+i) (W.heap.size+i):=fun i h=>m9 h
 have r0:=bM V l 1000 0 (by omega);have r1:=bM V l 1000 1 (by omega);have r2:=bM V l 1000 2 (by omega);have t:∀a,own3 V.heap.size a->a≠V.heap.size+5/\∃x e z,(bJ V l 1000).heap[a]?=some (.cells x e z)/\(∀ (i:Nat) v,x[i]?=some v->Good v)/\∀y,(uz S hS) a y->∃x',((bJ W {l with root:=r'} 20).at A).heap[y]?=some (.cells x' e z):=fun a ha=>by
  rcases ha with rfl|rfl|rfl
  .refine ⟨by omega,_,_,_,r0,vo l,fun y hy=>?_⟩;obtain rfl:=(uz S hS).fn _ _ _ hy (f 0 (by omega));exact ⟨_,bM W {l with root:=r'} 20 0 (by omega)⟩
  .refine ⟨by omega,_,_,_,r1,sM,fun y hy=>?_⟩;obtain rfl:=(uz S hS).fn _ _ _ hy (f 1 (by omega));exact ⟨_,bM W {l with root:=r'} 20 1 (by omega)⟩
  .refine ⟨by omega,_,_,_,r2,sM,fun y hy=>?_⟩;obtain rfl:=(uz S hS).fn _ _ _ hy (f 2 (by omega));exact ⟨_,bM W {l with root:=r'} 20 2 (by omega)⟩
 obtain ⟨Vr,SS,hsz,htp,hdr,hos,j,p,hcell,hlv,k⟩:=lower (F:=Fr) (live:=own3 V.heap.size) (c:=V.heap.size+5) (c':=W.heap.size+5) (wide:=true) (n:=1000) (b:=L.toArray) (cl:=true) (s:=L.length) (q:=0) S3 ht E.r.1 (f 5 (by omega)) (dn W {l with root:=r'} 20) (.inl rfl) t;have hr2:∀ {σ:Ren},(∀a b,(uz S hS) a b->σ a b)->RAo σ l.root r':=fun I=>by
  generalize l.root=x at hr;cases hr with
  |none=>exact .none
  |some h=>exact .some ⟨I _ _ (.inl h.1),h.2⟩
 refine ⟨Vr,ht,?_,p,?_⟩
 .refine ⟨⟨vn (P:=Tryz.prog) (σ:=(uz S hS).low Fr (own3 V.heap.size) (V.heap.size+5) true ht) (f 0 (by omega)) (f 1 (by omega)) (f 2 (by omega)) (f 5 (by omega)) (hr2 fun _ _ h=>h) E.okR,by rw [E.alt];exact .base,⟨fun _=>rfl,fun _=>rfl⟩,⟨rfl,rfl⟩,⟨rfl,rfl⟩,rfl,rfl⟩,SS,E.statR.gid (fun g hg=>.inl (B.glob g hg)) B.prog (fun h=>by rw [show (((uz S hS).low Fr (own3 V.heap.size) (V.heap.size+5) true ht).F)=Fr from rfl,E.r.1] at h;cases h),E.statR.ext,⟨E.r.2.1,E.r.2.2⟩,⟨rfl,rfl⟩,rfl,f 5 (by omega),⟨_,_,_,_,_,j,rfl⟩⟩
 .have D:∀ {σ:Ren},RVs σ L.toArray L.toArray:=⟨rfl,fun i v v' h1 h2=>by
   rw [h1] at h2;cases h2;exact (sK (H v (by
    have:L[i]?=some v:=by simpa using h1
    exact List.mem_of_getElem? this)) _).1⟩
  refine mq E.zero1 E.count1 (fun g w h=>?_) (fun g w τ d=>Iff.rfl) ⟨rfl,((uz S hS).low Fr (own3 V.heap.size) (V.heap.size+5) true ht).firm Yq.prog (AP E ρ.noM B.prog) (V.heap.size+5),G (pF2 W.heap.size {l with root:=r'} pn (W.heap.size+5)) [],((bJ W {l with root:=r'} 20).at A).setChan (W.heap.size+5) 20 L.toArray true 0 0 false,⟨vn (P:=Yq.prog) (σ:=((uz S hS).low Fr (own3 V.heap.size) (V.heap.size+5) true ht).firm Yq.prog (AP E ρ.noM B.prog) (V.heap.size+5)) (f 0 (by omega)) (f 1 (by omega)) (f 2 (by omega)) (f 5 (by omega)) (hr2 fun _ _ h=>h) E.okR1,.base,⟨fun _=>rfl,fun _=>rfl⟩,⟨rfl,rfl⟩,⟨rfl,rfl⟩,rfl,rfl⟩,wU SS (f 5 (by omega)) k (fun b hb=>aG _ _ _ _ _ _ _ _ hb) rfl j (heap_setChan _ _ _ _ _ _ _ _ (eS (dn W {l with root:=r'} 20)).1) D,E.statR1.gid (fun g hg=>.inl (B.glob g (by rw [Yq.globals_size] at hg;exact hg))) rfl (fun _ _ h=>h),E.statR1.ext,rfl,rfl,⟨rfl,fun c h=>⟨W.heap.size+5,by rw [show c=V.heap.size+5 from h];exact f 5 (by omega)⟩,rfl⟩,fun _ h=>h,E.rmk⟩ (fun τ d=>?_)
  .obtain ⟨a,rfl,-⟩:=h;exact ⟨by simp [G],rfl,rfl⟩
  .obtain ⟨a,w',hs,C,m⟩:=J l pn L V.heap.size (V.heap.size+5) (Vr.on τ d) [trap Yq.prog] H hlen (by omega) ((hlv _ (.inl rfl)).trans r0) ((hlv _ (.inr (.inl rfl))).trans r1) ((hlv _ (.inr (.inr rfl))).trans r2) ⟨_,_,_,j⟩;exact ⟨_,w',hs,a,rfl,C,m⟩
end
theorem Fe (m:Nat)(l:Lst)(root:Option Ww)(cs:List Wv)(w:Wz):stepG Tryz.prog true (G ((base 97).at ⟨fw m root l.vs l.p l.d l.af (dZ m),[]⟩ [.inRegion vj [1],.code jw]) cs) w=.spawn (G ((base 97).at ⟨fw m root l.vs l.p l.d l.af (dZ m),[]⟩ [.inRegion vj [],.code jw]) cs) (born Tryz.prog {target:=.fn (.func 119) #[ptr (m+3),ptr m,ptr (m+1)],args:=#[]}) w #[]:=by
 have hr : (execOp (Act.eval ⟨fw m root l.vs l.p l.d l.af (dZ m), []⟩) { dst := none, op := .go { callee := .value (.tmp 7), args := #[], argTypes := #[] }, type := 0, pos := "items.go:22", after := #[{ on := 0, ground := .data }], guard := none }).run Tryz.prog w = .ok (.spawn { target := .fn (.func 119) #[ptr (m + 3), ptr m, ptr (m + 1)], args := #[] }) w := by
  simp [go_sem,Act.eval,fw,dZ]
 have := stepG_spawn (P := Tryz.prog) (main := true) (b := base 97) (a := ⟨fw m root l.vs l.p l.d l.af (dZ m), []⟩) (k := [.code jw]) (cs := cs) (w := w) (ops := vj) (i := 1) (rest := []) (o := { dst := none, op := .go { callee := .value (.tmp 7), args := #[], argTypes := #[] }, type := 0, pos := "items.go:22", after := #[{ on := 0, ground := .data }], guard := none }) rfl rfl (by decide) hr rfl
 rw [this]
 have hl : listed Tryz.prog (base 97).fn ⟨fw m root l.vs l.p l.d l.af (dZ m), []⟩ { dst := none, op := .go { callee := .value (.tmp 7), args := #[], argTypes := #[] }, type := 0, pos := "items.go:22", after := #[{ on := 0, ground := .data }], guard := none } w = #[] := listed_nil (by simp [go_sem, Act.eval, fw, dZ])
 rw [hl];rfl
theorem AQ {Q : Wx} {i : Nat} {fn : Func} (h : Q.funcs[i]? = some fn) (hn : (fn.name == "runtime.NumGoroutine") = false) (hb : fn.body.isNone = false) (args : Array Wq) (w : Wz) : (callFunc i args).runT Q w #[] = (.ok (.enter i args) w, #[]) := by
 show Sem.runT Q (match Q.funcs[i]? with|none=>_|some fn=>_) w #[]=_;rw [h];simp only [hn,hb];rfl
theorem AR (m:Nat)(w:Wz):stepG Tryz.prog false (born Tryz.prog {target:=.fn (.func 119) #[ptr (m+6),ptr (m+3),ptr (m+4)],args:=#[]}) w=.go (HU m) w #[]:=by
 have hc:(callFunc 119 #[ptr (m+6),ptr (m+3),ptr (m+4)]).runT Tryz.prog w #[]=(.ok (.enter 119 #[ptr (m+6),ptr (m+3),ptr (m+4)]) w,#[]):=AQ func119 rfl rfl _ w;have hi:(invoke (.fn (.func 119) #[ptr (m+6),ptr (m+3),ptr (m+4)]) #[]).runT Tryz.prog w #[]=(.ok (.enter 119 #[ptr (m+6),ptr (m+3),ptr (m+4)]) w,#[]):=by
  unfold invoke;simpa using hc
 have h0:stepG Tryz.prog false (born Tryz.prog {target:=.fn (.func 119) #[ptr (m+6),ptr (m+3),ptr (m+4)],args:=#[]}) w=callDeferred Tryz.prog (dK Tryz.prog) [] none {target:=.fn (.func 119) #[ptr (m+6),ptr (m+3),ptr (m+4)],args:=#[]} w:=rfl;rw [h0];unfold callDeferred;simp only [hi];rfl
section
variable [Two Tryz.prog] [Two Yq.prog] {Gf Fs Fr:FuncId->Bool} {Pre:Lst->List Wq->Wz->Prop}
structure Ew (Pre:Lst->List Wq->Wz->Prop)(R:(Nat->Question->Nat)->Nat->Ending->Wz->Prop):Prop where
 stop:∀τ d x y e u,R τ d (.panicked (stopEntry x y::e)) u->∃l pn L,x=lV l/\y=.int .i64 pn/\Pre l L u
theorem oW {f0:FuncId}{R:(Nat->Question->Nat)->Nat->Ending->Wz->Prop}(E:qJ Gf Fs Fr)(f:Ew Pre R)(n:∀l L V u,Ce V u->Pre l L u->Pre l L V){x y:Wq}{fr fr':Wv}{cs m:List Wv}{V W:Wz}{ρ:Ren}{U:Outer}
  (a:Rel Tryz.prog U Gf [] ρ {frame:=fr,callers:=cs,status:=.running,dying:=none} {frame:=fr',callers:=m,status:=.running,dying:=none} V W)
  (hD:Dem Yq.prog (fun g _=>NB [trap Yq.prog] g) (Ends Yq.prog f0 R) {frame:=Frame.enter Yq.prog 69 #[x,y] .normal,callers:=fr::cs,status:=.running,dying:=none} V):
  ∃l pn L,x=lV l/\y=.int .i64 pn/\Pre l L V:=by
 have c:(ρ.F gu||ρ.F mi)=false:=by rw [a.calm,a.quiet.1];rfl
 have hlen:1<=cs.length:=by
  have:=a.go.callers.len1;simpa using this
 have hcal:=a.go.callers;rw [E.alt] at hcal;have hDm:=Dem.on (fun _ _ _ _ h=>h) (fun g w τ d=>Ends.on τ d) hD (fun _ _=>0) 0;obtain ⟨i,hst,hm,hd,hf⟩:=sF x y (fr::cs) (V.on (fun _ _=>0) 0) GG;obtain ⟨k,hk⟩:=hst;obtain ⟨-,q⟩:=AJ (fun g w h=>pq h) k _ _ hDm rfl {frame:=i,callers:=fr::cs,status:=.running,dying:=none} _ hk rfl (by simp;omega);have j:i.catches Yq.prog=false:=by unfold Frame.catches;rw [hf,Yq.func69]
 obtain ⟨τ,d,e,u,s,t⟩:=E7 (ρ:=ρ) (en:=stopEntry x y) (V:=V) q [] hm rfl j (by rw [hd];exact fun d h=>by cases h) (.cons (fh a.go.frame _).1 (a.go.frame.defers.marks c) (RFs.fl c hcal)) (fun r b p l0 h0=>by
  obtain ⟨o,o',h1,h2,h3⟩:=a.sim.obj r b p;have h0:V.heap[r]?=_:=h0;rw [h1] at h0;cases h0;cases h3 with
  |deferred h=>exact h.marks c) ⟨rfl,fun _=>rfl⟩
 obtain ⟨l,pn,L,h1,h2,h3⟩:=f.stop τ d x y e u s;exact ⟨l,pn,L,h1,h2,n l L V u t h3⟩
theorem yI {f0:FuncId}{R:(Nat->Question->Nat)->Nat->Ending->Wz->Prop}{Post:Wq->Wz->Prop}{U:Outer}(E:qJ Gf Fs Fr)(hPre:AM Pre)(ap:wW)(Z:Ew Pre R)(bl:∀l L V u,Ce V u->Pre l L u->Pre l L V):uZ Tryz.prog U Gf [] (Ends Yq.prog f0 R) Post:=by
 intro f a a' fr fr' cs n V W ρ hM ⟨ar,bd⟩ m hD T gs sl t q h0 hL hP;obtain rfl:f=69:=E.mark f (by rw [<-m.same];exact hM);obtain ⟨al⟩:=a;rcases al with - |⟨x,- |⟨y,- |⟨z,al⟩⟩⟩<;>simp at bd
 have hD0:=hD;rw [E.alt] at hD0;obtain ⟨l,pn,L,rfl,rfl,hp⟩:=oW E Z bl m hD0;obtain ⟨r',hr,rfl⟩:=C0 ar;have hlen:1<=cs.length:=by
  have:=m.go.callers.len1;simpa using this
 have hS:=m.calm;have hBM:=m.quiet.1;have hX:RFs Tryz.prog ρ ([trap Tryz.prog.alt],[]) (fr::cs) (fr'::n):=.cons m.go.frame m.go.kind m.go.callers;have hDn:=Dem.on (fun _ _ _ _ h=>h) (fun g w τ d=>Ends.on τ d) hD0 (fun _ _=>1) 0;obtain ⟨V4,⟨k4,hk4⟩,D,J,C⟩:=sJ hPre l pn L (V.on (fun _ _=>1) 0) (fr::cs) (hPre.on V _ l L (fun _ _=>rfl) (lR _) hp) GF;obtain ⟨hls,bq⟩:=AJ (fun g w h=>pq h) k4 _ _ hDn rfl {frame:=pF2 V.heap.size l pn (V.heap.size+5),callers:=fr::cs,status:=.running,dying:=none} V4 hk4 rfl (by simp;omega);have X:LSs Yq.prog (Ends Yq.prog f0 R) {frame:=Frame.enter Yq.prog 69 #[lV l,.int .i64 pn] .normal,callers:=fr::cs,status:=.running,dying:=none} V {frame:=pF2 V.heap.size l pn (V.heap.size+5),callers:=fr::cs,status:=.running,dying:=none} V4:=by
  rcases LSs.on (fun g w τ d=>Ends.on τ d) hls with ⟨e,-⟩|h
  .exfalso;have:=congrArg (fun g:Wj=>g.frame.todo) e;rw [pu] at this;cases this
  .exact h
 have D:∀b,b<V.heap.size+7->b≠V.heap.size+5->V4.heap[b]?=(bJ V l 1000).heap[b]?:=D;have J:V4.heap[V.heap.size+5]?=some (.chan 1000 L.toArray true L.length 0 false):=J;have C:V4.os=V.os:=C;have r:∀a b,ρ a b->V4.heap[a]?=V.heap[a]?:=fun a b h=>by
  have:=(m.sim.lt h).1;exact (D a (by omega) (by omega)).trans (eE V l 1000 this)
 have hsz:W.heap.size+7=W.heap.size+7:=rfl;refine wT (B:=W.heap.size+7) (E9 {l with root:=r'} pn (fr'::n) W (W.heap.size+7) rfl (fun dd=>?_)) gs sl t q h0 hL (hP.mono (by omega));have S:((pgW W {l with root:=r'}).at dd).heap.size=W.heap.size+3:=wV W _;refine wT (CV _ _ r' l.vs l.p l.d l.af ((pgW W {l with root:=r'}).at dd) (W.heap.size+7) (by rw [S]) (fun d2=>?_));intro bp bb t1 q1 h1 a9 hP1;have be:∀d3,(itW ((pgW W {l with root:=r'}).at dd) r' l.vs l.p l.d l.af 20).at d3=(bJ W {l with root:=r'} 20).at d3:=fun _=>rfl
 rw [S] at h1;rw [be];obtain ⟨Vs,a3,a5,bs⟩:=C4 E hPre m.sim hS hr hp m.gid 0;obtain ⟨Vr,Q,ad,Y,bk⟩:=C5 E ap m.sim hS hr pn (hPre.item l L V hp) (hPre.len l L V hp) m.gid (fr'::n) 0;refine AI (W:=bJ W {l with root:=r'} 20) (g:=G ((base 97).at ⟨fw (W.heap.size+3) r' l.vs l.p l.d l.af (dZ (W.heap.size+3)),[]⟩ [.inRegion vj [1],.code jw]) (pF W.heap.size {l with root:=r'} pn::fr'::n)) rfl (fun d=>Fe (W.heap.size+3) l r' _ _)
  (ρr:=(uz m.sim hS).low Fr (own3 V.heap.size) (V.heap.size+5) true Q) (ρs:=(C3 m.sim hS).low Fs (fun _=>False) (V.heap.size+5) false a3) (fun a7 bt t2 q2 d k hk0 bv hgk bn bw=>?_) bp bb t1 q1 d2 h1 a9 (by rw [fk];exact hP1)
 have O:wJ Tryz.prog (phD (Ends Yq.prog f0 R) Gf Fs Fr L V.heap.size W.heap.size k (fr::cs,fr'::n) ρ.rel {frame:=Frame.enter Yq.prog 69 #[lV l,.int .i64 pn] .normal,callers:=fr::cs,status:=.running,dying:=none} V U) Post:=
  Ia E hk0 (fun v hv=>sK (hPre.item l L V hp v hv)) (fun h V hT=>by obtain ⟨_,_,_,_,_,_,_,rfl,-⟩:=hT;simp) m.gid m.ext m.same hS hBM m.out.2.2.2.2 hX hlen (fun h V2 hl=>T h V2 (by rw [E.alt] at hl ⊢;exact hl))
 have a4:∀c,(c=V.heap.size+5\/∃b o,ρ c b/\V.heap[c]?=some o/\o.isChan=true)->∃o,V4.heap[c]?=some o/\o.isChan=true:=fun c h=>by
  rcases h with rfl|⟨b,o,h1,h2,h3⟩
  .exact ⟨_,J,rfl⟩
  .exact ⟨o,(r c b h1).trans h2,h3⟩
 have SA:bB (ρ.plus V.heap.size W.heap.size (fun i=>i<7) (fun _ _ h=>m.sim.lt h) (fun c=>c=V.heap.size+5\/∃b o,ρ c b/\V.heap[c]?=some o/\o.isChan=true) hS) V4 ((bJ W {l with root:=r'} 20).at d):=
  qI m.sim hS hr (fun i h=>h) (by omega) r (fun i h h5=>D _ (by omega) (by omega)) ⟨_,_,_,_,_,J⟩ C a4 d
 have A:∀i,i<7->(ρ.plus V.heap.size W.heap.size (fun i=>i<7) (fun _ _ h=>m.sim.lt h) (fun c=>c=V.heap.size+5\/∃b o,ρ c b/\V.heap[c]?=some o/\o.isChan=true) hS) (V.heap.size+i) (W.heap.size+i):=fun i h=>m9 h
 generalize hρA:ρ.plus V.heap.size W.heap.size (fun i=>i<7) (fun _ _ h=>m.sim.lt h) (fun c=>c=V.heap.size+5\/∃b o,ρ c b/\V.heap[c]?=some o/\o.isChan=true) hS=ρA at SA A;have H:ρA.F=Gf:=by subst hρA;exact m.same
 have N:∀a b,ρA a b->ρ a b\/∃i,i<7/\a=V.heap.size+i/\b=W.heap.size+i:=fun a b h=>by subst hρA;exact h
 have s:∀a b,ρ a b->ρA a b:=fun a b h=>by subst hρA;exact .inl h
 have a8:RAo ρA l.root r':=by
  generalize l.root=x at hr;cases hr with
  |none=>exact .none
  |some h=>exact .some ⟨s _ _ h.1,h.2⟩
 have RR:oP (phD (Ends Yq.prog f0 R) Gf Fs Fr L V.heap.size W.heap.size k (fr::cs,fr'::n) ρ.rel {frame:=Frame.enter Yq.prog 69 #[lV l,.int .i64 pn] .normal,callers:=fr::cs,status:=.running,dying:=none} V U) ρA ((uz m.sim hS).low Fr (own3 V.heap.size) (V.heap.size+5) true Q) ((bJ W {l with root:=r'} 20).at d) {frame:=pF2 V.heap.size l pn (V.heap.size+5),callers:=fr::cs,status:=.running,dying:=none} (G (pF2 V.heap.size l pn (V.heap.size+5)) [trap Yq.prog]) (G (pF2 W.heap.size {l with root:=r'} pn (W.heap.size+5)) (fr'::n)) V4 Vr L:=by
  refine ⟨⟨⟨vn (P:=Tryz.prog) (σ:=ρA) (A 0 (by omega)) (A 1 (by omega)) (A 2 (by omega)) (A 5 (by omega)) a8 (by rw [H];exact E.okG),.base,⟨fun _=>rfl,fun _=>rfl⟩,⟨rfl,rfl⟩,⟨rfl,rfl⟩,rfl,rfl⟩,SA,?_,by rw [H,<-m.same];exact m.ext,⟨by rw [H,<-m.same];exact hS,by rw [H,<-m.same];exact hBM⟩,by subst hρA;exact ⟨rfl,rfl⟩,by subst hρA;exact .inl rfl,A 5 (by omega),⟨_,_,_,_,_,J,rfl⟩⟩,ad.stays rfl (fun _ _ _ _=>rfl) rfl,Y,fun x h=>h,⟨E.rmk,rfl⟩,⟨s,H⟩,fun a b o ab ho hc=>?_,fun a b hch ab hne=>?_⟩
  .have hg:=m.gid;subst hρA;exact ⟨fun g h=>.inl (hg.glob g h),hg.prog,hg.code,hg.alt,fun _ _ h=>h,hg.same,hg.size,hg.apart⟩
  .have hch:(a=V.heap.size+5\/∃b o,ρ a b/\V.heap[a]?=some o/\o.isChan=true):=by
    rcases N a b ab with h|⟨i,hi,rfl,rfl⟩
    .exact .inr ⟨b,o,h,by rw [<-r a b h];exact ho,hc⟩
    .by_cases h5:i=5
     .subst h5;exact .inl rfl
     .exfalso;rw [D _ (by omega) (by omega),bM V l 1000 i hi] at ho;rcases i with - | - | - | - | - | - | - |i;all_goals first|omega|(cases ho;cases hc)
   subst hρA;exact hch
  .have hne:a≠V.heap.size+5:=hne;have hch:(a=V.heap.size+5\/∃b o,ρ a b/\V.heap[a]?=some o/\o.isChan=true):=by subst hρA;exact hch
   rcases hch with h|⟨b2,o,h1,h2,h3⟩
   .exact absurd h hne
   .obtain rfl:b2=b:=ρA.fn _ _ _ (s _ _ h1) ab;obtain ⟨n1,s1,q1',tm1,rfl⟩:=m.quiet.2 a b2 o h1 h2 h3;obtain ⟨o1,o2,e1,e2,e3⟩:=m.sim.obj a b2 h1;rw [h2] at e1;cases e1;cases e3 with
    | @chan _ cap' _ b' _ cl' _ _ s' q' _ hb hcl=>
     have hb:RVs ρ #[] b':=hb.resolve_left (by rw [m.firm.1];exact fun h=>by cases h);obtain rfl:=hcl.resolve_left (by rw [m.firm.2];exact fun h=>by cases h);obtain rfl:b'=#[]:=Array.eq_empty_of_size_eq_zero (by rw [<-hb.size];rfl);exact ⟨_,_,_,_,_,_,_,(r a b2 h1).trans h2,(eE W _ 20 (m.sim.lt h1).2).trans e2⟩
 have M:∀a b,((uz m.sim hS).low Fr (own3 V.heap.size) (V.heap.size+5) true Q) a b->ρ a b\/∃i,i<7/\a=V.heap.size+i/\b=W.heap.size+i:=fun a b h=>h
 have K:∀a b,((C3 m.sim hS).low Fs (fun _=>False) (V.heap.size+5) false a3) a b->ρ a b\/∃i,(3<=i/\i<7)/\a=V.heap.size+i/\b=W.heap.size+i:=fun a b h=>h
 have a6:∀x y b,(ρ x b\/∃i,i<7/\x=V.heap.size+i/\b=W.heap.size+i)->(ρ y b\/∃i,(3<=i/\i<7)/\y=V.heap.size+i/\b=W.heap.size+i)->x=y/\¬own3 V.heap.size y:=fun x y b h1 h2=>by
  rcases h1 with h1|⟨i,hi,h1,h3⟩<;>rcases h2 with h2|⟨j,hj,h2,h4⟩
  .have:=(m.sim.lt h2).1;exact ⟨ρ.inj _ _ _ h1 h2,fun h=>by rcases h with h|h|h<;>omega⟩
  .have:=(m.sim.lt h1).2;omega
  .have:=(m.sim.lt h2).2;omega
  .exact ⟨by omega,fun h=>by rcases h with h|h|h<;>omega⟩
 have bo:((uz m.sim hS).low Fr (own3 V.heap.size) (V.heap.size+5) true Q) (V.heap.size+6) (W.heap.size+6):=.inr ⟨6,by omega,rfl,rfl⟩;have a0:Dem Tryz.prog.alt (phD (Ends Yq.prog f0 R) Gf Fs Fr L V.heap.size W.heap.size k (fr::cs,fr'::n) ρ.rel {frame:=Frame.enter Yq.prog 69 #[lV l,.int .i64 pn] .normal,callers:=fr::cs,status:=.running,dying:=none} V U).Ns (phD (Ends Yq.prog f0 R) Gf Fs Fr L V.heap.size W.heap.size k (fr::cs,fr'::n) ρ.rel {frame:=Frame.enter Yq.prog 69 #[lV l,.int .i64 pn] .normal,callers:=fr::cs,status:=.running,dying:=none} V U).Ts (Ho V.heap.size) Vs:=by rw [E.alt];exact bs
 have a1:Dem Tryz.prog.alt (phD (Ends Yq.prog f0 R) Gf Fs Fr L V.heap.size W.heap.size k (fr::cs,fr'::n) ρ.rel {frame:=Frame.enter Yq.prog 69 #[lV l,.int .i64 pn] .normal,callers:=fr::cs,status:=.running,dying:=none} V U).Nr (phD (Ends Yq.prog f0 R) Gf Fs Fr L V.heap.size W.heap.size k (fr::cs,fr'::n) ρ.rel {frame:=Frame.enter Yq.prog 69 #[lV l,.int .i64 pn] .normal,callers:=fr::cs,status:=.running,dying:=none} V U).Tr (G (pF2 V.heap.size l pn (V.heap.size+5)) [trap Yq.prog]) Vr:=by rw [E.alt];exact bk
 refine E1 O a1 _ _ a0 a7 ((bJ W {l with root:=r'} 20).at d) bt t2 q2 ρA _ _ _ _ L [] [] [] 20 0 0 false 14 2
  (.pre 12 RR (by rw [E.alt];exact bq) (by rw [E.alt];exact X) ⟨⟨_,bo,fun h=>?_⟩,?_⟩ (vm W.heap.size (W.heap.size+3) {l with root:=r'} pn (fr'::n) ((bJ W {l with root:=r'} 20).at d) r' (jJ W {l with root:=r'} 20).out))
  (.new (a5.stays rfl (fun _ _ _ _=>rfl) rfl) (fun v=>AR W.heap.size v) rfl) ⟨_,dn W {l with root:=r'} 20,rfl⟩ (by omega) rfl rfl ?_ ?_ bv hgk bn bw
 .have h:V.heap.size+6=V.heap.size+5:=h;omega
 .show W.heap.size+6≠W.heap.size+5;omega
 .intro b x y hx hy;obtain ⟨rfl,ho⟩:=a6 x y b (M _ _ hx) (K _ _ hy);by_cases h5:x=V.heap.size+5
  .exact .inr ⟨h5,h5⟩
  .exact .inl ⟨⟨⟨b,hx⟩,ho,h5⟩,⟨b,hy⟩,(fun h=>h),h5⟩
 .have a2:∀i,¬U.Ko (W.heap.size+i):=fun i h=>by
   have:=U.lt _ h;have:=m.out.1.1;omega
  have I:∀a b,(ρ a b\/∃i,i<7/\a=V.heap.size+i/\b=W.heap.size+i)->¬U.Ko b:=fun a b h=>by
   rcases h with h|⟨i,-,-,rfl⟩
   .exact m.out.2.1 a b h
   .exact a2 i
  refine ⟨fun b x y hx hy=>?_,⟨⟨?_,?_,fun b hb=>?_⟩,⟨fun a b h=>I a b (N a b h),fun a b h=>s a b (m.out.2.2.1 a b h),by rw [<-hρA];exact m.out.2.2.2⟩,⟨fun a b h=>I a b (M a b h),fun a b h=>.inl (m.out.2.2.1 a b h),m.out.2.2.2⟩,a2 5⟩,⟨fun a b h=>I a b ((K a b h).imp id (fun ⟨i,h1,h2⟩=>⟨i,h1.2,h2⟩)),fun a b h=>.inl (m.out.2.2.1 a b h),m.out.2.2.2⟩⟩
  .by_cases h5:y=V.heap.size+5
   .exact .inr h5
   .exact .inl ⟨⟨b,hy⟩,(fun h=>h),h5⟩
  .have:=m.out.1.1;show U.W0.heap.size<=(bJ W {l with root:=r'} 20).heap.size;rw [fk];omega
  .exact m.out.1.2.1
  .have h1:=U.lt b hb;have h2:=m.out.1.1;exact (eE W {l with root:=r'} 20 (by omega)).trans (m.out.1.2.2 b hb)
end
def qK (P:Wx)(D0:Nat->Prop)(F:FuncId->Bool)(pin:Nat->Option (Array Wq))(hb:NoM P 3):Ren where
 rel:=fun a b=>a=b/\D0 a
 fn:=fun _a _b _b' h1 h2=>h1.1.symm.trans h2.1
 inj:=fun _a _a' _b h1 h2=>h1.1.trans h2.1.symm
 prog:=P
 F:=F
 old:=fun _=>False
 ch:=fun _=>False
 loose:=false
 wide:=false
 tight:=fun _=>rfl
 pin:=pin
 bad:=3
 noM:=hb
structure Start (W:Wz)(D0:Nat->Prop):Prop where
 rows:∀b,D0 b->∃c e z,W.heap[b]?=some (.cells c e z)
 glob:∀g,g<Tryz.prog.globals.size->D0 g
theorem C6 {ρ:Ren}{v:Wq}(h:mJ v=true):RV ρ v v:=by
 cases v with
 |bool b=>exact .bool b
 |int k n=>exact .int k n
 |string s=>exact .string s
 |pointer a=>cases a with
  |none=>exact .pointer .none
  |some a=>cases h
 |slice a n c=>cases a with
  |none=>exact .slice n c .none
  |some a=>cases h
 |map r=>cases r with
  |none=>exact .map .none
  |some r=>cases h
 |chan r=>cases r with
  |none=>exact .chan .none
  |some r=>cases h
 |nilFunc=>exact .nilFunc
 |nilIface=>exact .nilIface
 |_=>cases h
theorem C7 {ρ:Ren}{v v':Wq}(h:mJ v=true)(k:RV ρ v v'):v'=v:=by
 cases k with
 |bool|int|string|nilFunc|nilIface=>rfl
 |pointer k=>cases k with
  |none=>rfl
  |some _=>cases h
 |slice n c k=>cases k with
  |none=>rfl
  |some _=>cases h
 |map k=>cases k with
  |none=>rfl
  |some _=>cases h
 |chan k=>cases k with
  |none=>rfl
  |some _=>cases h
 |_=>cases h
structure mr (u v:Wq):Prop where
 rel:∀ρ:Ren,ρ.bad=3->RV ρ u v
 one:mJ v=true->u=v
 no:mJ v=false->iB u=false\/∀ (ρ:Ren) v',RV ρ u v'->v'=v
theorem AS:∀ (n:Nat)(v:Wq),SizeOf.sizeOf v<n->∃u,mr u v:=by
 intro n;induction n with
 |zero=>intro v h;omega
 |succ n ih=>
  intro v hn;have dead:iy v=true->mJ v=false->∃u,mr u v:=fun h1 h2=>⟨.tuple #[],fun _ _=>.dead v h1,(fun h=>by rw [h2] at h;cases h),fun _=>.inl rfl⟩
  have self:mJ v=true->∃u,mr u v:=fun h=>⟨v,fun _ _=>C6 h,fun _=>rfl,fun h2=>by rw [h] at h2;cases h2⟩
  cases v with
  |agg c=>
   obtain ⟨c0,h0,h1⟩:=nV (c:=c) (c':=c) (Q:=fun v _ u=>mr u v) rfl (fun i v v' hv _=>ih v (by
    have:=Array.sizeOf_lt_of_mem (Array.mem_of_getElem? hv);simp only [Value.agg.sizeOf_spec] at hn;omega))
   refine ⟨.agg c0,fun ρ hb=>.agg h0 (fun i u v k1 k2=>?_),fun h=>(by cases h),fun _=>.inl rfl⟩;obtain ⟨u2,e,k⟩:=h1 i v v k2 k2;rw [k1] at e;cases e;exact k.rel ρ hb
  |pointer a=>cases a with
   |none=>exact self rfl
   |some a=>exact dead rfl rfl
  |slice a n c=>cases a with
   |none=>exact self rfl
   |some a=>exact dead rfl rfl
  |map a=>cases a with
   |none=>exact self rfl
   |some a=>exact dead rfl rfl
  |chan a=>cases a with
   |none=>exact self rfl
   |some a=>exact dead rfl rfl
  |func f a c=>cases f with
   |method s=>
    refine ⟨.func (.method "") #[.iface 3 (.func (.method s) a c)] #[], fun ρ hb => .odd 3 s a c hb.symm, fun h => (by cases h), fun _ => .inr (fun ρ v' h => ?_)⟩
    cases h with
    |func hf=>cases hf
    |odd=>rfl
   |_=>exact dead rfl rfl
  |bool|int|string|nilFunc|nilIface=>exact self rfl
  |_=>exact dead rfl rfl
theorem yJ (c:Array Wq):∃c0:Array Wq,c0.size=c.size/\∀ (i:Nat) v,c[i]?=some v->∃u,c0[i]?=some u/\mr u v:=by
 obtain ⟨c0,h0,h1⟩:=nV (c:=c) (c':=c) (Q:=fun v _ u=>mr u v) rfl (fun i v v' _ _=>AS _ v (Nat.lt_succ_self _));exact ⟨c0,h0,fun i v hv=>h1 i v v hv hv⟩
structure Clean (D0:Nat->Prop)(W V:Wz):Prop where
 os:V.os=W.os
 size:V.heap.size=W.heap.size
 rest:∀b,¬D0 b->V.heap[b]?=W.heap[b]?
 row:∀b,D0 b->∃c c0 e z,W.heap[b]?=some (.cells c e z)/\V.heap[b]?=some (.cells c0 e z)/\c0.size=c.size/\∀ (i:Nat) v,c[i]?=some v->∃u,c0[i]?=some u/\mr u v
theorem C8 {W:Wz}{D0:Nat->Prop}(h:Start W D0):∃V,Clean D0 W V:=by
 classical
 have key:∀b:Nat,∃o:Obj,(D0 b->∃c c0 e z,W.heap[b]?=some (.cells c e z)/\o=.cells c0 e z/\c0.size=c.size/\∀ (i:Nat) v,c[i]?=some v->∃u,c0[i]?=some u/\mr u v)/\(¬D0 b->b<W.heap.size->W.heap[b]?=some o):=fun b=>by
  by_cases hd:D0 b
  .obtain ⟨c,e,z,h1⟩:=h.rows b hd;obtain ⟨c0,h2,h3⟩:=yJ c;exact ⟨.cells c0 e z,fun _=>⟨c,c0,e,z,h1,rfl,h2,h3⟩,fun k=>absurd hd k⟩
  .by_cases hb:b<W.heap.size
   .exact ⟨W.heap[b],fun k=>absurd k hd,fun _ _=>eG hb⟩
   .exact ⟨.coro none,fun k=>absurd k hd,fun _ k=>absurd k hb⟩
 obtain ⟨f,key⟩:=Classical.skolem.1 key;refine ⟨{W with heap:=Array.ofFn (n:=W.heap.size) fun a=>f a.1},rfl,by simp,fun b hb=>?_,fun b hb=>?_⟩
 .by_cases hlt:b<W.heap.size
  .rw [(key b).2 hb hlt];simp [hlt]
  .rw [Array.getElem?_eq_none (by simpa using hlt),Array.getElem?_eq_none (by omega)]
 .obtain ⟨c,c0,e,z,h1,h2,h3⟩:=(key b).1 hb;have hlt:=(eS h1).1;exact ⟨c,c0,e,z,h1,by simp [hlt,h2],h3⟩
theorem Clean.cell {W V:Wz}{D0:Nat->Prop}(h:Clean D0 W V){a:Ww}{v:Wq}(hv:W.cell? a=some v)(h1:mJ v=true):V.cell? a=some v:=by
 unfold World.cell? at hv ⊢;by_cases hd:D0 a.block
 .obtain ⟨c,c0,e,z,k1,k2,-,k4⟩:=h.row _ hd;rw [k1] at hv;rw [k2];simp only at hv ⊢;split at hv
  .cases hv
  .rename_i hs;obtain ⟨u,e1,e2⟩:=k4 _ _ hv;rw [if_neg hs,e1,e2.one h1]
 .rw [h.rest _ hd];exact hv
noncomputable def kj (W:Wz)(D0:Nat->Prop)(b:Nat):Option (Array Wq):=by
 classical
 exact if D0 b then match W.heap[b]? with|some (.cells c _ _)=>some c|_=>none else none
theorem sO {W V:Wz}{D0:Nat->Prop}(h:Clean D0 W V)(P:Wx)(F:FuncId->Bool)(hb:NoM P 3):bB (qK P D0 F (kj W D0) hb) V W:=by
 refine ⟨fun a b d=>?_,fun _ h=>h.elim,fun _ h=>h.elim,h.os.symm,fun _ a c0 hp=>?_⟩
 .obtain ⟨rfl,hd⟩:=d;obtain ⟨c,c0,e,z,h1,h2,h3,h4⟩:=h.row a hd;refine ⟨_,_,h2,h1,.cells e (.inl rfl) ⟨h3,fun i u v k1 k2=>?_⟩⟩;obtain ⟨u2,e1,e2⟩:=h4 i v k2;rw [k1] at e1;cases e1;exact e2.rel _ rfl
 .have hp:kj W D0 a=some c0:=hp;unfold kj at hp;split at hp
  .rename_i hd;obtain ⟨c,c1,e,z,h1,h2,-⟩:=h.row a hd;rw [h1] at hp;cases hp;exact ⟨a,⟨rfl,hd⟩,c1,e,z,c0,z,h2,h1,fun _ _ _ _=>rfl⟩
  .cases hp
structure sP (W W':Wz):Prop where
 os:W'.os=W.os
 output:W'.output=W.output
 size:W.heap.size<=W'.heap.size
 block:∀b,b<W.heap.size->W'.heap[b]?=W.heap[b]?
def lp (Pre:Lst->List Wq->Wz->Prop)(W:Wz)(e:Ending)(u:Wz):Prop:=
 (e=.returned (.bool true)/\u.os=W.os/\∀b,b<W.heap.size->u.heap[b]?=W.heap[b]?)\/∃x y l,e=.panicked (stopEntry x y::l)/\∃a pn L,x=lV a/\y=.int .i64 pn/\Pre a L u
section
variable [Two Tryz.prog] [Two Yq.prog] {Gf Fs Fr Fa:FuncId->Bool} {Pre:Lst->List Wq->Wz->Prop}
theorem Ff (E:qJ Gf Fs Fr)(T:gz Tryz.prog Gf)(sA:gz Yq.prog Fa)(ab:∀f,¬Mk Fa f=true)(hG:Gf gu=false/\Gf mi=false/\Gf 69=false/\Gf mh=true)(hPre:AM Pre)(A:wW)(O:∀l L V u,Ce V u->Pre l L u->Pre l L V)
  {f0:FuncId} {fn:Func} {b0:Code} (hfz:Tryz.prog.funcs[f0]?=some fn) (q:Yq.prog.funcs[f0]?=some fn) (r:fn.body=some b0) (B:Tryz.prog.inits.idxOf? f0=none) (N:Gf f0=true) (K:Fa f0=true) {args:Array Wq} {W:Wz} {D0:Nat->Prop} (hst:Start W D0) (p:∀ (ρ:Ren),(∀b,D0 b->ρ b b)->RVs ρ args args)
  (hcalls:∀V,Clean D0 W V->∀τ d,Calls Yq.prog f0 args (V.on τ d) (lp Pre V)):Fin Tryz.prog (fun v W'=>v=.bool true/\sP W W') #[G (Frame.enter Tryz.prog f0 args .normal) []] W none #[]:=by
 obtain ⟨V0,hcl⟩:=C8 hst;replace hcalls:=hcalls V0 hcl;have k:NoM Tryz.prog 3:=by unfold NoM;kernel_rfl
 have hbq:NoM Yq.prog 3:=AP E k rfl;have hA:∀F,RVs (qK Tryz.prog D0 F (kj W D0) k) args args:=fun F=>p _ (fun b h=>⟨rfl,h⟩)
 have Y:∀F,RVs (qK Yq.prog D0 F (kj W D0) hbq) args args:=fun F=>p _ (fun b h=>⟨rfl,h⟩)
 have I:∀ (P Q:Wx) (σ:Ren),P.funcs[f0]?=some fn->Q.funcs[f0]?=some fn->RVs σ args args->aA P σ.F b0=true->RFr P σ (Frame.enter Q f0 args .normal) (Frame.enter P f0 args .normal):=fun P Q σ hP hQ ha ho=>by
  have e1:(Frame.enter Q f0 args .normal).todo=[.code b0]:=by simp [Frame.enter,hQ,r]
  have e2:(Frame.enter P f0 args .normal).todo=[.code b0]:=by simp [Frame.enter,hP,r]
  have t1:(Frame.enter Q f0 args .normal).tmps=args++Array.replicate (fn.ntmps-args.size) Wy:=by simp [Frame.enter,hQ]
  have t2:(Frame.enter P f0 args .normal).tmps=args++Array.replicate (fn.ntmps-args.size) Wy:=by simp [Frame.enter,hP]
  refine ⟨rfl,?_,by rw [e1,e2];exact .cons (.code ho) .nil,.nil,.run,⟨rfl,rfl,by simp [Frame.enter]⟩,.none⟩;rw [t1,t2];refine ⟨rfl,fun i v v' h1 h2=>?_⟩;rw [h1] at h2;cases h2;rw [Array.getElem?_append] at h1;split at h1
  .exact ha.at_ i v v h1 h1
  .simp only [Array.getElem?_replicate] at h1;split at h1
   .cases h1;exact cT
   .cases h1
 have hout:∀ (τ:Nat->Question->Nat) (d:Nat) (u:Wz),¬lp Pre V0 .outgrown u:=fun τ d u h=>by
  rcases h with ⟨h,-⟩|⟨_,_,_,h,-⟩<;>cases h
 have s:Self Yq.prog ([trap Yq.prog],[]) (fun _=>False) Fa {frame:=Frame.enter Yq.prog f0 args .normal,callers:=[trap Yq.prog],status:=.running,dying:=none} V0:=
  ⟨rfl,qK Yq.prog D0 Fa (kj W D0) hbq,{frame:=Frame.enter Yq.prog f0 args .normal,callers:=[],status:=.running,dying:=none},W,⟨I Yq.prog Yq.prog _ q q (Y _) (sA.code f0 fn b0 K q r),.base,⟨fun _=>rfl,fun _=>rfl⟩,⟨rfl,rfl⟩,⟨rfl,rfl⟩,rfl,rfl⟩,sO hcl _ _ _,sA.gid (σ:=qK Yq.prog D0 Fa (kj W D0) hbq) (fun g hg=>⟨rfl,hst.glob g (by rw [Yq.globals_size] at hg;exact hg)⟩) rfl (fun _ _ h=>h),sA.ext,rfl,rfl,⟨rfl,fun _ h=>h.elim,rfl⟩,fun _ h=>h,ab⟩
 have hD:=(su E.zero1 E.count1 (R:=fun _ _=>lp Pre V0) hcalls hout s).imp (N':=fun g _=>NB [trap Yq.prog] g) (fun g w h=>h.2)
 let U:Outer:=⟨fun b=>b<W.heap.size/\¬D0 b,W,fun b h=>h.1,fun a b=>a=b/\D0 a,kj W D0,3⟩
 have C:Leaf Tryz.prog U Gf (Ends Tryz.prog.alt f0 (fun _ _=>lp Pre V0)) (fun v W'=>v=.bool true/\sP W W'):=by
  refine E3 (page:=69) hG.2.2.1 B (fun τ d e u h=>?_) (fun h V ρ g W1 ρ' W' hE hm m hle S Z=>⟨rfl,?_⟩)
  .rcases h with ⟨h,-⟩|⟨x,y,l,h,-⟩
   .exact .inl h
   .exact .inr ⟨_,_,_,_,_,_,h⟩
  .obtain ⟨τ,d,τ',d',e,fr,hR,rfl,-,hlv,-⟩:=hE;rcases hR with ⟨rfl,X,n⟩|⟨x,y,l,rfl,-⟩
   .refine ⟨S.os.trans (X.trans hcl.os),Z.2.1,Z.1,fun b hb=>?_⟩;by_cases hd:D0 b
    .have H:ρ' b b:=hle _ _ (m.out.2.2.1 b b ⟨rfl,hd⟩);obtain ⟨c,c0,e,z,h1,h0,h3,h2⟩:=hcl.row b hd;obtain ⟨o,o',k1,k2,k3⟩:=S.obj b b H;have hF:ρ'.F mh=true:=by rw [hle.F,m.same];exact hG.2.2.2
     have J:ρ'.pin b=some c:=by
      rw [hle.pin,m.out.2.2.2.1];show kj W D0 b=some c;unfold kj;rw [if_pos hd,h1]
     obtain ⟨b2,hb2,c1,e1,z1,c2,z2,p1,p2,p3⟩:=S.pin hF b c J;obtain rfl:=ρ'.fn _ _ _ H hb2;have n:V.heap[b]?=V0.heap[b]?:=n b (by rw [hcl.size];exact hb);rw [n,h0] at k1 p1;cases k1;cases p1;rw [p2] at k2;cases k2;cases k3 with
     |cells e hz hv=>
      rcases hz with rfl|⟨hz,-⟩
      .rw [p2,h1];refine congrArg (fun x=>some (Obj.cells x e z)) ?_;refine Array.ext_getElem? (fun i=>?_);by_cases hi:i<c.size
       .obtain ⟨u,q1,q2⟩:=h2 i _ (eG hi);by_cases ho:mJ c[i]=true
        .have q3:i<c2.size:=by rw [<-hv.size,h3];exact hi
         have q4:=q2.one ho;have:=hv.at_ i u _ q1 (eG q3);rw [q4] at this;rw [eG q3,eG hi,C7 ho this]
        .rcases q2.no (by simpa using ho) with q5|q5
         .exact p3 i u q1 q5
         .have q3:i<c2.size:=by rw [<-hv.size,h3];exact hi
          rw [eG q3,eG hi,q5 _ _ (hv.at_ i u _ q1 (eG q3))]
       .rw [Array.getElem?_eq_none (by rw [<-hv.size,h3];omega),Array.getElem?_eq_none (by omega)]
      .rw [hF] at hz;cases hz
    .exact Z.2.2 b ⟨hb,hd⟩
   .have hlv:=hlv.1;rw [hm] at hlv;cases hlv
 have hap:uZ Tryz.prog U Gf [] (Ends Tryz.prog.alt f0 (fun _ _=>lp Pre V0)) (fun v W'=>v=.bool true/\sP W W'):=by
  rw [E.alt];refine yI E hPre A ⟨fun τ d x y e u h=>?_⟩ O;rcases h with ⟨h,-⟩|⟨x',y',l,h,hp⟩
  .cases h
  .cases h;exact hp
 have M:Dem Tryz.prog.alt (fun g _=>NB [trap Tryz.prog.alt] g) (Ends Tryz.prog.alt f0 (fun _ _=>lp Pre V0)) {frame:=Frame.enter Yq.prog f0 args .normal,callers:=[trap Yq.prog],status:=.running,dying:=none} V0:=by
  rw [E.alt];exact hD
 have hrel:Rel Tryz.prog U Gf [] (qK Tryz.prog D0 Gf (kj W D0) k) {frame:=Frame.enter Yq.prog f0 args .normal,callers:=[trap Yq.prog],status:=.running,dying:=none} {frame:=Frame.enter Tryz.prog f0 args .normal,callers:=[],status:=.running,dying:=none} V0 W:=by
  have hf:=I Tryz.prog Yq.prog (qK Tryz.prog D0 Gf (kj W D0) k) hfz q (hA _) (T.code f0 fn b0 N hfz r);have D:GId Tryz.prog (qK Tryz.prog D0 Gf (kj W D0) k):=T.gid (σ:=qK Tryz.prog D0 Gf (kj W D0) k) (fun g hg=>⟨rfl,hst.glob g hg⟩) rfl (fun _ _ h=>h);have hk:∀P:Wx,(Frame.enter P f0 args .normal).kind=.normal/\(Frame.enter P f0 args .normal).roundOf=none:=fun _=>⟨rfl,rfl⟩
  refine ⟨⟨hf,by rw [E.alt];exact .base,⟨fun _=>(hk _).1.trans (hk _).1.symm,fun _=>(hk _).2⟩,⟨rfl,rfl⟩,⟨rfl,rfl⟩,rfl,rfl⟩,sO hcl _ _ _,D,T.ext,hG.1,rfl,⟨rfl,rfl⟩,⟨hG.2.1,fun a b o t ho hc=>?_⟩,⟨⟨lR _,rfl,fun _ _=>rfl⟩,fun a b t hk=>?_,fun a b h=>h,rfl,rfl⟩⟩
  .obtain ⟨_,c,e,z,-,h1,-⟩:=hcl.row a t.2;rw [h1] at ho;cases ho;cases hc
  .obtain ⟨rfl,hd⟩:=t;exact hk.2 hd
 have hlv:Lv Tryz.prog (fun _=>False) #[] #[({frame:=Frame.enter Tryz.prog f0 args .normal,callers:=[],status:=.running,dying:=none}:Wj)] (fun _=>0):=by
  refine ⟨fun j y hj _ hy=>?_,fun j hj=>?_⟩
  .cases j with
   |zero=>omega
   |succ j=>simp at hy
  .exact (Go.Conc.leavers_one Tryz.prog {frame:=Frame.enter Tryz.prog f0 args .normal,callers:=[],status:=.running,dying:=none}).above j hj
 exact EZ E.zero E.count (AF C) hap M _ _ (.refl _ _) _ _ W none #[] (fun _=>0) _ rfl hlv (Go.Conc.past_nil.mono (Nat.zero_le _)) hrel
end
end
theorem iN {v:Wq}(h:mJ v=true)(ρ:Ren):RV ρ v v:=by
 cases v with
 |bool b=>exact .bool b
 |int k n=>exact .int k n
 |string s=>exact .string s
 |pointer a=>cases a with
  |none=>exact .pointer .none
  |some a=>cases h
 |slice a n c=>cases a with
  |none=>exact .slice n c .none
  |some a=>cases h
 |map r=>cases r with
  |none=>exact .map .none
  |some r=>cases h
 |chan r=>cases r with
  |none=>exact .chan .none
  |some r=>cases h
 |nilFunc=>exact .nilFunc
 |nilIface=>exact .nilIface
 |_=>cases h
theorem na {c:Array Wq}{p:Wq->Bool}(h:c.all p=true){ρ:Ren}(hp:∀v,p v=true->RV ρ v v):RVs ρ c c:=⟨rfl,fun i v v' h1 h2=>by
 rw [h1] at h2;cases h2;obtain ⟨hi,rfl⟩:=eS h1;exact hp _ (Array.all_eq_true.1 h i hi)⟩
theorem jK {v:Wq}(h:nl v=true)(ρ:Ren):RV ρ v v:=by
 unfold nl at h;split at h
 .exact .agg rfl (na h (fun v h=>iN h ρ)).at_
 .exact .tuple rfl (na h (fun v h=>iN h ρ)).at_
 .exact .iface _ (iN h ρ)
 .exact iN h ρ
def C9:Wq->Bool
 | .agg c=>c.all nl
 | .tuple c=>c.all nl
 |v=>nl v
theorem yK {v:Wq}(h:C9 v=true)(ρ:Ren):RV ρ v v:=by
 unfold C9 at h;split at h
 .exact .agg rfl (na h (fun v h=>jK h ρ)).at_
 .exact .tuple rfl (na h (fun v h=>jK h ρ)).at_
 .exact jK h ρ
theorem px {ρ:Ren}{z:Wq}(h:RV ρ z z):RVs ρ z.cells z.cells:=by
 have a:RVs ρ #[z] #[z]:=⟨rfl,fun i v v' h1 h2=>by
  rw [h1] at h2;cases h2;cases i with
  |zero=>simp at h1;subst h1;exact h
  |succ i=>simp at h1⟩
 cases z with
 |agg c=>
  cases h with
  |agg hc hx=>exact ⟨rfl,hx⟩
 |_=>exact a
theorem RVs.append' {ρ:Ren}{a a' b b':Array Wq}(h:RVs ρ a a')(k:RVs ρ b b'):RVs ρ (a++b) (a'++b'):=⟨by simp [h.size,k.size],fun i v v' h1 h2=>by
 rw [Array.getElem?_append] at h1 h2;by_cases hi:i<a.size
 .rw [if_pos hi] at h1;rw [if_pos (by rw [<-h.size];exact hi)] at h2;exact h.at_ i v v' h1 h2
 .rw [if_neg hi] at h1;rw [if_neg (by rw [<-h.size];exact hi),<-h.size] at h2;exact k.at_ _ v v' h1 h2⟩
def Zi (i:TypeInfo):Prop:=∀z,i.zero=some z->∀ρ,RV ρ z z
theorem AT {ρ:Ren}{c:Array Wq}(h:RVs ρ c c)(n:Nat):RVs ρ (Array.replicate n c).flatten (Array.replicate n c).flatten:=by
 induction n with
 |zero=>simp;exact RVs.nil
 |succ n ih=>
  rw [Array.replicate_succ,Array.flatten_push];exact ih.append' h
theorem AU {α β:Type}(body:α->β->Option (ForInStep β))(I:β->Prop)(hb:∀a b s,I b->body a b=some s->I (match s with| .done x=>x| .yield x=>x)):∀ (l:List α)(b r:β),I b->forIn l b body=some r->I r:=by
 intro l;induction l with
 |nil=>intro b r c h;simp at h;subst h;exact c
 |cons a l ih=>
  intro b r c h;rw [List.forIn_cons] at h;cases hx:body a b with
  |none=>rw [hx] at h;cases h
  |some s=>
   rw [hx] at h;have:=hb a b s c hx;cases s with
   |done x=>cases h;exact this
   |yield x=>exact ih x r this h
theorem lq {d:TypeDesc}{a:String}{z:Wq}{c:Bool}{b:Nat}(h:mJ z=true):Zi (Made.word d a z c b):=fun y hy ρ=>by
 cases hy;exact iN h ρ
theorem AV {info:Wk->Option TypeInfo}(hi:∀t i,info t=some i->Zi i){fs:Array Field}{i:TypeInfo}(h:Made.reckonStruct info fs=some i):Zi i:=by
 unfold Made.reckonStruct at h;dsimp only at h;rw [<-Array.forIn_toList] at h;rw [Option.bind_eq_bind,Option.bind_eq_some_iff] at h;obtain ⟨r,hr,h⟩:=h;have key:=AU _ (fun r=>∀a,r.2.2.2.2.2.2.2.1=some a->∀ρ,RVs ρ a a) (fun f b s hI hs=>by
  rw [Option.bind_eq_bind,Option.bind_eq_some_iff] at hs;obtain ⟨i,hf,hs⟩:=hs;have hz:∀a,(if b.2.1+i.size > Made.mostCells then none else (b.2.2.2.2.2.2.2.1.bind fun x=>i.zero.bind fun y=>some (x++y.cells)))=some a->∀ρ,RVs ρ a a:=fun a ha ρ=>by
   split at ha
   .cases ha
   .rw [Option.bind_eq_some_iff] at ha;obtain ⟨x,hx,ha⟩:=ha;rw [Option.bind_eq_some_iff] at ha;obtain ⟨y,hy,ha⟩:=ha;cases ha;exact (hI x hx ρ).append' (px (hi _ _ hf y hy ρ))
  simp only [Option.bind_eq_bind,Option.pure_def,Option.bind_none,Option.bind_some] at hs;generalize (if b.2.1+i.size > Made.mostCells then none else (b.2.2.2.2.2.2.2.1.bind fun x=>i.zero.bind fun y=>some (x++y.cells)))=zx at hs hz
  generalize (if b.fst.size + 1 < fs.size then ";" else "") = sm at hs
  split at hs
  .cases hs
  .split at hs
   .cases hs
   .split at hs
    .split at hs<;>(cases hs;exact hz)
    .rw [Option.bind_eq_some_iff] at hs;obtain ⟨tg,-,hs⟩:=hs;split at hs<;>(cases hs;exact hz)) _ _ r (fun a ha ρ=>by cases ha;exact RVs.nil) hr
 intro z hz ρ;have fin:∀ (o:Option (Array Wq)),(∀a,o=some a->∀ρ,RVs ρ a a)->o.map Value.agg=some z->RV ρ z z:=fun o ho h=>by
  cases o with
  |none=>cases h
  |some a=>cases h;exact .agg rfl (ho a rfl ρ).at_
 split at h
 .cases h;exact fin _ key hz
 .cases h;exact fin _ key hz
theorem AW {a:Wk->Option TypeInfo}(hi:∀t i,a t=some i->Zi i){d:TypeDesc}{i:TypeInfo}(h:Made.reckon a d=some i):Zi i:=by
 unfold Made.reckon at h;cases d with
 |struct fs=>exact AV hi h
 |array n e=>
  simp only [Option.bind_eq_bind,Option.pure_def,Option.bind_eq_some_iff] at h;obtain ⟨j,b,s,-,h⟩:=h;cases h;intro z hz ρ;simp only at hz;split at hz
  .cases hz
  .split at hz
   .cases hz;exact .agg rfl RVs.nil.at_
   .cases hx:j.zero with
    |none=>rw [hx] at hz;cases hz
    |some y=>
     rw [hx] at hz;cases hz;exact .agg rfl (AT (px (hi _ _ b y hx ρ)) n).at_
 |pointer e=>
  simp only [Option.bind_eq_bind,Option.pure_def,Option.bind_eq_some_iff] at h;obtain ⟨j,b,h⟩:=h;split at h
  .cases h
  .split at h
   .cases h
   .rw [Option.bind_eq_some_iff] at h;obtain ⟨s,-,h⟩:=h;cases h;exact lq rfl
  .rw [Option.bind_eq_some_iff] at h;obtain ⟨s,-,h⟩:=h;cases h;exact lq rfl
 |slice e=>
  simp only [Option.bind_eq_bind,Option.pure_def,Option.bind_eq_some_iff] at h;obtain ⟨j,b,s,-,h⟩:=h;cases h;exact lq rfl
 |map k e=>
  simp only [Option.bind_eq_bind,Option.pure_def,Option.bind_eq_some_iff] at h;obtain ⟨j,b,s,-,j2,-,s2,-,h⟩:=h;cases h;exact lq rfl
 |chan dir e=>
  simp only [Option.bind_eq_bind,Option.pure_def,Option.bind_eq_some_iff] at h;obtain ⟨j,b,s,-,h⟩:=h;cases h;exact lq rfl
 |func ps rs v=>
  simp only [Option.bind_eq_bind,Option.pure_def,Option.bind_eq_some_iff] at h;obtain ⟨s,-,h⟩:=h;cases h;exact lq rfl
 |_=>cases h
theorem Fg {P:Wx}(h:∀ (t:Nat)(i:TypeInfo)(z:Wq),P.types[t]?=some i->i.zero=some z->C9 z=true):bF P:=by
 have ht:∀ (t:Nat) (i:TypeInfo),P.types[t]?=some i->Zi i:=fun t i hi z hz ρ=>yK (h t i z hi hz) ρ
 have hm:∀f t i,Made.infoAt P.toTables f t=some i->Zi i:=fun f=>by
  induction f with
  |zero=>intro t i h;cases h
  |succ f ih=>
   intro t i h;unfold Made.infoAt at h;split at h
   .exact ht t i h
   .rw [Option.bind_eq_some_iff] at h;obtain ⟨d,-,h⟩:=h;exact AW (fun t i h=>ih t i h) h
 intro t i z hi hz ρ;unfold Tables.info? at hi;split at hi
 .exact ht t i hi z hz ρ
 .exact hm _ t i hi z hz ρ
def rg (a b f:Nat):Bool:=Nat.ble a f&&Nat.ble f b
def Gs (f:Nat):Bool:=rg 3 68 f||rg 70 96 f||rg 98 118 f||rg 121 137 f||rg 141 154 f||rg 158 164 f||rg 167 171 f||rg 176 179 f||rg 182 183 f||f==1000000||f==1000001||f==2000069
def Ss (f:Nat):Bool:=f==64||f==91||f==101||f==111||f==116||rg 119 120 f||rg 122 123 f||rg 133 135 f||rg 138 140 f||f==153||rg 155 157 f||rg 165 166 f||rg 172 175 f||rg 180 181 f||f==1000002
def Rs (f:Nat):Bool:=f==98||f==121||f==141||f==151||f==158||rg 167 170 f||rg 176 179 f||rg 182 183 f||f==1000001
def As (f:Nat):Bool:=rg 3 183 f||rg 1000000 1000003 f
def Da (P:Wx)(F:FuncId->Bool):Bool:=(List.range 206).all fun f=>!F f||(match P.funcs[f]? with|some fn=>(match fn.body with|some b=>aA P F b|none=>f==136||f==173||f==180)|none=>true)
theorem gB {P:Wx}{F:FuncId->Bool}(h:Da P F=true)(hs:P.funcs.size=206):∀ (f:FuncId) fn b,F f=true->P.funcs[f]?=some fn->fn.body=some b->aA P F b=true:=fun f fn b hF hf hb=>by
 have hlt:f<206:=by rw [<-hs];exact (eS hf).1
 have:=List.all_eq_true.1 h f (List.mem_range.2 hlt);rw [hF,hf] at this;simp only [hb] at this;simpa using this
theorem AX {P:Wx}{F:FuncId->Bool}(h:Da P F=true)(hs:P.funcs.size=206):∀ (f:FuncId) fn,F f=true->P.funcs[f]?=some fn->fn.body=none->f=136\/f=173\/f=180:=fun f fn hF hf hb=>by
 have hlt:f<206:=by rw [<-hs];exact (eS hf).1
 have:=List.all_eq_true.1 h f (List.mem_range.2 hlt);rw [hF,hf] at this;simp only [hb] at this;have:=this;simp at this;rcases this with (h|h)|h
 .exact .inl h
 .exact .inr (.inl h)
 .exact .inr (.inr h)
theorem nX:Tryz.prog.funcs.size=206:=by kernel_rfl
theorem nY:Yq.prog.funcs.size=206:=by kernel_rfl
theorem GL:Da Tryz.prog Gs=true:=by kernel_rfl
theorem GM:Da Tryz.prog Ss=true:=by kernel_rfl
theorem GN:Da Tryz.prog Rs=true:=by kernel_rfl
theorem Ex:Da Yq.prog Ss=true:=by kernel_rfl
theorem Ey:Da Yq.prog Rs=true:=by kernel_rfl
theorem Ez:Da Yq.prog As=true:=by kernel_rfl
theorem Hp:aA Tryz.prog Gs (cy (gN bH))=true/\aA Tryz.prog Gs (cy bH)=true:=⟨by kernel_rfl,by kernel_rfl⟩
theorem Hq:aA Tryz.prog Rs (cy (gN bH))=true/\aA Tryz.prog Rs (cy bH)=true:=⟨by kernel_rfl,by kernel_rfl⟩
theorem Hr:aA Yq.prog Rs (cy (gN bH))=true/\aA Yq.prog Rs (cy bH)=true:=⟨by kernel_rfl,by kernel_rfl⟩
theorem GO:aA Tryz.prog Rs (bu Tryz.f69)=false:=by kernel_rfl
def Ib (P:Wx):Bool:=P.types.all fun i=>match i.zero with|some z=>C9 z|none=>true
theorem nZ {P:Wx}(h:Ib P=true):bF P:=Fg fun t i z hi hz=>by
 obtain ⟨ht,rfl⟩:=eS hi;have:=Array.all_eq_true.1 h t ht;simp only [hz] at this;exact this
theorem GP:bF Tryz.prog:=nZ (by kernel_rfl)
theorem GQ:bF Yq.prog:=nZ (by kernel_rfl)
theorem mt {P : Wx} (h : (P.funcs.all fun f => !(f.name == "runtime.NumGoroutine")) = true) : bL P := fun f fn hf e => by
 obtain ⟨ht,rfl⟩:=eS hf;have:=Array.all_eq_true.1 h f ht;rw [e] at this;cases this
theorem Fh:bL Tryz.prog:=mt (by kernel_rfl)
theorem Fi:bL Yq.prog:=mt (by kernel_rfl)
section
variable {P:Wx} [Two P] {ρ:Ren}
theorem AY:∀ (n:Nat){ρ:Ren}{a a':Ww}(c:ByteArray),RA ρ a a'->RS P QE ρ (Extern.Bytes.loadBytes a n c) (Extern.Bytes.loadBytes a' n c):=by
 intro n;induction n with
 |zero=>intro ρ a a' c _;exact aa rfl
 |succ n ih=>
  intro ρ a a' c h;unfold Extern.Bytes.loadBytes;refine ag (nw h _) (fun ρ1 l1 v v' hv=>?_);cases hv with
  |int k b=>cases k<;>first|exact ac _|exact ih _ ((h.mono l1).add 1)
  |_=>exact ac _
theorem lr {v v':Wq}(h:RV ρ v v'):RS P QE ρ (Extern.Bytes.bytesOf v) (Extern.Bytes.bytesOf v'):=by
 cases h with
 |string s=>exact aa rfl
 |slice n c ha=>
  cases ha with
  |none=>exact aa rfl
  |some ha=>exact AY n _ ha
 |_=>exact ac _
theorem AZ {v v':Wq}(h:RV ρ v v'):RS P QE ρ (Extern.Bytes.asByte v) (Extern.Bytes.asByte v'):=by
 cases h with
 |int k n=>cases k<;>first|exact ac _|exact aa rfl
 |_=>exact ac _
theorem A0 {Q:Ren->Wq->Wq->Prop}{g:Array Wq->Sem Wq}(h:∀x x' y b,RV ρ x x'->RV ρ y b->RS P Q ρ (g #[x,y]) (g #[x',b]))(hn:∀a:Array Wq,a.size≠2->cY P (g a)){a a':Array Wq}(hr:RVs ρ a a'):RS P Q ρ (g a) (g a'):=by
 by_cases hs:a.size=2
 .obtain ⟨l⟩:=a;obtain ⟨l'⟩:=a';have hl:l.length=l'.length:=by simpa using hr.size
  rcases l with - |⟨x,- |⟨y,- |⟨z,l⟩⟩⟩<;>simp at hs
  rcases l' with - |⟨x',- |⟨b,- |⟨z',l'⟩⟩⟩<;>simp at hl
  exact h x x' y b (hr.at_ 0 x x' rfl rfl) (hr.at_ 1 y b rfl rfl)
 .exact .lost (hn a hs) _
theorem sQ {a a':Array Wq}(hr:RVs ρ a a'):RS P QV ρ (Extern.BytealgIndexByte.indexByte a) (Extern.BytealgIndexByte.indexByte a'):=by
 refine A0 (fun x x' y y' hx hy=>?_) (fun a ha=>?_) hr
 .unfold Extern.BytealgIndexByte.indexByte;refine ae (lr hx) (fun ρ1 l1 b=>?_);refine ae (AZ (hy.mono l1)) (fun ρ2 l2 c=>?_);split<;>exact aa (.int _ _)
 .obtain ⟨l⟩:=a;rcases l with - |⟨x,- |⟨y,- |⟨z,l⟩⟩⟩
  .exact .halt rfl
  .exact .halt rfl
  .simp at ha
  .exact .halt rfl
theorem qL (b:GId P ρ)(a:String):RS P QA ρ (globalAddr a) (globalAddr a):=by
 unfold globalAddr;refine aV ?_ rfl;cases h:P.globals.findIdx? (·.name==a) with
 |none=>exact ac _
 |some g=>
  refine aa ⟨b.glob g ?_,rfl,rfl⟩;exact (Array.findIdx?_eq_some_iff_getElem.1 h).1
theorem A2 (b:GId P ρ):RS P QE ρ Extern.BytealgIndex.maxLen Extern.BytealgIndex.maxLen:=by
 unfold Extern.BytealgIndex.maxLen;refine ag (qL b _) (fun ρ1 l1 a a' h=>?_);refine ag (nw h _) (fun ρ2 l2 v v' hv=>fK hv)
theorem A3 (d:GId P ρ){a a':Array Wq}(hr:RVs ρ a a'):RS P QV ρ (Extern.BytealgIndex.index a) (Extern.BytealgIndex.index a'):=by
 refine A0 (fun x x' y y' hx hy=>?_) (fun a ha=>?_) hr
 .unfold Extern.BytealgIndex.index;refine ae (lr hx) (fun ρ1 l1 b=>?_);refine ae (lr (hy.mono l1)) (fun ρ2 l2 c=>?_);refine ae (A2 ((d.mono l1).mono l2)) (fun ρ3 l3 m=>?_);refine av (fun _=>aQ (ah _)) (fun _=>?_);refine av (fun _=>aQ (ah _)) (fun _=>?_);split<;>exact aa (.int _ _)
 .obtain ⟨l⟩:=a;rcases l with - |⟨x,- |⟨y,- |⟨z,l⟩⟩⟩
  .exact .halt rfl
  .exact .halt rfl
  .simp at ha
  .exact .halt rfl
theorem km (b:ρ.F mh=true){a a':Ww}(h:RA ρ a a'):RS P QE ρ (frozen a) (frozen a'):=.frozen h (fun s=>aa rfl) (fun e=>by rw [b] at e;cases e)
theorem mu (b:ρ.F mh=true){a a':Ww}(h:RA ρ a a'):RS P QE ρ (stringish a) (stringish a'):=by
 unfold stringish;refine ae (km b h) (fun ρ0 l0 z=>?_);refine av (fun _=>aa rfl) (fun _=>?_);refine ae (eX (l0 _ _ h.1)) (fun ρ1 l1 s=>?_);rcases s with - |⟨e,n⟩
 .exact aa rfl
 .exact km (by rw [l1.F,l0.F];exact b) ⟨l1 _ _ (l0 _ _ h.1),rfl,rfl⟩
theorem vp (c:ρ.F mh=true){a a' b b':Ww}(ha:RA ρ a a')(hb:RA ρ b b'):RS P QE ρ (mayBeOne a b) (mayBeOne a' b'):=by
 unfold mayBeOne;refine ae (mu c ha) (fun ρ1 l1 x=>?_);refine ae (mu (by rw [l1.F];exact c) (hb.mono l1)) (fun ρ2 l2 y=>?_);refine ae (ae (eX (l2 _ _ (l1 _ _ ha.1))) (fun d l3 s=>aa rfl)) (fun d l3 u=>?_);refine ae (ae (eX (l3 _ _ (l2 _ _ (l1 _ _ hb.1)))) (fun e l4 s=>aa rfl)) (fun e l4 v=>?_);exact aa rfl
theorem vq (e:ρ.F mh=true)(ps k:Array Wk){a a':Array Wq}(hr:RVs ρ a a'):RS P QV ρ (Extern.SlicesOverlaps.overlaps ps k a) (Extern.SlicesOverlaps.overlaps ps k a'):=by
 refine A0 (g:=Extern.SlicesOverlaps.overlaps ps k) (fun x x' y y' hx hy=>?_) (fun a ha=>?_) hr
 .cases hx with
  | @slice a a' la ca j=>
   cases hy with
   | @slice b b' lb cb h=>
    unfold Extern.SlicesOverlaps.overlaps;cases hp:ps[0]? with
    |none=>exact ac _
    |some t=>
     refine ae (ao t) (fun ρ1 l1 d=>?_);cases d with
     |slice o=>
      refine ae (bc o) (fun ρ2 l2 sz=>?_);cases j with
      |none=>exact aa (.bool _)
      | @some a a' ha=>
       cases h with
       |none=>exact aa (.bool _)
       | @some b b' hb=>
        have l12:=Ren.le_trans l1 l2;refine av (fun _=>aa (.bool _)) (fun _=>?_);refine ae (km (by rw [l12.F];exact e) (ha.mono l12)) (fun ρ3 l3 fa=>?_);refine ae (km (by rw [l3.F,l12.F];exact e) ((hb.mono l12).mono l3)) (fun p l4 fb=>?_);have l04:=Ren.le_trans (Ren.le_trans l12 l3) l4;have hA:=ha.mono l04;have hBb:=hb.mono l04;have hne:(a.block != b.block)=(a'.block != b'.block):=by
         have:=gx hA.1 hBb.1;simp only [bne,this]
        have f:(a.block==b.block)=(a'.block==b'.block):=gx hA.1 hBb.1;have i:p.F mh=true:=by rw [l04.F];exact e
        rw [<-hne,<-ha.2.1,<-hb.2.1,<-f];refine av (fun _=>ah _) (fun _=>?_);refine av (fun _=>?_) (fun _=>aa (.bool _));refine ag (nC hA) (fun ρ5 l5 _ _ _=>?_);refine ag (nC (hBb.mono l5)) (fun ρ6 c _ _ _=>?_);refine ae (vp (by rw [c.F,l5.F];exact i) ((hA.mono l5).mono c) ((hBb.mono l5).mono c)) (fun ρ7 l7 m=>?_);refine av (fun _=>?_) (fun _=>aa (.bool _));exact ae (cZ _) (fun ρ8 l8 n=>aa (.bool _))
     |_=>exact ac _
   |_=>exact ac _
  |_=>exact ac _
 .obtain ⟨l⟩:=a;rcases l with - |⟨x,- |⟨y,- |⟨z,l⟩⟩⟩
  .exact .halt rfl
  .exact .halt rfl
  .simp at ha
  .exact .halt rfl
end
theorem Db {P : Wx} [Two P] {F : FuncId → Bool} (hx : ∀ f fn, F f = true → P.funcs[f]? = some fn → fn.body = none → fn.name ≠ "runtime.NumGoroutine" ∧ Extern.findNext fn = none ∧ ∃ e, Extern.find fn = some e ∧ ∀ ρ a a', ρ.F = F → GId P ρ → RVs ρ a a' → RS P QV ρ (e a) (e a')) : ge P F := by
 intro f fn hF hf hb ρ a a' hFF hI h;obtain ⟨h1,h2,e,h3,h4⟩:=hx f fn hF hf hb
 have hn : (fn.name == "runtime.NumGoroutine") = false := beq_eq_false_iff_ne.2 h1
 unfold callFunc;refine aV ?_ (by simp only [hI.alt f (by rw [hFF];exact hF)]);simp only [hf,hn,hb,Option.isNone_none,if_true,h2,h3];exact .mark (.extern f) (bQ (h4 ρ a a' hFF hI h))
@[reducible] noncomputable def yL:Two Tryz.prog:=⟨Yq.prog.funcs⟩
@[reducible] noncomputable def yM:Two Yq.prog:=⟨Yq.prog.funcs⟩
theorem GR {P:Wx}{p q:FuncId}{a b:Func}:@Program.alt P ⟨(Sw.prog P p q a b).funcs⟩=Sw.prog P p q a b:=rfl
theorem Fj {P:Wx}:@Program.alt P ⟨P.funcs⟩=P:=rfl
theorem n7:@Program.alt Tryz.prog yL=Yq.prog:=GR
theorem qM:@Program.alt Yq.prog yM=Yq.prog:=Fj
theorem Fk:Extern.findNext Tryz.f136=none:=by kernel_rfl
theorem Fm:Extern.findNext Tryz.f173=none:=by kernel_rfl
theorem Fo:Extern.findNext Tryz.f180=none:=by kernel_rfl
theorem Fq:Extern.find Tryz.f136=some (Extern.SlicesOverlaps.overlaps Tryz.f136.params Tryz.f136.resultTypes):=by kernel_rfl
theorem Ft:Extern.find Tryz.f173=some Extern.BytealgIndex.index:=by kernel_rfl
theorem Fu:Extern.find Tryz.f180=some Extern.BytealgIndexByte.indexByte:=by kernel_rfl
theorem py {P:Wx} [Two P]{F:FuncId->Bool}(hs:P.funcs.size=206)(hc:Da P F=true)(c:P.funcs[136]?=some Tryz.f136)(e:P.funcs[173]?=some Tryz.f173)(d:P.funcs[180]?=some Tryz.f180)(j:F 136=true->F mh=true):ge P F:=
 Db fun f fn hF hf hb=>by
  rcases AX hc hs f fn hF hf hb with rfl|rfl|rfl
  .rw [c] at hf;cases hf;exact ⟨by decide,Fk,_,Fq,fun ρ a a' b i h=>vq (by rw [b];exact j hF) _ _ h⟩
  .rw [e] at hf;cases hf;exact ⟨by decide,Fm,_,Ft,fun ρ a a' b i h=>A3 i h⟩
  .rw [d] at hf;cases hf;exact ⟨by decide,Fo,_,Fu,fun ρ a a' b i h=>sQ h⟩
theorem wX {f:Nat}(h1:69≠f)(h2:97≠f):Yq.prog.funcs[f]?=Tryz.prog.funcs[f]?:=Sw.ne h1 h2 rfl
theorem size_eq:Yq.prog.funcs.size=Tryz.prog.funcs.size:=nY.trans nX.symm
theorem qN (f:Nat):(Yq.prog.funcs[f]?).map strip=(Tryz.prog.funcs[f]?).map strip:=by
 by_cases h1:69=f
 .subst h1;rw [Yq.func69,func69];rfl
 .by_cases h2:97=f
  .subst h2;rw [Yq.func97,func97];rfl
  .rw [wX h1 h2]
theorem H0 {f:Nat}(h:Mk Gs f=true):f=69:=by
 have h:Gs (2000000+f)=true:=h;unfold Gs rg at h;simp only [Bool.or_eq_true,bT,Nat.ble_eq,beq_iff_eq] at h;omega
theorem Hs (f:Nat):¬Mk Ss f=true:=fun h=>by
 have h:Ss (2000000+f)=true:=h;unfold Ss rg at h;simp only [Bool.or_eq_true,bT,Nat.ble_eq,beq_iff_eq] at h;omega
theorem Ht (f:Nat):¬Mk Rs f=true:=fun h=>by
 have h:Rs (2000000+f)=true:=h;unfold Rs rg at h;simp only [Bool.or_eq_true,bT,Nat.ble_eq,beq_iff_eq] at h;omega
theorem H5 (f:Nat):¬Mk As f=true:=fun h=>by
 have h:As (2000000+f)=true:=h;unfold As rg at h;simp only [Bool.or_eq_true,bT,Nat.ble_eq] at h;omega
theorem Fv {F:FuncId->Bool}(h1:F 69=false)(h2:F 97=false){f:Nat}(h:F f=true):Yq.prog.funcs[f]?=Tryz.prog.funcs[f]?:=
 wX (fun e=>by subst e;rw [h1] at h;cases h) (fun e=>by subst e;rw [h2] at h;cases h)
theorem GS:@gz Tryz.prog yL Gs:=
 @gz.mk Tryz.prog yL Gs (gB GL nX) (fun f h=>by rw [n7];exact Fv (by decide) (by decide) h) (fun f=>by rw [n7];exact qN f) (by rw [n7];exact size_eq) (fun f h=>by
  obtain rfl:=H0 h;rw [n7];exact ⟨_,_,Yq.func69,func69,rfl,rfl,rfl⟩) (@py Tryz.prog yL Gs nX GL func136 func173 func180 (fun _=>by decide))
theorem GT:@gz Tryz.prog yL Ss:=
 @gz.mk Tryz.prog yL Ss (gB GM nX) (fun f h=>by rw [n7];exact Fv (by decide) (by decide) h) (fun f=>by rw [n7];exact qN f) (by rw [n7];exact size_eq) (fun f h=>absurd h (Hs f)) (@py Tryz.prog yL Ss nX GM func136 func173 func180 (fun h=>absurd h (by decide)))
theorem GU:@gz Tryz.prog yL Rs:=
 @gz.mk Tryz.prog yL Rs (gB GN nX) (fun f h=>by rw [n7];exact Fv (by decide) (by decide) h) (fun f=>by rw [n7];exact qN f) (by rw [n7];exact size_eq) (fun f h=>absurd h (Ht f)) (@py Tryz.prog yL Rs nX GN func136 func173 func180 (fun h=>absurd h (by decide)))
theorem Fw:@gz Yq.prog yM Ss:=
 @gz.mk Yq.prog yM Ss (gB Ex nY) (fun _ _=>by rw [qM]) (fun _=>by rw [qM]) (by rw [qM]) (fun f h=>absurd h (Hs f)) (@py Yq.prog yM Ss nY Ex (Yq.nq func136) (Yq.nq func173) (Yq.nq func180) (fun h=>absurd h (by decide)))
theorem Fx:@gz Yq.prog yM Rs:=
 @gz.mk Yq.prog yM Rs (gB Ey nY) (fun _ _=>by rw [qM]) (fun _=>by rw [qM]) (by rw [qM]) (fun f h=>absurd h (Ht f)) (@py Yq.prog yM Rs nY Ey (Yq.nq func136) (Yq.nq func173) (Yq.nq func180) (fun h=>absurd h (by decide)))
theorem Fy:@gz Yq.prog yM As:=
 @gz.mk Yq.prog yM As (gB Ez nY) (fun _ _=>by rw [qM]) (fun _=>by rw [qM]) (by rw [qM]) (fun f h=>absurd h (H5 f)) (@py Yq.prog yM As nY Ez (Yq.nq func136) (Yq.nq func173) (Yq.nq func180) (fun _=>by decide))
theorem env:@qJ yL yM Gs Ss Rs:=
 @qJ.mk yL yM Gs Ss Rs n7 GP GQ Fh Fi GT GU Fw Fx (fun _f h=>H0 h) ⟨rfl,rfl,rfl⟩ Hs rfl ⟨rfl,rfl,rfl⟩ Ht Hp Hq Hr GO
section
open Go.Conc Go.ConcX Go.ConcX.Gen Go.RowKit
def wf (ro:Option Nat):Fence:={Fence.wide with round:=ro}
theorem Hu {ro:Option Nat}{P:Wx}(m:Machine):m.fenced P (wf ro):=fenced_wide P m
theorem qO {ro:Option Nat}{P:Wx}{m m':Machine}:StepsIn (Machine.fenced P (wf ro)) P m m'↔Steps P m m':=
 ⟨StepsIn.steps,fun h=>(StepsIn.of_steps h).mono fun m _=>Hu m⟩
theorem Fz (ro:Option Nat)(k:Nat):(wf ro).room k:=fun _ h=>by cases h
section
variable {P:Wx} {ops:Array Oper} {ro:Option Nat}
def yN (P:Wx)(ops:Array Oper)(ro:Option Nat)(i:Nat)(a:Act)(w:Wz)(K:Act->Wz->Prop):Prop:=
 ∀ (b:Wv) (k:List Item) (cs:List Wv) (rest:List Nat),b.roundOf=ro ->
  ∃a' w',K a' w'/\Steps P (lone (b.atR a (.inRegion ops (i::rest)::k)) cs w) (lone (b.atR a' (.inRegion ops rest::k)) cs w')
def yO (P:Wx)(ops:Array Oper)(ro:Option Nat)(K:Act->Wz->Prop):List Nat->Act->Wz->Prop
 | [],a,w=>K a w
 |i::r,a,w=>yN P ops ro i a w (yO P ops ro K r)
theorem yN.mono {i:Nat}{a:Act}{w:Wz}{K K':Act->Wz->Prop}(h:yN P ops ro i a w K)(hk:∀a w,K a w->K' a w):yN P ops ro i a w K':=
 fun b k cs rest hb=>let ⟨a',w',h1,h2⟩:=h b k cs rest hb;⟨a',w',hk _ _ h1,h2⟩
theorem jL {K:Act->Wz->Prop}{b:Wv}{k:List Item}{cs:List Wv}(hb:b.roundOf=ro):∀ (l:List Nat)(a:Act)(w:Wz),yO P ops ro K l a w ->
  ∃a' w',K a' w'/\Steps P (lone (b.atR a (.inRegion ops l::k)) cs w) (lone (b.atR a' k) cs w')
 | [],a,w,h=>⟨a,w,h,.one stepR_region_end⟩
 |i::r,a,w,h=>by
  obtain ⟨c,w1,h1,s1⟩:=h b k cs r hb;obtain ⟨a2,w2,h2,s2⟩:=jL hb r c w1 h1;exact ⟨a2,w2,h2,s1.trans s2⟩
theorem A4 {id n:Nat}{Q:Exit->Act->Wz->Prop}{a:Act}{w:Wz}(h:yO P ops ro (Q .normal) (List.range ops.size) a w):(Code.region id ops false).wpIn (wf ro) n P Q a w:=by
 intro b k cs hb _ _;obtain ⟨a',w',h1,h2⟩:=jL (b:=b) (k:=k) (cs:=cs) hb _ _ _ h;exact ⟨.normal,a',w',h1,qO.2 (.head stepR_region h2)⟩
theorem an {i:Nat}{o:Oper}{a:Act}{w w':Wz}{v:Wq}{K:Act->Wz->Prop}(ho:ops[i]?=some o)(hw:Region.wanted o (yielded ops a.tmps)=true)(hd:∀c,o.op≠.defer c)(hr:(execOp a.eval o).run P w=.ok (.value v) w')(e:K (a.put o.dst v) w'):yN P ops ro i a w K:=by
 intro b k cs rest hb;refine ⟨_,_,e,.one ?_⟩;have hg:=stepGR_op (P:=P) (b:=b) (k:=k) (cs:=cs) (w:=w) (rest:=rest) ho hw;rw [Oper.semAt_eq _ _ _ hd] at hg;have d:(b.atR a (.inRegion ops (i::rest)::k)).finish v=b.atR (a.put o.dst v) (.inRegion ops rest::k):=by rw [Frame.finish_atR,ho];rfl
 exact step_lone_go (by rw [hg,<-d];simp [stepG.apply,hr])
theorem iO {i:Nat}{o:Oper}{a:Act}{w w':Wz}{f:FuncId}{args:Array Wq}{K:Act->Wz->Prop}(ho:ops[i]?=some o)(hw:Region.wanted o (yielded ops a.tmps)=true)(hd:∀c,o.op≠.defer c)(hr:(execOp a.eval o).run P w=.ok (.enter f args) w')
  (l:Calls P f args w' fun e w''=>∃v,e=.returned v/\K (a.put o.dst v) w''):yN P ops ro i a w K:=by
 intro b k cs rest hb;obtain ⟨e,w2,fr,⟨v,rfl,j⟩,hs,-,hl⟩:=l (b.atR a (.inRegion ops (i::rest)::k)::cs);have hs:Steps P _ _:=hs;refine ⟨_,_,j,?_⟩;have hg:=stepGR_op (P:=P) (b:=b) (k:=k) (cs:=cs) (w:=w) (rest:=rest) ho hw;rw [Oper.semAt_eq _ _ _ hd] at hg;have d:step P (lone (b.atR a (.inRegion ops (i::rest)::k)) cs w)=.next (lone (Frame.enter P f args .normal) (b.atR a (.inRegion ops (i::rest)::k)::cs) w'):=
  step_lone_go (by rw [hg];simp [stepG.apply,hr,Frame.atR])
 have h:(b.atR a (.inRegion ops (i::rest)::k)).finish v=b.atR (a.put o.dst v) (.inRegion ops rest::k):=by rw [Frame.finish_atR,ho];rfl
 refine .head d (hs.trans (.one ?_));rw [<-h];exact step_leave_returned hl
theorem n9 {i:Nat}{o:Oper}{a:Act}{w:Wz}{x y:Operand}{c cap s r:Nat}{buf:Array Wq}{tm:Bool}{K:Act->Wz->Prop}(ho:ops[i]?=some o)(hw:Region.wanted o (yielded ops a.tmps)=true)(j:o.op=.send x y)(hx:a.eval x=.chan (some c))
  (hc:w.heap[c]?=some (.chan cap buf false s r tm)) (hroom:buf.size<cap) (m:K (a.put o.dst Wy) (w.setChan c cap (buf.push (a.eval y)) false (s+1) r tm)):yN P ops ro i a w K:=by
 intro b k cs rest hb;refine ⟨_,_,m,.one ?_⟩;have hg:=stepGR_op (P:=P) (b:=b) (k:=k) (cs:=cs) (w:=w) (rest:=rest) ho hw;rw [Oper.semAt_eq _ _ _ (by rw [j];exact fun c h=>by cases h)] at hg;have he:(execOp a.eval o).run P w=.ok (.comm #[scase c (a.eval y) (.tuple #[])] true .send) w:=by
  have e:execOp a.eval o=pure (.comm #[{chan:=a.eval x,send:=some (a.eval y),zero:=.tuple #[]}] true .send):=by simp only [execOp,j]
  rw [e,hx];rfl
 have f:(b.atR a (.inRegion ops (i::rest)::k)).finish Wy=b.atR (a.put o.dst Wy) (.inRegion ops rest::k):=by rw [Frame.finish_atR,ho];rfl
 obtain ⟨es,d⟩:∃es,stepG P true (G (b.atR a (.inRegion ops (i::rest)::k)) cs) w=.comm (G (b.atR a (.inRegion ops (i::rest)::k)) cs) #[scase c (a.eval y) (.tuple #[])] true .send w es:=by
  have l:stepG P true (G (b.atR a (.inRegion ops (i::rest)::k)) cs) w=_:=hg;rw [l];simp only [stepG.apply,G,Frame.atR,GStep.after,if_true];have h1:((execOp a.eval o).runT P w #[]).1=.ok (.comm #[scase c (a.eval y) (.tuple #[])] true .send) w:=by rw [Sem.runT_eq];exact he
  generalize (execOp a.eval o).runT P w #[]=z at h1;obtain ⟨z1,z2⟩:=z;subst h1;exact ⟨_,rfl⟩
 rw [<-f];exact step_lone_send_room d hc hroom
theorem A5 {K:Act->Wz->Prop}(I:Array Bool->Act->Wz->Prop)(b:∀listed a w i,I listed a w->i∈Region.ready .any ops listed->yN P ops ro i a w (I (listed.setIfInBounds i true)))(hend:∀listed a w,I listed a w->Region.ready .any ops listed=[]->K a w):
  ∀ (fuel t:Nat) (listed:Array Bool) (a:Act) (w:Wz),I listed a w->(List.range ops.size).countP (fun i=>!listed.getD i true)<=fuel->yO P ops ro K (Region.linearise.go .any ops fuel t listed []) a w:=by
 intro fuel;induction fuel with
 |zero=>
  intro t listed a w c hz;have d:Region.ready .any ops listed=[]:=by
   unfold Region.ready;rw [List.filter_eq_nil_iff];intro i hi h;have:=List.countP_eq_zero.1 (Nat.le_zero.1 hz) i hi;simp only [bT] at h;exact this h.1
  simp only [Region.linearise.go];exact hend _ _ _ c d
 |succ fuel ih=>
  intro t listed a w c hz;simp only [Region.linearise.go];change yO P ops ro K (match (Region.ready .any ops listed)[t % (Region.ready .any ops listed).length]? with
   |some i=>Region.linearise.go .any ops fuel (t / (Region.ready .any ops listed).length) (listed.setIfInBounds i true) [i]
   |none=>[].reverse) a w
  cases hi:(Region.ready .any ops listed)[t % (Region.ready .any ops listed).length]? with
  |none=>
   refine hend _ _ _ c ?_;cases hr:Region.ready .any ops listed with
   |nil=>rfl
   |cons x xs=>
    rw [hr,List.getElem?_eq_none_iff] at hi;have:=Nat.mod_lt t (show 0<(x::xs).length by simp);omega
  |some i=>
   simp only [];rw [linearise_go_acc,List.reverse_singleton,List.singleton_append];have hm:=List.mem_of_getElem? hi;refine (b _ _ _ i c hm).mono fun a' w' hI'=>ih _ _ _ _ hI' ?_
   have hm':=List.mem_filter.1 hm;have hlt:i<ops.size:=List.mem_range.1 hm'.1;have h1:(!listed.getD i true)=true:=by
    have:=hm'.2;simp only [bT] at this;exact this.1
   have hls:i<listed.size:=by
    rcases Nat.lt_or_ge i listed.size with h|h
    .exact h
    .rw [gD,Array.getElem?_eq_none h] at h1;cases h1
   have hle:∀j,(!(listed.setIfInBounds i true).getD j true)=true->(!listed.getD j true)=true:=fun j h=>by
    by_cases k:j=i
    .subst k;exact h1
    .rw [gD,sN (fun e=>k e.symm),<-gD] at h;exact h
   have hlt2:(List.range ops.size).countP (fun j=>!(listed.setIfInBounds i true).getD j true)<(List.range ops.size).countP (fun j=>!listed.getD j true):=by
    have f:(!(listed.setIfInBounds i true).getD i true)=false:=by
     rw [gD,sS hls];rfl
    obtain ⟨l1,l2,hl⟩:=List.append_of_mem (List.mem_range.2 hlt);rw [hl];simp only [List.countP_append,List.countP_cons,f,h1];have e1:=List.countP_mono_left (l:=l1) (fun j _=>hle j);have e2:=List.countP_mono_left (l:=l2) (fun j _=>hle j);simp only [Bool.false_eq_true,if_false,if_true];omega
   omega
theorem pz {id n:Nat}{Q:Exit->Act->Wz->Prop}{a:Act}{w:Wz}(hm:P.follows .mixedOrders=true)(I:Array Bool->Act->Wz->Prop)(c:∀listed a w i,I listed a w->i∈Region.ready .any ops listed->yN P ops ro i a w (I (listed.setIfInBounds i true)))(hend:∀listed a w,I listed a w->Region.ready .any ops listed=[]->Q .normal a w)
  (h0:I (Array.replicate ops.size false) a {w with drawn:=w.drawn+1}):(Code.region id ops true).wpIn (wf ro) n P Q a w:=by
 intro b k cs hb _ _;have ht:=A5 (ro:=ro) I c hend ops.size (w.tape w.drawn (.order b.fn id)) _ a _ h0 (by
  have:=List.countP_le_length (p:=fun i=>!(Array.replicate ops.size false).getD i true) (l:=List.range ops.size);simpa using this)
 obtain ⟨a',w',h1,h2⟩:=jL (b:=b) (k:=k) (cs:=cs) hb _ _ _ ht;refine ⟨.normal,a',w',h1,qO.2 (.head stepR_region_draw ?_)⟩;simp only [Region.schedule,hm,Bool.true_or,if_true];exact h2
theorem sR {i:Nat}{o:Oper}{a:Act}{w:Wz}{K:Act->Wz->Prop}(ho:ops[i]?=some o)(hw:Region.wanted o (yielded ops a.tmps)=false)(c:K (a.put o.dst Wy) w):yN P ops ro i a w K:=by
 intro b k cs rest hb;refine ⟨_,_,c,.one ?_⟩;have hs:=stepR_op_skip (P:=P) (b:=b) (a:=a) (k:=k) (cs:=cs) (w:=w) (ops:=ops) (i:=i) (rest:=rest) (by simp [ho,hw]);simpa only [ho,Option.bind_some] using hs
theorem yP {i:Nat}{o:Oper}{a:Act}{w w':Wz}{l:Nat}{f:FuncId}{tmps:Array Wq}{assign body:Code}{n:Nat}{K:Act->Wz->Prop}(ho:ops[i]?=some o)(hw:Region.wanted o (yielded ops a.tmps)=true)(hd:∀c,o.op≠.defer c)(hr:(execOp a.eval o).run P w=.ok (.round l f tmps assign body) w')
  (m:RoundIn (wf ro) n P l f tmps assign body w' fun e w''=>∃v,e=.returned v/\K (a.put o.dst v) w''):yN P ops ro i a w K:=by
 intro b k cs rest hb;obtain ⟨e,w2,⟨v,rfl,j⟩,hs⟩:=m.2 (b.atR a (.inRegion ops (i::rest)::k)) cs (Fz _ _);have hs:=qO.1 (show StepsIn (Machine.fenced P (wf ro)) P _ _ from hs);refine ⟨_,_,j,?_⟩;have hg:=stepGR_op (P:=P) (b:=b) (k:=k) (cs:=cs) (w:=w) (rest:=rest) ho hw;rw [Oper.semAt_eq _ _ _ hd] at hg;have d:step P (lone (b.atR a (.inRegion ops (i::rest)::k)) cs w)=.next (lone (Frame.round l f tmps assign body .normal) (b.atR a (.inRegion ops (i::rest)::k)::cs) w'):=
  step_lone_go (by rw [hg];simp [stepG.apply,hr,Frame.atR])
 have h:(b.atR a (.inRegion ops (i::rest)::k)).finish v=b.atR (a.put o.dst v) (.inRegion ops rest::k):=by rw [Frame.finish_atR,ho];rfl
 rw [<-h];exact .head d hs
theorem jx {a:Act}{d t:Nat}{v:Wq}(h:t≠d):(a.put (some d) v).eval (.tmp t)=a.eval (.tmp t):=by
 simp only [Act.put,Act.eval,gD];rw [sN (fun e=>h e.symm)]
theorem qP {a:Act}{d:Nat}{v:Wq}(h:d<a.tmps.size):(a.put (some d) v).eval (.tmp d)=v:=by
 simp only [Act.put,Act.eval,gD];rw [sS h];rfl
theorem jd {a:Act}{j d:Nat}{o:Oper}{x:Bool}(ho:ops[j]?=some o)(hd:o.dst=some d)(hs:d<a.tmps.size)(he:a.eval (.tmp d)=.bool x):yielded ops a.tmps j=some x:=by
 simp only [Act.eval,gD,eG hs,Option.getD_some] at he;simp [yielded,ho,hd,hs,he]
structure Vals (a0:Act)(base lim:Nat)(vals:Nat->Wq)(Wd:(Nat->Bool)->Wz->Prop)(sz:Nat)(listed:Array Bool)(a:Act)(w:Wz):Prop where
 size:a.tmps.size=a0.tmps.size
 defers:a.defers=a0.defers
 old:∀t,t<base->a.eval (.tmp t)=a0.eval (.tmp t)
 new:∀i,i<lim->listed.getD i false=true->a.eval (.tmp (base+i))=vals i
 world:Wd (fun i=>listed.getD i false) w
 len:listed.size=sz
theorem lu {listed:Array Bool}{i:Nat}{o:Oper}(h:i∈Region.ready .any ops listed)(ho:ops[i]?=some o):∀e∈o.after,Region.binds .any e=true->listed.getD e.on false=true:=by
 have h2:=(List.mem_filter.1 h).2;simp only [ho,Option.map_some,Option.getD_some,bT] at h2;intro e he hb;have:=Array.all_eq_true'.1 h2.2 e he;simpa [hb] using this
theorem cz {listed:Array Bool}{i:Nat}(h:i∈Region.ready .any ops listed):i<ops.size/\listed.getD i true=false:=by
 have h1:=List.mem_filter.1 h;have h2:=h1.2;simp only [bT,Bool.not_eq_true'] at h2;exact ⟨List.mem_range.1 h1.1,h2.1⟩
def dR (d:Nat->Bool)(i:Nat):Nat->Bool:=fun j=>if j=i then true else d j
theorem pB {listed:Array Bool}{i:Nat}(h:i<listed.size):(fun j=>(listed.setIfInBounds i true).getD j false)=dR (fun j=>listed.getD j false) i:=by
 funext j;unfold dR;by_cases a:j=i
 .subst a;rw [if_pos rfl,gD,sS h];rfl
 .rw [if_neg a,gD,sN (fun e=>a e.symm),<-gD]
theorem Vals.step {a0:Act}{base b:Nat}{c:Nat->Wq}{Wd:(Nat->Bool)->Wz->Prop}{listed:Array Bool}{a:Act}{w w':Wz}{i:Nat}{o:Oper}(V:Vals a0 base b c Wd ops.size listed a w)(hi:i∈Region.ready .any ops listed)(ho:ops[i]?=some o)(hd:i<b->o.dst=some (base+i))(k:¬i<b->o.dst=none)(hsz:base+b<=a0.tmps.size)
  {v:Wq} (hv:i<b->v=c i) (hw:Wd (dR (fun j=>listed.getD j false) i) w'):Vals a0 base b c Wd ops.size (listed.setIfInBounds i true) (a.put o.dst v) w':=by
 have hlt:i<listed.size:=by rw [V.len];exact (cz hi).1
 by_cases h:i<b
 .rw [hd h];refine ⟨by simp [Act.put,V.size],V.defers,fun t ht=>(jx (by omega)).trans (V.old t ht),fun j f hl=>?_,by rw [pB hlt];exact hw,by simp [V.len]⟩;by_cases d:j=i
  .subst d;rw [qP (by rw [V.size];omega)];exact hv h
  .rw [jx (by omega)];refine V.new j f ?_
   rwa [gD,sN (fun e=>d e.symm),<-gD] at hl
 .rw [k h];refine ⟨V.size,V.defers,V.old,fun j f hl=>V.new j f ?_,by rw [pB hlt];exact hw,by simp [V.len]⟩
  rwa [gD,sN (fun e=>h (by omega)),<-gD] at hl
def A6 (ops:Array Oper):Bool:=(List.range ops.size).all fun i=>((ops[i]?).map fun o=>o.after.toList.all fun e=>decide (e.on<i)).getD true
def FA (ops:Array Oper)(base a:Nat):Bool:=(List.range ops.size).all fun i=>((ops[i]?).map fun o=>if i<a then o.dst==some (base+i) else o.dst==none).getD true
theorem wY (hd:A6 ops=true){listed:Array Bool}(hs:listed.size=ops.size)(hr:Region.ready .any ops listed=[]):∀i,i<ops.size->listed.getD i false=true:=by
  intro i;induction i using Nat.strongRecOn with
  |_ i ih=>
    intro hi;by_cases h:listed.getD i false=true
    . exact h
    . exfalso
      have hm:i∈Region.ready .any ops listed:=by
        refine List.mem_filter.2 ⟨List.mem_range.2 hi,?_⟩;have h1:=List.all_eq_true.1 hd i (List.mem_range.2 hi);simp only [eG hi,Option.map_some,Option.getD_some,bT] at h1 ⊢;refine ⟨?_,Array.all_eq_true'.2 fun e he=>?_⟩
        . rw [gD,eG (by omega)] at h ⊢
          simpa using h
        . have h2:=List.all_eq_true.1 h1 e (Array.mem_toList_iff.2 he)
          have h3 := ih e.on (by simpa using h2) (by have : e.on < i := by simpa using h2
                                                     omega)
          simp [h3]
      rw [hr] at hm;cases hm
theorem wZ {base a:Nat}(hd:FA ops base a=true):∀i o,ops[i]?=some o->(i<a->o.dst=some (base+i))/\(¬i<a->o.dst=none):=by
 intro i o ho;have hi:i<ops.size:=(eS ho).1;have h1:=List.all_eq_true.1 hd i (List.mem_range.2 hi);simp only [ho,Option.map_some,Option.getD_some] at h1;refine ⟨fun h=>?_,fun h=>?_⟩
 .rw [if_pos h] at h1;simpa using h1
 .rw [if_neg h] at h1;simpa using h1
theorem jM {id n:Nat}{Q:Exit->Act->Wz->Prop}{a0:Act}{w0:Wz}(hm:P.follows .mixedOrders=true)(base c:Nat)(b:Nat->Wq)(Wd:(Nat->Bool)->Wz->Prop)(hsz:base+c<=a0.tmps.size)
  (f:FA ops base c=true) (l:A6 ops=true)
  (k:∀ (listed:Array Bool) (a:Act) (w:Wz) (i:Nat) (o:Oper),i∈Region.ready .any ops listed->ops[i]?=some o->Vals a0 base c b Wd ops.size listed a w->(∀e∈o.after,Region.binds .any e=true->listed.getD e.on false=true) ->
   yN P ops ro i a w (fun a' w'=>∃v,a'=a.put o.dst v/\(i<c->v=b i)/\Wd (dR (fun j=>listed.getD j false) i) w'))
  (hend:∀a w,a.tmps.size=a0.tmps.size->a.defers=a0.defers->(∀t,t<base->a.eval (.tmp t)=a0.eval (.tmp t))->(∀i,i<c->i<ops.size->a.eval (.tmp (base+i))=b i)->(∃d,(∀i,i<ops.size->d i=true)/\Wd d w)->Q .normal a w)
  (h0:Wd (fun _=>false) {w0 with drawn:=w0.drawn+1}):(Code.region id ops true).wpIn (wf ro) n P Q a0 w0:=by
 have hf:(fun i=>(Array.replicate ops.size false).getD i false)=fun _=>false:=by
  funext i;rw [gD,Array.getElem?_replicate];split<;>rfl
 refine pz hm (Vals a0 base c b Wd ops.size) (fun listed a w i V hi=>?_) (fun listed a w V hr=>?_) ⟨rfl,rfl,fun _ _=>rfl,fun i _ h=>?_,by rw [hf];exact h0,by simp⟩
 .have hlt:=(cz hi).1;have ho:=eG hlt;refine (k listed a w i _ hi ho V (lu hi ho)).mono ?_;rintro a' w' ⟨v,rfl,hv,hw⟩;exact V.step hi ho (wZ f i _ ho).1 (wZ f i _ ho).2 hsz hv hw
 .have h1:=wY l V.len hr;exact hend a w V.size V.defers V.old (fun i hi hi2=>V.new i hi (h1 i hi2)) ⟨_,h1,V.world⟩
 .have:=congrFun hf i;exact absurd (this.symm.trans h) (by simp)
end
end
section
open Go.RowKit
theorem aj {W w1:Wz}(hb:Below W.heap.size W w1){a:Ww}{v:Wq}(h:W.cell? a=some v):w1.cell? a=some v:=by
 rw [hb.cell (bC W a h)];exact h
theorem xb (x y:Int):mI x y<0↔x<y:=by unfold mI;(repeat' split)<;>omega
theorem EA (x y:Int):(mI x y==0)=decide (x=y):=by unfold mI;(repeat' split)<;>simp<;>omega
theorem FB (b n cap:Nat)(L:Nat->Int)(p:Nat->Option Ww)(t:Int)(w:Wz)(hn:n<=2199023255552)
  (hc:∀i,i<n->w.cell? ⟨b,i * 2,none⟩=some (.int .u8 (L i))/\w.cell? ⟨b,i * 2+1,none⟩=some (.pointer (p i)))
  (hs:∀i j,i<j->j<n->L i<L j):
  Calls Yq.prog 133 #[.slice (some ⟨b,0,none⟩) n cap,.int .u8 t,.func (.func 134) #[] #[]] w fun e w'=>∃r:Nat,r<=n/\(∀j,j<r->L j<t)/\(∀j,r<=j->j<n->t<=L j) /\
   e=.returned (.tuple #[.int .i64 r,.bool (decide (r<n/\L r=t))])/\Below w.heap.size w w':=by
 have HS:Hid (∀i j,i<j->j<n->L i<L j):=hs;clear hs;go_enter (Yq.nq func133),ntmps133;go_wp2
 go_loopw [9,10,11] (fun i j _ wr=>∃x y:Nat,x<=y/\y<=n/\i=.int .i64 x/\j=.int .i64 y/\(∀k,k<x->L k<t)/\(∀k,y<=k->k<n->t<=L k)/\Below w.heap.size w wr) (fun i j _ _=>(intOf j).toNat-(intOf i).toNat)
 case atStart=>exact ⟨0,n,Nat.zero_le _,lR _,rfl,rfl,fun k h=>absurd h (Nat.not_lt_zero _),fun k h1 h2=>absurd h2 (by omega),bR _ _⟩
 case round=>
  obtain ⟨x,y,o,a,rfl,rfl,f,l,hb⟩:=hrel;have HL:Hid (∀k,k<x->L k<t):=f;have HH:Hid (∀k,y<=k->k<n->t<=L k):=l;clear f l;by_cases hlt:x<y
  .obtain ⟨c0,c1⟩:=hc ((x+y) / 2) (by omega);replace c0:=aj hb c0;replace c1:=aj hb c1;by_cases d:L ((x+y) / 2)<t
   .have hcm':=(xb _ _).2 d;go_wp2_with (go_at_call 134;refine (qn _ _ _ _).mono ?_;rintro e w' ⟨rfl,rfl⟩)
    refine ⟨⟨(x+y) / 2+1,y,by omega,a,by go_num,rfl,fun k hk=>?_,HH.out,hb.alloc hb.size _⟩,by simp [intOf];omega⟩;by_cases hk2:k=(x+y) / 2
    .rw [hk2];exact d
    .have:=HS.out k ((x+y) / 2) (by omega) (by omega);omega
   .have hcm':¬mI (L ((x+y) / 2)) t<0:=fun h=>d ((xb _ _).1 h)
    go_wp2_with (go_at_call 134;refine (qn _ _ _ _).mono ?_;rintro e w' ⟨rfl,rfl⟩)
    refine ⟨⟨x,(x+y) / 2,by omega,by omega,rfl,by go_num,HL.out,fun k hk1 hk2=>?_,hb.alloc hb.size _⟩,by simp [intOf];omega⟩;by_cases hk3:k=(x+y) / 2
    .rw [hk3];omega
    .have:=HS.out ((x+y) / 2) k (by omega) (by omega);omega
  .have m:x=y:=by omega
   subst m;clear hlt o;by_cases c:x<n
   .obtain ⟨c0,c1⟩:=hc x c;replace c0:=aj hb c0;replace c1:=aj hb c1;go_wp2_with (go_at_call 134;refine (qn _ _ _ _).mono ?_;rintro e w' ⟨rfl,rfl⟩)
    go_ret2
    exact ⟨x,a,HL.out,HH.out,by simp [c,EA],hb.alloc hb.size _⟩
   .go_wp2
    go_ret2
    exact ⟨x,a,HL.out,HH.out,by simp [c],hb⟩
theorem Dc (a:Option Ww)(cap:Nat)(t:Int)(w:Wz):
  Calls Yq.prog 133 #[.slice a 0 cap,.int .u8 t,.func (.func 134) #[] #[]] w fun e w'=>e=.returned (.tuple #[.int .i64 0,.bool false])/\w'=w:=by
 go_enter (Yq.nq func133),ntmps133;go_wp2;refine wp_loop_rounds 1 ?_;rw [rounds_succ];go_wp2
 go_ret2
 exact ⟨rfl,rfl⟩
theorem FC (b n cap:Nat)(L:Nat->Int)(S:Nat->ByteArray)(M:Nat->Bool)(t:Int)(w:Wz)(hn:n<=2199023255552)
  (hc:∀i,i<n->w.cell? ⟨b,i * 3,none⟩=some (.int .i64 (L i))/\w.cell? ⟨b,i * 3+1,none⟩=some (.string (S i))/\w.cell? ⟨b,i * 3+2,none⟩=some (.bool (M i)))
  (hs:∀i j,i<j->j<n->L i<L j):
  Calls Yq.prog 112 #[.slice (some ⟨b,0,none⟩) n cap,.int .i64 t,.func (.func 113) #[] #[]] w fun e w'=>∃r:Nat,r<=n/\(∀j,j<r->L j<t)/\(∀j,r<=j->j<n->t<=L j) /\
   e=.returned (.tuple #[.int .i64 r,.bool (decide (r<n/\L r=t))])/\Below w.heap.size w w':=by
 have HS:Hid (∀i j,i<j->j<n->L i<L j):=hs;clear hs;go_enter (Yq.nq func112),ntmps112;go_wp2
 go_loopw [9,10,11] (fun i j _ wr=>∃x y:Nat,x<=y/\y<=n/\i=.int .i64 x/\j=.int .i64 y/\(∀k,k<x->L k<t)/\(∀k,y<=k->k<n->t<=L k)/\Below w.heap.size w wr) (fun i j _ _=>(intOf j).toNat-(intOf i).toNat)
 case atStart=>exact ⟨0,n,Nat.zero_le _,lR _,rfl,rfl,fun k h=>absurd h (Nat.not_lt_zero _),fun k h1 h2=>absurd h2 (by omega),bR _ _⟩
 case round=>
  obtain ⟨x,y,o,a,rfl,rfl,f,l,hb⟩:=hrel;have HL:Hid (∀k,k<x->L k<t):=f;have HH:Hid (∀k,y<=k->k<n->t<=L k):=l;clear f l;by_cases hlt:x<y
  .obtain ⟨c0,c1,c2⟩:=hc ((x+y) / 2) (by omega);replace c0:=aj hb c0;replace c1:=aj hb c1;replace c2:=aj hb c2;by_cases d:L ((x+y) / 2)<t
   .have hcm':=(xb _ _).2 d;go_wp2_with (go_at_call 113;refine (qo _ _ _ _ _).mono ?_;rintro e w' ⟨rfl,rfl⟩)
    refine ⟨⟨(x+y) / 2+1,y,by omega,a,by go_num,rfl,fun k hk=>?_,HH.out,hb.alloc hb.size _⟩,by simp [intOf];omega⟩;by_cases hk2:k=(x+y) / 2
    .rw [hk2];exact d
    .have:=HS.out k ((x+y) / 2) (by omega) (by omega);omega
   .have hcm':¬mI (L ((x+y) / 2)) t<0:=fun h=>d ((xb _ _).1 h)
    go_wp2_with (go_at_call 113;refine (qo _ _ _ _ _).mono ?_;rintro e w' ⟨rfl,rfl⟩)
    refine ⟨⟨x,(x+y) / 2,by omega,by omega,rfl,by go_num,HL.out,fun k hk1 hk2=>?_,hb.alloc hb.size _⟩,by simp [intOf];omega⟩;by_cases hk3:k=(x+y) / 2
    .rw [hk3];omega
    .have:=HS.out ((x+y) / 2) k (by omega) (by omega);omega
  .have m:x=y:=by omega
   subst m;clear hlt o;by_cases c:x<n
   .obtain ⟨c0,c1,c2⟩:=hc x c;replace c0:=aj hb c0;replace c1:=aj hb c1;replace c2:=aj hb c2;go_wp2_with (go_at_call 113;refine (qo _ _ _ _ _).mono ?_;rintro e w' ⟨rfl,rfl⟩)
    go_ret2
    exact ⟨x,a,HL.out,HH.out,by simp [c,EA],hb.alloc hb.size _⟩
   .go_wp2
    go_ret2
    exact ⟨x,a,HL.out,HH.out,by simp [c],hb⟩
theorem Dd (a:Option Ww)(cap:Nat)(t:Int)(w:Wz):
  Calls Yq.prog 112 #[.slice a 0 cap,.int .i64 t,.func (.func 113) #[] #[]] w fun e w'=>e=.returned (.tuple #[.int .i64 0,.bool false])/\w'=w:=by
 go_enter (Yq.nq func112),ntmps112;go_wp2;refine wp_loop_rounds 1 ?_;rw [rounds_succ];go_wp2
 go_ret2
 exact ⟨rfl,rfl⟩
end
