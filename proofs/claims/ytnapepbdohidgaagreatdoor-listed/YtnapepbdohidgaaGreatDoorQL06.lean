/- A part. -/
import Derived.Test.YtnapepbdohidgaaGreatDoorQL05
import Derived.KernelRfl
import Derived.RangeFuncNested
import Derived.OrdersIn
set_option maxHeartbeats 4000000
set_option maxRecDepth 100000
open Go renaming World->Wj,Value->Wx,Goroutine->Wk,Program->Wv,TypeId->Ww,Frame->Wy,Addr->Wu,undef->Wo
namespace Go.Proofs.Qw
open Tryz
def Ren.plus (ρ:Ren)(n m:Nat)(I:Nat->Prop)(hlt:∀a b,ρ a b->a<n/\b<m)(ch:Nat->Prop)(hS:ρ.F fK=false):Ren where
 rel:=fun a b=>ρ a b\/∃i,I i/\a=n+i/\b=m+i
 fn:=fun a b b' h1 h2=>by
  rcases h1 with h1|⟨i,-,h1,h3⟩<;>rcases h2 with h2|⟨j,-,h2,h4⟩
  .exact ρ.fn _ _ _ h1 h2
  .have:=(hlt _ _ h1).1;omega
  .have:=(hlt _ _ h2).1;omega
  .omega
 inj:=fun a a' b h1 h2=>by
  rcases h1 with h1|⟨i,-,h1,h3⟩<;>rcases h2 with h2|⟨j,-,h2,h4⟩
  .exact ρ.inj _ _ _ h1 h2
  .have:=(hlt _ _ h1).2;omega
  .have:=(hlt _ _ h2).2;omega
  .omega
 prog:=ρ.prog
 F:=ρ.F
 old:=fun _=>False
 ch:=ch
 loose:=true
 wide:=true
 tight:=fun h=>by rw [hS] at h;cases h
 pin:=ρ.pin
 bad:=ρ.bad
 noM:=ρ.noM
section
variable {ρ:Ren} {n m:Nat} {I:Nat->Prop} {hlt:∀a b,ρ a b->a<n/\b<m} {ch:Nat->Prop} {hS:ρ.F fK=false} {V W V' W':Wj}
theorem pR:ρ.sub' (ρ.plus n m I hlt ch hS):=⟨fun _ _ h=>.inl h,rfl,fun _ h=>h,rfl⟩
theorem mH {i:Nat}(h:I i):(ρ.plus n m I hlt ch hS) (n+i) (m+i):=.inr ⟨i,h,rfl,rfl⟩
theorem Cw (S:bI ρ V W)(j:∀a b,ρ a b->V'.heap[a]?=V.heap[a]?)(k:∀b,b<m->W'.heap[b]?=W.heap[b]?)(f:W'.os=V'.os)
  (e:∀i,I i->∃o o',V'.heap[n+i]?=some o/\W'.heap[m+i]?=some o'/\RO (ρ.plus n m I hlt ch hS) o o') (hch:∀c,ch c->∃o,V'.heap[c]?=some o/\o.isChan=true):bI (ρ.plus n m I hlt ch hS) V' W':=by
 refine ⟨fun a b d=>?_,fun a h=>h.elim,hch,f,fun hb a c0 hp=>?_⟩
 rotate_left
 .obtain ⟨b,d,hP⟩:=S.pin hb a c0 hp;exact ⟨b,.inl d,hP.same (j a b d) (k b (hlt a b d).2)⟩
 rcases d with d|⟨i,l,rfl,rfl⟩
 .obtain ⟨o,o',h1,h2,h3⟩:=S.obj a b d;refine ⟨o,o',(j a b d).trans h1,(k b (hlt a b d).2).trans h2,RO.re pR rfl h3 (fun hc=>?_)⟩;cases h3 with
  |chan=>exact .chan _ _ _ _ _ _ _ _ _ (.inl rfl) (.inl rfl)
  |_=>cases hc
 .exact e i l
end
structure fP (P:Wv) [Two P](F:FuncId->Bool):Prop where
 code:∀ (f:FuncId) fn b,F f=true->P.funcs[f]?=some fn->fn.body=some b->aG P F b=true
 alt:∀f,F f=true->P.alt.funcs[f]?=P.funcs[f]?
 same:∀f:Nat,(P.alt.funcs[f]?).map strip=(P.funcs[f]?).map strip
 size:P.alt.funcs.size=P.funcs.size
 apart:∀f,Mk F f=true->∃a b,P.alt.funcs[f]?=some a/\P.funcs[f]?=some b/\a.body.isSome=true/\b.body.isSome=true/\a.name=b.name
 ext:fD P F
theorem fP.gid {P:Wv} [Two P]{σ:Ren}(h:fP P σ.F)(hg:∀g,g<P.globals.size->σ g g)(hp:σ.prog=P)(hf:σ.F lm=true->∀a,¬σ.old a):GId P σ:=⟨hg,hp,h.code,h.alt,hf,h.same,h.size,h.apart⟩
theorem RV.any {σ σ':Ren}(hrel:∀a b,σ a b->σ' a b)(l:∀f,σ.F f=true->σ'.F f=true)(ho:σ'.bad=σ.bad){v v':Wx}(h:RV σ v v'):RV σ' v v':=by
 have d:∀ {a a':Option Wu},RAo σ a a'->RAo σ' a a':=fun h=>by
  cases h with
  |none=>exact .none
  |some h=>exact .some ⟨hrel _ _ h.1,h.2⟩
 have e:∀ {a a':Option Nat},RNo σ a a'->RNo σ' a a':=fun h=>by
  cases h with
  |none=>exact .none
  |some h=>exact .some (hrel _ _ h)
 induction h with
 |bool b=>exact .bool b
 |int k n=>exact .int k n
 |string s=>exact .string s
 |pointer h=>exact .pointer (d h)
 |slice n c h=>exact .slice n c (d h)
 |map h=>exact .map (e h)
 |chan h=>exact .chan (e h)
 |func hf ha hc _ _ j i=>
  refine .func ?_ ha hc j i;cases hf with
  |func f h=>exact .func f (l f h)
  |yield h=>exact .yield (hrel _ _ h)
 |nilFunc=>exact .nilFunc
 |iface t _ ih=>exact .iface t ih
 |nilIface=>exact .nilIface
 |agg hc _ ih=>exact .agg hc ih
 |tuple hc _ ih=>exact .tuple hc ih
 |dead v' h=>exact .dead v' h
 |odd n s a c hn=>exact .odd n s a c (hn.trans ho.symm)
theorem RVs.any {σ σ':Ren}(hrel:∀a b,σ a b->σ' a b)(d:∀f,σ.F f=true->σ'.F f=true)(ho:σ'.bad=σ.bad){c c':Array Wx}(h:RVs σ c c'):RVs σ' c c':=⟨h.size,fun i v v' h1 h2=>(h.at_ i v v' h1 h2).any hrel d ho⟩
theorem RO.any {σ σ':Ren}(hrel:∀a b,σ a b->σ' a b)(d:∀f,σ.F f=true->σ'.F f=true)(ho:σ'.bad=σ.bad)(hb:σ'.F lm=σ.F lm){o o':Obj}(hp:vE o)(h:RO σ o o'):RO σ' o o':=by
 have hno:∀ {q:Obj},vE q->(∀c e z,q≠.cells c e z)->Fixed q:=fun h k=>by
  rcases h with ⟨c,e,z,h⟩|h
  .exact absurd h (k c e z)
  .exact h
 cases h with
 |cells e hz h=>exact .cells e (by rw [hb];exact hz) (h.any hrel d ho)
 |number b h=>exact .number b ⟨hrel _ _ h.1,h.2⟩
 |dead _ h=>exact .dead _ h
 |_=>exact (hno hp (fun _ _ _ h=>by cases h)).elim
theorem ly {P:Wv} [Two P](e:bM P)(c:bV P){A:Nat->Prop}{F:FuncId->Bool}{T:Wk->Wj->Prop}(f:∀g w,T g w->g.callers≠[]/\g.dying=none/\g.status=.running)(b:∀g w τ d,T g (w.on τ d)↔T g w){h:Wk}{w:Wj}(hS:Self P ([trap P],[]) A F h w)
  (hst:∀τ d,∃g' w',Steps P (solo h (w.on τ d)) (solo g' w')/\T g' w'):Dem P (jC P ([trap P],[]) A F) T h w:=by
 refine Way.dem (N:=jC P ([trap P],[]) A F) ⟨fun g w h=>h.mir e c,fun g w τ d h=>⟨h.1.on τ d,h.2⟩,b⟩ (fun τ d=>?_);obtain ⟨g',w',⟨n,hn⟩,a⟩:=hst τ d;exact nk e c f n _ _ _ w' (hS.on τ d) hn a
def Ren.firm (σ:Ren)(P:Wv)(hb:NoM P σ.bad)(c:Nat):Ren where
 rel:=σ.rel
 fn:=σ.fn
 inj:=σ.inj
 prog:=P
 F:=σ.F
 old:=fun _=>False
 ch:=fun a=>a=c
 loose:=false
 wide:=false
 tight:=fun _=>rfl
 pin:=σ.pin
 bad:=σ.bad
 noM:=hb
theorem vG {σ:Ren}{P:Wv}{f:NoM P σ.bad}{V W W':Wj}(S:bI σ V W){c c':Nat}(hc:σ c c')(hpl:∀a b,σ a b->a≠c->∃o,V.heap[a]?=some o/\vE o)(l:∀b,b≠c'->W'.heap[b]?=W.heap[b]?)(i:W'.os=W.os){n m s s' q q':Nat}{b b':Array Wx}{cl tm:Bool}(j:V.heap[c]?=some (.chan n b cl s q tm))(hW':W'.heap[c']?=some (.chan m b' cl s' q' tm))(hb:RVs (σ.firm P f c) b b'):bI (σ.firm P f c) V W':=by
 refine ⟨fun x y d=>?_,fun _ h=>h.elim,fun a h=>?_,i.trans S.os,fun hb a c0 hp=>?_⟩
 rotate_left 2
 .obtain ⟨y,hay,hP⟩:=S.pin hb a c0 hp;refine ⟨y,hay,hP.same rfl (l y (fun e=>?_))⟩;obtain rfl:=σ.inj _ _ _ hay (e▸hc);obtain ⟨_,_,_,_,_,k1,-⟩:=hP;rw [j] at k1;cases k1
 .have d:σ x y:=d;by_cases e:x=c
  .subst e;obtain rfl:=σ.fn _ _ _ d hc;exact ⟨_,_,j,hW',.chan _ _ _ _ _ _ _ _ _ (.inr hb) (.inr rfl)⟩
  .obtain ⟨o,o',h1,h2,h3⟩:=S.obj x y d;obtain ⟨o2,k1,k2⟩:=hpl x y d e;rw [h1] at k1;cases k1;exact ⟨o,o',h1,(l y (fun k=>e (σ.inj _ _ _ d (k▸hc)))).trans h2,RO.any (σ:=σ) (σ':=σ.firm P f c) (fun _ _ h=>h) (fun _ h=>h) rfl rfl k2 h3⟩
 .have h:a=c:=h;subst h;exact ⟨_,j,rfl⟩
section
open Go.Conc Go.ConcX Go.ConcX.Gen Go.RowKit
structure zN (Pre:Lst->List Wx->Wj->Prop):Prop where
 low:∀ (ρ:Ren) (V W V':Wj) (l:Lst) (L:List Wx),bI ρ V W->(∃r,RAo ρ l.root r)->(∀g,g<Tryz.prog.globals.size->∃y,ρ g y)->(∀a y i v,ρ a y->V.cell? ⟨a,i,none⟩=some v->Good v->V'.cell? ⟨a,i,none⟩=some v)->V.heap.size<=V'.heap.size->Pre l L V->Pre l L V'
 on:∀ (V V':Wj) (l:Lst) (L:List Wx),(∀a,a.block<V.heap.size->V'.cell? a=V.cell? a)->V.heap.size<=V'.heap.size->Pre l L V->Pre l L V'
 item:∀l L V,Pre l L V->∀v∈L,∃ (a b:Int) (s:ByteArray),v=.agg #[.int .i64 a,.string s,.int .i64 b]
 len:∀l L V,Pre l L V->L.length<=1000
 send:∀ (l:Lst) (L:List Wx) (w:Wj) (c:Nat),Pre l L w->w.heap[c]?=some (.chan 1000 #[] false 0 0 false) ->
  Calls Yq.prog 120 #[qV l.vs l.p l.d l.af,sV l.root,.chan (some c)] w fun e w'=>e=.returned (.tuple #[])/\((∀b,b<w.heap.size->b≠c->w'.heap[b]?=w.heap[b]?)/\w.heap.size<=w'.heap.size/\w'.os=w.os)/\w'.heap[c]?=some (.chan 1000 L.toArray false L.length 0 false)
section
variable (V:Wj) (l:Lst)
def bQ (a:Nat):Wj:=itW (pgW V l) l.root l.vs l.p l.d l.af a
theorem vH:(pgW V l).heap.size=V.heap.size+3:=by simp only [pgW,World.alloc,Array.size_push]
theorem eQ (a:Nat):(bQ V l a).heap.size=V.heap.size+7:=by simp only [bQ,itW,pgW,World.alloc,Array.size_push]
theorem em (b:Nat){a:Nat}(h:a<V.heap.size):(bQ V l b).heap[a]?=V.heap[a]?:=by
 simp only [bQ,itW,pgW,World.alloc,gP,Array.size_push]
 repeat rw [if_neg (by omega)]
theorem bW (a:Nat)(i:Nat)(h:i<7):(bQ V l a).heap[V.heap.size+i]?=(#[.cells (bN l) 125,.cells #[.slice none 0 0,.string ⟨#[]⟩] 88,.cells #[.slice none 0 0,.string ⟨#[]⟩] 88,.cells #[.bool l.vs,.string l.p,.string l.d,.string l.af] 93,.cells #[.pointer l.root] 56,.chan a #[] false 0 0 false,.cells #[.chan (some (V.heap.size+5))] 193]:Array Obj)[i]?:=by
 simp only [bQ,itW,pgW,World.alloc,gP,Array.size_push];rcases i with - | - | - | - | - | - | - |i;all_goals first|omega|skip
 all_goals
  repeat (first|rw [if_pos (by omega)] |rw [if_neg (by omega)])
  rfl
theorem jd (a:Nat):Boxes (bQ V l a) (V.heap.size+3+3) (V.heap.size+3) (V.heap.size+3+1) (V.heap.size+3+2) l.root l.vs l.p l.d l.af:=by
 have h3:=bW V l a 3 (by omega);have h4:=bW V l a 4 (by omega);have h6:=bW V l a 6 (by omega);have c:∀ (b i:Nat) (x:Array Wx) (t:Ww),(bQ V l a).heap[b]?=some (.cells x t)->(bQ V l a).cell? ⟨b,i,none⟩=x[i]?:=fun b i x t h=>by unfold World.cell?;simp [h]
 refine ⟨?_,?_,?_,?_,?_,?_⟩
 .rw [c (V.heap.size+6) 0 _ _ h6];rfl
 .rw [c (V.heap.size+3) 0 _ _ h3];rfl
 .rw [c (V.heap.size+3) 1 _ _ h3];rfl
 .rw [c (V.heap.size+3) 2 _ _ h3];rfl
 .rw [c (V.heap.size+3) 3 _ _ h3];rfl
 .rw [c (V.heap.size+4) 0 _ _ h4];rfl
theorem oA (b:Nat):∀a:Wu,a.block<V.heap.size->(bQ V l b).cell? a=V.cell? a:=fun _a h=>cB (em V l b h)
end
theorem ry {Pre:Lst->List Wx->Wj->Prop}(hPre:zN Pre)(l:Lst)(pn:Int)(L:List Wx)(V:Wj)(cs:List Wy)(hp:Pre l L V)(ht:Region.schedule (Yq.prog.follows .mixedOrders) Yq.drawOps (V.tape V.drawn (.order 69 100))=[1,0]):
  ∃V4:Wj,Steps Yq.prog (lone (Frame.enter Yq.prog 69 #[lV l,.int .i64 pn] .normal) cs V) (lone (pF2 V.heap.size l pn (V.heap.size+5)) cs V4) /\
   (∀b,b<V.heap.size+7->b≠V.heap.size+5->V4.heap[b]?=(bQ V l 1000).heap[b]?)/\V4.heap[V.heap.size+5]?=some (.chan 1000 L.toArray true L.length 0 false)/\V4.os=V.os:=by
 obtain ⟨Va,hVa⟩:∃Va:Wj,Va={V with drawn:=V.drawn+1}:=⟨_,rfl⟩;have e1:Va.heap=V.heap:=by rw [hVa]
 have e2:Va.os=V.os:=by rw [hVa]
 have s1:=Cu (lV l) (.int .i64 pn) cs V ht;rw [<-hVa,<-rr] at s1;have s2:=Ct l pn cs Va;have hcall:step Yq.prog (lone ((base 69).at ⟨jI Va.heap.size l pn,[]⟩ (.inRegion rq [4]::lw)) cs (pgW Va l))=.next (lone (Frame.enter Yq.prog 97 #[qV l.vs l.p l.d l.af,sV l.root] .normal) (pF Va.heap.size l pn::cs) (pgW Va l)):=by
  refine pP (o := { dst := some 17, op := .call { callee := .value (.func 97), args := #[.tmp 14, .tmp 16], argTypes := #[93, 56] }, type := 165, pos := "listing.go:108", after := #[{ on := 1, ground := .data }, { on := 3, ground := .data }], guard := none }) rfl rfl ?_
  have := run_call_body (P := Yq.prog) (a := ⟨jI Va.heap.size l pn, []⟩) (w := pgW Va l) (o := { dst := some 17, op := .call { callee := .value (.func 97), args := #[.tmp 14, .tmp 16], argTypes := #[93, 56] }, type := 165, pos := "listing.go:108", after := #[{ on := 1, ground := .data }, { on := 3, ground := .data }], guard := none }) rfl Yq.func97 rfl rfl
  have e:(#[.tmp 14,.tmp 16]:Array Operand).map (Act.eval ⟨jI Va.heap.size l pn,[]⟩)=#[qV l.vs l.p l.d l.af,sV l.root]:=by
   simp only [List.map_toArray,List.map_cons,List.map_nil];rfl
  rw [e] at this;exact this
 have s3:=zL l.root l.vs l.p l.d l.af (pF Va.heap.size l pn::cs) (pgW Va l);have hsz:(pgW Va l).heap.size=V.heap.size+3:=by rw [vH,e1]
 rw [hsz] at s3;have hcw:bQ Va l 1000=itW (pgW Va l) l.root l.vs l.p l.d l.af 1000:=rfl;rw [<-hcw] at s3;have hb:Boxes (bQ Va l 1000) (V.heap.size+3+3) (V.heap.size+3) (V.heap.size+3+1) (V.heap.size+3+2) l.root l.vs l.p l.d l.af:=by
  have:=jd Va l 1000;rw [e1] at this;exact this
 have hpa:Pre l L (bQ Va l 1000):=hPre.on V _ l L (fun a ha=>by
  rw [oA Va l 1000 a (by rw [e1];exact ha)];unfold World.cell?;rw [e1]) (by rw [eQ,e1];omega) hp
 have hrow:(bQ Va l 1000).heap[V.heap.size+3+2]?=some (.chan 1000 #[] false 0 0 false):=by
  have:=bW Va l 1000 5 (by omega);rw [e1] at this;exact this
 obtain ⟨w',⟨hold,hsize,hos⟩,hr',s4⟩:=rx (root0:=l.root) hb (hPre.send l L _ _ hpa hrow) (pF Va.heap.size l pn::cs);have heq:∀b:Nat,(bQ Va l 1000).heap[b]?=(bQ V l 1000).heap[b]?:=fun b=>by
  have:(bQ Va l 1000).heap=(bQ V l 1000).heap:=by simp only [bQ,itW,pgW,World.alloc,e1]
  rw [this]
 have hot:∀b,b≠V.heap.size+5->(d8 w' (V.heap.size+3+2) 1000 L.toArray L.length 0 false).heap[b]?=w'.heap[b]?:=fun b hb=>by
  unfold d8 World.setChan;exact sN (by omega)
 have hout:(d8 w' (V.heap.size+3+2) 1000 L.toArray L.length 0 false).cell? ⟨V.heap.size+3+3,0,none⟩=some (.chan (some (V.heap.size+3+2))):=by
  rw [cB (w:=bQ Va l 1000) (a:=⟨V.heap.size+3+3,0,none⟩)]
  .exact hb.out
  .show (d8 w' (V.heap.size+3+2) 1000 L.toArray L.length 0 false).heap[V.heap.size+3+3]?=(bQ Va l 1000).heap[V.heap.size+3+3]?;rw [hot _ (by omega)];exact hold _ (by rw [eQ,e1];omega) (by omega)
 have s5:=zM Va.heap.size (V.heap.size+3) l pn cs (d8 w' (V.heap.size+3+2) 1000 L.toArray L.length 0 false) l.root hout;refine ⟨d8 w' (V.heap.size+3+2) 1000 L.toArray L.length 0 false,?_,fun b h1 h2=>?_,?_,?_⟩
 .rw [<-e1];refine Steps.trans s1 (Steps.trans s2 (.head hcall (Steps.trans s3 (Steps.trans s4 ?_))));rw [e1] at s5 ⊢;exact s5
 .rw [hot b h2,<-heq];exact hold b (by rw [eQ,e1];exact h1) (by omega)
 .exact heap_setChan _ _ _ _ _ _ _ _ (eS hr').1
 .exact (show w'.os=_ from hos.trans (by simp only [bQ,itW,pgW,World.alloc];exact e2))
inductive RVl (ρ:Ren):List Wx->List Wx->Prop
 |nil:RVl ρ [] []
 |cons {v v':Wx} {l l':List Wx} (h:RV ρ v v') (hl:RVl ρ l l'):RVl ρ (v::l) (v'::l')
theorem RVl.len {ρ:Ren}{l l':List Wx}(h:RVl ρ l l'):l.length=l'.length:=by
 induction h with
 |nil=>rfl
 |cons _ _ ih=>simp [ih]
theorem RVl.at_ {ρ:Ren}{l l':List Wx}(h:RVl ρ l l'):∀ (i:Nat) v v',l[i]?=some v->l'[i]?=some v'->RV ρ v v':=by
 induction h with
 |nil=>intro i v v' h;simp at h
 |cons h _ ih=>
  intro i v v' h1 h2;cases i with
  |zero=>simp at h1 h2;subst h1;subst h2;exact h
  |succ i=>exact ih i v v' (by simpa using h1) (by simpa using h2)
theorem RVl.arr {ρ:Ren}{l l':List Wx}(h:RVl ρ l l'):RVs ρ l.toArray l'.toArray:=⟨by simp [h.len],fun i v v' h1 h2=>h.at_ i v v' (by simpa using h1) (by simpa using h2)⟩
theorem RVl.agg {ρ:Ren}{l l':List Wx}(h:RVl ρ l l'):RV ρ (.agg l.toArray) (.agg l'.toArray):=.agg h.arr.size h.arr.at_
section
variable {σ:Ren} {l:Lst} {r':Option Wu}
theorem kz (h:RAo σ l.root r'):RVs σ (bN l) (bN {l with root:=r'}):=
 RVl.arr (.cons (.int _ _) (.cons (.pointer h) (.cons (.bool _) (.cons (.string _) (.cons (.string _) (.cons (.string _) (.cons (.int _ _) (.cons (.int _ _) .nil))))))))
theorem Ga (h:RAo σ l.root r'):RV σ (lV l) (lV {l with root:=r'}):=.agg (kz h).size (kz h).at_
theorem Gb (b:Bool)(p d a:ByteArray):RV σ (qV b p d a) (qV b p d a):=RVl.agg (.cons (.bool _) (.cons (.string _) (.cons (.string _) (.cons (.string _) .nil))))
theorem Gc {r:Option Wu}(h:RAo σ r r'):RV σ (sV r) (sV r'):=RVl.agg (.cons (.pointer h) .nil)
end
theorem Gd {ρ:Ren}{l:Lst}{v:Wx}(h:RV ρ (lV l) v):∃r',RAo ρ l.root r'/\v=lV {l with root:=r'}:=by
 unfold lV at h;cases h with
 | @agg _ c' hc hx=>
  have hsz:c'.size=8:=by rw [<-hc];rfl
  obtain ⟨cl⟩:=c';have hlen:cl.length=8:=by simpa using hsz
  rcases cl with - |⟨x0,- |⟨x1,- |⟨x2,- |⟨d,- |⟨x4,- |⟨b,- |⟨a,- |⟨c,- |⟨x8,cl⟩⟩⟩⟩⟩⟩⟩⟩⟩<;>simp at hlen
  have h0:=hx 0 _ x0 rfl rfl;have h1:=hx 1 _ x1 rfl rfl;have h2:=hx 2 _ x2 rfl rfl;have h3:=hx 3 _ d rfl rfl;have h4:=hx 4 _ x4 rfl rfl;have h5:=hx 5 _ b rfl rfl;have h6:=hx 6 _ a rfl rfl;have h7:=hx 7 _ c rfl rfl;cases h0;cases h2;cases h3;cases h4;cases h5;cases h6;cases h7;cases h1 with
  |pointer h=>exact ⟨_,h,rfl⟩
theorem Cx {ρ:Ren}{l:Lst}{pn:Int}{a':Array Wx}(h:RVs ρ #[lV l,.int .i64 pn] a'):∃r',RAo ρ l.root r'/\a'=#[lV {l with root:=r'},.int .i64 pn]:=by
 obtain ⟨a⟩:=a';have hsz:=h.size;rcases a with - |⟨x0,- |⟨x1,- |⟨x2,a⟩⟩⟩<;>simp at hsz
 have h0:=h.at_ 0 _ x0 rfl rfl;have h1:=h.at_ 1 _ x1 rfl rfl;cases h1;obtain ⟨r',k1,rfl⟩:=Gd h0;exact ⟨r',k1,rfl⟩
section
variable {ρ:Ren} {V W V':Wj} {l:Lst} {r':Option Wu} {I:Nat->Prop} {ch:Nat->Prop}
theorem pS (S:bI ρ V W)(hS:ρ.F fK=false)(hr:RAo ρ l.root r')(t:∀i,I i->i<7)(j:I 5)(r:∀a b,ρ a b->V'.heap[a]?=V.heap[a]?)(m:∀i,i<7->i≠5->V'.heap[V.heap.size+i]?=(bQ V l 1000).heap[V.heap.size+i]?)(f:∃k b cl s q,V'.heap[V.heap.size+5]?=some (.chan k b cl s q false))(e:V'.os=V.os)(hch:∀c,ch c->∃o,V'.heap[c]?=some o/\o.isChan=true)(n:Nat):
  bI (ρ.plus V.heap.size W.heap.size I (fun _ _ h=>S.lt h) ch hS) V' ((bQ W {l with root:=r'} 20).at n):=by
 refine Cw S r (fun b hb=>em W _ 20 hb) (by rw [e];exact S.os) (fun i p=>?_) hch;have h7:=t i p;have d:((bQ W {l with root:=r'} 20).at n).heap[W.heap.size+i]?=_:=bW W {l with root:=r'} 20 i h7;by_cases h5:i=5
 .subst h5;obtain ⟨k,b,cl,s,q,hk⟩:=f;exact ⟨_,_,hk,d,.chan _ _ _ _ _ _ _ _ _ (.inl rfl) (.inl rfl)⟩
 .have eV:=(m i h7 h5).trans (bW V l 1000 i h7);have hr2:RAo (ρ.plus V.heap.size W.heap.size I (fun _ _ h=>S.lt h) ch hS) l.root r':=RAo.re pR hr;rcases i with - | - | - | - | - | - | - |i
  .exact ⟨_,_,eV,d,.cells 125 (.inl rfl) (kz hr2)⟩
  .exact ⟨_,_,eV,d,.cells 88 (.inl rfl) (RVl.arr (.cons (.slice _ _ .none) (.cons (.string _) .nil)))⟩
  .exact ⟨_,_,eV,d,.cells 88 (.inl rfl) (RVl.arr (.cons (.slice _ _ .none) (.cons (.string _) .nil)))⟩
  .exact ⟨_,_,eV,d,.cells 93 (.inl rfl) (RVl.arr (.cons (.bool _) (.cons (.string _) (.cons (.string _) (.cons (.string _) .nil)))))⟩
  .exact ⟨_,_,eV,d,.cells 56 (.inl rfl) (RVl.arr (.cons (.pointer hr2) .nil))⟩
  .exact absurd rfl h5
  .exact ⟨_,_,eV,d,.cells 193 (.inl rfl) (RVl.arr (.cons (.chan (.some (mH j))) .nil))⟩
  .omega
end
section
variable {P:Wv} {σ:Ren} {l:Lst} {r':Option Wu} {n m c c':Nat} {pn:Int}
theorem ul (h0:σ n m)(h1:σ (n+1) (m+1))(h2:σ (n+2) (m+2))(hc:σ c c')(hr:RAo σ l.root r')(ho:aG P σ.F (dr (jc bP))=true/\aG P σ.F (dr bP)=true):RFr P σ (pF2 n l pn c) (pF2 m {l with root:=r'} pn c'):=by
 refine ⟨rfl,?_,.cons (.regionEnd _ _) (.cons (.code ho.1) (.cons (.code ho.2) .nil)),.nil,.run,⟨rfl,rfl,by simp [pF2,Frame.at,base]⟩,.none⟩;have p:∀ {a b:Nat} (j:Nat),σ a b->RV σ (.pointer (some ⟨a,j,none⟩)) (.pointer (some ⟨b,j,none⟩)):=fun j h=>.pointer (.some ⟨h,rfl,rfl⟩)
 have u:RV σ Wo Wo:=cW;exact RVl.arr (.cons (Ga hr) (.cons (.int _ _) (.cons (p 0 h0) (.cons u (.cons (p 0 h1) (.cons (p 0 h2) (.cons (.int _ _) (.cons (.int _ _) (.cons u (.cons (.int _ _) (.cons (p 6 h0) (.cons (.int _ _) (.cons (.int _ _) (.cons (p 2 h0) (.cons (Gb _ _ _ _) (.cons (p 1 h0) (.cons (Gc hr) (.cons (.chan (.some hc)) (.cons u (.cons u (.cons u (.cons u (.cons u (.cons u (.cons u (.cons u (.cons u (.cons u (.cons u (.cons u (.cons u (.cons u (.cons u (.cons u (.cons u (.cons u (.cons u (.cons u (.cons u (.cons u (.cons u (.cons u (.cons u (.cons u (.cons u (.cons u (.cons u (.cons u (.cons u .nil)))))))))))))))))))))))))))))))))))))))))))))))))
theorem zO {Q:Wv}(k:CallKind)(hk:(k == .early)=false/\k≠.report){x0 x1 x2 y0 y1 c:Nat}(h0:σ x0 y0)(h1:σ x1 y1)(h2:σ x2 c){fn:Func}{b:Code}(hf:P.funcs[119]?=some fn)(hf':Q.funcs[119]?=some fn)(hb:fn.body=some b)(ho:aG P σ.F b=true):RFr P σ (Frame.enter Q 119 #[ptr x0,ptr x1,ptr x2] .normal) (Frame.enter P 119 #[ptr y0,ptr y1,ptr c] k):=by
 have p:∀ {a b:Nat},σ a b->RV σ (ptr a) (ptr b):=fun h=>.pointer (.some ⟨h,rfl,rfl⟩)
 have e1:(Frame.enter Q 119 #[ptr x0,ptr x1,ptr x2] .normal).todo=[.code b]:=by simp [Frame.enter,hf',hb]
 have e2:(Frame.enter P 119 #[ptr y0,ptr y1,ptr c] k).todo=[.code b]:=by simp [Frame.enter,hf,hb]
 refine ⟨rfl,?_,by rw [e1,e2];exact .cons (.code ho) .nil,.nil,.run,⟨rfl,hk.1,hk.2⟩,.none⟩;have d:(Frame.enter Q 119 #[ptr x0,ptr x1,ptr x2] .normal).tmps=#[ptr x0,ptr x1,ptr x2]++Array.replicate (fn.ntmps-3) Wo:=by simp [Frame.enter,hf']
 have e:(Frame.enter P 119 #[ptr y0,ptr y1,ptr c] k).tmps=#[ptr y0,ptr y1,ptr c]++Array.replicate (fn.ntmps-3) Wo:=by simp [Frame.enter,hf]
 rw [d,e];have a:RVs σ #[ptr x0,ptr x1,ptr x2] #[ptr y0,ptr y1,ptr c]:=RVl.arr (.cons (p h0) (.cons (p h1) (.cons (p h2) .nil)));refine ⟨by simp,fun i v v' e1 e2=>?_⟩;rw [Array.getElem?_append] at e1 e2;by_cases f:i<3
 .rw [if_pos (by simpa using f)] at e1 e2;exact a.at_ i v v' e1 e2
 .rw [if_neg (by simpa using f)] at e1 e2;simp only [Array.getElem?_replicate] at e1 e2;split at e1
  .cases e1;split at e2
   .cases e2;exact cW
   .cases e2
  .cases e1
end
theorem zP {a:Act}{c:Nat}{cs:List Wy}{w:Wj}{r:List Nat}(h:a.eval (.tmp 17)=.chan (some c)):∃z es,stepG Yq.prog true (G (jJ a (0::r)) cs) w=.comm (G (jJ a (0::r)) cs) #[rcase c z] true (.recv true) w es:=by
 refine ⟨.agg #[.int .i64 0, .string ⟨#[]⟩, .int .i64 0], _, stepG_comm (o := { dst := some 18, op := .recv 165 (.tmp 17) true, type := 0, pos := "listing.go:108", after := #[], guard := none }) rfl rfl (by decide) ?_⟩
 have e : execOp a.eval { dst := some 18, op := .recv 165 (.tmp 17) true, type := 0, pos := "listing.go:108", after := #[], guard := none } = (do
  let .chan _ elem ← underlying 165 | stuck "receive: channel type expected"
  pure (.comm #[{chan:=a.eval (.tmp 17),send:=none,zero:=<-zeroValue elem}] true (.recv true))):=rfl
 rw [e,h];simp [go_sem,rcase]
theorem rz {v:Wx}(h:∃ (a b:Int)(s:ByteArray),v=.agg #[.int .i64 a,.string s,.int .i64 b]):Flat v:=by
 obtain ⟨a,b,s,rfl⟩:=h;intro ρ;refine ⟨RVl.agg (.cons (.int _ _) (.cons (.string _) (.cons (.int _ _) .nil))),fun v' h=>?_⟩;cases h with
 | @agg _ c' hc hx=>
  obtain ⟨cl⟩:=c';have hlen:cl.length=3:=by simpa using hc.symm
  rcases cl with - |⟨x0,- |⟨x1,- |⟨x2,- |⟨x3,cl⟩⟩⟩⟩<;>simp at hlen
  have h0:=hx 0 _ x0 rfl rfl;have h1:=hx 1 _ x1 rfl rfl;have h2:=hx 2 _ x2 rfl rfl;cases h0;cases h1;cases h2;rfl
section
variable [Two Tryz.prog] [Two Yq.prog]
structure pT (G Fs Fr:FuncId->Bool):Prop where
 alt:Tryz.prog.alt=Yq.prog
 zero:bM Tryz.prog
 zero1:bM Yq.prog
 count:bV Tryz.prog
 count1:bV Yq.prog
 statS:fP Tryz.prog Fs
 statR:fP Tryz.prog Fr
 statS1:fP Yq.prog Fs
 statR1:fP Yq.prog Fr
 mark:∀f,Mk G f=true->f=69
 s:Fs lm=false/\Fs FX=false/\Fs lp=false
 smk:∀f,¬Mk Fs f=true
 s119:Fs 119=true
 r:Fr lm=false/\Fr fK=false/\Fr lp=false
 rmk:∀f,¬Mk Fr f=true
 okG:aG Tryz.prog G (dr (jc bP))=true/\aG Tryz.prog G (dr bP)=true
 okR:aG Tryz.prog Fr (dr (jc bP))=true/\aG Tryz.prog Fr (dr bP)=true
 okR1:aG Yq.prog Fr (dr (jc bP))=true/\aG Yq.prog Fr (dr bP)=true
 notR:aG Tryz.prog Fr (cF Tryz.f69)=false
theorem zQ {G Fs Fr:FuncId->Bool}(E:pT G Fs Fr){P:Wv}{n:Ww}(h:NoM P n)(hp:P=Tryz.prog):NoM Yq.prog n:=by
 subst hp;rw [<-E.alt];exact h
def D3 (c:Nat)(h:Wk)(V:Wj):Prop:=
 ∃a,h=G (jJ a [0,1]) [trap Yq.prog]/\a.eval (.tmp 17)=.chan (some c)/\∃k s q,V.heap[c]?=some (.chan k #[] true s q false)
def D5 (c:Nat)(L:List Wx)(h:Wk)(V:Wj):Prop:=
 (h.callers=[trap Yq.prog]/\h.frame.fn=119/\h.frame.mode=.returning/\∃at_ t k,h.frame.defers=[{target:=.builtin .close at_ t k,args:=#[.chan (some c)]}])/\(h.dying=none/\h.status=.running)/\∃k s q,V.heap[c]?=some (.chan k L.toArray false s q false)
noncomputable def phD (T:Wk->Wj->Prop)(G Fs Fr:FuncId->Bool)(L:List Wx)(n m k:Nat)(X:List Wy×List Wy)(R0:Nat->Nat->Prop)(h0:Wk)(V0:Wj)(U:Outer):PhD Tryz.prog where
 T:=T
 Nr:=jC Yq.prog ([trap Yq.prog],[]) (fun a=>a=n+5) Fr
 Tr:=D3 (n+5)
 Ns:=jC Yq.prog ([trap Yq.prog],[]) (fun a=>a=n+5) Fs
 Ts:=D5 (n+5) L
 h0:=h0
 V0:=V0
 k:=k
 c:=m+5
 cV:=n+5
 cr:=n+5
 cs:=n+5
 X:=X
 Bs:=[dI Tryz.prog]
 L:=L
 R0:=R0
 Fp:=G
 Fr:=Fr
 bo:=m+6
 U:=U
theorem Hl {G Fs Fr:FuncId->Bool}(E:pT G Fs Fr){T:Wk->Wj->Prop}{Post:Wx->Wj->Prop}{L:List Wx}{n m k:Nat}{fr fr':Wy}{cs j:List Wy}{ρ:Ren}{h0:Wk}{V0:Wj}{U:Outer}(hk:k≠0)(t:∀v∈L,Flat v)(y:∀h V,T h V->h.callers.length<=1)
  (C:GId Tryz.prog ρ) (D:fD Tryz.prog ρ.F) (i:ρ.F=G) (hS:ρ.F fK=false) (x:ρ.F lp=false) (p:ρ.bad=U.bad) (B:RFs Tryz.prog ρ ([trap Tryz.prog.alt],[]) (fr::cs) (fr'::j)) (hlen:1<=cs.length)
  (l:∀h V,LSs Tryz.prog.alt T h0 V0 h V->ou Tryz.prog U G [] Post h V):vt Tryz.prog (phD T G Fs Fr L n m k (fr::cs,fr'::j) ρ.rel h0 V0 U) Post where
 zero:=E.zero
 count:=E.count
 mark:=fun f hf fn b h1 h2=>by
  obtain rfl:=E.mark f hf;rw [func69] at h1;cases h1;have:cF Tryz.f69=b:=by unfold cF;rw [h2];rfl
  rw [<-this];exact E.notR
 k0:=hk
 flat:=t
 deep:=by show 2<=(fr::cs).length;simp;omega
 leafT:=y
 nr:=fun h V c=>by rw [E.alt];exact c.2
 tr:=fun h V c=>by
  obtain ⟨a,rfl,o,kk,s,q,hrow⟩:=c;refine ⟨fun _=>.inl rfl,fun n1 b s q tm hr=>?_,fun τ d=>?_⟩
  .have hr:V.heap[n+5]?=_:=hr;rw [hrow] at hr;cases hr;rfl
  .obtain ⟨z,es,e⟩:=zP (cs:=[trap Yq.prog]) (w:=V.on τ d) (r:=[1]) o;rw [E.alt];exact ⟨_,_,_,_,_,_,_,e,.shut (r:=n+5) rfl rfl hrow⟩
 ns:=fun h V c=>by rw [E.alt];exact c.2
 bs:=by simp [phD]
 grow:=fun h V τ d h' V' c hl n b cl s q tm hr=>by
  rw [E.alt] at hl;exact jC.grow (w:=V.on τ d) E.zero1 E.count1 E.s.2.1 (A:=fun a=>a=_) rfl ⟨c.1.on τ d,c.2⟩ hl hr
 ts:=fun h V c u b cl s q tm hr=>by
  obtain ⟨-,-,k2,s2,q2,hrow⟩:=c;have hr:V.heap[n+5]?=_:=hr;rw [hrow] at hr;cases hr;exact ⟨rfl,rfl⟩
 close:=fun h V ρs g W c S u b s q tm hrow=>by
  obtain ⟨⟨h1,h2,h3,h4⟩,-⟩:=c;exact Cr func119 rfl S ⟨by rw [E.alt];exact h1,h2,h3,h4⟩ hrow
 fin:=zI (ρ0:=ρ) (fun _ _ h=>h) C D hS x (fun f hf=>by rw [i];exact hf) (by rw [i];rfl) p B (by show 2<=(fr::cs).length;simp;omega) (by show 0<(fr'::j).length;simp) (by rw [i];exact l)
end
theorem dn (V:Wj)(l:Lst)(a:Nat):(bQ V l a).heap[V.heap.size+5]?=some (.chan a #[] false 0 0 false):=bW V l a 5 (by omega)
section
variable [Two Tryz.prog] [Two Yq.prog] {Gf Fs Fr:FuncId->Bool} {Pre:Lst->List Wx->Wj->Prop} {ρ:Ren} {V W:Wj} {l:Lst} {r':Option Wu} {L:List Wx}
def Cy (S:bI ρ V W)(hS:ρ.F fK=false):Ren:=ρ.plus V.heap.size W.heap.size (fun i=>3<=i/\i<7) (fun _ _ h=>S.lt h) (fun a=>a=V.heap.size+5) hS
def tA (S:bI ρ V W)(hS:ρ.F fK=false):Ren:=ρ.plus V.heap.size W.heap.size (fun i=>i<7) (fun _ _ h=>S.lt h) (fun a=>a=V.heap.size+5) hS
noncomputable def GV (n:Nat):Wk:=G (Frame.enter Yq.prog 119 #[ptr (n+6),ptr (n+3),ptr (n+4)] .normal) [trap Yq.prog]
noncomputable def He (m:Nat):Wk:=G (Frame.enter Tryz.prog 119 #[ptr (m+6),ptr (m+3),ptr (m+4)] .deferred) [dI Tryz.prog]
theorem Cz (E:pT Gf Fs Fr)(hPre:zN Pre)(S:bI ρ V W)(hS:ρ.F fK=false)(hr:RAo ρ l.root r')(hp:Pre l L V)(u:GId Tryz.prog ρ)(y:Nat):
  ∃Vs ht,Snd Tryz.prog ([trap Tryz.prog.alt],[dI Tryz.prog]) ((Cy S hS).low Fs (fun _=>False) (V.heap.size+5) false ht) (GV V.heap.size) (He W.heap.size) Vs ((bQ W {l with root:=r'} 20).at y) (V.heap.size+5) (W.heap.size+5) [] /\
   Dem Yq.prog (jC Yq.prog ([trap Yq.prog],[]) (fun a=>a=V.heap.size+5) Fs) (D5 (V.heap.size+5) L) (GV V.heap.size) Vs:=by
 have v:∀a b,ρ a b->(bQ V l 1000).heap[a]?=V.heap[a]?:=fun a b h=>em V l 1000 (S.lt h).1
 have S3:bI (Cy S hS) (bQ V l 1000) ((bQ W {l with root:=r'} 20).at y):=pS S hS hr (fun i h=>h.2) ⟨by omega,by omega⟩ v (fun _ _ _=>rfl) ⟨_,_,_,_,_,dn V l 1000⟩ rfl (fun c h=>by
  have h:c=_:=h;subst h;exact ⟨_,dn V l 1000,rfl⟩) y
 have ht:Fs fK=true->false=false:=fun _=>rfl
 have f:∀i,3<=i->i<7->(Cy S hS) (V.heap.size+i) (W.heap.size+i):=fun i h1 h2=>mH ⟨h1,h2⟩
 obtain ⟨Vs,SS,hsz,htp,hdr,hos,hrow,m,e,-,j⟩:=lower (F:=Fs) (live:=fun _=>False) (c:=V.heap.size+5) (c':=W.heap.size+5) (wide:=false) (n:=1000) (b:=#[]) (cl:=false) (s:=0) (q:=0) S3 ht E.s.1 (f 5 (by omega) (by omega)) (dn W {l with root:=r'} 20) (.inr rfl) (fun a h=>h.elim);refine ⟨Vs,ht,?_,?_⟩
 .have o:aG Tryz.prog Fs (cF Tryz.f119)=true:=E.statS.code 119 _ _ E.s119 func119 rfl;refine ⟨⟨zO (P:=Tryz.prog) (σ:=(Cy S hS).low Fs (fun _=>False) (V.heap.size+5) false ht) (Q:=Yq.prog) .deferred ⟨rfl,by simp⟩ (f 6 (by omega) (by omega)) (f 3 (by omega) (by omega)) (f 4 (by omega) (by omega)) func119 (Yq.nq func119) rfl o,by rw [E.alt];exact .base,⟨fun h=>?_,fun _=>rfl⟩,⟨rfl,rfl⟩,⟨rfl,rfl⟩,rfl,rfl⟩,SS,E.statS.gid (fun g hg=>.inl (u.glob g hg)) u.prog (fun h=>by rw [show (((Cy S hS).low Fs (fun _=>False) (V.heap.size+5) false ht).F)=Fs from rfl,E.s.1] at h;cases h),E.statS.ext,⟨E.s.2.1,E.s.2.2⟩,E.smk,⟨rfl,rfl⟩,fun x=>Iff.rfl,f 5 (by omega) (by omega),⟨_,_,_,_,_,hrow,rfl⟩,fun a n b s q tm h=>m a _ h rfl⟩;rcases h with h|h
  .exact absurd rfl h
  .rw [E.alt] at h;simp at h
 .have hb:Boxes Vs (V.heap.size+6) (V.heap.size+3) (V.heap.size+4) (V.heap.size+5) l.root l.vs l.p l.d l.af:=by
   have hb:=jd V l 1000;exact ⟨e _ _ _ _ (f 6 (by omega) (by omega)) hb.out (.chan _),e _ _ _ _ (f 3 (by omega) (by omega)) hb.q0 (.bool _),e _ _ _ _ (f 3 (by omega) (by omega)) hb.q1 (.string _),e _ _ _ _ (f 3 (by omega) (by omega)) hb.q2 (.string _),e _ _ _ _ (f 3 (by omega) (by omega)) hb.q3 (.string _),e _ _ _ _ (f 4 (by omega) (by omega)) hb.st (.pointer _)⟩
  have A:Pre l L (bQ V l 1000):=hPre.on V _ l L (oA V l 1000) (by rw [eQ];omega) hp;have z:Pre l L Vs:=hPre.low _ _ _ _ l L S3 ⟨r',RAo.re pR hr⟩ (fun g hg=>⟨_,.inl (u.glob g hg)⟩) e (by rw [hsz];exact lR _) A;have o:aG Yq.prog Fs (cF Tryz.f119)=true:=E.statS1.code 119 _ _ E.s119 (Yq.nq func119) rfl;refine ly E.zero1 E.count1 (fun g w h=>⟨by rw [h.1.1];simp,h.2.1⟩) (fun g w τ d=>Iff.rfl) ⟨rfl,((Cy S hS).low Fs (fun _=>False) (V.heap.size+5) false ht).firm Yq.prog (zQ E ρ.noM u.prog) (V.heap.size+5),G (Frame.enter Yq.prog 119 #[ptr (W.heap.size+6),ptr (W.heap.size+3),ptr (W.heap.size+4)] .normal) [],(bQ W {l with root:=r'} 20).at y,⟨zO (P:=Yq.prog) (σ:=((Cy S hS).low Fs (fun _=>False) (V.heap.size+5) false ht).firm Yq.prog (zQ E ρ.noM u.prog) (V.heap.size+5)) (Q:=Yq.prog) .normal ⟨rfl,by simp⟩ (f 6 (by omega) (by omega)) (f 3 (by omega) (by omega)) (f 4 (by omega) (by omega)) (Yq.nq func119) (Yq.nq func119) rfl o,.base,⟨fun _=>rfl,fun _=>rfl⟩,⟨rfl,rfl⟩,⟨rfl,rfl⟩,rfl,rfl⟩,vG SS (f 5 (by omega) (by omega)) j (fun _ _=>rfl) rfl hrow (dn W {l with root:=r'} 20) RVs.nil,E.statS1.gid (fun g hg=>.inl (u.glob g (by rw [Yq.globals_size] at hg;exact hg))) rfl (fun _ _ h=>h),E.statS1.ext,rfl,rfl,⟨rfl,fun c h=>⟨W.heap.size+5,by rw [show c=V.heap.size+5 from h];exact f 5 (by omega) (by omega)⟩,rfl⟩,fun _ h=>h,E.smk⟩ (fun τ d=>?_);have hsend:=hPre.send l L (Vs.on τ d) (V.heap.size+5) (hPre.on Vs _ l L (fun _ _=>rfl) (lR _) z) hrow;obtain ⟨fr,w',df,hst,hf,hm,hd,⟨at_,t,k,rfl⟩,-,-,-,r⟩:=rv (w:=Vs.on τ d) ⟨hb.out,hb.q0,hb.q1,hb.q2,hb.q3,hb.st⟩ hsend [trap Yq.prog];exact ⟨_,w',hst,⟨rfl,hf,hm,at_,t,k,hd⟩,⟨rfl,rfl⟩,_,_,_,r⟩
end
def vI:Prop:=∀ (l:Lst)(pn:Int)(L:List Wx)(n c:Nat)(w:Wj)(cs:List Wy),(∀v∈L,∃ (a b:Int)(s:ByteArray),v=.agg #[.int .i64 a,.string s,.int .i64 b])->L.length<=1000->n+2<c ->
 w.heap[n]?=some (.cells (bN l) 125)->w.heap[n+1]?=some (.cells #[.slice none 0 0,.string ⟨#[]⟩] 88)->w.heap[n+2]?=some (.cells #[.slice none 0 0,.string ⟨#[]⟩] 88)->(∃k s q,w.heap[c]?=some (.chan k L.toArray true s q false)) ->
 ∃a w',Steps Yq.prog (lone (pF2 n l pn c) cs w) (lone (jJ a [0,1]) cs w')/\a.eval (.tmp 17)=.chan (some c)/\∃k s q,w'.heap[c]?=some (.chan k #[] true s q false)
theorem um (l:Lst):∀ (i:Nat) v,(bN l)[i]?=some v->Good v:=fun i v h=>by
 rcases i with - | - | - | - | - | - | - | - |i<;>simp [bN] at h<;>subst h
 .exact .int _ _
 .exact .pointer _
 .exact .bool _
 .exact .string _
 .exact .string _
 .exact .string _
 .exact .int _ _
 .exact .int _ _
theorem rB:∀ (i:Nat) v,(#[.slice none 0 0,.string ⟨#[]⟩]:Array Wx)[i]?=some v->Good v:=fun i v h=>by
 rcases i with - | - |i<;>simp at h<;>subst h
 .exact .slice _ _ _
 .exact .string _
section
variable [Two Tryz.prog] [Two Yq.prog] {Gf Fs Fr:FuncId->Bool} {ρ:Ren} {V W:Wj} {l:Lst} {r':Option Wu} {L:List Wx}
def own3 (n a:Nat):Prop:=a=n\/a=n+1\/a=n+2
theorem CA (E:pT Gf Fs Fr)(H:vI)(S:bI ρ V W)(hS:ρ.F fK=false)(hr:RAo ρ l.root r')(pn:Int)(D:∀v∈L,∃ (a b:Int)(s:ByteArray),v=.agg #[.int .i64 a,.string s,.int .i64 b])(hlen:L.length<=1000)(u:GId Tryz.prog ρ)(Y:List Wy)(t:Nat):
  ∃Vr ht,Side Tryz.prog ([trap Tryz.prog.alt],Y) ((tA S hS).low Fr (own3 V.heap.size) (V.heap.size+5) true ht) (G (pF2 V.heap.size l pn (V.heap.size+5)) [trap Yq.prog]) (G (pF2 W.heap.size {l with root:=r'} pn (W.heap.size+5)) Y) Vr ((bQ W {l with root:=r'} 20).at t) (V.heap.size+5) (W.heap.size+5) L /\
   (∀ (a:Nat) o,Vr.heap[a]?=some o->o.isChan=true->a=V.heap.size+5) /\
   Dem Yq.prog (jC Yq.prog ([trap Yq.prog],[]) (fun a=>a=V.heap.size+5) Fr) (D3 (V.heap.size+5)) (G (pF2 V.heap.size l pn (V.heap.size+5)) [trap Yq.prog]) Vr:=by
 have A:∀a b,ρ a b->(bQ V l 1000).heap[a]?=V.heap[a]?:=fun a b h=>em V l 1000 (S.lt h).1
 have S3:bI (tA S hS) (bQ V l 1000) ((bQ W {l with root:=r'} 20).at t):=pS S hS hr (fun i h=>h) (by omega) A (fun _ _ _=>rfl) ⟨_,_,_,_,_,dn V l 1000⟩ rfl (fun c h=>by
  have h:c=_:=h;subst h;exact ⟨_,dn V l 1000,rfl⟩) t
 have ht:Fr fK=true->true=false:=fun h=>by rw [E.r.2.1] at h;cases h
 have f:∀i,i<7->(tA S hS) (V.heap.size+i) (W.heap.size+i):=fun i h=>mH h
 have r0:=bW V l 1000 0 (by omega);have r1:=bW V l 1000 1 (by omega);have r2:=bW V l 1000 2 (by omega);have p:∀a,own3 V.heap.size a->a≠V.heap.size+5/\∃x e z,(bQ V l 1000).heap[a]?=some (.cells x e z)/\(∀ (i:Nat) v,x[i]?=some v->Good v)/\∀y,(tA S hS) a y->∃x',((bQ W {l with root:=r'} 20).at t).heap[y]?=some (.cells x' e z):=fun a ha=>by
  rcases ha with rfl|rfl|rfl
  .refine ⟨by omega,_,_,_,r0,um l,fun y hy=>?_⟩;obtain rfl:=(tA S hS).fn _ _ _ hy (f 0 (by omega));exact ⟨_,bW W {l with root:=r'} 20 0 (by omega)⟩
  .refine ⟨by omega,_,_,_,r1,rB,fun y hy=>?_⟩;obtain rfl:=(tA S hS).fn _ _ _ hy (f 1 (by omega));exact ⟨_,bW W {l with root:=r'} 20 1 (by omega)⟩
  .refine ⟨by omega,_,_,_,r2,rB,fun y hy=>?_⟩;obtain rfl:=(tA S hS).fn _ _ _ hy (f 2 (by omega));exact ⟨_,bW W {l with root:=r'} 20 2 (by omega)⟩
 obtain ⟨Vr,SS,hsz,htp,hdr,hos,hrow,k,hcell,hlv,j⟩:=lower (F:=Fr) (live:=own3 V.heap.size) (c:=V.heap.size+5) (c':=W.heap.size+5) (wide:=true) (n:=1000) (b:=L.toArray) (cl:=true) (s:=L.length) (q:=0) S3 ht E.r.1 (f 5 (by omega)) (dn W {l with root:=r'} 20) (.inl rfl) p;have hr2:∀ {σ:Ren},(∀a b,(tA S hS) a b->σ a b)->RAo σ l.root r':=fun I=>by
  generalize l.root=x at hr;cases hr with
  |none=>exact .none
  |some h=>exact .some ⟨I _ _ (.inl h.1),h.2⟩
 refine ⟨Vr,ht,?_,k,?_⟩
 .refine ⟨⟨ul (P:=Tryz.prog) (σ:=(tA S hS).low Fr (own3 V.heap.size) (V.heap.size+5) true ht) (f 0 (by omega)) (f 1 (by omega)) (f 2 (by omega)) (f 5 (by omega)) (hr2 fun _ _ h=>h) E.okR,by rw [E.alt];exact .base,⟨fun _=>rfl,fun _=>rfl⟩,⟨rfl,rfl⟩,⟨rfl,rfl⟩,rfl,rfl⟩,SS,E.statR.gid (fun g hg=>.inl (u.glob g hg)) u.prog (fun h=>by rw [show (((tA S hS).low Fr (own3 V.heap.size) (V.heap.size+5) true ht).F)=Fr from rfl,E.r.1] at h;cases h),E.statR.ext,⟨E.r.2.1,E.r.2.2⟩,⟨rfl,rfl⟩,rfl,f 5 (by omega),⟨_,_,_,_,_,hrow,rfl⟩⟩
 .have C:∀ {σ:Ren},RVs σ L.toArray L.toArray:=⟨rfl,fun i v v' h1 h2=>by
   rw [h1] at h2;cases h2;exact (rz (D v (by
    have:L[i]?=some v:=by simpa using h1
    exact List.mem_of_getElem? this)) _).1⟩
  refine ly E.zero1 E.count1 (fun g w h=>?_) (fun g w τ d=>Iff.rfl) ⟨rfl,((tA S hS).low Fr (own3 V.heap.size) (V.heap.size+5) true ht).firm Yq.prog (zQ E ρ.noM u.prog) (V.heap.size+5),G (pF2 W.heap.size {l with root:=r'} pn (W.heap.size+5)) [],((bQ W {l with root:=r'} 20).at t).setChan (W.heap.size+5) 20 L.toArray true 0 0 false,⟨ul (P:=Yq.prog) (σ:=((tA S hS).low Fr (own3 V.heap.size) (V.heap.size+5) true ht).firm Yq.prog (zQ E ρ.noM u.prog) (V.heap.size+5)) (f 0 (by omega)) (f 1 (by omega)) (f 2 (by omega)) (f 5 (by omega)) (hr2 fun _ _ h=>h) E.okR1,.base,⟨fun _=>rfl,fun _=>rfl⟩,⟨rfl,rfl⟩,⟨rfl,rfl⟩,rfl,rfl⟩,vG SS (f 5 (by omega)) j (fun b hb=>aK _ _ _ _ _ _ _ _ hb) rfl hrow (heap_setChan _ _ _ _ _ _ _ _ (eS (dn W {l with root:=r'} 20)).1) C,E.statR1.gid (fun g hg=>.inl (u.glob g (by rw [Yq.globals_size] at hg;exact hg))) rfl (fun _ _ h=>h),E.statR1.ext,rfl,rfl,⟨rfl,fun c h=>⟨W.heap.size+5,by rw [show c=V.heap.size+5 from h];exact f 5 (by omega)⟩,rfl⟩,fun _ h=>h,E.rmk⟩ (fun τ d=>?_)
  .obtain ⟨a,rfl,-⟩:=h;exact ⟨by simp [G],rfl,rfl⟩
  .obtain ⟨a,w',hs,B,m⟩:=H l pn L V.heap.size (V.heap.size+5) (Vr.on τ d) [trap Yq.prog] D hlen (by omega) ((hlv _ (.inl rfl)).trans r0) ((hlv _ (.inr (.inl rfl))).trans r1) ((hlv _ (.inr (.inr rfl))).trans r2) ⟨_,_,_,hrow⟩;exact ⟨_,w',hs,a,rfl,B,m⟩
end
theorem EP (m:Nat)(l:Lst)(root:Option Wu)(cs:List Wy)(w:Wj):stepG Tryz.prog true (G ((base 97).at ⟨eZ m root l.vs l.p l.d l.af (dZ m),[]⟩ [.inRegion ui [1],.code iU]) cs) w=.spawn (G ((base 97).at ⟨eZ m root l.vs l.p l.d l.af (dZ m),[]⟩ [.inRegion ui [],.code iU]) cs) (born Tryz.prog {target:=.fn (.func 119) #[ptr (m+3),ptr m,ptr (m+1)],args:=#[]}) w #[]:=by
 have hr : (execOp (Act.eval ⟨eZ m root l.vs l.p l.d l.af (dZ m), []⟩) { dst := none, op := .go { callee := .value (.tmp 7), args := #[], argTypes := #[] }, type := 0, pos := "items.go:22", after := #[{ on := 0, ground := .data }], guard := none }).run Tryz.prog w = .ok (.spawn { target := .fn (.func 119) #[ptr (m + 3), ptr m, ptr (m + 1)], args := #[] }) w := by
  simp [go_sem,Act.eval,eZ,dZ]
 have := stepG_spawn (P := Tryz.prog) (main := true) (b := base 97) (a := ⟨eZ m root l.vs l.p l.d l.af (dZ m), []⟩) (k := [.code iU]) (cs := cs) (w := w) (ops := ui) (i := 1) (rest := []) (o := { dst := none, op := .go { callee := .value (.tmp 7), args := #[], argTypes := #[] }, type := 0, pos := "items.go:22", after := #[{ on := 0, ground := .data }], guard := none }) rfl rfl (by decide) hr rfl
 rw [this]
 have hl : listed Tryz.prog (base 97).fn ⟨eZ m root l.vs l.p l.d l.af (dZ m), []⟩ { dst := none, op := .go { callee := .value (.tmp 7), args := #[], argTypes := #[] }, type := 0, pos := "items.go:22", after := #[{ on := 0, ground := .data }], guard := none } w = #[] := listed_nil (by simp [go_sem, Act.eval, eZ, dZ])
 rw [hl];rfl
theorem zR {Q : Wv} {i : Nat} {fn : Func} (h : Q.funcs[i]? = some fn) (hn : (fn.name == "runtime.NumGoroutine") = false) (hb : fn.body.isNone = false) (args : Array Wx) (w : Wj) : (callFunc i args).runT Q w #[] = (.ok (.enter i args) w, #[]) := by
 show Sem.runT Q (match Q.funcs[i]? with|none=>_|some fn=>_) w #[]=_;rw [h];simp only [hn,hb];rfl
theorem zS (m:Nat)(w:Wj):stepG Tryz.prog false (born Tryz.prog {target:=.fn (.func 119) #[ptr (m+6),ptr (m+3),ptr (m+4)],args:=#[]}) w=.go (He m) w #[]:=by
 have hc:(callFunc 119 #[ptr (m+6),ptr (m+3),ptr (m+4)]).runT Tryz.prog w #[]=(.ok (.enter 119 #[ptr (m+6),ptr (m+3),ptr (m+4)]) w,#[]):=zR func119 rfl rfl _ w;have a:(invoke (.fn (.func 119) #[ptr (m+6),ptr (m+3),ptr (m+4)]) #[]).runT Tryz.prog w #[]=(.ok (.enter 119 #[ptr (m+6),ptr (m+3),ptr (m+4)]) w,#[]):=by
  unfold invoke;simpa using hc
 have h0:stepG Tryz.prog false (born Tryz.prog {target:=.fn (.func 119) #[ptr (m+6),ptr (m+3),ptr (m+4)],args:=#[]}) w=callDeferred Tryz.prog (dI Tryz.prog) [] none {target:=.fn (.func 119) #[ptr (m+6),ptr (m+3),ptr (m+4)],args:=#[]} w:=rfl;rw [h0];unfold callDeferred;simp only [a];rfl
section
variable [Two Tryz.prog] [Two Yq.prog] {Gf Fs Fr:FuncId->Bool} {Pre:Lst->List Wx->Wj->Prop}
structure D6 (Pre:Lst->List Wx->Wj->Prop)(R:(Nat->Question->Nat)->Nat->Ending->Wj->Prop):Prop where
 stop:∀τ d x y e u,R τ d (.panicked (stopEntry x y::e)) u->∃l pn L,x=lV l/\y=.int .i64 pn/\Pre l L u
theorem oa {f0:FuncId}{R:(Nat->Question->Nat)->Nat->Ending->Wj->Prop}(E:pT Gf Fs Fr)(f:D6 Pre R)(m:∀l L V u,Ce V u->Pre l L u->Pre l L V){x y:Wx}{fr fr':Wy}{cs q:List Wy}{V W:Wj}{ρ:Ren}{U:Outer}
  (a:Rel Tryz.prog U Gf [] ρ {frame:=fr,callers:=cs,status:=.running,dying:=none} {frame:=fr',callers:=q,status:=.running,dying:=none} V W)
  (hD:Dem Yq.prog (fun g _=>NB [trap Yq.prog] g) (Ends Yq.prog f0 R) {frame:=Frame.enter Yq.prog 69 #[x,y] .normal,callers:=fr::cs,status:=.running,dying:=none} V):
  ∃l pn L,x=lV l/\y=.int .i64 pn/\Pre l L V:=by
 have c:(ρ.F fK||ρ.F lp)=false:=by rw [a.calm,a.quiet.1];rfl
 have hlen:1<=cs.length:=by
  have:=a.go.callers.len1;simpa using this
 have hcal:=a.go.callers;rw [E.alt] at hcal;have hDm:=Dem.on (fun _ _ _ _ h=>h) (fun g w τ d=>Ends.on τ d) hD (fun _ _=>0) 0;obtain ⟨j,hst,hm,hd,hf⟩:=ru x y (fr::cs) (V.on (fun _ _=>0) 0) F9;obtain ⟨k,hk⟩:=hst;obtain ⟨-,p⟩:=zK (fun g w h=>ox h) k _ _ hDm rfl {frame:=j,callers:=fr::cs,status:=.running,dying:=none} _ hk rfl (by simp;omega);have i:j.catches Yq.prog=false:=by unfold Frame.catches;rw [hf,Yq.func69]
 obtain ⟨τ,d,e,u,s,t⟩:=EJ (ρ:=ρ) (en:=stopEntry x y) (V:=V) p [] hm rfl i (by rw [hd];exact fun d h=>by cases h) (.cons (eN a.go.frame _).1 (a.go.frame.defers.marks c) (RFs.fl c hcal)) (fun r b n l0 h0=>by
  obtain ⟨o,o',h1,h2,h3⟩:=a.sim.obj r b n;have h0:V.heap[r]?=_:=h0;rw [h1] at h0;cases h0;cases h3 with
  |deferred h=>exact h.marks c) ⟨rfl,fun _=>rfl⟩
 obtain ⟨l,pn,L,h1,h2,h3⟩:=f.stop τ d x y e u s;exact ⟨l,pn,L,h1,h2,m l L V u t h3⟩
theorem xC {f0:FuncId}{R:(Nat->Question->Nat)->Nat->Ending->Wj->Prop}{Post:Wx->Wj->Prop}{U:Outer}(E:pT Gf Fs Fr)(hPre:zN Pre)(ad:vI)(T:D6 Pre R)(a4:∀l L V u,Ce V u->Pre l L u->Pre l L V):uc Tryz.prog U Gf [] (Ends Yq.prog f0 R) Post:=by
 intro f a a' fr fr' cs n V W ρ hM ⟨ac,a8⟩ m hD ab gs sl t q h0 hL hP;obtain rfl:f=69:=E.mark f (by rw [<-m.same];exact hM);obtain ⟨al⟩:=a;rcases al with - |⟨x,- |⟨y,- |⟨z,al⟩⟩⟩<;>simp at a8
 have hD0:=hD;rw [E.alt] at hD0;obtain ⟨l,pn,L,rfl,rfl,hp⟩:=oa E T a4 m hD0;obtain ⟨r',hr,rfl⟩:=Cx ac;have hlen:1<=cs.length:=by
  have:=m.go.callers.len1;simpa using this
 have hS:=m.calm;have hBM:=m.quiet.1;have hX:RFs Tryz.prog ρ ([trap Tryz.prog.alt],[]) (fr::cs) (fr'::n):=.cons m.go.frame m.go.kind m.go.callers;have hDn:=Dem.on (fun _ _ _ _ h=>h) (fun g w τ d=>Ends.on τ d) hD0 (fun _ _=>1) 0;obtain ⟨V4,⟨k4,hk4⟩,H,J,I⟩:=ry hPre l pn L (V.on (fun _ _=>1) 0) (fr::cs) (hPre.on V _ l L (fun _ _=>rfl) (lR _) hp) F8;obtain ⟨bn,bq⟩:=zK (fun g w h=>ox h) k4 _ _ hDn rfl {frame:=pF2 V.heap.size l pn (V.heap.size+5),callers:=fr::cs,status:=.running,dying:=none} V4 hk4 rfl (by simp;omega);have Z:LSs Yq.prog (Ends Yq.prog f0 R) {frame:=Frame.enter Yq.prog 69 #[lV l,.int .i64 pn] .normal,callers:=fr::cs,status:=.running,dying:=none} V {frame:=pF2 V.heap.size l pn (V.heap.size+5),callers:=fr::cs,status:=.running,dying:=none} V4:=by
  rcases LSs.on (fun g w τ d=>Ends.on τ d) bn with ⟨e,-⟩|h
  .exfalso;have:=congrArg (fun g:Wk=>g.frame.todo) e;rw [oy] at this;cases this
  .exact h
 have H:∀b,b<V.heap.size+7->b≠V.heap.size+5->V4.heap[b]?=(bQ V l 1000).heap[b]?:=H;have J:V4.heap[V.heap.size+5]?=some (.chan 1000 L.toArray true L.length 0 false):=J;have I:V4.os=V.os:=I;have s:∀a b,ρ a b->V4.heap[a]?=V.heap[a]?:=fun a b h=>by
  have:=(m.sim.lt h).1;exact (H a (by omega) (by omega)).trans (em V l 1000 this)
 have hsz:W.heap.size+7=W.heap.size+7:=rfl;refine vF (B:=W.heap.size+7) (EL {l with root:=r'} pn (fr'::n) W (W.heap.size+7) rfl (fun dd=>?_)) gs sl t q h0 hL (hP.mono (by omega));have S:((pgW W {l with root:=r'}).at dd).heap.size=W.heap.size+3:=vH W _;refine vF (Cs _ _ r' l.vs l.p l.d l.af ((pgW W {l with root:=r'}).at dd) (W.heap.size+7) (by rw [S]) (fun d2=>?_));intro bp bo t1 q1 h1 be hP1;have a7:∀d3,(itW ((pgW W {l with root:=r'}).at dd) r' l.vs l.p l.d l.af 20).at d3=(bQ W {l with root:=r'} 20).at d3:=fun _=>rfl
 rw [S] at h1;rw [a7];obtain ⟨Vs,hts,a0,bk⟩:=Cz E hPre m.sim hS hr hp m.gid 0;obtain ⟨Vr,Q,ap,Y,a9⟩:=CA E ad m.sim hS hr pn (hPre.item l L V hp) (hPre.len l L V hp) m.gid (fr'::n) 0;refine zJ (W:=bQ W {l with root:=r'} 20) (g:=G ((base 97).at ⟨eZ (W.heap.size+3) r' l.vs l.p l.d l.af (dZ (W.heap.size+3)),[]⟩ [.inRegion ui [1],.code iU]) (pF W.heap.size {l with root:=r'} pn::fr'::n)) rfl (fun d=>EP (W.heap.size+3) l r' _ _)
  (ρr:=(tA m.sim hS).low Fr (own3 V.heap.size) (V.heap.size+5) true Q) (ρs:=(Cy m.sim hS).low Fs (fun _=>False) (V.heap.size+5) false hts) (fun bb a5 t2 q2 d k hk0 bi hgk a6 bs=>?_) bp bo t1 q1 d2 h1 be (by rw [eQ];exact hP1)
 have O:vt Tryz.prog (phD (Ends Yq.prog f0 R) Gf Fs Fr L V.heap.size W.heap.size k (fr::cs,fr'::n) ρ.rel {frame:=Frame.enter Yq.prog 69 #[lV l,.int .i64 pn] .normal,callers:=fr::cs,status:=.running,dying:=none} V U) Post:=
  Hl E hk0 (fun v hv=>rz (hPre.item l L V hp v hv)) (fun h V hT=>by obtain ⟨_,_,_,_,_,_,_,rfl,-⟩:=hT;simp) m.gid m.ext m.same hS hBM m.out.2.2.2.2 hX hlen (fun h V2 hl=>ab h V2 (by rw [E.alt] at hl ⊢;exact hl))
 have a1:∀c,(c=V.heap.size+5\/∃b o,ρ c b/\V.heap[c]?=some o/\o.isChan=true)->∃o,V4.heap[c]?=some o/\o.isChan=true:=fun c h=>by
  rcases h with rfl|⟨b,o,h1,h2,h3⟩
  .exact ⟨_,J,rfl⟩
  .exact ⟨o,(s c b h1).trans h2,h3⟩
 have SA:bI (ρ.plus V.heap.size W.heap.size (fun i=>i<7) (fun _ _ h=>m.sim.lt h) (fun c=>c=V.heap.size+5\/∃b o,ρ c b/\V.heap[c]?=some o/\o.isChan=true) hS) V4 ((bQ W {l with root:=r'} 20).at d):=
  pS m.sim hS hr (fun i h=>h) (by omega) s (fun i h h5=>H _ (by omega) (by omega)) ⟨_,_,_,_,_,J⟩ I a1 d
 have A:∀i,i<7->(ρ.plus V.heap.size W.heap.size (fun i=>i<7) (fun _ _ h=>m.sim.lt h) (fun c=>c=V.heap.size+5\/∃b o,ρ c b/\V.heap[c]?=some o/\o.isChan=true) hS) (V.heap.size+i) (W.heap.size+i):=fun i h=>mH h
 generalize hρA:ρ.plus V.heap.size W.heap.size (fun i=>i<7) (fun _ _ h=>m.sim.lt h) (fun c=>c=V.heap.size+5\/∃b o,ρ c b/\V.heap[c]?=some o/\o.isChan=true) hS=ρA at SA A;have N:ρA.F=Gf:=by subst hρA;exact m.same
 have D:∀a b,ρA a b->ρ a b\/∃i,i<7/\a=V.heap.size+i/\b=W.heap.size+i:=fun a b h=>by subst hρA;exact h
 have r:∀a b,ρ a b->ρA a b:=fun a b h=>by subst hρA;exact .inl h
 have bl:RAo ρA l.root r':=by
  generalize l.root=x at hr;cases hr with
  |none=>exact .none
  |some h=>exact .some ⟨r _ _ h.1,h.2⟩
 have RR:nX (phD (Ends Yq.prog f0 R) Gf Fs Fr L V.heap.size W.heap.size k (fr::cs,fr'::n) ρ.rel {frame:=Frame.enter Yq.prog 69 #[lV l,.int .i64 pn] .normal,callers:=fr::cs,status:=.running,dying:=none} V U) ρA ((tA m.sim hS).low Fr (own3 V.heap.size) (V.heap.size+5) true Q) ((bQ W {l with root:=r'} 20).at d) {frame:=pF2 V.heap.size l pn (V.heap.size+5),callers:=fr::cs,status:=.running,dying:=none} (G (pF2 V.heap.size l pn (V.heap.size+5)) [trap Yq.prog]) (G (pF2 W.heap.size {l with root:=r'} pn (W.heap.size+5)) (fr'::n)) V4 Vr L:=by
  refine ⟨⟨⟨ul (P:=Tryz.prog) (σ:=ρA) (A 0 (by omega)) (A 1 (by omega)) (A 2 (by omega)) (A 5 (by omega)) bl (by rw [N];exact E.okG),.base,⟨fun _=>rfl,fun _=>rfl⟩,⟨rfl,rfl⟩,⟨rfl,rfl⟩,rfl,rfl⟩,SA,?_,by rw [N,<-m.same];exact m.ext,⟨by rw [N,<-m.same];exact hS,by rw [N,<-m.same];exact hBM⟩,by subst hρA;exact ⟨rfl,rfl⟩,by subst hρA;exact .inl rfl,A 5 (by omega),⟨_,_,_,_,_,J,rfl⟩⟩,ap.stays rfl (fun _ _ _ _=>rfl) rfl,Y,fun x h=>h,⟨E.rmk,rfl⟩,⟨r,N⟩,fun a b o X ho hc=>?_,fun a b hch X hne=>?_⟩
  .have hg:=m.gid;subst hρA;exact ⟨fun g h=>.inl (hg.glob g h),hg.prog,hg.code,hg.alt,fun _ _ h=>h,hg.same,hg.size,hg.apart⟩
  .have hch:(a=V.heap.size+5\/∃b o,ρ a b/\V.heap[a]?=some o/\o.isChan=true):=by
    rcases D a b X with h|⟨i,hi,rfl,rfl⟩
    .exact .inr ⟨b,o,h,by rw [<-s a b h];exact ho,hc⟩
    .by_cases h5:i=5
     .subst h5;exact .inl rfl
     .exfalso;rw [H _ (by omega) (by omega),bW V l 1000 i hi] at ho;rcases i with - | - | - | - | - | - | - |i;all_goals first|omega|(cases ho;cases hc)
   subst hρA;exact hch
  .have hne:a≠V.heap.size+5:=hne;have hch:(a=V.heap.size+5\/∃b o,ρ a b/\V.heap[a]?=some o/\o.isChan=true):=by subst hρA;exact hch
   rcases hch with h|⟨b2,o,h1,h2,h3⟩
   .exact absurd h hne
   .obtain rfl:b2=b:=ρA.fn _ _ _ (r _ _ h1) X;obtain ⟨n1,s1,q1',tm1,rfl⟩:=m.quiet.2 a b2 o h1 h2 h3;obtain ⟨o1,o2,e1,e2,e3⟩:=m.sim.obj a b2 h1;rw [h2] at e1;cases e1;cases e3 with
    | @chan _ cap' _ b' _ cl' _ _ s' q' _ hb hcl=>
     have hb:RVs ρ #[] b':=hb.resolve_left (by rw [m.firm.1];exact fun h=>by cases h);obtain rfl:=hcl.resolve_left (by rw [m.firm.2];exact fun h=>by cases h);obtain rfl:b'=#[]:=Array.eq_empty_of_size_eq_zero (by rw [<-hb.size];rfl);exact ⟨_,_,_,_,_,_,_,(s a b2 h1).trans h2,(em W _ 20 (m.sim.lt h1).2).trans e2⟩
 have K:∀a b,((tA m.sim hS).low Fr (own3 V.heap.size) (V.heap.size+5) true Q) a b->ρ a b\/∃i,i<7/\a=V.heap.size+i/\b=W.heap.size+i:=fun a b h=>h
 have C:∀a b,((Cy m.sim hS).low Fs (fun _=>False) (V.heap.size+5) false hts) a b->ρ a b\/∃i,(3<=i/\i<7)/\a=V.heap.size+i/\b=W.heap.size+i:=fun a b h=>h
 have ar:∀x y b,(ρ x b\/∃i,i<7/\x=V.heap.size+i/\b=W.heap.size+i)->(ρ y b\/∃i,(3<=i/\i<7)/\y=V.heap.size+i/\b=W.heap.size+i)->x=y/\¬own3 V.heap.size y:=fun x y b h1 h2=>by
  rcases h1 with h1|⟨i,hi,h1,h3⟩<;>rcases h2 with h2|⟨j,hj,h2,h4⟩
  .have:=(m.sim.lt h2).1;exact ⟨ρ.inj _ _ _ h1 h2,fun h=>by rcases h with h|h|h<;>omega⟩
  .have:=(m.sim.lt h1).2;omega
  .have:=(m.sim.lt h2).2;omega
  .exact ⟨by omega,fun h=>by rcases h with h|h|h<;>omega⟩
 have bd:((tA m.sim hS).low Fr (own3 V.heap.size) (V.heap.size+5) true Q) (V.heap.size+6) (W.heap.size+6):=.inr ⟨6,by omega,rfl,rfl⟩;have a2:Dem Tryz.prog.alt (phD (Ends Yq.prog f0 R) Gf Fs Fr L V.heap.size W.heap.size k (fr::cs,fr'::n) ρ.rel {frame:=Frame.enter Yq.prog 69 #[lV l,.int .i64 pn] .normal,callers:=fr::cs,status:=.running,dying:=none} V U).Ns (phD (Ends Yq.prog f0 R) Gf Fs Fr L V.heap.size W.heap.size k (fr::cs,fr'::n) ρ.rel {frame:=Frame.enter Yq.prog 69 #[lV l,.int .i64 pn] .normal,callers:=fr::cs,status:=.running,dying:=none} V U).Ts (GV V.heap.size) Vs:=by rw [E.alt];exact bk
 have a3:Dem Tryz.prog.alt (phD (Ends Yq.prog f0 R) Gf Fs Fr L V.heap.size W.heap.size k (fr::cs,fr'::n) ρ.rel {frame:=Frame.enter Yq.prog 69 #[lV l,.int .i64 pn] .normal,callers:=fr::cs,status:=.running,dying:=none} V U).Nr (phD (Ends Yq.prog f0 R) Gf Fs Fr L V.heap.size W.heap.size k (fr::cs,fr'::n) ρ.rel {frame:=Frame.enter Yq.prog 69 #[lV l,.int .i64 pn] .normal,callers:=fr::cs,status:=.running,dying:=none} V U).Tr (G (pF2 V.heap.size l pn (V.heap.size+5)) [trap Yq.prog]) Vr:=by rw [E.alt];exact a9
 refine EE O a3 _ _ a2 bb ((bQ W {l with root:=r'} 20).at d) a5 t2 q2 ρA _ _ _ _ L [] [] [] 20 0 0 false 14 2
  (.pre 12 RR (by rw [E.alt];exact bq) (by rw [E.alt];exact Z) ⟨⟨_,bd,fun h=>?_⟩,?_⟩ (uk W.heap.size (W.heap.size+3) {l with root:=r'} pn (fr'::n) ((bQ W {l with root:=r'} 20).at d) r' (jd W {l with root:=r'} 20).out))
  (.new (a0.stays rfl (fun _ _ _ _=>rfl) rfl) (fun v=>zS W.heap.size v) rfl) ⟨_,dn W {l with root:=r'} 20,rfl⟩ (by omega) rfl rfl ?_ ?_ bi hgk a6 bs
 .have h:V.heap.size+6=V.heap.size+5:=h;omega
 .show W.heap.size+6≠W.heap.size+5;omega
 .intro b x y hx hy;obtain ⟨rfl,ho⟩:=ar x y b (K _ _ hx) (C _ _ hy);by_cases h5:x=V.heap.size+5
  .exact .inr ⟨h5,h5⟩
  .exact .inl ⟨⟨⟨b,hx⟩,ho,h5⟩,⟨b,hy⟩,(fun h=>h),h5⟩
 .have av:∀i,¬U.Ko (W.heap.size+i):=fun i h=>by
   have:=U.lt _ h;have:=m.out.1.1;omega
  have M:∀a b,(ρ a b\/∃i,i<7/\a=V.heap.size+i/\b=W.heap.size+i)->¬U.Ko b:=fun a b h=>by
   rcases h with h|⟨i,-,-,rfl⟩
   .exact m.out.2.1 a b h
   .exact av i
  refine ⟨fun b x y hx hy=>?_,⟨⟨?_,?_,fun b hb=>?_⟩,⟨fun a b h=>M a b (D a b h),fun a b h=>r a b (m.out.2.2.1 a b h),by rw [<-hρA];exact m.out.2.2.2⟩,⟨fun a b h=>M a b (K a b h),fun a b h=>.inl (m.out.2.2.1 a b h),m.out.2.2.2⟩,av 5⟩,⟨fun a b h=>M a b ((C a b h).imp id (fun ⟨i,h1,h2⟩=>⟨i,h1.2,h2⟩)),fun a b h=>.inl (m.out.2.2.1 a b h),m.out.2.2.2⟩⟩
  .by_cases h5:y=V.heap.size+5
   .exact .inr h5
   .exact .inl ⟨⟨b,hy⟩,(fun h=>h),h5⟩
  .have:=m.out.1.1;show U.W0.heap.size<=(bQ W {l with root:=r'} 20).heap.size;rw [eQ];omega
  .exact m.out.1.2.1
  .have h1:=U.lt b hb;have h2:=m.out.1.1;exact (em W {l with root:=r'} 20 (by omega)).trans (m.out.1.2.2 b hb)
end
def pU (P:Wv)(D0:Nat->Prop)(F:FuncId->Bool)(pin:Nat->Option (Array Wx))(hb:NoM P 3):Ren where
 rel:=fun a b=>a=b/\D0 a
 fn:=fun _a _b _b' h1 h2=>h1.1.symm.trans h2.1
 inj:=fun _a _a' _b h1 h2=>h1.1.trans h2.1.symm
 prog:=P
 F:=F
 old:=fun _=>False
 ch:=fun _=>False
 loose:=false
 wide:=false
 tight:=fun _=>rfl
 pin:=pin
 bad:=3
 noM:=hb
structure Start (W:Wj)(D0:Nat->Prop):Prop where
 rows:∀b,D0 b->∃c e z,W.heap[b]?=some (.cells c e z)
 glob:∀g,g<Tryz.prog.globals.size->D0 g
theorem CB {ρ:Ren}{v:Wx}(h:mc v=true):RV ρ v v:=by
 cases v with
 |bool b=>exact .bool b
 |int k n=>exact .int k n
 |string s=>exact .string s
 |pointer a=>cases a with
  |none=>exact .pointer .none
  |some a=>cases h
 |slice a n c=>cases a with
  |none=>exact .slice n c .none
  |some a=>cases h
 |map r=>cases r with
  |none=>exact .map .none
  |some r=>cases h
 |chan r=>cases r with
  |none=>exact .chan .none
  |some r=>cases h
 |nilFunc=>exact .nilFunc
 |nilIface=>exact .nilIface
 |_=>cases h
theorem CC {ρ:Ren}{v v':Wx}(h:mc v=true)(k:RV ρ v v'):v'=v:=by
 cases k with
 |bool|int|string|nilFunc|nilIface=>rfl
 |pointer k=>cases k with
  |none=>rfl
  |some _=>cases h
 |slice n c k=>cases k with
  |none=>rfl
  |some _=>cases h
 |map k=>cases k with
  |none=>rfl
  |some _=>cases h
 |chan k=>cases k with
  |none=>rfl
  |some _=>cases h
 |_=>cases h
structure lA (u v:Wx):Prop where
 rel:∀ρ:Ren,ρ.bad=3->RV ρ u v
 one:mc v=true->u=v
 no:mc v=false->gV u=false\/∀ (ρ:Ren) v',RV ρ u v'->v'=v
theorem zT:∀ (n:Nat)(v:Wx),SizeOf.sizeOf v<n->∃u,lA u v:=by
 intro n;induction n with
 |zero=>intro v h;omega
 |succ n ih=>
  intro v hn;have dead:gQ v=true->mc v=false->∃u,lA u v:=fun h1 h2=>⟨.tuple #[],fun _ _=>.dead v h1,(fun h=>by rw [h2] at h;cases h),fun _=>.inl rfl⟩
  have self:mc v=true->∃u,lA u v:=fun h=>⟨v,fun _ _=>CB h,fun _=>rfl,fun h2=>by rw [h] at h2;cases h2⟩
  cases v with
  |agg c=>
   obtain ⟨c0,h0,h1⟩:=nv (c:=c) (c':=c) (Q:=fun v _ u=>lA u v) rfl (fun i v v' hv _=>ih v (by
    have:=Array.sizeOf_lt_of_mem (Array.mem_of_getElem? hv);simp only [Value.agg.sizeOf_spec] at hn;omega))
   refine ⟨.agg c0,fun ρ hb=>.agg h0 (fun i u v k1 k2=>?_),fun h=>(by cases h),fun _=>.inl rfl⟩;obtain ⟨u2,e,k⟩:=h1 i v v k2 k2;rw [k1] at e;cases e;exact k.rel ρ hb
  |pointer a=>cases a with
   |none=>exact self rfl
   |some a=>exact dead rfl rfl
  |slice a n c=>cases a with
   |none=>exact self rfl
   |some a=>exact dead rfl rfl
  |map a=>cases a with
   |none=>exact self rfl
   |some a=>exact dead rfl rfl
  |chan a=>cases a with
   |none=>exact self rfl
   |some a=>exact dead rfl rfl
  |func f a c=>cases f with
   |method s=>
    refine ⟨.func (.method "") #[.iface 3 (.func (.method s) a c)] #[], fun ρ hb => .odd 3 s a c hb.symm, fun h => (by cases h), fun _ => .inr (fun ρ v' h => ?_)⟩
    cases h with
    |func hf=>cases hf
    |odd=>rfl
   |_=>exact dead rfl rfl
  |bool|int|string|nilFunc|nilIface=>exact self rfl
  |_=>exact dead rfl rfl
theorem xD (c:Array Wx):∃c0:Array Wx,c0.size=c.size/\∀ (i:Nat) v,c[i]?=some v->∃u,c0[i]?=some u/\lA u v:=by
 obtain ⟨c0,h0,h1⟩:=nv (c:=c) (c':=c) (Q:=fun v _ u=>lA u v) rfl (fun i v v' _ _=>zT _ v (Nat.lt_succ_self _));exact ⟨c0,h0,fun i v hv=>h1 i v v hv hv⟩
structure Clean (D0:Nat->Prop)(W V:Wj):Prop where
 os:V.os=W.os
 size:V.heap.size=W.heap.size
 rest:∀b,¬D0 b->V.heap[b]?=W.heap[b]?
 row:∀b,D0 b->∃c c0 e z,W.heap[b]?=some (.cells c e z)/\V.heap[b]?=some (.cells c0 e z)/\c0.size=c.size/\∀ (i:Nat) v,c[i]?=some v->∃u,c0[i]?=some u/\lA u v
theorem CD {W:Wj}{D0:Nat->Prop}(h:Start W D0):∃V,Clean D0 W V:=by
 classical
 have key:∀b:Nat,∃o:Obj,(D0 b->∃c c0 e z,W.heap[b]?=some (.cells c e z)/\o=.cells c0 e z/\c0.size=c.size/\∀ (i:Nat) v,c[i]?=some v->∃u,c0[i]?=some u/\lA u v)/\(¬D0 b->b<W.heap.size->W.heap[b]?=some o):=fun b=>by
  by_cases hd:D0 b
  .obtain ⟨c,e,z,h1⟩:=h.rows b hd;obtain ⟨c0,h2,h3⟩:=xD c;exact ⟨.cells c0 e z,fun _=>⟨c,c0,e,z,h1,rfl,h2,h3⟩,fun k=>absurd hd k⟩
  .by_cases hb:b<W.heap.size
   .exact ⟨W.heap[b],fun k=>absurd k hd,fun _ _=>eG hb⟩
   .exact ⟨.coro none,fun k=>absurd k hd,fun _ k=>absurd k hb⟩
 obtain ⟨f,key⟩:=Classical.skolem.1 key;refine ⟨{W with heap:=Array.ofFn (n:=W.heap.size) fun a=>f a.1},rfl,by simp,fun b hb=>?_,fun b hb=>?_⟩
 .by_cases hlt:b<W.heap.size
  .rw [(key b).2 hb hlt];simp [hlt]
  .rw [Array.getElem?_eq_none (by simpa using hlt),Array.getElem?_eq_none (by omega)]
 .obtain ⟨c,c0,e,z,h1,h2,h3⟩:=(key b).1 hb;have hlt:=(eS h1).1;exact ⟨c,c0,e,z,h1,by simp [hlt,h2],h3⟩
theorem Clean.cell {W V:Wj}{D0:Nat->Prop}(h:Clean D0 W V){a:Wu}{v:Wx}(hv:W.cell? a=some v)(h1:mc v=true):V.cell? a=some v:=by
 unfold World.cell? at hv ⊢;by_cases hd:D0 a.block
 .obtain ⟨c,c0,e,z,k1,k2,-,k4⟩:=h.row _ hd;rw [k1] at hv;rw [k2];simp only at hv ⊢;split at hv
  .cases hv
  .rename_i hs;obtain ⟨u,e1,e2⟩:=k4 _ _ hv;rw [if_neg hs,e1,e2.one h1]
 .rw [h.rest _ hd];exact hv
noncomputable def jK (W:Wj)(D0:Nat->Prop)(b:Nat):Option (Array Wx):=by
 classical
 exact if D0 b then match W.heap[b]? with|some (.cells c _ _)=>some c|_=>none else none
theorem rC {W V:Wj}{D0:Nat->Prop}(h:Clean D0 W V)(P:Wv)(F:FuncId->Bool)(hb:NoM P 3):bI (pU P D0 F (jK W D0) hb) V W:=by
 refine ⟨fun a b d=>?_,fun _ h=>h.elim,fun _ h=>h.elim,h.os.symm,fun _ a c0 hp=>?_⟩
 .obtain ⟨rfl,hd⟩:=d;obtain ⟨c,c0,e,z,h1,h2,h3,h4⟩:=h.row a hd;refine ⟨_,_,h2,h1,.cells e (.inl rfl) ⟨h3,fun i u v k1 k2=>?_⟩⟩;obtain ⟨u2,e1,e2⟩:=h4 i v k2;rw [k1] at e1;cases e1;exact e2.rel _ rfl
 .have hp:jK W D0 a=some c0:=hp;unfold jK at hp;split at hp
  .rename_i hd;obtain ⟨c,c1,e,z,h1,h2,-⟩:=h.row a hd;rw [h1] at hp;cases hp;exact ⟨a,⟨rfl,hd⟩,c1,e,z,c0,z,h2,h1,fun _ _ _ _=>rfl⟩
  .cases hp
structure rD (W W':Wj):Prop where
 os:W'.os=W.os
 output:W'.output=W.output
 size:W.heap.size<=W'.heap.size
 block:∀b,b<W.heap.size->W'.heap[b]?=W.heap[b]?
def kC (Pre:Lst->List Wx->Wj->Prop)(W:Wj)(e:Ending)(u:Wj):Prop:=
 (e=.returned (.bool true)/\u.os=W.os/\∀b,b<W.heap.size->u.heap[b]?=W.heap[b]?)\/∃x y l,e=.panicked (stopEntry x y::l)/\∃a pn L,x=lV a/\y=.int .i64 pn/\Pre a L u
section
variable [Two Tryz.prog] [Two Yq.prog] {Gf Fs Fr Fa:FuncId->Bool} {Pre:Lst->List Wx->Wj->Prop}
theorem EQ (E:pT Gf Fs Fr)(N:fP Tryz.prog Gf)(sA:fP Yq.prog Fa)(T:∀f,¬Mk Fa f=true)(J:Gf fK=false/\Gf lp=false/\Gf 69=false/\Gf lm=true)(hPre:zN Pre)(B:vI)(K:∀l L V u,Ce V u->Pre l L u->Pre l L V)
  {f0:FuncId} {fn:Func} {b0:Code} (hfz:Tryz.prog.funcs[f0]?=some fn) (q:Yq.prog.funcs[f0]?=some fn) (p:fn.body=some b0) (t:Tryz.prog.inits.idxOf? f0=none) (Z:Gf f0=true) (ab:Fa f0=true) {args:Array Wx} {W:Wj} {D0:Nat->Prop} (hst:Start W D0) (n:∀ (ρ:Ren),(∀b,D0 b->ρ b b)->RVs ρ args args)
  (hcalls:∀V,Clean D0 W V->∀τ d,Calls Yq.prog f0 args (V.on τ d) (kC Pre V)):Fin Tryz.prog (fun v W'=>v=.bool true/\rD W W') #[G (Frame.enter Tryz.prog f0 args .normal) []] W none #[]:=by
 obtain ⟨V0,hcl⟩:=CD hst;replace hcalls:=hcalls V0 hcl;have k:NoM Tryz.prog 3:=by unfold NoM;kernel_rfl
 have hbq:NoM Yq.prog 3:=zQ E k rfl;have hA:∀F,RVs (pU Tryz.prog D0 F (jK W D0) k) args args:=fun F=>n _ (fun b h=>⟨rfl,h⟩)
 have Y:∀F,RVs (pU Yq.prog D0 F (jK W D0) hbq) args args:=fun F=>n _ (fun b h=>⟨rfl,h⟩)
 have H:∀ (P Q:Wv) (σ:Ren),P.funcs[f0]?=some fn->Q.funcs[f0]?=some fn->RVs σ args args->aG P σ.F b0=true->RFr P σ (Frame.enter Q f0 args .normal) (Frame.enter P f0 args .normal):=fun P Q σ hP hQ ha ho=>by
  have e1:(Frame.enter Q f0 args .normal).todo=[.code b0]:=by simp [Frame.enter,hQ,p]
  have e2:(Frame.enter P f0 args .normal).todo=[.code b0]:=by simp [Frame.enter,hP,p]
  have t1:(Frame.enter Q f0 args .normal).tmps=args++Array.replicate (fn.ntmps-args.size) Wo:=by simp [Frame.enter,hQ]
  have t2:(Frame.enter P f0 args .normal).tmps=args++Array.replicate (fn.ntmps-args.size) Wo:=by simp [Frame.enter,hP]
  refine ⟨rfl,?_,by rw [e1,e2];exact .cons (.code ho) .nil,.nil,.run,⟨rfl,rfl,by simp [Frame.enter]⟩,.none⟩;rw [t1,t2];refine ⟨rfl,fun i v v' h1 h2=>?_⟩;rw [h1] at h2;cases h2;rw [Array.getElem?_append] at h1;split at h1
  .exact ha.at_ i v v h1 h1
  .simp only [Array.getElem?_replicate] at h1;split at h1
   .cases h1;exact cW
   .cases h1
 have hout:∀ (τ:Nat->Question->Nat) (d:Nat) (u:Wj),¬kC Pre V0 .outgrown u:=fun τ d u h=>by
  rcases h with ⟨h,-⟩|⟨_,_,_,h,-⟩<;>cases h
 have s:Self Yq.prog ([trap Yq.prog],[]) (fun _=>False) Fa {frame:=Frame.enter Yq.prog f0 args .normal,callers:=[trap Yq.prog],status:=.running,dying:=none} V0:=
  ⟨rfl,pU Yq.prog D0 Fa (jK W D0) hbq,{frame:=Frame.enter Yq.prog f0 args .normal,callers:=[],status:=.running,dying:=none},W,⟨H Yq.prog Yq.prog _ q q (Y _) (sA.code f0 fn b0 ab q p),.base,⟨fun _=>rfl,fun _=>rfl⟩,⟨rfl,rfl⟩,⟨rfl,rfl⟩,rfl,rfl⟩,rC hcl _ _ _,sA.gid (σ:=pU Yq.prog D0 Fa (jK W D0) hbq) (fun g hg=>⟨rfl,hst.glob g (by rw [Yq.globals_size] at hg;exact hg)⟩) rfl (fun _ _ h=>h),sA.ext,rfl,rfl,⟨rfl,fun _ h=>h.elim,rfl⟩,fun _ h=>h,T⟩
 have hD:=(rl E.zero1 E.count1 (R:=fun _ _=>kC Pre V0) hcalls hout s).imp (N':=fun g _=>NB [trap Yq.prog] g) (fun g w h=>h.2)
 let U:Outer:=⟨fun b=>b<W.heap.size/\¬D0 b,W,fun b h=>h.1,fun a b=>a=b/\D0 a,jK W D0,3⟩
 have A:Leaf Tryz.prog U Gf (Ends Tryz.prog.alt f0 (fun _ _=>kC Pre V0)) (fun v W'=>v=.bool true/\rD W W'):=by
  refine EG (page:=69) J.2.2.1 t (fun τ d e u h=>?_) (fun h V ρ g W1 ρ' W' hE hm m hle S O=>⟨rfl,?_⟩)
  .rcases h with ⟨h,-⟩|⟨x,y,l,h,-⟩
   .exact .inl h
   .exact .inr ⟨_,_,_,_,_,_,h⟩
  .obtain ⟨τ,d,τ',d',e,fr,hR,rfl,-,hlv,-⟩:=hE;rcases hR with ⟨rfl,X,hrow⟩|⟨x,y,l,rfl,-⟩
   .refine ⟨S.os.trans (X.trans hcl.os),O.2.1,O.1,fun b hb=>?_⟩;by_cases hd:D0 b
    .have hbb:ρ' b b:=hle _ _ (m.out.2.2.1 b b ⟨rfl,hd⟩);obtain ⟨c,c0,e,z,h1,h0,h3,h2⟩:=hcl.row b hd;obtain ⟨o,o',k1,k2,k3⟩:=S.obj b b hbb;have hF:ρ'.F lm=true:=by rw [hle.F,m.same];exact J.2.2.2
     have I:ρ'.pin b=some c:=by
      rw [hle.pin,m.out.2.2.2.1];show jK W D0 b=some c;unfold jK;rw [if_pos hd,h1]
     obtain ⟨b2,hb2,c1,e1,z1,c2,z2,p1,p2,p3⟩:=S.pin hF b c I;obtain rfl:=ρ'.fn _ _ _ hbb hb2;have hrow:V.heap[b]?=V0.heap[b]?:=hrow b (by rw [hcl.size];exact hb);rw [hrow,h0] at k1 p1;cases k1;cases p1;rw [p2] at k2;cases k2;cases k3 with
     |cells e hz hv=>
      rcases hz with rfl|⟨hz,-⟩
      .rw [p2,h1];refine congrArg (fun x=>some (Obj.cells x e z)) ?_;refine Array.ext_getElem? (fun i=>?_);by_cases C:i<c.size
       .obtain ⟨u,q1,q2⟩:=h2 i _ (eG C);by_cases ho:mc c[i]=true
        .have q3:i<c2.size:=by rw [<-hv.size,h3];exact C
         have q4:=q2.one ho;have:=hv.at_ i u _ q1 (eG q3);rw [q4] at this;rw [eG q3,eG C,CC ho this]
        .rcases q2.no (by simpa using ho) with q5|q5
         .exact p3 i u q1 q5
         .have q3:i<c2.size:=by rw [<-hv.size,h3];exact C
          rw [eG q3,eG C,q5 _ _ (hv.at_ i u _ q1 (eG q3))]
       .rw [Array.getElem?_eq_none (by rw [<-hv.size,h3];omega),Array.getElem?_eq_none (by omega)]
      .rw [hF] at hz;cases hz
    .exact O.2.2 b ⟨hb,hd⟩
   .have hlv:=hlv.1;rw [hm] at hlv;cases hlv
 have hap:uc Tryz.prog U Gf [] (Ends Tryz.prog.alt f0 (fun _ _=>kC Pre V0)) (fun v W'=>v=.bool true/\rD W W'):=by
  rw [E.alt];refine xC E hPre B ⟨fun τ d x y e u h=>?_⟩ K;rcases h with ⟨h,-⟩|⟨x',y',l,h,hp⟩
  .cases h
  .cases h;exact hp
 have M:Dem Tryz.prog.alt (fun g _=>NB [trap Tryz.prog.alt] g) (Ends Tryz.prog.alt f0 (fun _ _=>kC Pre V0)) {frame:=Frame.enter Yq.prog f0 args .normal,callers:=[trap Yq.prog],status:=.running,dying:=none} V0:=by
  rw [E.alt];exact hD
 have hrel:Rel Tryz.prog U Gf [] (pU Tryz.prog D0 Gf (jK W D0) k) {frame:=Frame.enter Yq.prog f0 args .normal,callers:=[trap Yq.prog],status:=.running,dying:=none} {frame:=Frame.enter Tryz.prog f0 args .normal,callers:=[],status:=.running,dying:=none} V0 W:=by
  have hf:=H Tryz.prog Yq.prog (pU Tryz.prog D0 Gf (jK W D0) k) hfz q (hA _) (N.code f0 fn b0 Z hfz p);have D:GId Tryz.prog (pU Tryz.prog D0 Gf (jK W D0) k):=N.gid (σ:=pU Tryz.prog D0 Gf (jK W D0) k) (fun g hg=>⟨rfl,hst.glob g hg⟩) rfl (fun _ _ h=>h);have hk:∀P:Wv,(Frame.enter P f0 args .normal).kind=.normal/\(Frame.enter P f0 args .normal).roundOf=none:=fun _=>⟨rfl,rfl⟩
  refine ⟨⟨hf,by rw [E.alt];exact .base,⟨fun _=>(hk _).1.trans (hk _).1.symm,fun _=>(hk _).2⟩,⟨rfl,rfl⟩,⟨rfl,rfl⟩,rfl,rfl⟩,rC hcl _ _ _,D,N.ext,J.1,rfl,⟨rfl,rfl⟩,⟨J.2.1,fun a b o r ho hc=>?_⟩,⟨⟨lR _,rfl,fun _ _=>rfl⟩,fun a b r hk=>?_,fun a b h=>h,rfl,rfl⟩⟩
  .obtain ⟨_,c,e,z,-,h1,-⟩:=hcl.row a r.2;rw [h1] at ho;cases ho;cases hc
  .obtain ⟨rfl,hd⟩:=r;exact hk.2 hd
 have hlv:Lv Tryz.prog (fun _=>False) #[] #[({frame:=Frame.enter Tryz.prog f0 args .normal,callers:=[],status:=.running,dying:=none}:Wk)] (fun _=>0):=by
  refine ⟨fun j y hj _ hy=>?_,fun j hj=>?_⟩
  .cases j with
   |zero=>omega
   |succ j=>simp at hy
  .exact (Go.Conc.leavers_one Tryz.prog {frame:=Frame.enter Tryz.prog f0 args .normal,callers:=[],status:=.running,dying:=none}).above j hj
 exact ED E.zero E.count (zG A) hap M _ _ (.refl _ _) _ _ W none #[] (fun _=>0) _ rfl hlv (Go.Conc.past_nil.mono (Nat.zero_le _)) hrel
end
end
theorem il {v:Wx}(h:mc v=true)(ρ:Ren):RV ρ v v:=by
 cases v with
 |bool b=>exact .bool b
 |int k n=>exact .int k n
 |string s=>exact .string s
 |pointer a=>cases a with
  |none=>exact .pointer .none
  |some a=>cases h
 |slice a n c=>cases a with
  |none=>exact .slice n c .none
  |some a=>cases h
 |map r=>cases r with
  |none=>exact .map .none
  |some r=>cases h
 |chan r=>cases r with
  |none=>exact .chan .none
  |some r=>cases h
 |nilFunc=>exact .nilFunc
 |nilIface=>exact .nilIface
 |_=>cases h
theorem mI {c:Array Wx}{p:Wx->Bool}(h:c.all p=true){ρ:Ren}(hp:∀v,p v=true->RV ρ v v):RVs ρ c c:=⟨rfl,fun i v v' h1 h2=>by
 rw [h1] at h2;cases h2;obtain ⟨a,rfl⟩:=eS h1;exact hp _ (Array.all_eq_true.1 h i a)⟩
theorem je {v:Wx}(h:mP v=true)(ρ:Ren):RV ρ v v:=by
 unfold mP at h;split at h
 .exact .agg rfl (mI h (fun v h=>il h ρ)).at_
 .exact .tuple rfl (mI h (fun v h=>il h ρ)).at_
 .exact .iface _ (il h ρ)
 .exact il h ρ
def CE:Wx->Bool
 | .agg c=>c.all mP
 | .tuple c=>c.all mP
 |v=>mP v
theorem xE {v:Wx}(h:CE v=true)(ρ:Ren):RV ρ v v:=by
 unfold CE at h;split at h
 .exact .agg rfl (mI h (fun v h=>je h ρ)).at_
 .exact .tuple rfl (mI h (fun v h=>je h ρ)).at_
 .exact je h ρ
theorem oB {ρ:Ren}{z:Wx}(h:RV ρ z z):RVs ρ z.cells z.cells:=by
 have a:RVs ρ #[z] #[z]:=⟨rfl,fun i v v' h1 h2=>by
  rw [h1] at h2;cases h2;cases i with
  |zero=>simp at h1;subst h1;exact h
  |succ i=>simp at h1⟩
 cases z with
 |agg c=>
  cases h with
  |agg hc hx=>exact ⟨rfl,hx⟩
 |_=>exact a
theorem RVs.append' {ρ:Ren}{a a' b b':Array Wx}(h:RVs ρ a a')(k:RVs ρ b b'):RVs ρ (a++b) (a'++b'):=⟨by simp [h.size,k.size],fun i v v' h1 h2=>by
 rw [Array.getElem?_append] at h1 h2;by_cases c:i<a.size
 .rw [if_pos c] at h1;rw [if_pos (by rw [<-h.size];exact c)] at h2;exact h.at_ i v v' h1 h2
 .rw [if_neg c] at h1;rw [if_neg (by rw [<-h.size];exact c),<-h.size] at h2;exact k.at_ _ v v' h1 h2⟩
def Zi (i:TypeInfo):Prop:=∀z,i.zero=some z->∀ρ,RV ρ z z
theorem zU {ρ:Ren}{c:Array Wx}(h:RVs ρ c c)(n:Nat):RVs ρ (Array.replicate n c).flatten (Array.replicate n c).flatten:=by
 induction n with
 |zero=>simp;exact RVs.nil
 |succ n ih=>
  rw [Array.replicate_succ,Array.flatten_push];exact ih.append' h
theorem zV {α β:Type}(body:α->β->Option (ForInStep β))(I:β->Prop)(hb:∀a b s,I b->body a b=some s->I (match s with| .done x=>x| .yield x=>x)):∀ (l:List α)(b r:β),I b->forIn l b body=some r->I r:=by
 intro l;induction l with
 |nil=>intro b r c h;simp at h;subst h;exact c
 |cons a l ih=>
  intro b r c h;rw [List.forIn_cons] at h;cases hx:body a b with
  |none=>rw [hx] at h;cases h
  |some s=>
   rw [hx] at h;have:=hb a b s c hx;cases s with
   |done x=>cases h;exact this
   |yield x=>exact ih x r this h
theorem kD {d:TypeDesc}{a:String}{z:Wx}{c:Bool}{b:Nat}(h:mc z=true):Zi (Made.word d a z c b):=fun y hy ρ=>by
 cases hy;exact il h ρ
theorem zW {info:Ww->Option TypeInfo}(hi:∀t i,info t=some i->Zi i){fs:Array Field}{i:TypeInfo}(h:Made.reckonStruct info fs=some i):Zi i:=by
 unfold Made.reckonStruct at h;dsimp only at h;rw [<-Array.forIn_toList] at h;rw [Option.bind_eq_bind,Option.bind_eq_some_iff] at h;obtain ⟨r,hr,h⟩:=h;have key:=zV _ (fun r=>∀a,r.2.2.2.2.2.2.2.1=some a->∀ρ,RVs ρ a a) (fun f b s hI hs=>by
  rw [Option.bind_eq_bind,Option.bind_eq_some_iff] at hs;obtain ⟨i,hf,hs⟩:=hs;have hz:∀a,(if b.2.1+i.size > Made.mostCells then none else (b.2.2.2.2.2.2.2.1.bind fun x=>i.zero.bind fun y=>some (x++y.cells)))=some a->∀ρ,RVs ρ a a:=fun a ha ρ=>by
   split at ha
   .cases ha
   .rw [Option.bind_eq_some_iff] at ha;obtain ⟨x,hx,ha⟩:=ha;rw [Option.bind_eq_some_iff] at ha;obtain ⟨y,hy,ha⟩:=ha;cases ha;exact (hI x hx ρ).append' (oB (hi _ _ hf y hy ρ))
  simp only [Option.bind_eq_bind,Option.pure_def,Option.bind_none,Option.bind_some] at hs;generalize (if b.2.1+i.size > Made.mostCells then none else (b.2.2.2.2.2.2.2.1.bind fun x=>i.zero.bind fun y=>some (x++y.cells)))=zx at hs hz
  generalize (if b.fst.size + 1 < fs.size then ";" else "") = sm at hs
  split at hs
  .cases hs
  .split at hs
   .cases hs
   .split at hs
    .split at hs<;>(cases hs;exact hz)
    .rw [Option.bind_eq_some_iff] at hs;obtain ⟨tg,-,hs⟩:=hs;split at hs<;>(cases hs;exact hz)) _ _ r (fun a ha ρ=>by cases ha;exact RVs.nil) hr
 intro z hz ρ;have fin:∀ (o:Option (Array Wx)),(∀a,o=some a->∀ρ,RVs ρ a a)->o.map Value.agg=some z->RV ρ z z:=fun o ho h=>by
  cases o with
  |none=>cases h
  |some a=>cases h;exact .agg rfl (ho a rfl ρ).at_
 split at h
 .cases h;exact fin _ key hz
 .cases h;exact fin _ key hz
theorem zX {a:Ww->Option TypeInfo}(c:∀t i,a t=some i->Zi i){d:TypeDesc}{i:TypeInfo}(h:Made.reckon a d=some i):Zi i:=by
 unfold Made.reckon at h;cases d with
 |struct fs=>exact zW c h
 |array n e=>
  simp only [Option.bind_eq_bind,Option.pure_def,Option.bind_eq_some_iff] at h;obtain ⟨j,b,s,-,h⟩:=h;cases h;intro z hz ρ;simp only at hz;split at hz
  .cases hz
  .split at hz
   .cases hz;exact .agg rfl RVs.nil.at_
   .cases hx:j.zero with
    |none=>rw [hx] at hz;cases hz
    |some y=>
     rw [hx] at hz;cases hz;exact .agg rfl (zU (oB (c _ _ b y hx ρ)) n).at_
 |pointer e=>
  simp only [Option.bind_eq_bind,Option.pure_def,Option.bind_eq_some_iff] at h;obtain ⟨j,b,h⟩:=h;split at h
  .cases h
  .split at h
   .cases h
   .rw [Option.bind_eq_some_iff] at h;obtain ⟨s,-,h⟩:=h;cases h;exact kD rfl
  .rw [Option.bind_eq_some_iff] at h;obtain ⟨s,-,h⟩:=h;cases h;exact kD rfl
 |slice e=>
  simp only [Option.bind_eq_bind,Option.pure_def,Option.bind_eq_some_iff] at h;obtain ⟨j,b,s,-,h⟩:=h;cases h;exact kD rfl
 |map k e=>
  simp only [Option.bind_eq_bind,Option.pure_def,Option.bind_eq_some_iff] at h;obtain ⟨j,b,s,-,j2,-,s2,-,h⟩:=h;cases h;exact kD rfl
 |chan dir e=>
  simp only [Option.bind_eq_bind,Option.pure_def,Option.bind_eq_some_iff] at h;obtain ⟨j,b,s,-,h⟩:=h;cases h;exact kD rfl
 |func ps rs v=>
  simp only [Option.bind_eq_bind,Option.pure_def,Option.bind_eq_some_iff] at h;obtain ⟨s,-,h⟩:=h;cases h;exact kD rfl
 |_=>cases h
theorem ER {P:Wv}(h:∀ (t:Nat)(i:TypeInfo)(z:Wx),P.types[t]?=some i->i.zero=some z->CE z=true):bM P:=by
 have ht:∀ (t:Nat) (i:TypeInfo),P.types[t]?=some i->Zi i:=fun t i a z hz ρ=>xE (h t i z a hz) ρ
 have hm:∀f t i,Made.infoAt P.toTables f t=some i->Zi i:=fun f=>by
  induction f with
  |zero=>intro t i h;cases h
  |succ f ih=>
   intro t i h;unfold Made.infoAt at h;split at h
   .exact ht t i h
   .rw [Option.bind_eq_some_iff] at h;obtain ⟨d,-,h⟩:=h;exact zX (fun t i h=>ih t i h) h
 intro t i z a hz ρ;unfold Tables.info? at a;split at a
 .exact ht t i a z hz ρ
 .exact hm _ t i a z hz ρ
def rg (a b f:Nat):Bool:=Nat.ble a f&&Nat.ble f b
def Gs (f:Nat):Bool:=rg 3 68 f||rg 70 96 f||rg 98 118 f||rg 121 137 f||rg 141 154 f||rg 158 164 f||rg 167 171 f||rg 176 179 f||rg 182 183 f||f==1000000||f==1000001||f==2000069
def Ss (f:Nat):Bool:=f==64||f==91||f==101||f==111||f==116||rg 119 120 f||rg 122 123 f||rg 133 135 f||rg 138 140 f||f==153||rg 155 157 f||rg 165 166 f||rg 172 175 f||rg 180 181 f||f==1000002
def Rs (f:Nat):Bool:=f==98||f==121||f==141||f==151||f==158||rg 167 170 f||rg 176 179 f||rg 182 183 f||f==1000001
def As (f:Nat):Bool:=rg 3 183 f||rg 1000000 1000003 f
def CF (P:Wv)(F:FuncId->Bool):Bool:=(List.range 206).all fun f=>!F f||(match P.funcs[f]? with|some fn=>(match fn.body with|some b=>aG P F b|none=>f==136||f==173||f==180)|none=>true)
theorem fQ {P:Wv}{F:FuncId->Bool}(h:CF P F=true)(hs:P.funcs.size=206):∀ (f:FuncId) fn b,F f=true->P.funcs[f]?=some fn->fn.body=some b->aG P F b=true:=fun f fn b a hf hb=>by
 have hlt:f<206:=by rw [<-hs];exact (eS hf).1
 have:=List.all_eq_true.1 h f (List.mem_range.2 hlt);rw [a,hf] at this;simp only [hb] at this;simpa using this
theorem zY {P:Wv}{F:FuncId->Bool}(h:CF P F=true)(hs:P.funcs.size=206):∀ (f:FuncId) fn,F f=true->P.funcs[f]?=some fn->fn.body=none->f=136\/f=173\/f=180:=fun f fn a hf hb=>by
 have hlt:f<206:=by rw [<-hs];exact (eS hf).1
 have:=List.all_eq_true.1 h f (List.mem_range.2 hlt);rw [a,hf] at this;simp only [hb] at this;have:=this;simp at this;rcases this with (h|h)|h
 .exact .inl h
 .exact .inr (.inl h)
 .exact .inr (.inr h)
theorem nw:Tryz.prog.funcs.size=206:=by kernel_rfl
theorem ny:Yq.prog.funcs.size=206:=by kernel_rfl
theorem Ge:CF Tryz.prog Gs=true:=by kernel_rfl
theorem Gg:CF Tryz.prog Ss=true:=by kernel_rfl
theorem Gh:CF Tryz.prog Rs=true:=by kernel_rfl
theorem D7:CF Yq.prog Ss=true:=by kernel_rfl
theorem D8:CF Yq.prog Rs=true:=by kernel_rfl
theorem D9:CF Yq.prog As=true:=by kernel_rfl
theorem GW:aG Tryz.prog Gs (dr (jc bP))=true/\aG Tryz.prog Gs (dr bP)=true:=⟨by kernel_rfl,by kernel_rfl⟩
theorem GX:aG Tryz.prog Rs (dr (jc bP))=true/\aG Tryz.prog Rs (dr bP)=true:=⟨by kernel_rfl,by kernel_rfl⟩
theorem GY:aG Yq.prog Rs (dr (jc bP))=true/\aG Yq.prog Rs (dr bP)=true:=⟨by kernel_rfl,by kernel_rfl⟩
theorem Gi:aG Tryz.prog Rs (cF Tryz.f69)=false:=by kernel_rfl
def Hm (P:Wv):Bool:=P.types.all fun i=>match i.zero with|some z=>CE z|none=>true
theorem nz {P:Wv}(h:Hm P=true):bM P:=ER fun t i z a hz=>by
 obtain ⟨ht,rfl⟩:=eS a;have:=Array.all_eq_true.1 h t ht;simp only [hz] at this;exact this
theorem Gj:bM Tryz.prog:=nz (by kernel_rfl)
theorem Gk:bM Yq.prog:=nz (by kernel_rfl)
theorem lB {P : Wv} (h : (P.funcs.all fun f => !(f.name == "runtime.NumGoroutine")) = true) : bV P := fun f fn hf e => by
 obtain ⟨ht,rfl⟩:=eS hf;have:=Array.all_eq_true.1 h f ht;rw [e] at this;cases this
theorem ES:bV Tryz.prog:=lB (by kernel_rfl)
theorem ET:bV Yq.prog:=lB (by kernel_rfl)
section
variable {P:Wv} [Two P] {ρ:Ren}
theorem zZ:∀ (n:Nat){ρ:Ren}{a a':Wu}(c:ByteArray),RA ρ a a'->RS P QE ρ (Extern.Bytes.loadBytes a n c) (Extern.Bytes.loadBytes a' n c):=by
 intro n;induction n with
 |zero=>intro ρ a a' c _;exact aa rfl
 |succ n ih=>
  intro ρ a a' c h;unfold Extern.Bytes.loadBytes;refine ah (mV h _) (fun ρ1 l1 v v' hv=>?_);cases hv with
  |int k b=>cases k<;>first|exact ae _|exact ih _ ((h.mono l1).add 1)
  |_=>exact ae _
theorem kE {v v':Wx}(h:RV ρ v v'):RS P QE ρ (Extern.Bytes.bytesOf v) (Extern.Bytes.bytesOf v'):=by
 cases h with
 |string s=>exact aa rfl
 |slice n c ha=>
  cases ha with
  |none=>exact aa rfl
  |some ha=>exact zZ n _ ha
 |_=>exact ae _
theorem Aa {v v':Wx}(h:RV ρ v v'):RS P QE ρ (Extern.Bytes.asByte v) (Extern.Bytes.asByte v'):=by
 cases h with
 |int k n=>cases k<;>first|exact ae _|exact aa rfl
 |_=>exact ae _
theorem Ab {Q:Ren->Wx->Wx->Prop}{g:Array Wx->Sem Wx}(h:∀x x' y b,RV ρ x x'->RV ρ y b->RS P Q ρ (g #[x,y]) (g #[x',b]))(hn:∀a:Array Wx,a.size≠2->cZ P (g a)){a a':Array Wx}(hr:RVs ρ a a'):RS P Q ρ (g a) (g a'):=by
 by_cases hs:a.size=2
 .obtain ⟨l⟩:=a;obtain ⟨l'⟩:=a';have hl:l.length=l'.length:=by simpa using hr.size
  rcases l with - |⟨x,- |⟨y,- |⟨z,l⟩⟩⟩<;>simp at hs
  rcases l' with - |⟨x',- |⟨b,- |⟨z',l'⟩⟩⟩<;>simp at hl
  exact h x x' y b (hr.at_ 0 x x' rfl rfl) (hr.at_ 1 y b rfl rfl)
 .exact .lost (hn a hs) _
theorem rE {a a':Array Wx}(hr:RVs ρ a a'):RS P QV ρ (Extern.BytealgIndexByte.indexByte a) (Extern.BytealgIndexByte.indexByte a'):=by
 refine Ab (fun x x' y y' hx hy=>?_) (fun a ha=>?_) hr
 .unfold Extern.BytealgIndexByte.indexByte;refine ag (kE hx) (fun ρ1 l1 b=>?_);refine ag (Aa (hy.mono l1)) (fun ρ2 l2 c=>?_);split<;>exact aa (.int _ _)
 .obtain ⟨l⟩:=a;rcases l with - |⟨x,- |⟨y,- |⟨z,l⟩⟩⟩
  .exact .halt rfl
  .exact .halt rfl
  .simp at ha
  .exact .halt rfl
theorem pV (b:GId P ρ)(a:String):RS P QA ρ (globalAddr a) (globalAddr a):=by
 unfold globalAddr;refine aY ?_ rfl;cases h:P.globals.findIdx? (·.name==a) with
 |none=>exact ae _
 |some g=>
  refine aa ⟨b.glob g ?_,rfl,rfl⟩;exact (Array.findIdx?_eq_some_iff_getElem.1 h).1
theorem Ad (b:GId P ρ):RS P QE ρ Extern.BytealgIndex.maxLen Extern.BytealgIndex.maxLen:=by
 unfold Extern.BytealgIndex.maxLen;refine ah (pV b _) (fun ρ1 l1 a a' h=>?_);refine ah (mV h _) (fun ρ2 l2 v v' hv=>fm hv)
theorem Ae (d:GId P ρ){a a':Array Wx}(hr:RVs ρ a a'):RS P QV ρ (Extern.BytealgIndex.index a) (Extern.BytealgIndex.index a'):=by
 refine Ab (fun x x' y y' hx hy=>?_) (fun a ha=>?_) hr
 .unfold Extern.BytealgIndex.index;refine ag (kE hx) (fun ρ1 l1 b=>?_);refine ag (kE (hy.mono l1)) (fun ρ2 l2 c=>?_);refine ag (Ad ((d.mono l1).mono l2)) (fun ρ3 l3 m=>?_);refine aC (fun _=>aV (aj _)) (fun _=>?_);refine aC (fun _=>aV (aj _)) (fun _=>?_);split<;>exact aa (.int _ _)
 .obtain ⟨l⟩:=a;rcases l with - |⟨x,- |⟨y,- |⟨z,l⟩⟩⟩
  .exact .halt rfl
  .exact .halt rfl
  .simp at ha
  .exact .halt rfl
theorem jL (b:ρ.F lm=true){a a':Wu}(h:RA ρ a a'):RS P QE ρ (frozen a) (frozen a'):=.frozen h (fun s=>aa rfl) (fun e=>by rw [b] at e;cases e)
theorem lE (b:ρ.F lm=true){a a':Wu}(h:RA ρ a a'):RS P QE ρ (stringish a) (stringish a'):=by
 unfold stringish;refine ag (jL b h) (fun ρ0 l0 z=>?_);refine aC (fun _=>aa rfl) (fun _=>?_);refine ag (eE (l0 _ _ h.1)) (fun ρ1 l1 s=>?_);rcases s with - |⟨e,n⟩
 .exact aa rfl
 .exact jL (by rw [l1.F,l0.F];exact b) ⟨l1 _ _ (l0 _ _ h.1),rfl,rfl⟩
theorem un (c:ρ.F lm=true){a a' b b':Wu}(ha:RA ρ a a')(hb:RA ρ b b'):RS P QE ρ (mayBeOne a b) (mayBeOne a' b'):=by
 unfold mayBeOne;refine ag (lE c ha) (fun ρ1 l1 x=>?_);refine ag (lE (by rw [l1.F];exact c) (hb.mono l1)) (fun ρ2 l2 y=>?_);refine ag (ag (eE (l2 _ _ (l1 _ _ ha.1))) (fun d l3 s=>aa rfl)) (fun d l3 u=>?_);refine ag (ag (eE (l3 _ _ (l2 _ _ (l1 _ _ hb.1)))) (fun e l4 s=>aa rfl)) (fun e l4 v=>?_);exact aa rfl
theorem uo (c:ρ.F lm=true)(ps f:Array Ww){a a':Array Wx}(hr:RVs ρ a a'):RS P QV ρ (Extern.SlicesOverlaps.overlaps ps f a) (Extern.SlicesOverlaps.overlaps ps f a'):=by
 refine Ab (g:=Extern.SlicesOverlaps.overlaps ps f) (fun x x' y y' hx hy=>?_) (fun a ha=>?_) hr
 .cases hx with
  | @slice a a' la ca i=>
   cases hy with
   | @slice b b' lb cb j=>
    unfold Extern.SlicesOverlaps.overlaps;cases hp:ps[0]? with
    |none=>exact ae _
    |some t=>
     refine ag (ao t) (fun ρ1 l1 d=>?_);cases d with
     |slice p=>
      refine ag (bm p) (fun ρ2 l2 sz=>?_);cases i with
      |none=>exact aa (.bool _)
      | @some a a' ha=>
       cases j with
       |none=>exact aa (.bool _)
       | @some b b' hb=>
        have l12:=Ren.le_trans l1 l2;refine aC (fun _=>aa (.bool _)) (fun _=>?_);refine ag (jL (by rw [l12.F];exact c) (ha.mono l12)) (fun ρ3 l3 fa=>?_);refine ag (jL (by rw [l3.F,l12.F];exact c) ((hb.mono l12).mono l3)) (fun o l4 fb=>?_);have l04:=Ren.le_trans (Ren.le_trans l12 l3) l4;have hA:=ha.mono l04;have hBb:=hb.mono l04;have hne:(a.block != b.block)=(a'.block != b'.block):=by
         have:=fN hA.1 hBb.1;simp only [bne,this]
        have h:(a.block==b.block)=(a'.block==b'.block):=fN hA.1 hBb.1;have e:o.F lm=true:=by rw [l04.F];exact c
        rw [<-hne,<-ha.2.1,<-hb.2.1,<-h];refine aC (fun _=>aj _) (fun _=>?_);refine aC (fun _=>?_) (fun _=>aa (.bool _));refine ah (m0 hA) (fun ρ5 l5 _ _ _=>?_);refine ah (m0 (hBb.mono l5)) (fun ρ6 k _ _ _=>?_);refine ag (un (by rw [k.F,l5.F];exact e) ((hA.mono l5).mono k) ((hBb.mono l5).mono k)) (fun ρ7 l7 m=>?_);refine aC (fun _=>?_) (fun _=>aa (.bool _));exact ag (db _) (fun ρ8 l8 n=>aa (.bool _))
     |_=>exact ae _
   |_=>exact ae _
  |_=>exact ae _
 .obtain ⟨l⟩:=a;rcases l with - |⟨x,- |⟨y,- |⟨z,l⟩⟩⟩
  .exact .halt rfl
  .exact .halt rfl
  .simp at ha
  .exact .halt rfl
end
theorem CG {P : Wv} [Two P] {F : FuncId → Bool} (hx : ∀ f fn, F f = true → P.funcs[f]? = some fn → fn.body = none → fn.name ≠ "runtime.NumGoroutine" ∧ Extern.findNext fn = none ∧ ∃ e, Extern.find fn = some e ∧ ∀ ρ a a', ρ.F = F → GId P ρ → RVs ρ a a' → RS P QV ρ (e a) (e a')) : fD P F := by
 intro f fn hF hf hb ρ a a' hFF hI h;obtain ⟨h1,h2,e,h3,h4⟩:=hx f fn hF hf hb
 have hn : (fn.name == "runtime.NumGoroutine") = false := beq_eq_false_iff_ne.2 h1
 unfold callFunc;refine aY ?_ (by simp only [hI.alt f (by rw [hFF];exact hF)]);simp only [hf,hn,hb,Option.isNone_none,if_true,h2,h3];exact .mark (.extern f) (cg (h4 ρ a a' hFF hI h))
@[reducible] noncomputable def xF:Two Tryz.prog:=⟨Yq.prog.funcs⟩
@[reducible] noncomputable def xG:Two Yq.prog:=⟨Yq.prog.funcs⟩
theorem Gl {P:Wv}{p q:FuncId}{a b:Func}:@Program.alt P ⟨(Sw.prog P p q a b).funcs⟩=Sw.prog P p q a b:=rfl
theorem EU {P:Wv}:@Program.alt P ⟨P.funcs⟩=P:=rfl
theorem nA:@Program.alt Tryz.prog xF=Yq.prog:=Gl
theorem pW:@Program.alt Yq.prog xG=Yq.prog:=EU
theorem EV:Extern.findNext Tryz.f136=none:=by kernel_rfl
theorem EW:Extern.findNext Tryz.f173=none:=by kernel_rfl
theorem EX:Extern.findNext Tryz.f180=none:=by kernel_rfl
theorem EY:Extern.find Tryz.f136=some (Extern.SlicesOverlaps.overlaps Tryz.f136.params Tryz.f136.resultTypes):=by kernel_rfl
theorem EZ:Extern.find Tryz.f173=some Extern.BytealgIndex.index:=by kernel_rfl
theorem E1:Extern.find Tryz.f180=some Extern.BytealgIndexByte.indexByte:=by kernel_rfl
theorem oC {P:Wv} [Two P]{F:FuncId->Bool}(hs:P.funcs.size=206)(hc:CF P F=true)(d:P.funcs[136]?=some Tryz.f136)(c:P.funcs[173]?=some Tryz.f173)(e:P.funcs[180]?=some Tryz.f180)(k:F 136=true->F lm=true):fD P F:=
 CG fun f fn j hf hb=>by
  rcases zY hc hs f fn j hf hb with rfl|rfl|rfl
  .rw [d] at hf;cases hf;exact ⟨by decide,EV,_,EY,fun ρ a a' b i h=>uo (by rw [b];exact k j) _ _ h⟩
  .rw [c] at hf;cases hf;exact ⟨by decide,EW,_,EZ,fun ρ a a' b i h=>Ae i h⟩
  .rw [e] at hf;cases hf;exact ⟨by decide,EX,_,E1,fun ρ a a' b i h=>rE h⟩
theorem vJ {f:Nat}(h1:69≠f)(h2:97≠f):Yq.prog.funcs[f]?=Tryz.prog.funcs[f]?:=Sw.ne h1 h2 rfl
theorem size_eq:Yq.prog.funcs.size=Tryz.prog.funcs.size:=ny.trans nw.symm
theorem pX (f:Nat):(Yq.prog.funcs[f]?).map strip=(Tryz.prog.funcs[f]?).map strip:=by
 by_cases h1:69=f
 .subst h1;rw [Yq.func69,func69];rfl
 .by_cases h2:97=f
  .subst h2;rw [Yq.func97,func97];rfl
  .rw [vJ h1 h2]
theorem Hf {f:Nat}(h:Mk Gs f=true):f=69:=by
 have h:Gs (2000000+f)=true:=h;unfold Gs rg at h;simp only [Bool.or_eq_true,bT,Nat.ble_eq,beq_iff_eq] at h;omega
theorem GZ (f:Nat):¬Mk Ss f=true:=fun h=>by
 have h:Ss (2000000+f)=true:=h;unfold Ss rg at h;simp only [Bool.or_eq_true,bT,Nat.ble_eq,beq_iff_eq] at h;omega
theorem G0 (f:Nat):¬Mk Rs f=true:=fun h=>by
 have h:Rs (2000000+f)=true:=h;unfold Rs rg at h;simp only [Bool.or_eq_true,bT,Nat.ble_eq,beq_iff_eq] at h;omega
theorem Hg (f:Nat):¬Mk As f=true:=fun h=>by
 have h:As (2000000+f)=true:=h;unfold As rg at h;simp only [Bool.or_eq_true,bT,Nat.ble_eq] at h;omega
theorem E2 {F:FuncId->Bool}(h1:F 69=false)(h2:F 97=false){f:Nat}(h:F f=true):Yq.prog.funcs[f]?=Tryz.prog.funcs[f]?:=
 vJ (fun e=>by subst e;rw [h1] at h;cases h) (fun e=>by subst e;rw [h2] at h;cases h)
theorem Gm:@fP Tryz.prog xF Gs:=
 @fP.mk Tryz.prog xF Gs (fQ Ge nw) (fun f h=>by rw [nA];exact E2 (by decide) (by decide) h) (fun f=>by rw [nA];exact pX f) (by rw [nA];exact size_eq) (fun f h=>by
  obtain rfl:=Hf h;rw [nA];exact ⟨_,_,Yq.func69,func69,rfl,rfl,rfl⟩) (@oC Tryz.prog xF Gs nw Ge func136 func173 func180 (fun _=>by decide))
theorem Gn:@fP Tryz.prog xF Ss:=
 @fP.mk Tryz.prog xF Ss (fQ Gg nw) (fun f h=>by rw [nA];exact E2 (by decide) (by decide) h) (fun f=>by rw [nA];exact pX f) (by rw [nA];exact size_eq) (fun f h=>absurd h (GZ f)) (@oC Tryz.prog xF Ss nw Gg func136 func173 func180 (fun h=>absurd h (by decide)))
theorem Gp:@fP Tryz.prog xF Rs:=
 @fP.mk Tryz.prog xF Rs (fQ Gh nw) (fun f h=>by rw [nA];exact E2 (by decide) (by decide) h) (fun f=>by rw [nA];exact pX f) (by rw [nA];exact size_eq) (fun f h=>absurd h (G0 f)) (@oC Tryz.prog xF Rs nw Gh func136 func173 func180 (fun h=>absurd h (by decide)))
theorem E3:@fP Yq.prog xG Ss:=
 @fP.mk Yq.prog xG Ss (fQ D7 ny) (fun _ _=>by rw [pW]) (fun _=>by rw [pW]) (by rw [pW]) (fun f h=>absurd h (GZ f)) (@oC Yq.prog xG Ss ny D7 (Yq.nq func136) (Yq.nq func173) (Yq.nq func180) (fun h=>absurd h (by decide)))
theorem E5:@fP Yq.prog xG Rs:=
 @fP.mk Yq.prog xG Rs (fQ D8 ny) (fun _ _=>by rw [pW]) (fun _=>by rw [pW]) (by rw [pW]) (fun f h=>absurd h (G0 f)) (@oC Yq.prog xG Rs ny D8 (Yq.nq func136) (Yq.nq func173) (Yq.nq func180) (fun h=>absurd h (by decide)))
theorem E6:@fP Yq.prog xG As:=
 @fP.mk Yq.prog xG As (fQ D9 ny) (fun _ _=>by rw [pW]) (fun _=>by rw [pW]) (by rw [pW]) (fun f h=>absurd h (Hg f)) (@oC Yq.prog xG As ny D9 (Yq.nq func136) (Yq.nq func173) (Yq.nq func180) (fun _=>by decide))
theorem env:@pT xF xG Gs Ss Rs:=
 @pT.mk xF xG Gs Ss Rs nA Gj Gk ES ET Gn Gp E3 E5 (fun _f h=>Hf h) ⟨rfl,rfl,rfl⟩ GZ rfl ⟨rfl,rfl,rfl⟩ G0 GW GX GY Gi
section
open Go.Conc Go.ConcX Go.ConcX.Gen Go.RowKit
def wf (ro:Option Nat):Fence:={Fence.wide with round:=ro}
theorem G1 {ro:Option Nat}{P:Wv}(m:Machine):m.fenced P (wf ro):=fenced_wide P m
theorem pY {ro:Option Nat}{P:Wv}{m m':Machine}:StepsIn (Machine.fenced P (wf ro)) P m m'↔Steps P m m':=
 ⟨StepsIn.steps,fun h=>(StepsIn.of_steps h).mono fun m _=>G1 m⟩
theorem E7 (ro:Option Nat)(k:Nat):(wf ro).room k:=fun _ h=>by cases h
section
variable {P:Wv} {ops:Array Oper} {ro:Option Nat}
def xH (P:Wv)(ops:Array Oper)(ro:Option Nat)(i:Nat)(a:Act)(w:Wj)(K:Act->Wj->Prop):Prop:=
 ∀ (b:Wy) (k:List Item) (cs:List Wy) (rest:List Nat),b.roundOf=ro ->
  ∃a' w',K a' w'/\Steps P (lone (b.atR a (.inRegion ops (i::rest)::k)) cs w) (lone (b.atR a' (.inRegion ops rest::k)) cs w')
def xI (P:Wv)(ops:Array Oper)(ro:Option Nat)(K:Act->Wj->Prop):List Nat->Act->Wj->Prop
 | [],a,w=>K a w
 |i::r,a,w=>xH P ops ro i a w (xI P ops ro K r)
theorem xH.mono {i:Nat}{a:Act}{w:Wj}{K K':Act->Wj->Prop}(h:xH P ops ro i a w K)(hk:∀a w,K a w->K' a w):xH P ops ro i a w K':=
 fun b k cs rest hb=>let ⟨a',w',h1,h2⟩:=h b k cs rest hb;⟨a',w',hk _ _ h1,h2⟩
theorem jf {K:Act->Wj->Prop}{b:Wy}{k:List Item}{cs:List Wy}(hb:b.roundOf=ro):∀ (l:List Nat)(a:Act)(w:Wj),xI P ops ro K l a w ->
  ∃a' w',K a' w'/\Steps P (lone (b.atR a (.inRegion ops l::k)) cs w) (lone (b.atR a' k) cs w')
 | [],a,w,h=>⟨a,w,h,.one stepR_region_end⟩
 |i::r,a,w,h=>by
  obtain ⟨a1,w1,h1,s1⟩:=h b k cs r hb;obtain ⟨a2,w2,h2,s2⟩:=jf hb r a1 w1 h1;exact ⟨a2,w2,h2,s1.trans s2⟩
theorem Af {id n:Nat}{Q:Exit->Act->Wj->Prop}{a:Act}{w:Wj}(h:xI P ops ro (Q .normal) (List.range ops.size) a w):(Code.region id ops false).wpIn (wf ro) n P Q a w:=by
 intro b k cs hb _ _;obtain ⟨a',w',h1,h2⟩:=jf (b:=b) (k:=k) (cs:=cs) hb _ _ _ h;exact ⟨.normal,a',w',h1,pY.2 (.head stepR_region h2)⟩
theorem aq {i:Nat}{o:Oper}{a:Act}{w w':Wj}{v:Wx}{K:Act->Wj->Prop}(ho:ops[i]?=some o)(hw:Region.wanted o (yielded ops a.tmps)=true)(hd:∀c,o.op≠.defer c)(hr:(execOp a.eval o).run P w=.ok (.value v) w')(e:K (a.put o.dst v) w'):xH P ops ro i a w K:=by
 intro b k cs rest hb;refine ⟨_,_,e,.one ?_⟩;have hg:=stepGR_op (P:=P) (b:=b) (k:=k) (cs:=cs) (w:=w) (rest:=rest) ho hw;rw [Oper.semAt_eq _ _ _ hd] at hg;have d:(b.atR a (.inRegion ops (i::rest)::k)).finish v=b.atR (a.put o.dst v) (.inRegion ops rest::k):=by rw [Frame.finish_atR,ho];rfl
 exact step_lone_go (by rw [hg,<-d];simp [stepG.apply,hr])
theorem nB {i:Nat}{o:Oper}{a:Act}{w w':Wj}{f:FuncId}{args:Array Wx}{K:Act->Wj->Prop}(ho:ops[i]?=some o)(hw:Region.wanted o (yielded ops a.tmps)=true)(hd:∀c,o.op≠.defer c)(hr:(execOp a.eval o).run P w=.ok (.enter f args) w')
  (j:Calls P f args w' fun e w''=>∃v,e=.returned v/\K (a.put o.dst v) w''):xH P ops ro i a w K:=by
 intro b k cs rest hb;obtain ⟨e,w2,fr,⟨v,rfl,l⟩,hs,-,hl⟩:=j (b.atR a (.inRegion ops (i::rest)::k)::cs);have hs:Steps P _ _:=hs;refine ⟨_,_,l,?_⟩;have hg:=stepGR_op (P:=P) (b:=b) (k:=k) (cs:=cs) (w:=w) (rest:=rest) ho hw;rw [Oper.semAt_eq _ _ _ hd] at hg;have d:step P (lone (b.atR a (.inRegion ops (i::rest)::k)) cs w)=.next (lone (Frame.enter P f args .normal) (b.atR a (.inRegion ops (i::rest)::k)::cs) w'):=
  step_lone_go (by rw [hg];simp [stepG.apply,hr,Frame.atR])
 have h:(b.atR a (.inRegion ops (i::rest)::k)).finish v=b.atR (a.put o.dst v) (.inRegion ops rest::k):=by rw [Frame.finish_atR,ho];rfl
 refine .head d (hs.trans (.one ?_));rw [<-h];exact step_leave_returned hl
theorem nC {i:Nat}{o:Oper}{a:Act}{w:Wj}{x y:Operand}{c cap s r:Nat}{buf:Array Wx}{tm:Bool}{K:Act->Wj->Prop}(ho:ops[i]?=some o)(hw:Region.wanted o (yielded ops a.tmps)=true)(j:o.op=.send x y)(hx:a.eval x=.chan (some c))
  (hc:w.heap[c]?=some (.chan cap buf false s r tm)) (hroom:buf.size<cap) (m:K (a.put o.dst Wo) (w.setChan c cap (buf.push (a.eval y)) false (s+1) r tm)):xH P ops ro i a w K:=by
 intro b k cs rest hb;refine ⟨_,_,m,.one ?_⟩;have hg:=stepGR_op (P:=P) (b:=b) (k:=k) (cs:=cs) (w:=w) (rest:=rest) ho hw;rw [Oper.semAt_eq _ _ _ (by rw [j];exact fun c h=>by cases h)] at hg;have he:(execOp a.eval o).run P w=.ok (.comm #[scase c (a.eval y) (.tuple #[])] true .send) w:=by
  have e:execOp a.eval o=pure (.comm #[{chan:=a.eval x,send:=some (a.eval y),zero:=.tuple #[]}] true .send):=by simp only [execOp,j]
  rw [e,hx];rfl
 have f:(b.atR a (.inRegion ops (i::rest)::k)).finish Wo=b.atR (a.put o.dst Wo) (.inRegion ops rest::k):=by rw [Frame.finish_atR,ho];rfl
 obtain ⟨es,d⟩:∃es,stepG P true (G (b.atR a (.inRegion ops (i::rest)::k)) cs) w=.comm (G (b.atR a (.inRegion ops (i::rest)::k)) cs) #[scase c (a.eval y) (.tuple #[])] true .send w es:=by
  have l:stepG P true (G (b.atR a (.inRegion ops (i::rest)::k)) cs) w=_:=hg;rw [l];simp only [stepG.apply,G,Frame.atR,GStep.after,if_true];have h1:((execOp a.eval o).runT P w #[]).1=.ok (.comm #[scase c (a.eval y) (.tuple #[])] true .send) w:=by rw [Sem.runT_eq];exact he
  generalize (execOp a.eval o).runT P w #[]=z at h1;obtain ⟨z1,z2⟩:=z;subst h1;exact ⟨_,rfl⟩
 rw [<-f];exact step_lone_send_room d hc hroom
theorem Ah {K:Act->Wj->Prop}(I:Array Bool->Act->Wj->Prop)(b:∀listed a w i,I listed a w->i∈Region.ready .any ops listed->xH P ops ro i a w (I (listed.setIfInBounds i true)))(hend:∀listed a w,I listed a w->Region.ready .any ops listed=[]->K a w):
  ∀ (fuel t:Nat) (listed:Array Bool) (a:Act) (w:Wj),I listed a w->(List.range ops.size).countP (fun i=>!listed.getD i true)<=fuel->xI P ops ro K (Region.linearise.go .any ops fuel t listed []) a w:=by
 intro fuel;induction fuel with
 |zero=>
  intro t listed a w d hz;have f:Region.ready .any ops listed=[]:=by
   unfold Region.ready;rw [List.filter_eq_nil_iff];intro i c h;have:=List.countP_eq_zero.1 (Nat.le_zero.1 hz) i c;simp only [bT] at h;exact this h.1
  simp only [Region.linearise.go];exact hend _ _ _ d f
 |succ fuel ih=>
  intro t listed a w d hz;simp only [Region.linearise.go];change xI P ops ro K (match (Region.ready .any ops listed)[t % (Region.ready .any ops listed).length]? with
   |some i=>Region.linearise.go .any ops fuel (t / (Region.ready .any ops listed).length) (listed.setIfInBounds i true) [i]
   |none=>[].reverse) a w
  cases c:(Region.ready .any ops listed)[t % (Region.ready .any ops listed).length]? with
  |none=>
   refine hend _ _ _ d ?_;cases hr:Region.ready .any ops listed with
   |nil=>rfl
   |cons x xs=>
    rw [hr,List.getElem?_eq_none_iff] at c;have:=Nat.mod_lt t (show 0<(x::xs).length by simp);omega
  |some i=>
   simp only [];rw [linearise_go_acc,List.reverse_singleton,List.singleton_append];have hm:=List.mem_of_getElem? c;refine (b _ _ _ i d hm).mono fun a' w' hI'=>ih _ _ _ _ hI' ?_
   have hm':=List.mem_filter.1 hm;have hlt:i<ops.size:=List.mem_range.1 hm'.1;have h1:(!listed.getD i true)=true:=by
    have:=hm'.2;simp only [bT] at this;exact this.1
   have k:i<listed.size:=by
    rcases Nat.lt_or_ge i listed.size with h|h
    .exact h
    .rw [gD,Array.getElem?_eq_none h] at h1;cases h1
   have hle:∀j,(!(listed.setIfInBounds i true).getD j true)=true->(!listed.getD j true)=true:=fun j h=>by
    by_cases n:j=i
    .subst n;exact h1
    .rw [gD,sN (fun e=>n e.symm),<-gD] at h;exact h
   have hlt2:(List.range ops.size).countP (fun j=>!(listed.setIfInBounds i true).getD j true)<(List.range ops.size).countP (fun j=>!listed.getD j true):=by
    have m:(!(listed.setIfInBounds i true).getD i true)=false:=by
     rw [gD,sS k];rfl
    obtain ⟨l1,l2,hl⟩:=List.append_of_mem (List.mem_range.2 hlt);rw [hl];simp only [List.countP_append,List.countP_cons,m,h1];have e1:=List.countP_mono_left (l:=l1) (fun j _=>hle j);have e2:=List.countP_mono_left (l:=l2) (fun j _=>hle j);simp only [Bool.false_eq_true,if_false,if_true];omega
   omega
theorem oD {id n:Nat}{Q:Exit->Act->Wj->Prop}{a:Act}{w:Wj}(hm:P.follows .mixedOrders=true)(I:Array Bool->Act->Wj->Prop)(c:∀listed a w i,I listed a w->i∈Region.ready .any ops listed->xH P ops ro i a w (I (listed.setIfInBounds i true)))(hend:∀listed a w,I listed a w->Region.ready .any ops listed=[]->Q .normal a w)
  (h0:I (Array.replicate ops.size false) a {w with drawn:=w.drawn+1}):(Code.region id ops true).wpIn (wf ro) n P Q a w:=by
 intro b k cs hb _ _;have ht:=Ah (ro:=ro) I c hend ops.size (w.tape w.drawn (.order b.fn id)) _ a _ h0 (by
  have:=List.countP_le_length (p:=fun i=>!(Array.replicate ops.size false).getD i true) (l:=List.range ops.size);simpa using this)
 obtain ⟨a',w',h1,h2⟩:=jf (b:=b) (k:=k) (cs:=cs) hb _ _ _ ht;refine ⟨.normal,a',w',h1,pY.2 (.head stepR_region_draw ?_)⟩;simp only [Region.schedule,hm,Bool.true_or,if_true];exact h2
theorem Ai {i:Nat}{o:Oper}{a:Act}{w:Wj}{K:Act->Wj->Prop}(ho:ops[i]?=some o)(hw:Region.wanted o (yielded ops a.tmps)=false)(c:K (a.put o.dst Wo) w):xH P ops ro i a w K:=by
 intro b k cs rest hb;refine ⟨_,_,c,.one ?_⟩;have hs:=stepR_op_skip (P:=P) (b:=b) (a:=a) (k:=k) (cs:=cs) (w:=w) (ops:=ops) (i:=i) (rest:=rest) (by simp [ho,hw]);simpa only [ho,Option.bind_some] using hs
theorem xJ {i:Nat}{o:Oper}{a:Act}{w w':Wj}{l:Nat}{f:FuncId}{tmps:Array Wx}{assign body:Code}{n:Nat}{K:Act->Wj->Prop}(ho:ops[i]?=some o)(hw:Region.wanted o (yielded ops a.tmps)=true)(hd:∀c,o.op≠.defer c)(hr:(execOp a.eval o).run P w=.ok (.round l f tmps assign body) w')
  (j:RoundIn (wf ro) n P l f tmps assign body w' fun e w''=>∃v,e=.returned v/\K (a.put o.dst v) w''):xH P ops ro i a w K:=by
 intro b k cs rest hb;obtain ⟨e,w2,⟨v,rfl,m⟩,hs⟩:=j.2 (b.atR a (.inRegion ops (i::rest)::k)) cs (E7 _ _);have hs:=pY.1 (show StepsIn (Machine.fenced P (wf ro)) P _ _ from hs);refine ⟨_,_,m,?_⟩;have hg:=stepGR_op (P:=P) (b:=b) (k:=k) (cs:=cs) (w:=w) (rest:=rest) ho hw;rw [Oper.semAt_eq _ _ _ hd] at hg;have d:step P (lone (b.atR a (.inRegion ops (i::rest)::k)) cs w)=.next (lone (Frame.round l f tmps assign body .normal) (b.atR a (.inRegion ops (i::rest)::k)::cs) w'):=
  step_lone_go (by rw [hg];simp [stepG.apply,hr,Frame.atR])
 have h:(b.atR a (.inRegion ops (i::rest)::k)).finish v=b.atR (a.put o.dst v) (.inRegion ops rest::k):=by rw [Frame.finish_atR,ho];rfl
 rw [<-h];exact .head d hs
theorem iV {a:Act}{d t:Nat}{v:Wx}(h:t≠d):(a.put (some d) v).eval (.tmp t)=a.eval (.tmp t):=by
 simp only [Act.put,Act.eval,gD];rw [sN (fun e=>h e.symm)]
theorem pZ {a:Act}{d:Nat}{v:Wx}(h:d<a.tmps.size):(a.put (some d) v).eval (.tmp d)=v:=by
 simp only [Act.put,Act.eval,gD];rw [sS h];rfl
theorem oE {a:Act}{j d:Nat}{o:Oper}{x:Bool}(ho:ops[j]?=some o)(hd:o.dst=some d)(hs:d<a.tmps.size)(he:a.eval (.tmp d)=.bool x):yielded ops a.tmps j=some x:=by
 simp only [Act.eval,gD,eG hs,Option.getD_some] at he;simp [yielded,ho,hd,hs,he]
structure Vals (a0:Act)(base lim:Nat)(vals:Nat->Wx)(Wd:(Nat->Bool)->Wj->Prop)(sz:Nat)(listed:Array Bool)(a:Act)(w:Wj):Prop where
 size:a.tmps.size=a0.tmps.size
 defers:a.defers=a0.defers
 old:∀t,t<base->a.eval (.tmp t)=a0.eval (.tmp t)
 new:∀i,i<lim->listed.getD i false=true->a.eval (.tmp (base+i))=vals i
 world:Wd (fun i=>listed.getD i false) w
 len:listed.size=sz
theorem kF {listed:Array Bool}{i:Nat}{o:Oper}(h:i∈Region.ready .any ops listed)(ho:ops[i]?=some o):∀e∈o.after,Region.binds .any e=true->listed.getD e.on false=true:=by
 have h2:=(List.mem_filter.1 h).2;simp only [ho,Option.map_some,Option.getD_some,bT] at h2;intro e he hb;have:=Array.all_eq_true'.1 h2.2 e he;simpa [hb] using this
theorem cX {listed:Array Bool}{i:Nat}(h:i∈Region.ready .any ops listed):i<ops.size/\listed.getD i true=false:=by
 have h1:=List.mem_filter.1 h;have h2:=h1.2;simp only [bT,Bool.not_eq_true'] at h2;exact ⟨List.mem_range.1 h1.1,h2.1⟩
def dQ (d:Nat->Bool)(i:Nat):Nat->Bool:=fun j=>if j=i then true else d j
theorem oF {listed:Array Bool}{i:Nat}(h:i<listed.size):(fun j=>(listed.setIfInBounds i true).getD j false)=dQ (fun j=>listed.getD j false) i:=by
 funext j;unfold dQ;by_cases a:j=i
 .subst a;rw [if_pos rfl,gD,sS h];rfl
 .rw [if_neg a,gD,sN (fun e=>a e.symm),<-gD]
theorem Vals.step {a0:Act}{c b:Nat}{d:Nat->Wx}{Wd:(Nat->Bool)->Wj->Prop}{listed:Array Bool}{a:Act}{w w':Wj}{i:Nat}{o:Oper}(V:Vals a0 c b d Wd ops.size listed a w)(l:i∈Region.ready .any ops listed)(ho:ops[i]?=some o)(hd:i<b->o.dst=some (c+i))(k:¬i<b->o.dst=none)(hsz:c+b<=a0.tmps.size)
  {v:Wx} (hv:i<b->v=d i) (hw:Wd (dQ (fun j=>listed.getD j false) i) w'):Vals a0 c b d Wd ops.size (listed.setIfInBounds i true) (a.put o.dst v) w':=by
 have hlt:i<listed.size:=by rw [V.len];exact (cX l).1
 by_cases h:i<b
 .rw [hd h];refine ⟨by simp [Act.put,V.size],V.defers,fun t ht=>(iV (by omega)).trans (V.old t ht),fun j f hl=>?_,by rw [oF hlt];exact hw,by simp [V.len]⟩;by_cases hji:j=i
  .subst hji;rw [pZ (by rw [V.size];omega)];exact hv h
  .rw [iV (by omega)];refine V.new j f ?_
   rwa [gD,sN (fun e=>hji e.symm),<-gD] at hl
 .rw [k h];refine ⟨V.size,V.defers,V.old,fun j f hl=>V.new j f ?_,by rw [oF hlt];exact hw,by simp [V.len]⟩
  rwa [gD,sN (fun e=>h (by omega)),<-gD] at hl
def Aj (ops:Array Oper):Bool:=(List.range ops.size).all fun i=>((ops[i]?).map fun o=>o.after.toList.all fun e=>decide (e.on<i)).getD true
def E8 (ops:Array Oper)(a b:Nat):Bool:=(List.range ops.size).all fun i=>((ops[i]?).map fun o=>if i<b then o.dst==some (a+i) else o.dst==none).getD true
theorem vK (hd:Aj ops=true){listed:Array Bool}(hs:listed.size=ops.size)(hr:Region.ready .any ops listed=[]):∀i,i<ops.size->listed.getD i false=true:=by
  intro i;induction i using Nat.strongRecOn with
  |_ i ih=>
    intro a;by_cases h:listed.getD i false=true
    . exact h
    . exfalso
      have hm:i∈Region.ready .any ops listed:=by
        refine List.mem_filter.2 ⟨List.mem_range.2 a,?_⟩;have h1:=List.all_eq_true.1 hd i (List.mem_range.2 a);simp only [eG a,Option.map_some,Option.getD_some,bT] at h1 ⊢;refine ⟨?_,Array.all_eq_true'.2 fun e he=>?_⟩
        . rw [gD,eG (by omega)] at h ⊢
          simpa using h
        . have h2:=List.all_eq_true.1 h1 e (Array.mem_toList_iff.2 he)
          have h3 := ih e.on (by simpa using h2) (by have : e.on < i := by simpa using h2
                                                     omega)
          simp [h3]
      rw [hr] at hm;cases hm
theorem vM {a b:Nat}(hd:E8 ops a b=true):∀i o,ops[i]?=some o->(i<b->o.dst=some (a+i))/\(¬i<b->o.dst=none):=by
 intro i o ho;have c:i<ops.size:=(eS ho).1;have h1:=List.all_eq_true.1 hd i (List.mem_range.2 c);simp only [ho,Option.map_some,Option.getD_some] at h1;refine ⟨fun h=>?_,fun h=>?_⟩
 .rw [if_pos h] at h1;simpa using h1
 .rw [if_neg h] at h1;simpa using h1
theorem jg {id n:Nat}{Q:Exit->Act->Wj->Prop}{a0:Act}{w0:Wj}(hm:P.follows .mixedOrders=true)(b f:Nat)(c:Nat->Wx)(Wd:(Nat->Bool)->Wj->Prop)(hsz:b+f<=a0.tmps.size)
  (k:E8 ops b f=true) (p:Aj ops=true)
  (l:∀ (listed:Array Bool) (a:Act) (w:Wj) (i:Nat) (o:Oper),i∈Region.ready .any ops listed->ops[i]?=some o->Vals a0 b f c Wd ops.size listed a w->(∀e∈o.after,Region.binds .any e=true->listed.getD e.on false=true) ->
   xH P ops ro i a w (fun a' w'=>∃v,a'=a.put o.dst v/\(i<f->v=c i)/\Wd (dQ (fun j=>listed.getD j false) i) w'))
  (hend:∀a w,a.tmps.size=a0.tmps.size->a.defers=a0.defers->(∀t,t<b->a.eval (.tmp t)=a0.eval (.tmp t))->(∀i,i<f->i<ops.size->a.eval (.tmp (b+i))=c i)->(∃d,(∀i,i<ops.size->d i=true)/\Wd d w)->Q .normal a w)
  (h0:Wd (fun _=>false) {w0 with drawn:=w0.drawn+1}):(Code.region id ops true).wpIn (wf ro) n P Q a0 w0:=by
 have hf:(fun i=>(Array.replicate ops.size false).getD i false)=fun _=>false:=by
  funext i;rw [gD,Array.getElem?_replicate];split<;>rfl
 refine oD hm (Vals a0 b f c Wd ops.size) (fun listed a w i V m=>?_) (fun listed a w V hr=>?_) ⟨rfl,rfl,fun _ _=>rfl,fun i _ h=>?_,by rw [hf];exact h0,by simp⟩
 .have hlt:=(cX m).1;have ho:=eG hlt;refine (l listed a w i _ m ho V (kF m ho)).mono ?_;rintro a' w' ⟨v,rfl,hv,hw⟩;exact V.step m ho (vM k i _ ho).1 (vM k i _ ho).2 hsz hv hw
 .have h1:=vK p V.len hr;exact hend a w V.size V.defers V.old (fun i m hi2=>V.new i m (h1 i hi2)) ⟨_,h1,V.world⟩
 .have:=congrFun hf i;exact absurd (this.symm.trans h) (by simp)
end
end
section
open Go.RowKit
theorem ai {W w1:Wj}(hb:Below W.heap.size W w1){a:Wu}{v:Wx}(h:W.cell? a=some v):w1.cell? a=some v:=by
 rw [hb.cell (bC W a h)];exact h
theorem vN (x y:Int):mb x y<0↔x<y:=by unfold mb;(repeat' split)<;>omega
theorem Ea (x y:Int):(mb x y==0)=decide (x=y):=by unfold mb;(repeat' split)<;>simp<;>omega
theorem E9 (b n cap:Nat)(L:Nat->Int)(p:Nat->Option Wu)(t:Int)(w:Wj)(hn:n<=2199023255552)
  (hc:∀i,i<n->w.cell? ⟨b,i * 2,none⟩=some (.int .u8 (L i))/\w.cell? ⟨b,i * 2+1,none⟩=some (.pointer (p i)))
  (hs:∀i j,i<j->j<n->L i<L j):
  Calls Yq.prog 133 #[.slice (some ⟨b,0,none⟩) n cap,.int .u8 t,.func (.func 134) #[] #[]] w fun e w'=>∃r:Nat,r<=n/\(∀j,j<r->L j<t)/\(∀j,r<=j->j<n->t<=L j) /\
   e=.returned (.tuple #[.int .i64 r,.bool (decide (r<n/\L r=t))])/\Below w.heap.size w w':=by
 have HS:Hid (∀i j,i<j->j<n->L i<L j):=hs;clear hs;go_enter (Yq.nq func133),ntmps133;go_wp2
 go_loopw [9,10,11] (fun i j _ wr=>∃x y:Nat,x<=y/\y<=n/\i=.int .i64 x/\j=.int .i64 y/\(∀k,k<x->L k<t)/\(∀k,y<=k->k<n->t<=L k)/\Below w.heap.size w wr) (fun i j _ _=>(intOf j).toNat-(intOf i).toNat)
 case atStart=>exact ⟨0,n,Nat.zero_le _,lR _,rfl,rfl,fun k h=>absurd h (Nat.not_lt_zero _),fun k h1 h2=>absurd h2 (by omega),bR _ _⟩
 case round=>
  obtain ⟨x,y,o,d,rfl,rfl,l,f,hb⟩:=hrel;have HL:Hid (∀k,k<x->L k<t):=l;have HH:Hid (∀k,y<=k->k<n->t<=L k):=f;clear l f;by_cases hlt:x<y
  .obtain ⟨c0,c1⟩:=hc ((x+y) / 2) (by omega);replace c0:=ai hb c0;replace c1:=ai hb c1;by_cases c:L ((x+y) / 2)<t
   .have hcm':=(vN _ _).2 c;go_wp2_with (go_at_call 134;refine (pu _ _ _ _).mono ?_;rintro e w' ⟨rfl,rfl⟩)
    refine ⟨⟨(x+y) / 2+1,y,by omega,d,by go_num,rfl,fun k hk=>?_,HH.out,hb.alloc hb.size _⟩,by simp [intOf];omega⟩;by_cases hk2:k=(x+y) / 2
    .rw [hk2];exact c
    .have:=HS.out k ((x+y) / 2) (by omega) (by omega);omega
   .have hcm':¬mb (L ((x+y) / 2)) t<0:=fun h=>c ((vN _ _).1 h)
    go_wp2_with (go_at_call 134;refine (pu _ _ _ _).mono ?_;rintro e w' ⟨rfl,rfl⟩)
    refine ⟨⟨x,(x+y) / 2,by omega,by omega,rfl,by go_num,HL.out,fun k hk1 hk2=>?_,hb.alloc hb.size _⟩,by simp [intOf];omega⟩;by_cases hk3:k=(x+y) / 2
    .rw [hk3];omega
    .have:=HS.out ((x+y) / 2) k (by omega) (by omega);omega
  .have m:x=y:=by omega
   subst m;clear hlt o;by_cases a:x<n
   .obtain ⟨c0,c1⟩:=hc x a;replace c0:=ai hb c0;replace c1:=ai hb c1;go_wp2_with (go_at_call 134;refine (pu _ _ _ _).mono ?_;rintro e w' ⟨rfl,rfl⟩)
    go_ret2
    exact ⟨x,d,HL.out,HH.out,by simp [a,Ea],hb.alloc hb.size _⟩
   .go_wp2
    go_ret2
    exact ⟨x,d,HL.out,HH.out,by simp [a],hb⟩
theorem CH (a:Option Wu)(cap:Nat)(t:Int)(w:Wj):
  Calls Yq.prog 133 #[.slice a 0 cap,.int .u8 t,.func (.func 134) #[] #[]] w fun e w'=>e=.returned (.tuple #[.int .i64 0,.bool false])/\w'=w:=by
 go_enter (Yq.nq func133),ntmps133;go_wp2;refine wp_loop_rounds 1 ?_;rw [rounds_succ];go_wp2
 go_ret2
 exact ⟨rfl,rfl⟩
theorem Fb (b n cap:Nat)(L:Nat->Int)(S:Nat->ByteArray)(M:Nat->Bool)(t:Int)(w:Wj)(hn:n<=2199023255552)
  (hc:∀i,i<n->w.cell? ⟨b,i * 3,none⟩=some (.int .i64 (L i))/\w.cell? ⟨b,i * 3+1,none⟩=some (.string (S i))/\w.cell? ⟨b,i * 3+2,none⟩=some (.bool (M i)))
  (hs:∀i j,i<j->j<n->L i<L j):
  Calls Yq.prog 112 #[.slice (some ⟨b,0,none⟩) n cap,.int .i64 t,.func (.func 113) #[] #[]] w fun e w'=>∃r:Nat,r<=n/\(∀j,j<r->L j<t)/\(∀j,r<=j->j<n->t<=L j) /\
   e=.returned (.tuple #[.int .i64 r,.bool (decide (r<n/\L r=t))])/\Below w.heap.size w w':=by
 have HS:Hid (∀i j,i<j->j<n->L i<L j):=hs;clear hs;go_enter (Yq.nq func112),ntmps112;go_wp2
 go_loopw [9,10,11] (fun i j _ wr=>∃x y:Nat,x<=y/\y<=n/\i=.int .i64 x/\j=.int .i64 y/\(∀k,k<x->L k<t)/\(∀k,y<=k->k<n->t<=L k)/\Below w.heap.size w wr) (fun i j _ _=>(intOf j).toNat-(intOf i).toNat)
 case atStart=>exact ⟨0,n,Nat.zero_le _,lR _,rfl,rfl,fun k h=>absurd h (Nat.not_lt_zero _),fun k h1 h2=>absurd h2 (by omega),bR _ _⟩
 case round=>
  obtain ⟨x,y,o,d,rfl,rfl,l,f,hb⟩:=hrel;have HL:Hid (∀k,k<x->L k<t):=l;have HH:Hid (∀k,y<=k->k<n->t<=L k):=f;clear l f;by_cases hlt:x<y
  .obtain ⟨c0,c1,c2⟩:=hc ((x+y) / 2) (by omega);replace c0:=ai hb c0;replace c1:=ai hb c1;replace c2:=ai hb c2;by_cases c:L ((x+y) / 2)<t
   .have hcm':=(vN _ _).2 c;go_wp2_with (go_at_call 113;refine (pv _ _ _ _ _).mono ?_;rintro e w' ⟨rfl,rfl⟩)
    refine ⟨⟨(x+y) / 2+1,y,by omega,d,by go_num,rfl,fun k hk=>?_,HH.out,hb.alloc hb.size _⟩,by simp [intOf];omega⟩;by_cases hk2:k=(x+y) / 2
    .rw [hk2];exact c
    .have:=HS.out k ((x+y) / 2) (by omega) (by omega);omega
   .have hcm':¬mb (L ((x+y) / 2)) t<0:=fun h=>c ((vN _ _).1 h)
    go_wp2_with (go_at_call 113;refine (pv _ _ _ _ _).mono ?_;rintro e w' ⟨rfl,rfl⟩)
    refine ⟨⟨x,(x+y) / 2,by omega,by omega,rfl,by go_num,HL.out,fun k hk1 hk2=>?_,hb.alloc hb.size _⟩,by simp [intOf];omega⟩;by_cases hk3:k=(x+y) / 2
    .rw [hk3];omega
    .have:=HS.out ((x+y) / 2) k (by omega) (by omega);omega
  .have m:x=y:=by omega
   subst m;clear hlt o;by_cases a:x<n
   .obtain ⟨c0,c1,c2⟩:=hc x a;replace c0:=ai hb c0;replace c1:=ai hb c1;replace c2:=ai hb c2;go_wp2_with (go_at_call 113;refine (pv _ _ _ _ _).mono ?_;rintro e w' ⟨rfl,rfl⟩)
    go_ret2
    exact ⟨x,d,HL.out,HH.out,by simp [a,Ea],hb.alloc hb.size _⟩
   .go_wp2
    go_ret2
    exact ⟨x,d,HL.out,HH.out,by simp [a],hb⟩
theorem CI (a:Option Wu)(cap:Nat)(t:Int)(w:Wj):
  Calls Yq.prog 112 #[.slice a 0 cap,.int .i64 t,.func (.func 113) #[] #[]] w fun e w'=>e=.returned (.tuple #[.int .i64 0,.bool false])/\w'=w:=by
 go_enter (Yq.nq func112),ntmps112;go_wp2;refine wp_loop_rounds 1 ?_;rw [rounds_succ];go_wp2
 go_ret2
 exact ⟨rfl,rfl⟩
end
