/- A part. -/
import Derived.Test.YtnapepbdohidgaaGreatDoorQV06
set_option maxHeartbeats 4000000
set_option maxRecDepth 100000
open Go renaming World->Wz,Value->Wq,Goroutine->Wj,Program->Wx,Frame->Wv,Addr->Ww,undef->Wy
namespace Go.Proofs.Qw
section
open Go
def Ren.plus (ρ:Ren)(n m:Nat)(I:Nat->Prop)(hlt:∀a b,ρ a b->a<n/\b<m)(ch:Nat->Prop)(hS:ρ.F fH=false):Ren where
 rel:=fun a b=>ρ a b\/∃i,I i/\a=n+i/\b=m+i
 fn:=fun a b b' h1 h2=>by
  rcases h1 with h1|⟨i,-,h1,h3⟩<;>rcases h2 with h2|⟨j,-,h2,h4⟩
  .exact ρ.fn _ _ _ h1 h2
  .have:=(hlt _ _ h1).1;omega
  .have:=(hlt _ _ h2).1;omega
  .omega
 inj:=fun a a' b h1 h2=>by
  rcases h1 with h1|⟨i,-,h1,h3⟩<;>rcases h2 with h2|⟨j,-,h2,h4⟩
  .exact ρ.inj _ _ _ h1 h2
  .have:=(hlt _ _ h1).2;omega
  .have:=(hlt _ _ h2).2;omega
  .omega
 prog:=ρ.prog
 F:=ρ.F
 old:=fun _=>False
 ch:=ch
 loose:=true
 wide:=true
 tight:=fun h=>by rw [hS] at h;cases h
 pin:=ρ.pin
 bad:=ρ.bad
 noM:=ρ.noM
section
variable {ρ:Ren} {n m:Nat} {I:Nat->Prop} {hlt:∀a b,ρ a b->a<n/\b<m} {ch:Nat->Prop} {hS:ρ.F fH=false} {V W V' W':Wz}
theorem pp:ρ.sub' (ρ.plus n m I hlt ch hS):=⟨fun _ _ h=>.inl h,rfl,fun _ h=>h,rfl⟩
theorem mg {i:Nat}(h:I i):(ρ.plus n m I hlt ch hS) (n+i) (m+i):=.inr ⟨i,h,rfl,rfl⟩
theorem Br (S:bm ρ V W)(hV:∀a b,ρ a b->V'.heap[a]?=V.heap[a]?)(hW:∀b,b<m->W'.heap[b]?=W.heap[b]?)(hos:W'.os=V'.os)
  (hnew:∀i,I i->∃o o',V'.heap[n+i]?=some o/\W'.heap[m+i]?=some o'/\RO (ρ.plus n m I hlt ch hS) o o') (hch:∀c,ch c->∃o,V'.heap[c]?=some o/\o.isChan=true):bm (ρ.plus n m I hlt ch hS) V' W':=by
 refine ⟨fun a b hab=>?_,fun a h=>h.elim,hch,hos,fun hb a c0 hp=>?_⟩
 rotate_left
 .obtain ⟨b,hab,hP⟩:=S.pin hb a c0 hp;exact ⟨b,.inl hab,hP.same (hV a b hab) (hW b (hlt a b hab).2)⟩
 rcases hab with hab|⟨i,hi,rfl,rfl⟩
 .obtain ⟨o,o',h1,h2,h3⟩:=S.obj a b hab;refine ⟨o,o',(hV a b hab).trans h1,(hW b (hlt a b hab).2).trans h2,RO.re pp rfl h3 (fun hc=>?_)⟩;cases h3 with
  |chan=>exact .chan _ _ _ _ _ _ _ _ _ (.inl rfl) (.inl rfl)
  |_=>cases hc
 .exact hnew i hi
end
structure fM (P:Wx) [Two P](F:FuncId->Bool):Prop where
 code:∀ (f:FuncId) fn b,F f=true->P.funcs[f]?=some fn->fn.body=some b->az P F b=true
 alt:∀f,F f=true->P.alt.funcs[f]?=P.funcs[f]?
 same:∀f:Nat,(P.alt.funcs[f]?).map strip=(P.funcs[f]?).map strip
 size:P.alt.funcs.size=P.funcs.size
 apart:∀f,Mk F f=true->∃a b,P.alt.funcs[f]?=some a/\P.funcs[f]?=some b/\a.body.isSome=true/\b.body.isSome=true/\a.name=b.name
 ext:fy P F
theorem fM.gid {P:Wx} [Two P]{σ:Ren}(h:fM P σ.F)(hg:∀g,g<P.globals.size->σ g g)(hp:σ.prog=P)(hf:σ.F kM=true->∀a,¬σ.old a):GId P σ:=⟨hg,hp,h.code,h.alt,hf,h.same,h.size,h.apart⟩
theorem RV.any {σ σ':Ren}(hrel:∀a b,σ a b->σ' a b)(hF:∀f,σ.F f=true->σ'.F f=true)(ho:σ'.bad=σ.bad){v v':Wq}(h:RV σ v v'):RV σ' v v':=by
 have hAo:∀ {a a':Option Ww},RAo σ a a'->RAo σ' a a':=fun h=>by
  cases h with
  |none=>exact .none
  |some h=>exact .some ⟨hrel _ _ h.1,h.2⟩
 have hNo:∀ {a a':Option Nat},RNo σ a a'->RNo σ' a a':=fun h=>by
  cases h with
  |none=>exact .none
  |some h=>exact .some (hrel _ _ h)
 induction h with
 |bool b=>exact .bool b
 |int k n=>exact .int k n
 |string s=>exact .string s
 |pointer h=>exact .pointer (hAo h)
 |slice n c h=>exact .slice n c (hAo h)
 |map h=>exact .map (hNo h)
 |chan h=>exact .chan (hNo h)
 |func hf ha hc _ _ ih1 ih2=>
  refine .func ?_ ha hc ih1 ih2;cases hf with
  |func f h=>exact .func f (hF f h)
  |yield h=>exact .yield (hrel _ _ h)
 |nilFunc=>exact .nilFunc
 |iface t _ ih=>exact .iface t ih
 |nilIface=>exact .nilIface
 |agg hc _ ih=>exact .agg hc ih
 |tuple hc _ ih=>exact .tuple hc ih
 |dead v' h=>exact .dead v' h
 |odd n s a c hn=>exact .odd n s a c (hn.trans ho.symm)
theorem RVs.any {σ σ':Ren}(hrel:∀a b,σ a b->σ' a b)(hF:∀f,σ.F f=true->σ'.F f=true)(ho:σ'.bad=σ.bad){c c':Array Wq}(h:RVs σ c c'):RVs σ' c c':=⟨h.size,fun i v v' h1 h2=>(h.at_ i v v' h1 h2).any hrel hF ho⟩
theorem RO.any {σ σ':Ren}(hrel:∀a b,σ a b->σ' a b)(hF:∀f,σ.F f=true->σ'.F f=true)(ho:σ'.bad=σ.bad)(hb:σ'.F kM=σ.F kM){o o':Obj}(hp:uT o)(h:RO σ o o'):RO σ' o o':=by
 have hno:∀ {q:Obj},uT q->(∀c e z,q≠.cells c e z)->Fixed q:=fun h k=>by
  rcases h with ⟨c,e,z,h⟩|h
  .exact absurd h (k c e z)
  .exact h
 cases h with
 |cells e hz h=>exact .cells e (by rw [hb];exact hz) (h.any hrel hF ho)
 |number b h=>exact .number b ⟨hrel _ _ h.1,h.2⟩
 |dead _ h=>exact .dead _ h
 |_=>exact (hno hp (fun _ _ _ h=>by cases h)).elim
theorem kV {P:Wx} [Two P](hZ:bu P)(hN:bG P){A:Nat->Prop}{F:FuncId->Bool}{T:Wj->Wz->Prop}(hT:∀g w,T g w->g.callers≠[]/\g.dying=none/\g.status=.running)(hTt:∀g w τ d,T g (w.on τ d)↔T g w){h:Wj}{w:Wz}(hS:Self P ([trap P],[]) A F h w)
  (hst:∀τ d,∃g' w',Steps P (solo h (w.on τ d)) (solo g' w')/\T g' w'):Dem P (jt P ([trap P],[]) A F) T h w:=by
 refine Way.dem (N:=jt P ([trap P],[]) A F) ⟨fun g w h=>h.mir hZ hN,fun g w τ d h=>⟨h.1.on τ d,h.2⟩,hTt⟩ (fun τ d=>?_);obtain ⟨g',w',⟨n,hn⟩,hT'⟩:=hst τ d;exact mU hZ hN hT n _ _ _ w' (hS.on τ d) hn hT'
def Ren.firm (σ:Ren)(P:Wx)(hb:NoM P σ.bad)(c:Nat):Ren where
 rel:=σ.rel
 fn:=σ.fn
 inj:=σ.inj
 prog:=P
 F:=σ.F
 old:=fun _=>False
 ch:=fun a=>a=c
 loose:=false
 wide:=false
 tight:=fun _=>rfl
 pin:=σ.pin
 bad:=σ.bad
 noM:=hb
theorem uV {σ:Ren}{P:Wx}{hb0:NoM P σ.bad}{V W W':Wz}(S:bm σ V W){c c':Nat}(hc:σ c c')(hpl:∀a b,σ a b->a≠c->∃o,V.heap[a]?=some o/\uT o)(hW:∀b,b≠c'->W'.heap[b]?=W.heap[b]?)(hos:W'.os=W.os){n n' s s' q q':Nat}{b b':Array Wq}{cl tm:Bool}(hV:V.heap[c]?=some (.chan n b cl s q tm))(hW':W'.heap[c']?=some (.chan n' b' cl s' q' tm))(hb:RVs (σ.firm P hb0 c) b b'):bm (σ.firm P hb0 c) V W':=by
 refine ⟨fun x y hxy=>?_,fun _ h=>h.elim,fun a h=>?_,hos.trans S.os,fun hb a c0 hp=>?_⟩
 rotate_left 2
 .obtain ⟨y,hay,hP⟩:=S.pin hb a c0 hp;refine ⟨y,hay,hP.same rfl (hW y (fun e=>?_))⟩;obtain rfl:=σ.inj _ _ _ hay (e▸hc);obtain ⟨_,_,_,_,_,k1,-⟩:=hP;rw [hV] at k1;cases k1
 .have hxy:σ x y:=hxy;by_cases e:x=c
  .subst e;obtain rfl:=σ.fn _ _ _ hxy hc;exact ⟨_,_,hV,hW',.chan _ _ _ _ _ _ _ _ _ (.inr hb) (.inr rfl)⟩
  .obtain ⟨o,o',h1,h2,h3⟩:=S.obj x y hxy;obtain ⟨o2,k1,k2⟩:=hpl x y hxy e;rw [h1] at k1;cases k1;exact ⟨o,o',h1,(hW y (fun k=>e (σ.inj _ _ _ hxy (k▸hc)))).trans h2,RO.any (σ:=σ) (σ':=σ.firm P hb0 c) (fun _ _ h=>h) (fun _ h=>h) rfl rfl k2 h3⟩
 .have h:a=c:=h;subst h;exact ⟨_,hV,rfl⟩
end
section
open Go
open Go.Conc Go.ConcX Go.ConcX.Gen Go.RowKit
structure yR (Pre:Lst->List Wq->Wz->Prop):Prop where
 low:∀ (ρ:Ren) (V W V':Wz) (l:Lst) (L:List Wq),bm ρ V W->(∃r,RAo ρ l.root r)->(∀g,g<Tryz.prog.globals.size->∃y,ρ g y)->(∀a y i v,ρ a y->V.cell? ⟨a,i,none⟩=some v->Good v->V'.cell? ⟨a,i,none⟩=some v)->V.heap.size<=V'.heap.size->Pre l L V->Pre l L V'
 on:∀ (V V':Wz) (l:Lst) (L:List Wq),(∀a,a.block<V.heap.size->V'.cell? a=V.cell? a)->V.heap.size<=V'.heap.size->Pre l L V->Pre l L V'
 item:∀l L V,Pre l L V->∀v∈L,∃ (a b:Int) (s:ByteArray),v=.agg #[.int .i64 a,.string s,.int .i64 b]
 len:∀l L V,Pre l L V->L.length<=1000
 send:∀ (l:Lst) (L:List Wq) (w:Wz) (c:Nat),Pre l L w->w.heap[c]?=some (.chan 1000 #[] false 0 0 false) ->
  Calls Yq.prog 120 #[qV l.vs l.p l.d l.af,sV l.root,.chan (some c)] w fun e w'=>e=.returned (.tuple #[])/\((∀b,b<w.heap.size->b≠c->w'.heap[b]?=w.heap[b]?)/\w.heap.size<=w'.heap.size/\w'.os=w.os)/\w'.heap[c]?=some (.chan 1000 L.toArray false L.length 0 false)
section
variable (V:Wz) (l:Lst)
def bE (room:Nat):Wz:=itW (pgW V l) l.root l.vs l.p l.d l.af room
theorem uW:(pgW V l).heap.size=V.heap.size+3:=by simp only [pgW,World.alloc,Array.size_push]
theorem eE (room:Nat):(bE V l room).heap.size=V.heap.size+7:=by simp only [bE,itW,pgW,World.alloc,Array.size_push]
theorem dS (room:Nat){a:Nat}(h:a<V.heap.size):(bE V l room).heap[a]?=V.heap[a]?:=by
 simp only [bE,itW,pgW,World.alloc,gP,Array.size_push]
 repeat rw [if_neg (by omega)]
theorem bH (room:Nat)(i:Nat)(h:i<7):(bE V l room).heap[V.heap.size+i]?=(#[.cells (aC l) 125,.cells #[.slice none 0 0,.string ⟨#[]⟩] 88,.cells #[.slice none 0 0,.string ⟨#[]⟩] 88,.cells #[.bool l.vs,.string l.p,.string l.d,.string l.af] 93,.cells #[.pointer l.root] 56,.chan room #[] false 0 0 false,.cells #[.chan (some (V.heap.size+5))] 193]:Array Obj)[i]?:=by
 simp only [bE,itW,pgW,World.alloc,gP,Array.size_push];rcases i with - | - | - | - | - | - | - |i;all_goals first|omega|skip
 all_goals
  repeat (first|rw [if_pos (by omega)] |rw [if_neg (by omega)])
  rfl
theorem iZ (room:Nat):Boxes (bE V l room) (V.heap.size+3+3) (V.heap.size+3) (V.heap.size+3+1) (V.heap.size+3+2) l.root l.vs l.p l.d l.af:=by
 have h3:=bH V l room 3 (by omega);have h4:=bH V l room 4 (by omega);have h6:=bH V l room 6 (by omega);have c:∀ (b i:Nat) (x:Array Wq) (t:TypeId),(bE V l room).heap[b]?=some (.cells x t)->(bE V l room).cell? ⟨b,i,none⟩=x[i]?:=fun b i x t h=>by unfold World.cell?;simp [h]
 refine ⟨?_,?_,?_,?_,?_,?_⟩
 .rw [c (V.heap.size+6) 0 _ _ h6];rfl
 .rw [c (V.heap.size+3) 0 _ _ h3];rfl
 .rw [c (V.heap.size+3) 1 _ _ h3];rfl
 .rw [c (V.heap.size+3) 2 _ _ h3];rfl
 .rw [c (V.heap.size+3) 3 _ _ h3];rfl
 .rw [c (V.heap.size+4) 0 _ _ h4];rfl
theorem oo (room:Nat):∀a:Ww,a.block<V.heap.size->(bE V l room).cell? a=V.cell? a:=fun _a h=>cB (dS V l room h)
end
theorem qY {Pre:Lst->List Wq->Wz->Prop}(hPre:yR Pre)(l:Lst)(pn:Int)(L:List Wq)(V:Wz)(cs:List Wv)(hp:Pre l L V)(ht:Region.schedule (Yq.prog.follows .mixedOrders) Yq.drawOps (V.tape V.drawn (.order 69 100))=[1,0]):
  ∃V4:Wz,Steps Yq.prog (lone (Frame.enter Yq.prog 69 #[lV l,.int .i64 pn] .normal) cs V) (lone (pF2 V.heap.size l pn (V.heap.size+5)) cs V4) /\
   (∀b,b<V.heap.size+7->b≠V.heap.size+5->V4.heap[b]?=(bE V l 1000).heap[b]?)/\V4.heap[V.heap.size+5]?=some (.chan 1000 L.toArray true L.length 0 false)/\V4.os=V.os:=by
 obtain ⟨Va,hVa⟩:∃Va:Wz,Va={V with drawn:=V.drawn+1}:=⟨_,rfl⟩;have e1:Va.heap=V.heap:=by rw [hVa]
 have e2:Va.os=V.os:=by rw [hVa]
 have s1:=Bp (lV l) (.int .i64 pn) cs V ht;rw [<-hVa,<-qT] at s1;have s2:=Bo l pn cs Va;have hcall:step Yq.prog (lone ((base 69).at ⟨jz Va.heap.size l pn,[]⟩ (.inRegion qS [4]::kT)) cs (pgW Va l))=.next (lone (Frame.enter Yq.prog 97 #[qV l.vs l.p l.d l.af,sV l.root] .normal) (pF Va.heap.size l pn::cs) (pgW Va l)):=by
  refine pm (o := { dst := some 17, op := .call { callee := .value (.func 97), args := #[.tmp 14, .tmp 16], argTypes := #[93, 56] }, type := 165, pos := "listing.go:108", after := #[{ on := 1, ground := .data }, { on := 3, ground := .data }], guard := none }) rfl rfl ?_
  have := run_call_body (P := Yq.prog) (a := ⟨jz Va.heap.size l pn, []⟩) (w := pgW Va l) (o := { dst := some 17, op := .call { callee := .value (.func 97), args := #[.tmp 14, .tmp 16], argTypes := #[93, 56] }, type := 165, pos := "listing.go:108", after := #[{ on := 1, ground := .data }, { on := 3, ground := .data }], guard := none }) rfl Yq.func97 rfl rfl
  have e:(#[.tmp 14,.tmp 16]:Array Operand).map (Act.eval ⟨jz Va.heap.size l pn,[]⟩)=#[qV l.vs l.p l.d l.af,sV l.root]:=by
   simp only [List.map_toArray,List.map_cons,List.map_nil];rfl
  rw [e] at this;exact this
 have s3:=yP l.root l.vs l.p l.d l.af (pF Va.heap.size l pn::cs) (pgW Va l);have hsz:(pgW Va l).heap.size=V.heap.size+3:=by rw [uW,e1]
 rw [hsz] at s3;have hcw:bE Va l 1000=itW (pgW Va l) l.root l.vs l.p l.d l.af 1000:=rfl;rw [<-hcw] at s3;have hb:Boxes (bE Va l 1000) (V.heap.size+3+3) (V.heap.size+3) (V.heap.size+3+1) (V.heap.size+3+2) l.root l.vs l.p l.d l.af:=by
  have:=iZ Va l 1000;rw [e1] at this;exact this
 have hpa:Pre l L (bE Va l 1000):=hPre.on V _ l L (fun a ha=>by
  rw [oo Va l 1000 a (by rw [e1];exact ha)];unfold World.cell?;rw [e1]) (by rw [eE,e1];omega) hp
 have hrow:(bE Va l 1000).heap[V.heap.size+3+2]?=some (.chan 1000 #[] false 0 0 false):=by
  have:=bH Va l 1000 5 (by omega);rw [e1] at this;exact this
 obtain ⟨w',⟨hold,hsize,hos⟩,hr',s4⟩:=qX (root0:=l.root) hb (hPre.send l L _ _ hpa hrow) (pF Va.heap.size l pn::cs);have heq:∀b:Nat,(bE Va l 1000).heap[b]?=(bE V l 1000).heap[b]?:=fun b=>by
  have:(bE Va l 1000).heap=(bE V l 1000).heap:=by simp only [bE,itW,pgW,World.alloc,e1]
  rw [this]
 have hot:∀b,b≠V.heap.size+5->(dK w' (V.heap.size+3+2) 1000 L.toArray L.length 0 false).heap[b]?=w'.heap[b]?:=fun b hb=>by
  unfold dK World.setChan;exact sN (by omega)
 have hout:(dK w' (V.heap.size+3+2) 1000 L.toArray L.length 0 false).cell? ⟨V.heap.size+3+3,0,none⟩=some (.chan (some (V.heap.size+3+2))):=by
  rw [cB (w:=bE Va l 1000) (a:=⟨V.heap.size+3+3,0,none⟩)]
  .exact hb.out
  .show (dK w' (V.heap.size+3+2) 1000 L.toArray L.length 0 false).heap[V.heap.size+3+3]?=(bE Va l 1000).heap[V.heap.size+3+3]?;rw [hot _ (by omega)];exact hold _ (by rw [eE,e1];omega) (by omega)
 have s5:=yQ Va.heap.size (V.heap.size+3) l pn cs (dK w' (V.heap.size+3+2) 1000 L.toArray L.length 0 false) l.root hout;refine ⟨dK w' (V.heap.size+3+2) 1000 L.toArray L.length 0 false,?_,fun b h1 h2=>?_,?_,?_⟩
 .rw [<-e1];refine Steps.trans s1 (Steps.trans s2 (.head hcall (Steps.trans s3 (Steps.trans s4 ?_))));rw [e1] at s5 ⊢;exact s5
 .rw [hot b h2,<-heq];exact hold b (by rw [eE,e1];exact h1) (by omega)
 .exact heap_setChan _ _ _ _ _ _ _ _ (eS hr').1
 .exact (show w'.os=_ from hos.trans (by simp only [bE,itW,pgW,World.alloc];exact e2))
inductive RVl (ρ:Ren):List Wq->List Wq->Prop
 |nil:RVl ρ [] []
 |cons {v v':Wq} {l l':List Wq} (h:RV ρ v v') (hl:RVl ρ l l'):RVl ρ (v::l) (v'::l')
theorem RVl.len {ρ:Ren}{l l':List Wq}(h:RVl ρ l l'):l.length=l'.length:=by
 induction h with
 |nil=>rfl
 |cons _ _ ih=>simp [ih]
theorem RVl.at_ {ρ:Ren}{l l':List Wq}(h:RVl ρ l l'):∀ (i:Nat) v v',l[i]?=some v->l'[i]?=some v'->RV ρ v v':=by
 induction h with
 |nil=>intro i v v' h;simp at h
 |cons h _ ih=>
  intro i v v' h1 h2;cases i with
  |zero=>simp at h1 h2;subst h1;subst h2;exact h
  |succ i=>exact ih i v v' (by simpa using h1) (by simpa using h2)
theorem RVl.arr {ρ:Ren}{l l':List Wq}(h:RVl ρ l l'):RVs ρ l.toArray l'.toArray:=⟨by simp [h.len],fun i v v' h1 h2=>h.at_ i v v' (by simpa using h1) (by simpa using h2)⟩
theorem RVl.agg {ρ:Ren}{l l':List Wq}(h:RVl ρ l l'):RV ρ (.agg l.toArray) (.agg l'.toArray):=.agg h.arr.size h.arr.at_
section
variable {σ:Ren} {l:Lst} {r':Option Ww}
theorem j6 (h:RAo σ l.root r'):RVs σ (aC l) (aC {l with root:=r'}):=
 RVl.arr (.cons (.int _ _) (.cons (.pointer h) (.cons (.bool _) (.cons (.string _) (.cons (.string _) (.cons (.string _) (.cons (.int _ _) (.cons (.int _ _) .nil))))))))
theorem E7 (h:RAo σ l.root r'):RV σ (lV l) (lV {l with root:=r'}):=.agg (j6 h).size (j6 h).at_
theorem E8 (vs:Bool)(p d af:ByteArray):RV σ (qV vs p d af) (qV vs p d af):=RVl.agg (.cons (.bool _) (.cons (.string _) (.cons (.string _) (.cons (.string _) .nil))))
theorem E9 {r:Option Ww}(h:RAo σ r r'):RV σ (sV r) (sV r'):=RVl.agg (.cons (.pointer h) .nil)
end
theorem Fb {ρ:Ren}{l:Lst}{v:Wq}(h:RV ρ (lV l) v):∃r',RAo ρ l.root r'/\v=lV {l with root:=r'}:=by
 unfold lV at h;cases h with
 | @agg _ c' hc hx=>
  have hsz:c'.size=8:=by rw [<-hc];rfl
  obtain ⟨cl⟩:=c';have hlen:cl.length=8:=by simpa using hsz
  rcases cl with - |⟨x0,- |⟨x1,- |⟨x2,- |⟨x3,- |⟨x4,- |⟨x5,- |⟨x6,- |⟨x7,- |⟨x8,cl⟩⟩⟩⟩⟩⟩⟩⟩⟩<;>simp at hlen
  have h0:=hx 0 _ x0 rfl rfl;have h1:=hx 1 _ x1 rfl rfl;have h2:=hx 2 _ x2 rfl rfl;have h3:=hx 3 _ x3 rfl rfl;have h4:=hx 4 _ x4 rfl rfl;have h5:=hx 5 _ x5 rfl rfl;have h6:=hx 6 _ x6 rfl rfl;have h7:=hx 7 _ x7 rfl rfl;cases h0;cases h2;cases h3;cases h4;cases h5;cases h6;cases h7;cases h1 with
  |pointer h=>exact ⟨_,h,rfl⟩
theorem Bt {ρ:Ren}{l:Lst}{pn:Int}{a':Array Wq}(h:RVs ρ #[lV l,.int .i64 pn] a'):∃r',RAo ρ l.root r'/\a'=#[lV {l with root:=r'},.int .i64 pn]:=by
 obtain ⟨al⟩:=a';have hsz:=h.size;rcases al with - |⟨x0,- |⟨x1,- |⟨x2,al⟩⟩⟩<;>simp at hsz
 have h0:=h.at_ 0 _ x0 rfl rfl;have h1:=h.at_ 1 _ x1 rfl rfl;cases h1;obtain ⟨r',k1,rfl⟩:=Fb h0;exact ⟨r',k1,rfl⟩
section
variable {ρ:Ren} {V W V':Wz} {l:Lst} {r':Option Ww} {I:Nat->Prop} {ch:Nat->Prop}
theorem pq (S:bm ρ V W)(hS:ρ.F fH=false)(hr:RAo ρ l.root r')(hI:∀i,I i->i<7)(hI5:I 5)(hV:∀a b,ρ a b->V'.heap[a]?=V.heap[a]?)(hV7:∀i,i<7->i≠5->V'.heap[V.heap.size+i]?=(bE V l 1000).heap[V.heap.size+i]?)(hV5:∃k b cl s q,V'.heap[V.heap.size+5]?=some (.chan k b cl s q false))(hos:V'.os=V.os)(hch:∀c,ch c->∃o,V'.heap[c]?=some o/\o.isChan=true)(dd:Nat):
  bm (ρ.plus V.heap.size W.heap.size I (fun _ _ h=>S.lt h) ch hS) V' ((bE W {l with root:=r'} 20).at dd):=by
 refine Br S hV (fun b hb=>dS W _ 20 hb) (by rw [hos];exact S.os) (fun i hi=>?_) hch;have h7:=hI i hi;have eW:((bE W {l with root:=r'} 20).at dd).heap[W.heap.size+i]?=_:=bH W {l with root:=r'} 20 i h7;by_cases h5:i=5
 .subst h5;obtain ⟨k,b,cl,s,q,hk⟩:=hV5;exact ⟨_,_,hk,eW,.chan _ _ _ _ _ _ _ _ _ (.inl rfl) (.inl rfl)⟩
 .have eV:=(hV7 i h7 h5).trans (bH V l 1000 i h7);have hr2:RAo (ρ.plus V.heap.size W.heap.size I (fun _ _ h=>S.lt h) ch hS) l.root r':=RAo.re pp hr;rcases i with - | - | - | - | - | - | - |i
  .exact ⟨_,_,eV,eW,.cells 125 (.inl rfl) (j6 hr2)⟩
  .exact ⟨_,_,eV,eW,.cells 88 (.inl rfl) (RVl.arr (.cons (.slice _ _ .none) (.cons (.string _) .nil)))⟩
  .exact ⟨_,_,eV,eW,.cells 88 (.inl rfl) (RVl.arr (.cons (.slice _ _ .none) (.cons (.string _) .nil)))⟩
  .exact ⟨_,_,eV,eW,.cells 93 (.inl rfl) (RVl.arr (.cons (.bool _) (.cons (.string _) (.cons (.string _) (.cons (.string _) .nil)))))⟩
  .exact ⟨_,_,eV,eW,.cells 56 (.inl rfl) (RVl.arr (.cons (.pointer hr2) .nil))⟩
  .exact absurd rfl h5
  .exact ⟨_,_,eV,eW,.cells 193 (.inl rfl) (RVl.arr (.cons (.chan (.some (mg hI5))) .nil))⟩
  .omega
end
section
variable {P:Wx} {σ:Ren} {l:Lst} {r':Option Ww} {n m c c':Nat} {pn:Int}
theorem tI (h0:σ n m)(h1:σ (n+1) (m+1))(h2:σ (n+2) (m+2))(hc:σ c c')(hr:RAo σ l.root r')(ho:az P σ.F (ce (ge bB))=true/\az P σ.F (ce bB)=true):RFr P σ (pF2 n l pn c) (pF2 m {l with root:=r'} pn c'):=by
 refine ⟨rfl,?_,.cons (.regionEnd _ _) (.cons (.code ho.1) (.cons (.code ho.2) .nil)),.nil,.run,⟨rfl,rfl,by simp [pF2,Frame.at,base]⟩,.none⟩;have p:∀ {a b:Nat} (j:Nat),σ a b->RV σ (.pointer (some ⟨a,j,none⟩)) (.pointer (some ⟨b,j,none⟩)):=fun j h=>.pointer (.some ⟨h,rfl,rfl⟩)
 have u:RV σ Wy Wy:=cD;exact RVl.arr (.cons (E7 hr) (.cons (.int _ _) (.cons (p 0 h0) (.cons u (.cons (p 0 h1) (.cons (p 0 h2) (.cons (.int _ _) (.cons (.int _ _) (.cons u (.cons (.int _ _) (.cons (p 6 h0) (.cons (.int _ _) (.cons (.int _ _) (.cons (p 2 h0) (.cons (E8 _ _ _ _) (.cons (p 1 h0) (.cons (E9 hr) (.cons (.chan (.some hc)) (.cons u (.cons u (.cons u (.cons u (.cons u (.cons u (.cons u (.cons u (.cons u (.cons u (.cons u (.cons u (.cons u (.cons u (.cons u (.cons u (.cons u (.cons u (.cons u (.cons u (.cons u (.cons u (.cons u (.cons u (.cons u (.cons u (.cons u (.cons u (.cons u (.cons u (.cons u .nil)))))))))))))))))))))))))))))))))))))))))))))))))
theorem yS {Q:Wx}(k:CallKind)(hk:(k == .early)=false/\k≠.report){x0 x1 x2 y0 y1 y2:Nat}(h0:σ x0 y0)(h1:σ x1 y1)(h2:σ x2 y2){fn:Func}{b:Code}(hf:P.funcs[119]?=some fn)(hf':Q.funcs[119]?=some fn)(hb:fn.body=some b)(ho:az P σ.F b=true):RFr P σ (Frame.enter Q 119 #[ptr x0,ptr x1,ptr x2] .normal) (Frame.enter P 119 #[ptr y0,ptr y1,ptr y2] k):=by
 have p:∀ {a b:Nat},σ a b->RV σ (ptr a) (ptr b):=fun h=>.pointer (.some ⟨h,rfl,rfl⟩)
 have e1:(Frame.enter Q 119 #[ptr x0,ptr x1,ptr x2] .normal).todo=[.code b]:=by simp [Frame.enter,hf',hb]
 have e2:(Frame.enter P 119 #[ptr y0,ptr y1,ptr y2] k).todo=[.code b]:=by simp [Frame.enter,hf,hb]
 refine ⟨rfl,?_,by rw [e1,e2];exact .cons (.code ho) .nil,.nil,.run,⟨rfl,hk.1,hk.2⟩,.none⟩;have ht1:(Frame.enter Q 119 #[ptr x0,ptr x1,ptr x2] .normal).tmps=#[ptr x0,ptr x1,ptr x2]++Array.replicate (fn.ntmps-3) Wy:=by simp [Frame.enter,hf']
 have ht2:(Frame.enter P 119 #[ptr y0,ptr y1,ptr y2] k).tmps=#[ptr y0,ptr y1,ptr y2]++Array.replicate (fn.ntmps-3) Wy:=by simp [Frame.enter,hf]
 rw [ht1,ht2];have a:RVs σ #[ptr x0,ptr x1,ptr x2] #[ptr y0,ptr y1,ptr y2]:=RVl.arr (.cons (p h0) (.cons (p h1) (.cons (p h2) .nil)));refine ⟨by simp,fun i v v' e1 e2=>?_⟩;rw [Array.getElem?_append] at e1 e2;by_cases hi:i<3
 .rw [if_pos (by simpa using hi)] at e1 e2;exact a.at_ i v v' e1 e2
 .rw [if_neg (by simpa using hi)] at e1 e2;simp only [Array.getElem?_replicate] at e1 e2;split at e1
  .cases e1;split at e2
   .cases e2;exact cD
   .cases e2
  .cases e1
end
theorem yT {a:Act}{c:Nat}{cs:List Wv}{w:Wz}{r:List Nat}(h:a.eval (.tmp 17)=.chan (some c)):∃z es,stepG Yq.prog true (G (jA a (0::r)) cs) w=.comm (G (jA a (0::r)) cs) #[rcase c z] true (.recv true) w es:=by
 refine ⟨.agg #[.int .i64 0, .string ⟨#[]⟩, .int .i64 0], _, stepG_comm (o := { dst := some 18, op := .recv 165 (.tmp 17) true, type := 0, pos := "listing.go:108", after := #[], guard := none }) rfl rfl (by decide) ?_⟩
 have e : execOp a.eval { dst := some 18, op := .recv 165 (.tmp 17) true, type := 0, pos := "listing.go:108", after := #[], guard := none } = (do
  let .chan _ elem ← underlying 165 | stuck "receive: channel type expected"
  pure (.comm #[{chan:=a.eval (.tmp 17),send:=none,zero:=<-zeroValue elem}] true (.recv true))):=rfl
 rw [e,h];simp [go_sem,rcase]
theorem qZ {v:Wq}(h:∃ (a b:Int)(s:ByteArray),v=.agg #[.int .i64 a,.string s,.int .i64 b]):Flat v:=by
 obtain ⟨a,b,s,rfl⟩:=h;intro ρ;refine ⟨RVl.agg (.cons (.int _ _) (.cons (.string _) (.cons (.int _ _) .nil))),fun v' h=>?_⟩;cases h with
 | @agg _ c' hc hx=>
  obtain ⟨cl⟩:=c';have hlen:cl.length=3:=by simpa using hc.symm
  rcases cl with - |⟨x0,- |⟨x1,- |⟨x2,- |⟨x3,cl⟩⟩⟩⟩<;>simp at hlen
  have h0:=hx 0 _ x0 rfl rfl;have h1:=hx 1 _ x1 rfl rfl;have h2:=hx 2 _ x2 rfl rfl;cases h0;cases h1;cases h2;rfl
section
variable [Two Tryz.prog] [Two Yq.prog]
structure pu (G Fs Fr:FuncId->Bool):Prop where
 alt:Tryz.prog.alt=Yq.prog
 zero:bu Tryz.prog
 zero1:bu Yq.prog
 count:bG Tryz.prog
 count1:bG Yq.prog
 statS:fM Tryz.prog Fs
 statR:fM Tryz.prog Fr
 statS1:fM Yq.prog Fs
 statR1:fM Yq.prog Fr
 mark:∀f,Mk G f=true->f=69
 s:Fs kM=false/\Fs EQ=false/\Fs kN=false
 smk:∀f,¬Mk Fs f=true
 s119:Fs 119=true
 r:Fr kM=false/\Fr fH=false/\Fr kN=false
 rmk:∀f,¬Mk Fr f=true
 okG:az Tryz.prog G (ce (ge bB))=true/\az Tryz.prog G (ce bB)=true
 okR:az Tryz.prog Fr (ce (ge bB))=true/\az Tryz.prog Fr (ce bB)=true
 okR1:az Yq.prog Fr (ce (ge bB))=true/\az Yq.prog Fr (ce bB)=true
 notR:az Tryz.prog Fr (bi Tryz.f69)=false
theorem yU {G Fs Fr:FuncId->Bool}(E:pu G Fs Fr){P:Wx}{n:TypeId}(h:NoM P n)(hp:P=Tryz.prog):NoM Yq.prog n:=by
 subst hp;rw [<-E.alt];exact h
def CW (c:Nat)(h:Wj)(V:Wz):Prop:=
 ∃a,h=G (jA a [0,1]) [trap Yq.prog]/\a.eval (.tmp 17)=.chan (some c)/\∃k s q,V.heap[c]?=some (.chan k #[] true s q false)
def CX (c:Nat)(L:List Wq)(h:Wj)(V:Wz):Prop:=
 (h.callers=[trap Yq.prog]/\h.frame.fn=119/\h.frame.mode=.returning/\∃at_ t k,h.frame.defers=[{target:=.builtin .close at_ t k,args:=#[.chan (some c)]}])/\(h.dying=none/\h.status=.running)/\∃k s q,V.heap[c]?=some (.chan k L.toArray false s q false)
noncomputable def phD (T:Wj->Wz->Prop)(G Fs Fr:FuncId->Bool)(L:List Wq)(n m k:Nat)(X:List Wv×List Wv)(R0:Nat->Nat->Prop)(h0:Wj)(V0:Wz)(U:Outer):PhD Tryz.prog where
 T:=T
 Nr:=jt Yq.prog ([trap Yq.prog],[]) (fun a=>a=n+5) Fr
 Tr:=CW (n+5)
 Ns:=jt Yq.prog ([trap Yq.prog],[]) (fun a=>a=n+5) Fs
 Ts:=CX (n+5) L
 h0:=h0
 V0:=V0
 k:=k
 c:=m+5
 cV:=n+5
 cr:=n+5
 cs:=n+5
 X:=X
 Bs:=[dv Tryz.prog]
 L:=L
 R0:=R0
 Fp:=G
 Fr:=Fr
 bo:=m+6
 U:=U
theorem Gd {G Fs Fr:FuncId->Bool}(E:pu G Fs Fr){T:Wj->Wz->Prop}{Post:Wq->Wz->Prop}{L:List Wq}{n m k:Nat}{fr fr':Wv}{cs cs':List Wv}{ρ:Ren}{h0:Wj}{V0:Wz}{U:Outer}(hk:k≠0)(hL:∀v∈L,Flat v)(hT:∀h V,T h V->h.callers.length<=1)
  (hI:GId Tryz.prog ρ) (hE:fy Tryz.prog ρ.F) (hFG:ρ.F=G) (hS:ρ.F fH=false) (hM:ρ.F kN=false) (hO0:ρ.bad=U.bad) (hX:RFs Tryz.prog ρ ([trap Tryz.prog.alt],[]) (fr::cs) (fr'::cs')) (hlen:1<=cs.length)
  (hsolo:∀h V,LSs Tryz.prog.alt T h0 V0 h V->oe Tryz.prog U G [] Post h V):uK Tryz.prog (phD T G Fs Fr L n m k (fr::cs,fr'::cs') ρ.rel h0 V0 U) Post where
 zero:=E.zero
 count:=E.count
 mark:=fun f hf fn b h1 h2=>by
  obtain rfl:=E.mark f hf;rw [Tryz.func69] at h1;cases h1;have:bi Tryz.f69=b:=by unfold bi;rw [h2];rfl
  rw [<-this];exact E.notR
 k0:=hk
 flat:=hL
 deep:=by show 2<=(fr::cs).length;simp;omega
 leafT:=hT
 nr:=fun h V hN=>by rw [E.alt];exact hN.2
 tr:=fun h V hN=>by
  obtain ⟨a,rfl,h17,kk,s,q,hrow⟩:=hN;refine ⟨fun _=>.inl rfl,fun n1 b s q tm hr=>?_,fun τ d=>?_⟩
  .have hr:V.heap[n+5]?=_:=hr;rw [hrow] at hr;cases hr;rfl
  .obtain ⟨z,es,e⟩:=yT (cs:=[trap Yq.prog]) (w:=V.on τ d) (r:=[1]) h17;rw [E.alt];exact ⟨_,_,_,_,_,_,_,e,.shut (r:=n+5) rfl rfl hrow⟩
 ns:=fun h V hN=>by rw [E.alt];exact hN.2
 bs:=by simp [phD]
 grow:=fun h V τ d h' V' hN hl n b cl s q tm hr=>by
  rw [E.alt] at hl;exact jt.grow (w:=V.on τ d) E.zero1 E.count1 E.s.2.1 (A:=fun a=>a=_) rfl ⟨hN.1.on τ d,hN.2⟩ hl hr
 ts:=fun h V hN nn b cl s q tm hr=>by
  obtain ⟨-,-,k2,s2,q2,hrow⟩:=hN;have hr:V.heap[n+5]?=_:=hr;rw [hrow] at hr;cases hr;exact ⟨rfl,rfl⟩
 close:=fun h V ρs g W hN S nn b s q tm hrow=>by
  obtain ⟨⟨h1,h2,h3,h4⟩,-⟩:=hN;exact Bm Tryz.func119 rfl S ⟨by rw [E.alt];exact h1,h2,h3,h4⟩ hrow
 fin:=yM (ρ0:=ρ) (fun _ _ h=>h) hI hE hS hM (fun f hf=>by rw [hFG];exact hf) (by rw [hFG];rfl) hO0 hX (by show 2<=(fr::cs).length;simp;omega) (by show 0<(fr'::cs').length;simp) (by rw [hFG];exact hsolo)
end
theorem cU (V:Wz)(l:Lst)(room:Nat):(bE V l room).heap[V.heap.size+5]?=some (.chan room #[] false 0 0 false):=bH V l room 5 (by omega)
section
variable [Two Tryz.prog] [Two Yq.prog] {Gf Fs Fr:FuncId->Bool} {Pre:Lst->List Wq->Wz->Prop} {ρ:Ren} {V W:Wz} {l:Lst} {r':Option Ww} {L:List Wq}
def Bu (S:bm ρ V W)(hS:ρ.F fH=false):Ren:=ρ.plus V.heap.size W.heap.size (fun i=>3<=i/\i<7) (fun _ _ h=>S.lt h) (fun a=>a=V.heap.size+5) hS
def sJ (S:bm ρ V W)(hS:ρ.F fH=false):Ren:=ρ.plus V.heap.size W.heap.size (fun i=>i<7) (fun _ _ h=>S.lt h) (fun a=>a=V.heap.size+5) hS
noncomputable def FP (n:Nat):Wj:=G (Frame.enter Yq.prog 119 #[ptr (n+6),ptr (n+3),ptr (n+4)] .normal) [trap Yq.prog]
noncomputable def F6 (m:Nat):Wj:=G (Frame.enter Tryz.prog 119 #[ptr (m+6),ptr (m+3),ptr (m+4)] .deferred) [dv Tryz.prog]
theorem Bv (E:pu Gf Fs Fr)(hPre:yR Pre)(S:bm ρ V W)(hS:ρ.F fH=false)(hr:RAo ρ l.root r')(hp:Pre l L V)(hI:GId Tryz.prog ρ)(dd:Nat):
  ∃Vs ht,Snd Tryz.prog ([trap Tryz.prog.alt],[dv Tryz.prog]) ((Bu S hS).low Fs (fun _=>False) (V.heap.size+5) false ht) (FP V.heap.size) (F6 W.heap.size) Vs ((bE W {l with root:=r'} 20).at dd) (V.heap.size+5) (W.heap.size+5) [] /\
   Dem Yq.prog (jt Yq.prog ([trap Yq.prog],[]) (fun a=>a=V.heap.size+5) Fs) (CX (V.heap.size+5) L) (FP V.heap.size) Vs:=by
 have hold:∀a b,ρ a b->(bE V l 1000).heap[a]?=V.heap[a]?:=fun a b h=>dS V l 1000 (S.lt h).1
 have S3:bm (Bu S hS) (bE V l 1000) ((bE W {l with root:=r'} 20).at dd):=pq S hS hr (fun i h=>h.2) ⟨by omega,by omega⟩ hold (fun _ _ _=>rfl) ⟨_,_,_,_,_,cU V l 1000⟩ rfl (fun c h=>by
  have h:c=_:=h;subst h;exact ⟨_,cU V l 1000,rfl⟩) dd
 have ht:Fs fH=true->false=false:=fun _=>rfl
 have pr:∀i,3<=i->i<7->(Bu S hS) (V.heap.size+i) (W.heap.size+i):=fun i h1 h2=>mg ⟨h1,h2⟩
 obtain ⟨Vs,SS,hsz,htp,hdr,hos,hrow,honly,hcell,-,hplain⟩:=lower (F:=Fs) (live:=fun _=>False) (c:=V.heap.size+5) (c':=W.heap.size+5) (wide:=false) (n:=1000) (b:=#[]) (cl:=false) (s:=0) (q:=0) S3 ht E.s.1 (pr 5 (by omega) (by omega)) (cU W {l with root:=r'} 20) (.inr rfl) (fun a h=>h.elim);refine ⟨Vs,ht,?_,?_⟩
 .have okb:az Tryz.prog Fs (bi Tryz.f119)=true:=E.statS.code 119 _ _ E.s119 Tryz.func119 rfl;refine ⟨⟨yS (P:=Tryz.prog) (σ:=(Bu S hS).low Fs (fun _=>False) (V.heap.size+5) false ht) (Q:=Yq.prog) .deferred ⟨rfl,by simp⟩ (pr 6 (by omega) (by omega)) (pr 3 (by omega) (by omega)) (pr 4 (by omega) (by omega)) Tryz.func119 (Yq.nq Tryz.func119) rfl okb,by rw [E.alt];exact .base,⟨fun h=>?_,fun _=>rfl⟩,⟨rfl,rfl⟩,⟨rfl,rfl⟩,rfl,rfl⟩,SS,E.statS.gid (fun g hg=>.inl (hI.glob g hg)) hI.prog (fun h=>by rw [show (((Bu S hS).low Fs (fun _=>False) (V.heap.size+5) false ht).F)=Fs from rfl,E.s.1] at h;cases h),E.statS.ext,⟨E.s.2.1,E.s.2.2⟩,E.smk,⟨rfl,rfl⟩,fun x=>Iff.rfl,pr 5 (by omega) (by omega),⟨_,_,_,_,_,hrow,rfl⟩,fun a n b s q tm h=>honly a _ h rfl⟩;rcases h with h|h
  .exact absurd rfl h
  .rw [E.alt] at h;simp at h
 .have hb:Boxes Vs (V.heap.size+6) (V.heap.size+3) (V.heap.size+4) (V.heap.size+5) l.root l.vs l.p l.d l.af:=by
   have hb:=iZ V l 1000;exact ⟨hcell _ _ _ _ (pr 6 (by omega) (by omega)) hb.out (.chan _),hcell _ _ _ _ (pr 3 (by omega) (by omega)) hb.q0 (.bool _),hcell _ _ _ _ (pr 3 (by omega) (by omega)) hb.q1 (.string _),hcell _ _ _ _ (pr 3 (by omega) (by omega)) hb.q2 (.string _),hcell _ _ _ _ (pr 3 (by omega) (by omega)) hb.q3 (.string _),hcell _ _ _ _ (pr 4 (by omega) (by omega)) hb.st (.pointer _)⟩
  have hp3:Pre l L (bE V l 1000):=hPre.on V _ l L (oo V l 1000) (by rw [eE];omega) hp;have hps:Pre l L Vs:=hPre.low _ _ _ _ l L S3 ⟨r',RAo.re pp hr⟩ (fun g hg=>⟨_,.inl (hI.glob g hg)⟩) hcell (by rw [hsz];exact lR _) hp3;have okb:az Yq.prog Fs (bi Tryz.f119)=true:=E.statS1.code 119 _ _ E.s119 (Yq.nq Tryz.func119) rfl;refine kV E.zero1 E.count1 (fun g w h=>⟨by rw [h.1.1];simp,h.2.1⟩) (fun g w τ d=>Iff.rfl) ⟨rfl,((Bu S hS).low Fs (fun _=>False) (V.heap.size+5) false ht).firm Yq.prog (yU E ρ.noM hI.prog) (V.heap.size+5),G (Frame.enter Yq.prog 119 #[ptr (W.heap.size+6),ptr (W.heap.size+3),ptr (W.heap.size+4)] .normal) [],(bE W {l with root:=r'} 20).at dd,⟨yS (P:=Yq.prog) (σ:=((Bu S hS).low Fs (fun _=>False) (V.heap.size+5) false ht).firm Yq.prog (yU E ρ.noM hI.prog) (V.heap.size+5)) (Q:=Yq.prog) .normal ⟨rfl,by simp⟩ (pr 6 (by omega) (by omega)) (pr 3 (by omega) (by omega)) (pr 4 (by omega) (by omega)) (Yq.nq Tryz.func119) (Yq.nq Tryz.func119) rfl okb,.base,⟨fun _=>rfl,fun _=>rfl⟩,⟨rfl,rfl⟩,⟨rfl,rfl⟩,rfl,rfl⟩,uV SS (pr 5 (by omega) (by omega)) hplain (fun _ _=>rfl) rfl hrow (cU W {l with root:=r'} 20) RVs.nil,E.statS1.gid (fun g hg=>.inl (hI.glob g (by rw [Yq.globals_size] at hg;exact hg))) rfl (fun _ _ h=>h),E.statS1.ext,rfl,rfl,⟨rfl,fun c h=>⟨W.heap.size+5,by rw [show c=V.heap.size+5 from h];exact pr 5 (by omega) (by omega)⟩,rfl⟩,fun _ h=>h,E.smk⟩ (fun τ d=>?_);have hsend:=hPre.send l L (Vs.on τ d) (V.heap.size+5) (hPre.on Vs _ l L (fun _ _=>rfl) (lR _) hps) hrow;obtain ⟨fr,w',df,hst,hf,hm,hd,⟨at_,t,k,rfl⟩,-,-,-,hrow'⟩:=qW (w:=Vs.on τ d) ⟨hb.out,hb.q0,hb.q1,hb.q2,hb.q3,hb.st⟩ hsend [trap Yq.prog];exact ⟨_,w',hst,⟨rfl,hf,hm,at_,t,k,hd⟩,⟨rfl,rfl⟩,_,_,_,hrow'⟩
end
def uX:Prop:=∀ (l:Lst)(pn:Int)(L:List Wq)(n c:Nat)(w:Wz)(cs:List Wv),(∀v∈L,∃ (a b:Int)(s:ByteArray),v=.agg #[.int .i64 a,.string s,.int .i64 b])->L.length<=1000->n+2<c ->
 w.heap[n]?=some (.cells (aC l) 125)->w.heap[n+1]?=some (.cells #[.slice none 0 0,.string ⟨#[]⟩] 88)->w.heap[n+2]?=some (.cells #[.slice none 0 0,.string ⟨#[]⟩] 88)->(∃k s q,w.heap[c]?=some (.chan k L.toArray true s q false)) ->
 ∃a w',Steps Yq.prog (lone (pF2 n l pn c) cs w) (lone (jA a [0,1]) cs w')/\a.eval (.tmp 17)=.chan (some c)/\∃k s q,w'.heap[c]?=some (.chan k #[] true s q false)
theorem tJ (l:Lst):∀ (i:Nat) v,(aC l)[i]?=some v->Good v:=fun i v h=>by
 rcases i with - | - | - | - | - | - | - | - |i<;>simp [aC] at h<;>subst h
 .exact .int _ _
 .exact .pointer _
 .exact .bool _
 .exact .string _
 .exact .string _
 .exact .string _
 .exact .int _ _
 .exact .int _ _
theorem q9:∀ (i:Nat) v,(#[.slice none 0 0,.string ⟨#[]⟩]:Array Wq)[i]?=some v->Good v:=fun i v h=>by
 rcases i with - | - |i<;>simp at h<;>subst h
 .exact .slice _ _ _
 .exact .string _
section
variable [Two Tryz.prog] [Two Yq.prog] {Gf Fs Fr:FuncId->Bool} {ρ:Ren} {V W:Wz} {l:Lst} {r':Option Ww} {L:List Wq}
def own3 (n a:Nat):Prop:=a=n\/a=n+1\/a=n+2
theorem Bw (E:pu Gf Fs Fr)(hR:uX)(S:bm ρ V W)(hS:ρ.F fH=false)(hr:RAo ρ l.root r')(pn:Int)(hL:∀v∈L,∃ (a b:Int)(s:ByteArray),v=.agg #[.int .i64 a,.string s,.int .i64 b])(hlen:L.length<=1000)(hI:GId Tryz.prog ρ)(Y:List Wv)(dd:Nat):
  ∃Vr ht,Side Tryz.prog ([trap Tryz.prog.alt],Y) ((sJ S hS).low Fr (own3 V.heap.size) (V.heap.size+5) true ht) (G (pF2 V.heap.size l pn (V.heap.size+5)) [trap Yq.prog]) (G (pF2 W.heap.size {l with root:=r'} pn (W.heap.size+5)) Y) Vr ((bE W {l with root:=r'} 20).at dd) (V.heap.size+5) (W.heap.size+5) L /\
   (∀ (a:Nat) o,Vr.heap[a]?=some o->o.isChan=true->a=V.heap.size+5) /\
   Dem Yq.prog (jt Yq.prog ([trap Yq.prog],[]) (fun a=>a=V.heap.size+5) Fr) (CW (V.heap.size+5)) (G (pF2 V.heap.size l pn (V.heap.size+5)) [trap Yq.prog]) Vr:=by
 have hold:∀a b,ρ a b->(bE V l 1000).heap[a]?=V.heap[a]?:=fun a b h=>dS V l 1000 (S.lt h).1
 have S3:bm (sJ S hS) (bE V l 1000) ((bE W {l with root:=r'} 20).at dd):=pq S hS hr (fun i h=>h) (by omega) hold (fun _ _ _=>rfl) ⟨_,_,_,_,_,cU V l 1000⟩ rfl (fun c h=>by
  have h:c=_:=h;subst h;exact ⟨_,cU V l 1000,rfl⟩) dd
 have ht:Fr fH=true->true=false:=fun h=>by rw [E.r.2.1] at h;cases h
 have pr:∀i,i<7->(sJ S hS) (V.heap.size+i) (W.heap.size+i):=fun i h=>mg h
 have r0:=bH V l 1000 0 (by omega);have r1:=bH V l 1000 1 (by omega);have r2:=bH V l 1000 2 (by omega);have hlive:∀a,own3 V.heap.size a->a≠V.heap.size+5/\∃x e z,(bE V l 1000).heap[a]?=some (.cells x e z)/\(∀ (i:Nat) v,x[i]?=some v->Good v)/\∀y,(sJ S hS) a y->∃x',((bE W {l with root:=r'} 20).at dd).heap[y]?=some (.cells x' e z):=fun a ha=>by
  rcases ha with rfl|rfl|rfl
  .refine ⟨by omega,_,_,_,r0,tJ l,fun y hy=>?_⟩;obtain rfl:=(sJ S hS).fn _ _ _ hy (pr 0 (by omega));exact ⟨_,bH W {l with root:=r'} 20 0 (by omega)⟩
  .refine ⟨by omega,_,_,_,r1,q9,fun y hy=>?_⟩;obtain rfl:=(sJ S hS).fn _ _ _ hy (pr 1 (by omega));exact ⟨_,bH W {l with root:=r'} 20 1 (by omega)⟩
  .refine ⟨by omega,_,_,_,r2,q9,fun y hy=>?_⟩;obtain rfl:=(sJ S hS).fn _ _ _ hy (pr 2 (by omega));exact ⟨_,bH W {l with root:=r'} 20 2 (by omega)⟩
 obtain ⟨Vr,SS,hsz,htp,hdr,hos,hrow,honly,hcell,hlv,hplain⟩:=lower (F:=Fr) (live:=own3 V.heap.size) (c:=V.heap.size+5) (c':=W.heap.size+5) (wide:=true) (n:=1000) (b:=L.toArray) (cl:=true) (s:=L.length) (q:=0) S3 ht E.r.1 (pr 5 (by omega)) (cU W {l with root:=r'} 20) (.inl rfl) hlive;have hr2:∀ {σ:Ren},(∀a b,(sJ S hS) a b->σ a b)->RAo σ l.root r':=fun hσ=>by
  generalize l.root=x at hr;cases hr with
  |none=>exact .none
  |some h=>exact .some ⟨hσ _ _ (.inl h.1),h.2⟩
 refine ⟨Vr,ht,?_,honly,?_⟩
 .refine ⟨⟨tI (P:=Tryz.prog) (σ:=(sJ S hS).low Fr (own3 V.heap.size) (V.heap.size+5) true ht) (pr 0 (by omega)) (pr 1 (by omega)) (pr 2 (by omega)) (pr 5 (by omega)) (hr2 fun _ _ h=>h) E.okR,by rw [E.alt];exact .base,⟨fun _=>rfl,fun _=>rfl⟩,⟨rfl,rfl⟩,⟨rfl,rfl⟩,rfl,rfl⟩,SS,E.statR.gid (fun g hg=>.inl (hI.glob g hg)) hI.prog (fun h=>by rw [show (((sJ S hS).low Fr (own3 V.heap.size) (V.heap.size+5) true ht).F)=Fr from rfl,E.r.1] at h;cases h),E.statR.ext,⟨E.r.2.1,E.r.2.2⟩,⟨rfl,rfl⟩,rfl,pr 5 (by omega),⟨_,_,_,_,_,hrow,rfl⟩⟩
 .have hLr:∀ {σ:Ren},RVs σ L.toArray L.toArray:=⟨rfl,fun i v v' h1 h2=>by
   rw [h1] at h2;cases h2;exact (qZ (hL v (by
    have:L[i]?=some v:=by simpa using h1
    exact List.mem_of_getElem? this)) _).1⟩
  refine kV E.zero1 E.count1 (fun g w h=>?_) (fun g w τ d=>Iff.rfl) ⟨rfl,((sJ S hS).low Fr (own3 V.heap.size) (V.heap.size+5) true ht).firm Yq.prog (yU E ρ.noM hI.prog) (V.heap.size+5),G (pF2 W.heap.size {l with root:=r'} pn (W.heap.size+5)) [],((bE W {l with root:=r'} 20).at dd).setChan (W.heap.size+5) 20 L.toArray true 0 0 false,⟨tI (P:=Yq.prog) (σ:=((sJ S hS).low Fr (own3 V.heap.size) (V.heap.size+5) true ht).firm Yq.prog (yU E ρ.noM hI.prog) (V.heap.size+5)) (pr 0 (by omega)) (pr 1 (by omega)) (pr 2 (by omega)) (pr 5 (by omega)) (hr2 fun _ _ h=>h) E.okR1,.base,⟨fun _=>rfl,fun _=>rfl⟩,⟨rfl,rfl⟩,⟨rfl,rfl⟩,rfl,rfl⟩,uV SS (pr 5 (by omega)) hplain (fun b hb=>aE _ _ _ _ _ _ _ _ hb) rfl hrow (heap_setChan _ _ _ _ _ _ _ _ (eS (cU W {l with root:=r'} 20)).1) hLr,E.statR1.gid (fun g hg=>.inl (hI.glob g (by rw [Yq.globals_size] at hg;exact hg))) rfl (fun _ _ h=>h),E.statR1.ext,rfl,rfl,⟨rfl,fun c h=>⟨W.heap.size+5,by rw [show c=V.heap.size+5 from h];exact pr 5 (by omega)⟩,rfl⟩,fun _ h=>h,E.rmk⟩ (fun τ d=>?_)
  .obtain ⟨a,rfl,-⟩:=h;exact ⟨by simp [G],rfl,rfl⟩
  .obtain ⟨a,w',hs,h17,hrow'⟩:=hR l pn L V.heap.size (V.heap.size+5) (Vr.on τ d) [trap Yq.prog] hL hlen (by omega) ((hlv _ (.inl rfl)).trans r0) ((hlv _ (.inr (.inl rfl))).trans r1) ((hlv _ (.inr (.inr rfl))).trans r2) ⟨_,_,_,hrow⟩;exact ⟨_,w',hs,a,rfl,h17,hrow'⟩
end
theorem DG (m:Nat)(l:Lst)(root:Option Ww)(cs:List Wv)(w:Wz):stepG Tryz.prog true (G ((base 97).at ⟨eN m root l.vs l.p l.d l.af (dI m),[]⟩ [.inRegion tF [1],.code iM]) cs) w=.spawn (G ((base 97).at ⟨eN m root l.vs l.p l.d l.af (dI m),[]⟩ [.inRegion tF [],.code iM]) cs) (born Tryz.prog {target:=.fn (.func 119) #[ptr (m+3),ptr m,ptr (m+1)],args:=#[]}) w #[]:=by
 have hr : (execOp (Act.eval ⟨eN m root l.vs l.p l.d l.af (dI m), []⟩) { dst := none, op := .go { callee := .value (.tmp 7), args := #[], argTypes := #[] }, type := 0, pos := "items.go:22", after := #[{ on := 0, ground := .data }], guard := none }).run Tryz.prog w = .ok (.spawn { target := .fn (.func 119) #[ptr (m + 3), ptr m, ptr (m + 1)], args := #[] }) w := by
  simp [go_sem,Act.eval,eN,dI]
 have := stepG_spawn (P := Tryz.prog) (main := true) (b := base 97) (a := ⟨eN m root l.vs l.p l.d l.af (dI m), []⟩) (k := [.code iM]) (cs := cs) (w := w) (ops := tF) (i := 1) (rest := []) (o := { dst := none, op := .go { callee := .value (.tmp 7), args := #[], argTypes := #[] }, type := 0, pos := "items.go:22", after := #[{ on := 0, ground := .data }], guard := none }) rfl rfl (by decide) hr rfl
 rw [this]
 have hl : listed Tryz.prog (base 97).fn ⟨eN m root l.vs l.p l.d l.af (dI m), []⟩ { dst := none, op := .go { callee := .value (.tmp 7), args := #[], argTypes := #[] }, type := 0, pos := "items.go:22", after := #[{ on := 0, ground := .data }], guard := none } w = #[] := listed_nil (by simp [go_sem, Act.eval, eN, dI])
 rw [hl];rfl
theorem yV {Q : Wx} {i : Nat} {fn : Func} (h : Q.funcs[i]? = some fn) (hn : (fn.name == "runtime.NumGoroutine") = false) (hb : fn.body.isNone = false) (args : Array Wq) (w : Wz) : (callFunc i args).runT Q w #[] = (.ok (.enter i args) w, #[]) := by
 show Sem.runT Q (match Q.funcs[i]? with|none=>_|some fn=>_) w #[]=_;rw [h];simp only [hn,hb];rfl
theorem yW (m:Nat)(w:Wz):stepG Tryz.prog false (born Tryz.prog {target:=.fn (.func 119) #[ptr (m+6),ptr (m+3),ptr (m+4)],args:=#[]}) w=.go (F6 m) w #[]:=by
 have hc:(callFunc 119 #[ptr (m+6),ptr (m+3),ptr (m+4)]).runT Tryz.prog w #[]=(.ok (.enter 119 #[ptr (m+6),ptr (m+3),ptr (m+4)]) w,#[]):=yV Tryz.func119 rfl rfl _ w;have hi:(invoke (.fn (.func 119) #[ptr (m+6),ptr (m+3),ptr (m+4)]) #[]).runT Tryz.prog w #[]=(.ok (.enter 119 #[ptr (m+6),ptr (m+3),ptr (m+4)]) w,#[]):=by
  unfold invoke;simpa using hc
 have h0:stepG Tryz.prog false (born Tryz.prog {target:=.fn (.func 119) #[ptr (m+6),ptr (m+3),ptr (m+4)],args:=#[]}) w=callDeferred Tryz.prog (dv Tryz.prog) [] none {target:=.fn (.func 119) #[ptr (m+6),ptr (m+3),ptr (m+4)],args:=#[]} w:=rfl;rw [h0];unfold callDeferred;simp only [hi];rfl
section
variable [Two Tryz.prog] [Two Yq.prog] {Gf Fs Fr:FuncId->Bool} {Pre:Lst->List Wq->Wz->Prop}
structure CY (Pre:Lst->List Wq->Wz->Prop)(R:(Nat->Question->Nat)->Nat->Ending->Wz->Prop):Prop where
 stop:∀τ d x y e u,R τ d (.panicked (stopEntry x y::e)) u->∃l pn L,x=lV l/\y=.int .i64 pn/\Pre l L u
end
section
variable [Two Tryz.prog] [Two Yq.prog] {Gf Fs Fr:FuncId->Bool} {Pre:Lst->List Wq->Wz->Prop}
theorem nP {f0:FuncId}{R:(Nat->Question->Nat)->Nat->Ending->Wz->Prop}(E:pu Gf Fs Fr)(hStop:CY Pre R)(hce:∀l L V u,Ce V u->Pre l L u->Pre l L V){x y:Wq}{fr fr':Wv}{cs cs':List Wv}{V W:Wz}{ρ:Ren}{U:Outer}
  (hRel:Rel Tryz.prog U Gf [] ρ {frame:=fr,callers:=cs,status:=.running,dying:=none} {frame:=fr',callers:=cs',status:=.running,dying:=none} V W)
  (hD:Dem Yq.prog (fun g _=>NB [trap Yq.prog] g) (Ends Yq.prog f0 R) {frame:=Frame.enter Yq.prog 69 #[x,y] .normal,callers:=fr::cs,status:=.running,dying:=none} V):
  ∃l pn L,x=lV l/\y=.int .i64 pn/\Pre l L V:=by
 have hSM:(ρ.F fH||ρ.F kN)=false:=by rw [hRel.calm,hRel.quiet.1];rfl
 have hlen:1<=cs.length:=by
  have:=hRel.go.callers.len1;simpa using this
 have hcal:=hRel.go.callers;rw [E.alt] at hcal;have hDm:=Dem.on (fun _ _ _ _ h=>h) (fun g w τ d=>Ends.on τ d) hD (fun _ _=>0) 0;obtain ⟨frm,hst,hm,hd,hf⟩:=qU x y (fr::cs) (V.on (fun _ _=>0) 0) E6;obtain ⟨k,hk⟩:=hst;obtain ⟨-,hDp⟩:=yO (fun g w h=>oj h) k _ _ hDm rfl {frame:=frm,callers:=fr::cs,status:=.running,dying:=none} _ hk rfl (by simp;omega);have hcat:frm.catches Yq.prog=false:=by unfold Frame.catches;rw [hf,Yq.func69]
 obtain ⟨τ,d,e,u,hR,hC⟩:=Dz (ρ:=ρ) (en:=stopEntry x y) (V:=V) hDp [] hm rfl hcat (by rw [hd];exact fun d h=>by cases h) (.cons (eB hRel.go.frame _).1 (hRel.go.frame.defers.marks hSM) (RFs.fl hSM hcal)) (fun r b hrb l0 h0=>by
  obtain ⟨o,o',h1,h2,h3⟩:=hRel.sim.obj r b hrb;have h0:V.heap[r]?=_:=h0;rw [h1] at h0;cases h0;cases h3 with
  |deferred h=>exact h.marks hSM) ⟨rfl,fun _=>rfl⟩
 obtain ⟨l,pn,L,h1,h2,h3⟩:=hStop.stop τ d x y e u hR;exact ⟨l,pn,L,h1,h2,hce l L V u hC h3⟩
theorem wO {f0:FuncId}{R:(Nat->Question->Nat)->Nat->Ending->Wz->Prop}{Post:Wq->Wz->Prop}{U:Outer}(E:pu Gf Fs Fr)(hPre:yR Pre)(hRecv:uX)(hStop:CY Pre R)(hce:∀l L V u,Ce V u->Pre l L u->Pre l L V):tz Tryz.prog U Gf [] (Ends Yq.prog f0 R) Post:=by
 intro f a a' fr fr' cs cs' V W ρ hM ⟨hargs,ha2⟩ hRel hD hsolo gs sl t q h0 hL hP;obtain rfl:f=69:=E.mark f (by rw [<-hRel.same];exact hM);obtain ⟨al⟩:=a;rcases al with - |⟨x,- |⟨y,- |⟨z,al⟩⟩⟩<;>simp at ha2
 have hD0:=hD;rw [E.alt] at hD0;obtain ⟨l,pn,L,rfl,rfl,hp⟩:=nP E hStop hce hRel hD0;obtain ⟨r',hr,rfl⟩:=Bt hargs;have hlen:1<=cs.length:=by
  have:=hRel.go.callers.len1;simpa using this
 have hS:=hRel.calm;have hBM:=hRel.quiet.1;have hX:RFs Tryz.prog ρ ([trap Tryz.prog.alt],[]) (fr::cs) (fr'::cs'):=.cons hRel.go.frame hRel.go.kind hRel.go.callers;have hDn:=Dem.on (fun _ _ _ _ h=>h) (fun g w τ d=>Ends.on τ d) hD0 (fun _ _=>1) 0;obtain ⟨V4,⟨k4,hk4⟩,hV7,hV5,hos4⟩:=qY hPre l pn L (V.on (fun _ _=>1) 0) (fr::cs) (hPre.on V _ l L (fun _ _=>rfl) (lR _) hp) E5;obtain ⟨hls,hDh⟩:=yO (fun g w h=>oj h) k4 _ _ hDn rfl {frame:=pF2 V.heap.size l pn (V.heap.size+5),callers:=fr::cs,status:=.running,dying:=none} V4 hk4 rfl (by simp;omega);have hpath:LSs Yq.prog (Ends Yq.prog f0 R) {frame:=Frame.enter Yq.prog 69 #[lV l,.int .i64 pn] .normal,callers:=fr::cs,status:=.running,dying:=none} V {frame:=pF2 V.heap.size l pn (V.heap.size+5),callers:=fr::cs,status:=.running,dying:=none} V4:=by
  rcases LSs.on (fun g w τ d=>Ends.on τ d) hls with ⟨e,-⟩|h
  .exfalso;have:=congrArg (fun g:Wj=>g.frame.todo) e;rw [ol] at this;cases this
  .exact h
 have hV7:∀b,b<V.heap.size+7->b≠V.heap.size+5->V4.heap[b]?=(bE V l 1000).heap[b]?:=hV7;have hV5:V4.heap[V.heap.size+5]?=some (.chan 1000 L.toArray true L.length 0 false):=hV5;have hos4:V4.os=V.os:=hos4;have hVold:∀a b,ρ a b->V4.heap[a]?=V.heap[a]?:=fun a b h=>by
  have:=(hRel.sim.lt h).1;exact (hV7 a (by omega) (by omega)).trans (dS V l 1000 this)
 have hsz:W.heap.size+7=W.heap.size+7:=rfl;refine uU (B:=W.heap.size+7) (DC {l with root:=r'} pn (fr'::cs') W (W.heap.size+7) rfl (fun dd=>?_)) gs sl t q h0 hL (hP.mono (by omega));have hpsz:((pgW W {l with root:=r'}).at dd).heap.size=W.heap.size+3:=uW W _;refine uU (Bn _ _ r' l.vs l.p l.d l.af ((pgW W {l with root:=r'}).at dd) (W.heap.size+7) (by rw [hpsz]) (fun d2=>?_));intro gs1 sl1 t1 q1 h1 hL1 hP1;have hrw:∀d3,(itW ((pgW W {l with root:=r'}).at dd) r' l.vs l.p l.d l.af 20).at d3=(bE W {l with root:=r'} 20).at d3:=fun _=>rfl
 rw [hpsz] at h1;rw [hrw];obtain ⟨Vs,hts,hSnd,hDs⟩:=Bv E hPre hRel.sim hS hr hp hRel.gid 0;obtain ⟨Vr,htr,hSide,honly,hDr⟩:=Bw E hRecv hRel.sim hS hr pn (hPre.item l L V hp) (hPre.len l L V hp) hRel.gid (fr'::cs') 0;refine yN (W:=bE W {l with root:=r'} 20) (g:=G ((base 97).at ⟨eN (W.heap.size+3) r' l.vs l.p l.d l.af (dI (W.heap.size+3)),[]⟩ [.inRegion tF [1],.code iM]) (pF W.heap.size {l with root:=r'} pn::fr'::cs')) rfl (fun d=>DG (W.heap.size+3) l r' _ _)
  (ρr:=(sJ hRel.sim hS).low Fr (own3 V.heap.size) (V.heap.size+5) true htr) (ρs:=(Bu hRel.sim hS).low Fs (fun _=>False) (V.heap.size+5) false hts) (fun gs2 sl2 t2 q2 d k hk0 hg0 hgk hL2 hP2=>?_) gs1 sl1 t1 q1 d2 h1 hL1 (by rw [eE];exact hP1)
 have O:uK Tryz.prog (phD (Ends Yq.prog f0 R) Gf Fs Fr L V.heap.size W.heap.size k (fr::cs,fr'::cs') ρ.rel {frame:=Frame.enter Yq.prog 69 #[lV l,.int .i64 pn] .normal,callers:=fr::cs,status:=.running,dying:=none} V U) Post:=
  Gd E hk0 (fun v hv=>qZ (hPre.item l L V hp v hv)) (fun h V hT=>by obtain ⟨_,_,_,_,_,_,_,rfl,-⟩:=hT;simp) hRel.gid hRel.ext hRel.same hS hBM hRel.out.2.2.2.2 hX hlen (fun h V2 hl=>hsolo h V2 (by rw [E.alt] at hl ⊢;exact hl))
 have hchA:∀c,(c=V.heap.size+5\/∃b o,ρ c b/\V.heap[c]?=some o/\o.isChan=true)->∃o,V4.heap[c]?=some o/\o.isChan=true:=fun c h=>by
  rcases h with rfl|⟨b,o,h1,h2,h3⟩
  .exact ⟨_,hV5,rfl⟩
  .exact ⟨o,(hVold c b h1).trans h2,h3⟩
 have SA:bm (ρ.plus V.heap.size W.heap.size (fun i=>i<7) (fun _ _ h=>hRel.sim.lt h) (fun c=>c=V.heap.size+5\/∃b o,ρ c b/\V.heap[c]?=some o/\o.isChan=true) hS) V4 ((bE W {l with root:=r'} 20).at d):=
  pq hRel.sim hS hr (fun i h=>h) (by omega) hVold (fun i h h5=>hV7 _ (by omega) (by omega)) ⟨_,_,_,_,_,hV5⟩ hos4 hchA d
 have prA:∀i,i<7->(ρ.plus V.heap.size W.heap.size (fun i=>i<7) (fun _ _ h=>hRel.sim.lt h) (fun c=>c=V.heap.size+5\/∃b o,ρ c b/\V.heap[c]?=some o/\o.isChan=true) hS) (V.heap.size+i) (W.heap.size+i):=fun i h=>mg h
 generalize hρA:ρ.plus V.heap.size W.heap.size (fun i=>i<7) (fun _ _ h=>hRel.sim.lt h) (fun c=>c=V.heap.size+5\/∃b o,ρ c b/\V.heap[c]?=some o/\o.isChan=true) hS=ρA at SA prA;have hFA:ρA.F=Gf:=by subst hρA;exact hRel.same
 have hAinv:∀a b,ρA a b->ρ a b\/∃i,i<7/\a=V.heap.size+i/\b=W.heap.size+i:=fun a b h=>by subst hρA;exact h
 have hAsub:∀a b,ρ a b->ρA a b:=fun a b h=>by subst hρA;exact .inl h
 have hrA:RAo ρA l.root r':=by
  generalize l.root=x at hr;cases hr with
  |none=>exact .none
  |some h=>exact .some ⟨hAsub _ _ h.1,h.2⟩
 have RR:nK (phD (Ends Yq.prog f0 R) Gf Fs Fr L V.heap.size W.heap.size k (fr::cs,fr'::cs') ρ.rel {frame:=Frame.enter Yq.prog 69 #[lV l,.int .i64 pn] .normal,callers:=fr::cs,status:=.running,dying:=none} V U) ρA ((sJ hRel.sim hS).low Fr (own3 V.heap.size) (V.heap.size+5) true htr) ((bE W {l with root:=r'} 20).at d) {frame:=pF2 V.heap.size l pn (V.heap.size+5),callers:=fr::cs,status:=.running,dying:=none} (G (pF2 V.heap.size l pn (V.heap.size+5)) [trap Yq.prog]) (G (pF2 W.heap.size {l with root:=r'} pn (W.heap.size+5)) (fr'::cs')) V4 Vr L:=by
  refine ⟨⟨⟨tI (P:=Tryz.prog) (σ:=ρA) (prA 0 (by omega)) (prA 1 (by omega)) (prA 2 (by omega)) (prA 5 (by omega)) hrA (by rw [hFA];exact E.okG),.base,⟨fun _=>rfl,fun _=>rfl⟩,⟨rfl,rfl⟩,⟨rfl,rfl⟩,rfl,rfl⟩,SA,?_,by rw [hFA,<-hRel.same];exact hRel.ext,⟨by rw [hFA,<-hRel.same];exact hS,by rw [hFA,<-hRel.same];exact hBM⟩,by subst hρA;exact ⟨rfl,rfl⟩,by subst hρA;exact .inl rfl,prA 5 (by omega),⟨_,_,_,_,_,hV5,rfl⟩⟩,hSide.stays rfl (fun _ _ _ _=>rfl) rfl,honly,fun x h=>h,⟨E.rmk,rfl⟩,⟨hAsub,hFA⟩,fun a b o hab ho hc=>?_,fun a b hch hab hne=>?_⟩
  .have hg:=hRel.gid;subst hρA;exact ⟨fun g h=>.inl (hg.glob g h),hg.prog,hg.code,hg.alt,fun _ _ h=>h,hg.same,hg.size,hg.apart⟩
  .have hch:(a=V.heap.size+5\/∃b o,ρ a b/\V.heap[a]?=some o/\o.isChan=true):=by
    rcases hAinv a b hab with h|⟨i,hi,rfl,rfl⟩
    .exact .inr ⟨b,o,h,by rw [<-hVold a b h];exact ho,hc⟩
    .by_cases h5:i=5
     .subst h5;exact .inl rfl
     .exfalso;rw [hV7 _ (by omega) (by omega),bH V l 1000 i hi] at ho;rcases i with - | - | - | - | - | - | - |i;all_goals first|omega|(cases ho;cases hc)
   subst hρA;exact hch
  .have hne:a≠V.heap.size+5:=hne;have hch:(a=V.heap.size+5\/∃b o,ρ a b/\V.heap[a]?=some o/\o.isChan=true):=by subst hρA;exact hch
   rcases hch with h|⟨b2,o,h1,h2,h3⟩
   .exact absurd h hne
   .obtain rfl:b2=b:=ρA.fn _ _ _ (hAsub _ _ h1) hab;obtain ⟨n1,s1,q1',tm1,rfl⟩:=hRel.quiet.2 a b2 o h1 h2 h3;obtain ⟨o1,o2,e1,e2,e3⟩:=hRel.sim.obj a b2 h1;rw [h2] at e1;cases e1;cases e3 with
    | @chan _ cap' _ b' _ cl' _ _ s' q' _ hb hcl=>
     have hb:RVs ρ #[] b':=hb.resolve_left (by rw [hRel.firm.1];exact fun h=>by cases h);obtain rfl:=hcl.resolve_left (by rw [hRel.firm.2];exact fun h=>by cases h);obtain rfl:b'=#[]:=Array.eq_empty_of_size_eq_zero (by rw [<-hb.size];rfl);exact ⟨_,_,_,_,_,_,_,(hVold a b2 h1).trans h2,(dS W _ 20 (hRel.sim.lt h1).2).trans e2⟩
 have hrinv:∀a b,((sJ hRel.sim hS).low Fr (own3 V.heap.size) (V.heap.size+5) true htr) a b->ρ a b\/∃i,i<7/\a=V.heap.size+i/\b=W.heap.size+i:=fun a b h=>h
 have hsinv:∀a b,((Bu hRel.sim hS).low Fs (fun _=>False) (V.heap.size+5) false hts) a b->ρ a b\/∃i,(3<=i/\i<7)/\a=V.heap.size+i/\b=W.heap.size+i:=fun a b h=>h
 have same:∀x y b,(ρ x b\/∃i,i<7/\x=V.heap.size+i/\b=W.heap.size+i)->(ρ y b\/∃i,(3<=i/\i<7)/\y=V.heap.size+i/\b=W.heap.size+i)->x=y/\¬own3 V.heap.size y:=fun x y b h1 h2=>by
  rcases h1 with h1|⟨i,hi,h1,h3⟩<;>rcases h2 with h2|⟨j,hj,h2,h4⟩
  .have:=(hRel.sim.lt h2).1;exact ⟨ρ.inj _ _ _ h1 h2,fun h=>by rcases h with h|h|h<;>omega⟩
  .have:=(hRel.sim.lt h1).2;omega
  .have:=(hRel.sim.lt h2).2;omega
  .exact ⟨by omega,fun h=>by rcases h with h|h|h<;>omega⟩
 have hpr:((sJ hRel.sim hS).low Fr (own3 V.heap.size) (V.heap.size+5) true htr) (V.heap.size+6) (W.heap.size+6):=.inr ⟨6,by omega,rfl,rfl⟩;have hDs':Dem Tryz.prog.alt (phD (Ends Yq.prog f0 R) Gf Fs Fr L V.heap.size W.heap.size k (fr::cs,fr'::cs') ρ.rel {frame:=Frame.enter Yq.prog 69 #[lV l,.int .i64 pn] .normal,callers:=fr::cs,status:=.running,dying:=none} V U).Ns (phD (Ends Yq.prog f0 R) Gf Fs Fr L V.heap.size W.heap.size k (fr::cs,fr'::cs') ρ.rel {frame:=Frame.enter Yq.prog 69 #[lV l,.int .i64 pn] .normal,callers:=fr::cs,status:=.running,dying:=none} V U).Ts (FP V.heap.size) Vs:=by rw [E.alt];exact hDs
 have hDr':Dem Tryz.prog.alt (phD (Ends Yq.prog f0 R) Gf Fs Fr L V.heap.size W.heap.size k (fr::cs,fr'::cs') ρ.rel {frame:=Frame.enter Yq.prog 69 #[lV l,.int .i64 pn] .normal,callers:=fr::cs,status:=.running,dying:=none} V U).Nr (phD (Ends Yq.prog f0 R) Gf Fs Fr L V.heap.size W.heap.size k (fr::cs,fr'::cs') ρ.rel {frame:=Frame.enter Yq.prog 69 #[lV l,.int .i64 pn] .normal,callers:=fr::cs,status:=.running,dying:=none} V U).Tr (G (pF2 V.heap.size l pn (V.heap.size+5)) [trap Yq.prog]) Vr:=by rw [E.alt];exact hDr
 refine Du O hDr' _ _ hDs' gs2 ((bE W {l with root:=r'} 20).at d) sl2 t2 q2 ρA _ _ _ _ L [] [] [] 20 0 0 false 14 2
  (.pre 12 RR (by rw [E.alt];exact hDh) (by rw [E.alt];exact hpath) ⟨⟨_,hpr,fun h=>?_⟩,?_⟩ (tH W.heap.size (W.heap.size+3) {l with root:=r'} pn (fr'::cs') ((bE W {l with root:=r'} 20).at d) r' (iZ W {l with root:=r'} 20).out))
  (.new (hSnd.stays rfl (fun _ _ _ _=>rfl) rfl) (fun v=>yW W.heap.size v) rfl) ⟨_,cU W {l with root:=r'} 20,rfl⟩ (by omega) rfl rfl ?_ ?_ hg0 hgk hL2 hP2
 .have h:V.heap.size+6=V.heap.size+5:=h;omega
 .show W.heap.size+6≠W.heap.size+5;omega
 .intro b x y hx hy;obtain ⟨rfl,ho⟩:=same x y b (hrinv _ _ hx) (hsinv _ _ hy);by_cases h5:x=V.heap.size+5
  .exact .inr ⟨h5,h5⟩
  .exact .inl ⟨⟨⟨b,hx⟩,ho,h5⟩,⟨b,hy⟩,(fun h=>h),h5⟩
 .have hko:∀i,¬U.Ko (W.heap.size+i):=fun i h=>by
   have:=U.lt _ h;have:=hRel.out.1.1;omega
  have hoff:∀a b,(ρ a b\/∃i,i<7/\a=V.heap.size+i/\b=W.heap.size+i)->¬U.Ko b:=fun a b h=>by
   rcases h with h|⟨i,-,-,rfl⟩
   .exact hRel.out.2.1 a b h
   .exact hko i
  refine ⟨fun b x y hx hy=>?_,⟨⟨?_,?_,fun b hb=>?_⟩,⟨fun a b h=>hoff a b (hAinv a b h),fun a b h=>hAsub a b (hRel.out.2.2.1 a b h),by rw [<-hρA];exact hRel.out.2.2.2⟩,⟨fun a b h=>hoff a b (hrinv a b h),fun a b h=>.inl (hRel.out.2.2.1 a b h),hRel.out.2.2.2⟩,hko 5⟩,⟨fun a b h=>hoff a b ((hsinv a b h).imp id (fun ⟨i,h1,h2⟩=>⟨i,h1.2,h2⟩)),fun a b h=>.inl (hRel.out.2.2.1 a b h),hRel.out.2.2.2⟩⟩
  .by_cases h5:y=V.heap.size+5
   .exact .inr h5
   .exact .inl ⟨⟨b,hy⟩,(fun h=>h),h5⟩
  .have:=hRel.out.1.1;show U.W0.heap.size<=(bE W {l with root:=r'} 20).heap.size;rw [eE];omega
  .exact hRel.out.1.2.1
  .have h1:=U.lt b hb;have h2:=hRel.out.1.1;exact (dS W {l with root:=r'} 20 (by omega)).trans (hRel.out.1.2.2 b hb)
end
def pv (P:Wx)(D0:Nat->Prop)(F:FuncId->Bool)(pin:Nat->Option (Array Wq))(hb:NoM P 3):Ren where
 rel:=fun a b=>a=b/\D0 a
 fn:=fun _a _b _b' h1 h2=>h1.1.symm.trans h2.1
 inj:=fun _a _a' _b h1 h2=>h1.1.trans h2.1.symm
 prog:=P
 F:=F
 old:=fun _=>False
 ch:=fun _=>False
 loose:=false
 wide:=false
 tight:=fun _=>rfl
 pin:=pin
 bad:=3
 noM:=hb
structure Start (W:Wz)(D0:Nat->Prop):Prop where
 rows:∀b,D0 b->∃c e z,W.heap[b]?=some (.cells c e z)
 glob:∀g,g<Tryz.prog.globals.size->D0 g
theorem Bx {ρ:Ren}{v:Wq}(h:lA v=true):RV ρ v v:=by
 cases v with
 |bool b=>exact .bool b
 |int k n=>exact .int k n
 |string s=>exact .string s
 |pointer a=>cases a with
  |none=>exact .pointer .none
  |some a=>cases h
 |slice a n c=>cases a with
  |none=>exact .slice n c .none
  |some a=>cases h
 |map r=>cases r with
  |none=>exact .map .none
  |some r=>cases h
 |chan r=>cases r with
  |none=>exact .chan .none
  |some r=>cases h
 |nilFunc=>exact .nilFunc
 |nilIface=>exact .nilIface
 |_=>cases h
theorem By {ρ:Ren}{v v':Wq}(h:lA v=true)(k:RV ρ v v'):v'=v:=by
 cases k with
 |bool|int|string|nilFunc|nilIface=>rfl
 |pointer k=>cases k with
  |none=>rfl
  |some _=>cases h
 |slice n c k=>cases k with
  |none=>rfl
  |some _=>cases h
 |map k=>cases k with
  |none=>rfl
  |some _=>cases h
 |chan k=>cases k with
  |none=>rfl
  |some _=>cases h
 |_=>cases h
structure kW (u v:Wq):Prop where
 rel:∀ρ:Ren,ρ.bad=3->RV ρ u v
 one:lA v=true->u=v
 no:lA v=false->gQ u=false\/∀ (ρ:Ren) v',RV ρ u v'->v'=v
theorem yX:∀ (n:Nat)(v:Wq),SizeOf.sizeOf v<n->∃u,kW u v:=by
 intro n;induction n with
 |zero=>intro v h;omega
 |succ n ih=>
  intro v hn;have dead:gL v=true->lA v=false->∃u,kW u v:=fun h1 h2=>⟨.tuple #[],fun _ _=>.dead v h1,(fun h=>by rw [h2] at h;cases h),fun _=>.inl rfl⟩
  have self:lA v=true->∃u,kW u v:=fun h=>⟨v,fun _ _=>Bx h,fun _=>rfl,fun h2=>by rw [h] at h2;cases h2⟩
  cases v with
  |agg c=>
   obtain ⟨c0,h0,h1⟩:=mZ (c:=c) (c':=c) (Q:=fun v _ u=>kW u v) rfl (fun i v v' hv _=>ih v (by
    have:=Array.sizeOf_lt_of_mem (Array.mem_of_getElem? hv);simp only [Value.agg.sizeOf_spec] at hn;omega))
   refine ⟨.agg c0,fun ρ hb=>.agg h0 (fun i u v k1 k2=>?_),fun h=>(by cases h),fun _=>.inl rfl⟩;obtain ⟨u2,e,k⟩:=h1 i v v k2 k2;rw [k1] at e;cases e;exact k.rel ρ hb
  |pointer a=>cases a with
   |none=>exact self rfl
   |some a=>exact dead rfl rfl
  |slice a n c=>cases a with
   |none=>exact self rfl
   |some a=>exact dead rfl rfl
  |map a=>cases a with
   |none=>exact self rfl
   |some a=>exact dead rfl rfl
  |chan a=>cases a with
   |none=>exact self rfl
   |some a=>exact dead rfl rfl
  |func f a c=>cases f with
   |method s=>
    refine ⟨.func (.method "") #[.iface 3 (.func (.method s) a c)] #[], fun ρ hb => .odd 3 s a c hb.symm, fun h => (by cases h), fun _ => .inr (fun ρ v' h => ?_)⟩
    cases h with
    |func hf=>cases hf
    |odd=>rfl
   |_=>exact dead rfl rfl
  |bool|int|string|nilFunc|nilIface=>exact self rfl
  |_=>exact dead rfl rfl
theorem wP (c:Array Wq):∃c0:Array Wq,c0.size=c.size/\∀ (i:Nat) v,c[i]?=some v->∃u,c0[i]?=some u/\kW u v:=by
 obtain ⟨c0,h0,h1⟩:=mZ (c:=c) (c':=c) (Q:=fun v _ u=>kW u v) rfl (fun i v v' _ _=>yX _ v (Nat.lt_succ_self _));exact ⟨c0,h0,fun i v hv=>h1 i v v hv hv⟩
structure Clean (D0:Nat->Prop)(W V:Wz):Prop where
 os:V.os=W.os
 size:V.heap.size=W.heap.size
 rest:∀b,¬D0 b->V.heap[b]?=W.heap[b]?
 row:∀b,D0 b->∃c c0 e z,W.heap[b]?=some (.cells c e z)/\V.heap[b]?=some (.cells c0 e z)/\c0.size=c.size/\∀ (i:Nat) v,c[i]?=some v->∃u,c0[i]?=some u/\kW u v
theorem Bz {W:Wz}{D0:Nat->Prop}(h:Start W D0):∃V,Clean D0 W V:=by
 classical
 have key:∀b:Nat,∃o:Obj,(D0 b->∃c c0 e z,W.heap[b]?=some (.cells c e z)/\o=.cells c0 e z/\c0.size=c.size/\∀ (i:Nat) v,c[i]?=some v->∃u,c0[i]?=some u/\kW u v)/\(¬D0 b->b<W.heap.size->W.heap[b]?=some o):=fun b=>by
  by_cases hd:D0 b
  .obtain ⟨c,e,z,h1⟩:=h.rows b hd;obtain ⟨c0,h2,h3⟩:=wP c;exact ⟨.cells c0 e z,fun _=>⟨c,c0,e,z,h1,rfl,h2,h3⟩,fun k=>absurd hd k⟩
  .by_cases hb:b<W.heap.size
   .exact ⟨W.heap[b],fun k=>absurd k hd,fun _ _=>eG hb⟩
   .exact ⟨.coro none,fun k=>absurd k hd,fun _ k=>absurd k hb⟩
 obtain ⟨f,key⟩:=Classical.skolem.1 key;refine ⟨{W with heap:=Array.ofFn (n:=W.heap.size) fun a=>f a.1},rfl,by simp,fun b hb=>?_,fun b hb=>?_⟩
 .by_cases hlt:b<W.heap.size
  .rw [(key b).2 hb hlt];simp [hlt]
  .rw [Array.getElem?_eq_none (by simpa using hlt),Array.getElem?_eq_none (by omega)]
 .obtain ⟨c,c0,e,z,h1,h2,h3⟩:=(key b).1 hb;have hlt:=(eS h1).1;exact ⟨c,c0,e,z,h1,by simp [hlt,h2],h3⟩
theorem Clean.cell {W V:Wz}{D0:Nat->Prop}(h:Clean D0 W V){a:Ww}{v:Wq}(hv:W.cell? a=some v)(h1:lA v=true):V.cell? a=some v:=by
 unfold World.cell? at hv ⊢;by_cases hd:D0 a.block
 .obtain ⟨c,c0,e,z,k1,k2,-,k4⟩:=h.row _ hd;rw [k1] at hv;rw [k2];simp only at hv ⊢;split at hv
  .cases hv
  .rename_i hs;obtain ⟨u,e1,e2⟩:=k4 _ _ hv;rw [if_neg hs,e1,e2.one h1]
 .rw [h.rest _ hd];exact hv
noncomputable def jB (W:Wz)(D0:Nat->Prop)(b:Nat):Option (Array Wq):=by
 classical
 exact if D0 b then match W.heap[b]? with|some (.cells c _ _)=>some c|_=>none else none
theorem ra {W V:Wz}{D0:Nat->Prop}(h:Clean D0 W V)(P:Wx)(F:FuncId->Bool)(hb:NoM P 3):bm (pv P D0 F (jB W D0) hb) V W:=by
 refine ⟨fun a b hab=>?_,fun _ h=>h.elim,fun _ h=>h.elim,h.os.symm,fun _ a c0 hp=>?_⟩
 .obtain ⟨rfl,hd⟩:=hab;obtain ⟨c,c0,e,z,h1,h2,h3,h4⟩:=h.row a hd;refine ⟨_,_,h2,h1,.cells e (.inl rfl) ⟨h3,fun i u v k1 k2=>?_⟩⟩;obtain ⟨u2,e1,e2⟩:=h4 i v k2;rw [k1] at e1;cases e1;exact e2.rel _ rfl
 .have hp:jB W D0 a=some c0:=hp;unfold jB at hp;split at hp
  .rename_i hd;obtain ⟨c,c1,e,z,h1,h2,-⟩:=h.row a hd;rw [h1] at hp;cases hp;exact ⟨a,⟨rfl,hd⟩,c1,e,z,c0,z,h2,h1,fun _ _ _ _=>rfl⟩
  .cases hp
structure rb (W W':Wz):Prop where
 os:W'.os=W.os
 output:W'.output=W.output
 size:W.heap.size<=W'.heap.size
 block:∀b,b<W.heap.size->W'.heap[b]?=W.heap[b]?
def j7 (Pre:Lst->List Wq->Wz->Prop)(W:Wz)(e:Ending)(u:Wz):Prop:=
 (e=.returned (.bool true)/\u.os=W.os/\∀b,b<W.heap.size->u.heap[b]?=W.heap[b]?)\/∃x y l,e=.panicked (stopEntry x y::l)/\∃ls pn L,x=lV ls/\y=.int .i64 pn/\Pre ls L u
section
variable [Two Tryz.prog] [Two Yq.prog] {Gf Fs Fr Fa:FuncId->Bool} {Pre:Lst->List Wq->Wz->Prop}
theorem DH (E:pu Gf Fs Fr)(sG:fM Tryz.prog Gf)(sA:fM Yq.prog Fa)(mkA:∀f,¬Mk Fa f=true)(hG:Gf fH=false/\Gf kN=false/\Gf 69=false/\Gf kM=true)(hPre:yR Pre)(hRecv:uX)(hce:∀l L V u,Ce V u->Pre l L u->Pre l L V)
  {f0:FuncId} {fn:Func} {b0:Code} (hfz:Tryz.prog.funcs[f0]?=some fn) (hfq:Yq.prog.funcs[f0]?=some fn) (hb0:fn.body=some b0) (hinit:Tryz.prog.inits.idxOf? f0=none) (h0G:Gf f0=true) (h0A:Fa f0=true) {args:Array Wq} {W:Wz} {D0:Nat->Prop} (hst:Start W D0) (hargs:∀ (ρ:Ren),(∀b,D0 b->ρ b b)->RVs ρ args args)
  (hcalls:∀V,Clean D0 W V->∀τ d,Calls Yq.prog f0 args (V.on τ d) (j7 Pre V)):Fin Tryz.prog (fun v W'=>v=.bool true/\rb W W') #[G (Frame.enter Tryz.prog f0 args .normal) []] W none #[]:=by
 obtain ⟨V0,hcl⟩:=Bz hst;replace hcalls:=hcalls V0 hcl;have hbz:NoM Tryz.prog 3:=by unfold NoM;kernel_rfl
 have hbq:NoM Yq.prog 3:=yU E hbz rfl;have hA:∀F,RVs (pv Tryz.prog D0 F (jB W D0) hbz) args args:=fun F=>hargs _ (fun b h=>⟨rfl,h⟩)
 have hA1:∀F,RVs (pv Yq.prog D0 F (jB W D0) hbq) args args:=fun F=>hargs _ (fun b h=>⟨rfl,h⟩)
 have frm:∀ (P Q:Wx) (σ:Ren),P.funcs[f0]?=some fn->Q.funcs[f0]?=some fn->RVs σ args args->az P σ.F b0=true->RFr P σ (Frame.enter Q f0 args .normal) (Frame.enter P f0 args .normal):=fun P Q σ hP hQ ha ho=>by
  have e1:(Frame.enter Q f0 args .normal).todo=[.code b0]:=by simp [Frame.enter,hQ,hb0]
  have e2:(Frame.enter P f0 args .normal).todo=[.code b0]:=by simp [Frame.enter,hP,hb0]
  have t1:(Frame.enter Q f0 args .normal).tmps=args++Array.replicate (fn.ntmps-args.size) Wy:=by simp [Frame.enter,hQ]
  have t2:(Frame.enter P f0 args .normal).tmps=args++Array.replicate (fn.ntmps-args.size) Wy:=by simp [Frame.enter,hP]
  refine ⟨rfl,?_,by rw [e1,e2];exact .cons (.code ho) .nil,.nil,.run,⟨rfl,rfl,by simp [Frame.enter]⟩,.none⟩;rw [t1,t2];refine ⟨rfl,fun i v v' h1 h2=>?_⟩;rw [h1] at h2;cases h2;rw [Array.getElem?_append] at h1;split at h1
  .exact ha.at_ i v v h1 h1
  .simp only [Array.getElem?_replicate] at h1;split at h1
   .cases h1;exact cD
   .cases h1
 have hout:∀ (τ:Nat->Question->Nat) (d:Nat) (u:Wz),¬j7 Pre V0 .outgrown u:=fun τ d u h=>by
  rcases h with ⟨h,-⟩|⟨_,_,_,h,-⟩<;>cases h
 have hself:Self Yq.prog ([trap Yq.prog],[]) (fun _=>False) Fa {frame:=Frame.enter Yq.prog f0 args .normal,callers:=[trap Yq.prog],status:=.running,dying:=none} V0:=
  ⟨rfl,pv Yq.prog D0 Fa (jB W D0) hbq,{frame:=Frame.enter Yq.prog f0 args .normal,callers:=[],status:=.running,dying:=none},W,⟨frm Yq.prog Yq.prog _ hfq hfq (hA1 _) (sA.code f0 fn b0 h0A hfq hb0),.base,⟨fun _=>rfl,fun _=>rfl⟩,⟨rfl,rfl⟩,⟨rfl,rfl⟩,rfl,rfl⟩,ra hcl _ _ _,sA.gid (σ:=pv Yq.prog D0 Fa (jB W D0) hbq) (fun g hg=>⟨rfl,hst.glob g (by rw [Yq.globals_size] at hg;exact hg)⟩) rfl (fun _ _ h=>h),sA.ext,rfl,rfl,⟨rfl,fun _ h=>h.elim,rfl⟩,fun _ h=>h,mkA⟩
 have hD:=(qO E.zero1 E.count1 (R:=fun _ _=>j7 Pre V0) hcalls hout hself).imp (N':=fun g _=>NB [trap Yq.prog] g) (fun g w h=>h.2)
 let U:Outer:=⟨fun b=>b<W.heap.size/\¬D0 b,W,fun b h=>h.1,fun a b=>a=b/\D0 a,jB W D0,3⟩
 have hleaf:Leaf Tryz.prog U Gf (Ends Tryz.prog.alt f0 (fun _ _=>j7 Pre V0)) (fun v W'=>v=.bool true/\rb W W'):=by
  refine Dw (page:=69) hG.2.2.1 hinit (fun τ d e u h=>?_) (fun h V ρ g W1 ρ' W' hE hm hRel hle S hK=>⟨rfl,?_⟩)
  .rcases h with ⟨h,-⟩|⟨x,y,l,h,-⟩
   .exact .inl h
   .exact .inr ⟨_,_,_,_,_,_,h⟩
  .obtain ⟨τ,d,τ',d',e,fr,hR,rfl,-,hlv,-⟩:=hE;rcases hR with ⟨rfl,hos,hrow⟩|⟨x,y,l,rfl,-⟩
   .refine ⟨S.os.trans (hos.trans hcl.os),hK.2.1,hK.1,fun b hb=>?_⟩;by_cases hd:D0 b
    .have hbb:ρ' b b:=hle _ _ (hRel.out.2.2.1 b b ⟨rfl,hd⟩);obtain ⟨c,c0,e,z,h1,h0,h3,h2⟩:=hcl.row b hd;obtain ⟨o,o',k1,k2,k3⟩:=S.obj b b hbb;have hF:ρ'.F kM=true:=by rw [hle.F,hRel.same];exact hG.2.2.2
     have hpin:ρ'.pin b=some c:=by
      rw [hle.pin,hRel.out.2.2.2.1];show jB W D0 b=some c;unfold jB;rw [if_pos hd,h1]
     obtain ⟨b2,hb2,c1,e1,z1,c2,z2,p1,p2,p3⟩:=S.pin hF b c hpin;obtain rfl:=ρ'.fn _ _ _ hbb hb2;have hrow:V.heap[b]?=V0.heap[b]?:=hrow b (by rw [hcl.size];exact hb);rw [hrow,h0] at k1 p1;cases k1;cases p1;rw [p2] at k2;cases k2;cases k3 with
     |cells e hz hv=>
      rcases hz with rfl|⟨hz,-⟩
      .rw [p2,h1];refine congrArg (fun x=>some (Obj.cells x e z)) ?_;refine Array.ext_getElem? (fun i=>?_);by_cases hi:i<c.size
       .obtain ⟨u,q1,q2⟩:=h2 i _ (eG hi);by_cases ho:lA c[i]=true
        .have q3:i<c2.size:=by rw [<-hv.size,h3];exact hi
         have q4:=q2.one ho;have:=hv.at_ i u _ q1 (eG q3);rw [q4] at this;rw [eG q3,eG hi,By ho this]
        .rcases q2.no (by simpa using ho) with q5|q5
         .exact p3 i u q1 q5
         .have q3:i<c2.size:=by rw [<-hv.size,h3];exact hi
          rw [eG q3,eG hi,q5 _ _ (hv.at_ i u _ q1 (eG q3))]
       .rw [Array.getElem?_eq_none (by rw [<-hv.size,h3];omega),Array.getElem?_eq_none (by omega)]
      .rw [hF] at hz;cases hz
    .exact hK.2.2 b ⟨hb,hd⟩
   .have hlv:=hlv.1;rw [hm] at hlv;cases hlv
 have hap:tz Tryz.prog U Gf [] (Ends Tryz.prog.alt f0 (fun _ _=>j7 Pre V0)) (fun v W'=>v=.bool true/\rb W W'):=by
  rw [E.alt];refine wO E hPre hRecv ⟨fun τ d x y e u h=>?_⟩ hce;rcases h with ⟨h,-⟩|⟨x',y',l,h,hp⟩
  .cases h
  .cases h;exact hp
 have hD':Dem Tryz.prog.alt (fun g _=>NB [trap Tryz.prog.alt] g) (Ends Tryz.prog.alt f0 (fun _ _=>j7 Pre V0)) {frame:=Frame.enter Yq.prog f0 args .normal,callers:=[trap Yq.prog],status:=.running,dying:=none} V0:=by
  rw [E.alt];exact hD
 have hrel:Rel Tryz.prog U Gf [] (pv Tryz.prog D0 Gf (jB W D0) hbz) {frame:=Frame.enter Yq.prog f0 args .normal,callers:=[trap Yq.prog],status:=.running,dying:=none} {frame:=Frame.enter Tryz.prog f0 args .normal,callers:=[],status:=.running,dying:=none} V0 W:=by
  have hf:=frm Tryz.prog Yq.prog (pv Tryz.prog D0 Gf (jB W D0) hbz) hfz hfq (hA _) (sG.code f0 fn b0 h0G hfz hb0);have hgid:GId Tryz.prog (pv Tryz.prog D0 Gf (jB W D0) hbz):=sG.gid (σ:=pv Tryz.prog D0 Gf (jB W D0) hbz) (fun g hg=>⟨rfl,hst.glob g hg⟩) rfl (fun _ _ h=>h);have hk:∀P:Wx,(Frame.enter P f0 args .normal).kind=.normal/\(Frame.enter P f0 args .normal).roundOf=none:=fun _=>⟨rfl,rfl⟩
  refine ⟨⟨hf,by rw [E.alt];exact .base,⟨fun _=>(hk _).1.trans (hk _).1.symm,fun _=>(hk _).2⟩,⟨rfl,rfl⟩,⟨rfl,rfl⟩,rfl,rfl⟩,ra hcl _ _ _,hgid,sG.ext,hG.1,rfl,⟨rfl,rfl⟩,⟨hG.2.1,fun a b o hab ho hc=>?_⟩,⟨⟨lR _,rfl,fun _ _=>rfl⟩,fun a b hab hk=>?_,fun a b h=>h,rfl,rfl⟩⟩
  .obtain ⟨_,c,e,z,-,h1,-⟩:=hcl.row a hab.2;rw [h1] at ho;cases ho;cases hc
  .obtain ⟨rfl,hd⟩:=hab;exact hk.2 hd
 have hlv:Lv Tryz.prog (fun _=>False) #[] #[({frame:=Frame.enter Tryz.prog f0 args .normal,callers:=[],status:=.running,dying:=none}:Wj)] (fun _=>0):=by
  refine ⟨fun j y hj _ hy=>?_,fun j hj=>?_⟩
  .cases j with
   |zero=>omega
   |succ j=>simp at hy
  .exact (Go.Conc.leavers_one Tryz.prog {frame:=Frame.enter Tryz.prog f0 args .normal,callers:=[],status:=.running,dying:=none}).above j hj
 exact Dt E.zero E.count (yK hleaf) hap hD' _ _ (.refl _ _) _ _ W none #[] (fun _=>0) _ rfl hlv (Go.Conc.past_nil.mono (Nat.zero_le _)) hrel
end
end
