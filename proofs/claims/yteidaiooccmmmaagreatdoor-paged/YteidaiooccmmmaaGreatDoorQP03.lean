/- A part. -/
import Derived.Test.YteidaiooccmmmaaGreatDoorQP02
import Derived.KernelRfl
import Derived.RangeFuncNested
import Derived.OrdersIn
import Derived.ArgAppend
import Derived.Laws.IdiomStrings
import Derived.Deep.RegionLaw
import Derived.Deep.DeepCutAuto
import Derived.BigRegion
set_option maxHeartbeats 4000000
set_option maxRecDepth 100000
open Go renaming World->Wj,Value->Wx,Goroutine->Wk,Program->Wv,TypeId->Ww,Frame->Wy,Addr->Wu,undef->Wo
namespace Go.Proofs.Qw
open Option renaming none->N,some->J
open Bool renaming true->Y,false->Z
open Value renaming int->I,string->U,slice->M,pointer->O,bool->C
open IntKind renaming i64->K
open Obj renaming cells->E
variable {o':Obj}{f0:FuncId}{A' D0:Nat->Prop}{ks:List (UInt8×Option Wu)}
open Tryz
def Ren.plus(ρ:Ren)(n m:Nat)(I:Nat->Prop)(hlt:∀a b,ρ a b->a<n/\b<m)(ch:Nat->Prop)(hS:ρ.F gq=Z):Ren where
 rel:=λa b=>ρ a b\/∃i,I i/\a=n+i/\b=m+i
 fn:=λa b b' h1 h2=>by
  rcases h1 with h1|⟨i,-,h1,h3⟩<;>rcases h2 with h2|⟨j,-,h2,h4⟩
  .exact ρ.fn _ _ _ h1 h2
  .have:=(hlt _ _ h1).1;omega
  .have:=(hlt _ _ h2).1;omega
  .omega
 inj:=λa a' b h1 h2=>by
  rcases h1 with h1|⟨i,-,h1,h3⟩<;>rcases h2 with h2|⟨j,-,h2,h4⟩
  .exact ρ.inj _ _ _ h1 h2
  .have:=(hlt _ _ h1).2;omega
  .have:=(hlt _ _ h2).2;omega
  .omega
 prog:=ρ.prog
 F:=ρ.F
 old:=λ_=>False
 ch:=ch
 loose:=Y
 wide:=Y
 tight:=λh=>by rw[hS]at h;cases h
 pin:=ρ.pin
 bad:=ρ.bad
 noM:=ρ.noM
section
variable {ρ:Ren} {n m:Nat} {I:Nat->Prop} {hlt:∀a b,ρ a b->a<n/\b<m} {ch:Nat->Prop} {hS:ρ.F gq=false} {V W V' W':Wj}
theorem qM:ρ.sub' (ρ.plus n m I hlt ch hS):=⟨λ_ _ h=>.inl h,rfl,λ_ h=>h,rfl⟩
theorem nw{i:Nat}(h:I i):(ρ.plus n m I hlt ch hS) (n+i) (m+i):=.inr ⟨i,h,rfl,rfl⟩
theorem DV(S:bN ρ V W)(q:∀a b,ρ a b->V'.heap[a]?=V.heap[a]?)(p:∀b,b<m->W'.heap[b]?=W.heap[b]?)(j:W'.os=V'.os)
  (e:∀i,I i->∃o f,V'.heap[n+i]?=J o/\W'.heap[m+i]?=J f/\RO (ρ.plus n m I hlt ch hS) o f) (k:∀c,ch c->∃o,V'.heap[c]?=J o/\o.isChan=Y):bN (ρ.plus n m I hlt ch hS) V' W':=by
 refine⟨λa b d=>?_,λa h=>h.elim,k,j,λt a y r=>?_⟩
 rotate_left
 .have ⟨b,d,v⟩:=S.pin t a y r;exact⟨b,.inl d,v.same (q a b d) (p b (hlt a b d).2)⟩
 rcases d with d|⟨i,u,rfl,rfl⟩
 .have ⟨o,f,x,s,l⟩:=S.obj a b d;refine⟨o,f,(q a b d).trans x,(p b (hlt a b d).2).trans s,RO.re qM rfl l (λz=>?_)⟩;cases l with
  |chan=>exact .chan _ _ _ _ _ _ _ _ _ (.inl rfl) (.inl rfl)
  |_=>cases z
 .exact e i u
end
structure gx (P:Wv) [Two P](F:FuncId->Bool):Prop where
 code:∀ (f:FuncId) fn b,F f=Y->P.funcs[f]?=J fn->fn.body=J b->aI P F b=Y
 alt:∀f,F f=Y->P.alt.funcs[f]?=P.funcs[f]?
 same:∀f:Nat,(P.alt.funcs[f]?).map strip=(P.funcs[f]?).map strip
 size:P.alt.funcs.size=P.funcs.size
 apart:∀f,Mk F f=Y->∃a b,P.alt.funcs[f]?=J a/\P.funcs[f]?=J b/\a.body.isSome=Y/\b.body.isSome=Y/\a.name=b.name
 ext:fY P F
theorem gx.gid{P:Wv} [Two P]{σ:Ren}(h:gx P σ.F)(c:∀g,g<P.globals.size->σ g g)(b:σ.prog=P)(d:σ.F my=Y->∀a,¬σ.old a):GId P σ:=⟨c,b,h.code,h.alt,d,h.same,h.size,h.apart⟩
theorem RV.any{σ σ':Ren}(hrel:∀a b,σ a b->σ' a b)(u:∀f,σ.F f=Y->σ'.F f=Y)(p:σ'.bad=σ.bad){z v':Wx}(h:RV σ z v'):RV σ' z v':=by
 have d:∀ {a e:Option Wu},RAo σ a e->RAo σ' a e:=λh=>by
  cases h with
  |none=>exact .none
  |some h=>exact .some ⟨hrel _ _ h.1,h.2⟩
 have i:∀ {a e:Option Nat},RNo σ a e->RNo σ' a e:=λh=>by
  cases h with
  |none=>exact .none
  |some h=>exact .some (hrel _ _ h)
 induction h with
 |bool b=>exact .bool b
 |int k n=>exact .int k n
 |string s=>exact .string s
 |pointer h=>exact .pointer (d h)
 |slice n c h=>exact .slice n c (d h)
 |map h=>exact .map (i h)
 |chan h=>exact .chan (i h)
 |func o q j _ _ l m=>
  refine .func ?_ q j l m;cases o with
  |func f h=>exact .func f (u f h)
  |yield h=>exact .yield (hrel _ _ h)
 |nilFunc=>exact .nilFunc
 |iface t _ ih=>exact .iface t ih
 |nilIface=>exact .nilIface
 |agg j _ ih=>exact .agg j ih
 |tuple j _ ih=>exact .tuple j ih
 |dead v' h=>exact .dead v' h
 |odd n s a c r=>exact .odd n s a c (r.trans p.symm)
theorem RVs.any{σ σ':Ren}(hrel:∀a b,σ a b->σ' a b)(l:∀f,σ.F f=Y->σ'.F f=Y)(e:σ'.bad=σ.bad){c c':Array Wx}(h:RVs σ c c'):RVs σ' c c':=⟨h.size,λi v j d k=>(h.at_ i v j d k).any hrel l e⟩
theorem RO.any{σ σ':Ren}(hrel:∀a b,σ a b->σ' a b)(m:∀f,σ.F f=Y->σ'.F f=Y)(j:σ'.bad=σ.bad)(l:σ'.F my=σ.F my){o:Obj}(i:xm o)(h:RO σ o o'):RO σ' o o':=by
 have d:∀ {q:Obj},xm q->(∀c e z,q≠.cells c e z)->Fixed q:=λh k=>by
  rcases h with⟨c,e,z,h⟩|h
  .exact absurd h (k c e z)
  .exact h
 cases h with
 |cells e n h=>exact .cells e (by rw[l];exact n) (h.any hrel m j)
 |number b h=>exact .number b ⟨hrel _ _ h.1,h.2⟩
 |dead _ h=>exact .dead _ h
 |_=>exact(d i (λ_ _ _ h=>by cases h)).elim
theorem mF{P:Wv} [Two P](k:bU P)(j:cq P){A:Nat->Prop}{F:FuncId->Bool}{T:Wk->Wj->Prop}(l:∀g w,T g w->g.callers≠[]/\g.dying=none/\g.status=.running)(i:∀g w a d,T g (w.on a d)↔T g w){h:Wk}{w:Wj}(hS:Self P ([trap P],[]) A F h w)
  (c:∀a d,∃f b,Steps P (solo h (w.on a d)) (solo f b)/\T f b):Dem P (kn P ([trap P],[]) A F) T h w:=by
 refine Way.dem (N:=kn P ([trap P],[]) A F) ⟨λg w h=>h.mir k j,λg w a d h=>⟨h.1.on a d,h.2⟩,i⟩ (λa d=>?_);have⟨f,b,⟨n,m⟩,e⟩:=c a d;exact oe k j l n _ _ _ b (hS.on a d) m e
def Ren.firm(σ:Ren)(P:Wv)(hb:NoM P σ.bad)(c:Nat):Ren where
 rel:=σ.rel
 fn:=σ.fn
 inj:=σ.inj
 prog:=P
 F:=σ.F
 old:=λ_=>False
 ch:=λa=>a=c
 loose:=Z
 wide:=Z
 tight:=λ_=>rfl
 pin:=σ.pin
 bad:=σ.bad
 noM:=hb
theorem xo{σ:Ren}{P:Wv}{f:NoM P σ.bad}{V W W':Wj}(S:bN σ V W){c c':Nat}(u:σ c c')(l:∀a b,σ a b->a≠c->∃o,V.heap[a]?=J o/\xm o)(z:∀b,b≠c'->W'.heap[b]?=W.heap[b]?)(r:W'.os=W.os){n id s L q q':Nat}{b v:Array Wx}{A B:Bool}(t:V.heap[c]?=J (.chan n b A s q B))(m:W'.heap[c']?=J (.chan id v A L q' B))(p:RVs (σ.firm P f c) b v):bN (σ.firm P f c) V W':=by
 refine⟨λx y d=>?_,λ_ h=>h.elim,λa h=>?_,r.trans S.os,λp a c0 G=>?_⟩
 rotate_left 2
 .have ⟨y,j,D⟩:=S.pin p a c0 G;refine⟨y,j,D.same rfl (z y (λe=>?_))⟩;obtain rfl:=σ.inj _ _ _ j (e▸u);obtain⟨_,_,_,_,_,i,-⟩:=D;rw[t]at i;cases i
 .have d:σ x y:=d;by_cases e:x=c
  .subst e;obtain rfl:=σ.fn _ _ _ d u;exact⟨_,_,t,m,.chan _ _ _ _ _ _ _ _ _ (.inr p) (.inr rfl)⟩
  .have ⟨o,T,F,Q,R⟩:=S.obj x y d;have⟨o2,i,X⟩:=l x y d e;rw[F]at i;cases i;exact⟨o,T,F,(z y (λk=>e (σ.inj _ _ _ d (k▸u)))).trans Q,RO.any (σ:=σ) (σ':=σ.firm P f c) (λ_ _ h=>h) (λ_ h=>h) rfl rfl X R⟩
 .have h:a=c:=h;subst h;exact⟨_,t,rfl⟩
section
open Go.Conc Go.ConcX Go.ConcX.Gen Go.RowKit
structure Ba (Pre:Lst->List Wx->Wj->Prop):Prop where
 low:∀ (ρ:Ren) (V W V':Wj) (l:Lst) (L:List Wx),bN ρ V W->(∃r,RAo ρ l.root r)->(∀g,g<Tryz.prog.globals.size->∃y,ρ g y)->(∀a y i v,ρ a y->V.cell? ⟨a,i,N⟩=J v->Good v->V'.cell? ⟨a,i,N⟩=J v)->V.heap.size<=V'.heap.size->Pre l L V->Pre l L V'
 on:∀ (V V':Wj) (l:Lst) (L:List Wx),(∀a,a.block<V.heap.size->V'.cell? a=V.cell? a)->V.heap.size<=V'.heap.size->Pre l L V->Pre l L V'
 item:∀l L V,Pre l L V->∀v∈L,∃ (a b:Int) (s:ByteArray),v=.agg #[I K a,U s,I K b]
 len:∀l L V,Pre l L V->L.length<=1000
 send:∀ (l:Lst) (L:List Wx) (w:Wj) (c:Nat),Pre l L w->w.heap[c]?=J (.chan 1000 #[] Z 0 0 Z) ->
  Calls Yq.prog 95 #[qV l.vs l.p l.d l.af,sV l.root,.chan (J c)] w λe w'=>e=.returned (.tuple #[])/\((∀b,b<w.heap.size->b≠c->w'.heap[b]?=w.heap[b]?)/\w.heap.size<=w'.heap.size/\w'.os=w.os)/\w'.heap[c]?=J (.chan 1000 L.toArray Z L.length 0 Z)
section
variable (V:Wj) (l:Lst)
def cg(a:Nat):Wj:=itW (pgW V l) l.root l.vs l.p l.d l.af a
theorem xq:(pgW V l).heap.size=V.heap.size+3:=by simp only[pgW,World.alloc,Array.size_push]
theorem fk(a:Nat):(cg V l a).heap.size=V.heap.size+7:=by simp only[cg,itW,pgW,World.alloc,Array.size_push]
theorem eI(b:Nat){a:Nat}(h:a<V.heap.size):(cg V l b).heap[a]?=V.heap[a]?:=by
 simp only[cg,itW,pgW,World.alloc,gP,Array.size_push]
 repeat rw[if_neg (by omega)]
theorem cu(a i:Nat)(h:i<7):(cg V l a).heap[V.heap.size+i]?=(#[E (aM l) 107,E #[M N 0 0,U ⟨#[]⟩] 69,E #[M N 0 0,U ⟨#[]⟩] 69,E #[C l.vs,U l.p,U l.d,U l.af] 74,E #[O l.root] 33,.chan a #[] Z 0 0 Z,E #[.chan (J (V.heap.size+5))] 180]:Array Obj)[i]?:=by
 simp only[cg,itW,pgW,World.alloc,gP,Array.size_push];rcases i with - | - | - | - | - | - | - |i;all_goals first|omega|skip
 all_goals
  repeat (first|rw[if_pos (by omega)] |rw[if_neg (by omega)])
  rfl
theorem jN(a:Nat):Boxes (cg V l a) (V.heap.size+3+3) (V.heap.size+3) (V.heap.size+3+1) (V.heap.size+3+2) l.root l.vs l.p l.d l.af:=by
 have e:=cu V l a 3 (by omega);have j:=cu V l a 4 (by omega);have f:=cu V l a 6 (by omega);have c:∀ (b i:Nat) (x:Array Wx) (t:Ww),(cg V l a).heap[b]?=J (E x t)->(cg V l a).cell? ⟨b,i,N⟩=x[i]?:=λb i x t h=>by unfold World.cell?;simp[h]
 refine⟨?_,?_,?_,?_,?_,?_⟩
 .rw [c (V.heap.size+6) 0 _ _ f];rfl
 .rw [c (V.heap.size+3) 0 _ _ e];rfl
 .rw [c (V.heap.size+3) 1 _ _ e];rfl
 .rw [c (V.heap.size+3) 2 _ _ e];rfl
 .rw [c (V.heap.size+3) 3 _ _ e];rfl
 .rw [c (V.heap.size+4) 0 _ _ j];rfl
theorem pI(b:Nat):∀a:Wu,a.block<V.heap.size->(cg V l b).cell? a=V.cell? a:=λ_a h=>cB (eI V l b h)
end
theorem sO{Pre:Lst->List Wx->Wj->Prop}(hPre:Ba Pre)(l:Lst)(pn:Int)(L:List Wx)(V:Wj)(cs:List Wy)(hp:Pre l L V)(ht:Region.schedule (Yq.prog.follows .mixedOrders) Yq.drawOps (V.tape V.drawn (.order 44 100))=[1,0]):
  ∃V4:Wj,Steps Yq.prog (lone (Frame.enter Yq.prog 44 #[lV l,I K pn] .normal) cs V) (lone (pF2 V.heap.size l pn (V.heap.size+5)) cs V4) /\
   (∀b,b<V.heap.size+7->b≠V.heap.size+5->V4.heap[b]?=(cg V l 1000).heap[b]?)/\V4.heap[V.heap.size+5]?=J (.chan 1000 L.toArray Y L.length 0 Z)/\V4.os=V.os:=by
 obtain⟨Va,hVa⟩:∃Va:Wj,Va={V with drawn:=V.drawn+1}:=⟨_,rfl⟩;have e1:Va.heap=V.heap:=by rw[hVa]
 have e2:Va.os=V.os:=by rw[hVa]
 have s1:=DT (lV l) (I K pn) cs V ht;rw[<-hVa,<-sI]at s1;have s2:=DS l pn cs Va;have hcall:step Yq.prog (lone ((base 44).at ⟨kz Va.heap.size l pn,[]⟩ (.inRegion sH [4]::mD)) cs (pgW Va l))=.next (lone (Frame.enter Yq.prog 72 #[qV l.vs l.p l.d l.af,sV l.root] .normal) (pF Va.heap.size l pn::cs) (pgW Va l)):=by
  refine qK (o := { dst := J 17, op := .call { callee := .value (.func 72), args := #[.tmp 14, .tmp 16], argTypes := #[74, 33] }, type := 151, pos := "listing.go:108", after := #[{ on := 1, ground := .data }, { on := 3, ground := .data }], guard := N }) rfl rfl ?_
  have := run_call_body (P := Yq.prog) (a := ⟨kz Va.heap.size l pn, []⟩) (w := pgW Va l) (o := { dst := J 17, op := .call { callee := .value (.func 72), args := #[.tmp 14, .tmp 16], argTypes := #[74, 33] }, type := 151, pos := "listing.go:108", after := #[{ on := 1, ground := .data }, { on := 3, ground := .data }], guard := N }) rfl Yq.func72 rfl rfl
  have e:(#[.tmp 14,.tmp 16]:Array Operand).map (Act.eval ⟨kz Va.heap.size l pn,[]⟩)=#[qV l.vs l.p l.d l.af,sV l.root]:=by
   simp only[List.map_toArray,List.map_cons,List.map_nil];rfl
  rw[e]at this;exact this
 have s3:=A8 l.root l.vs l.p l.d l.af (pF Va.heap.size l pn::cs) (pgW Va l);have hsz:(pgW Va l).heap.size=V.heap.size+3:=by rw[xq,e1]
 rw[hsz]at s3;have hcw:cg Va l 1000=itW (pgW Va l) l.root l.vs l.p l.d l.af 1000:=rfl;rw[<-hcw]at s3;have hb:Boxes (cg Va l 1000) (V.heap.size+3+3) (V.heap.size+3) (V.heap.size+3+1) (V.heap.size+3+2) l.root l.vs l.p l.d l.af:=by
  have:=jN Va l 1000;rw[e1]at this;exact this
 have hpa:Pre l L (cg Va l 1000):=hPre.on V _ l L (λa ha=>by
  rw[pI Va l 1000 a (by rw[e1];exact ha)];unfold World.cell?;rw[e1]) (by rw[fk,e1];omega) hp
 have hrow:(cg Va l 1000).heap[V.heap.size+3+2]?=J (.chan 1000 #[] Z 0 0 Z):=by
  have:=cu Va l 1000 5 (by omega);rw[e1]at this;exact this
 obtain⟨w',⟨hold,hsize,hos⟩,hr',s4⟩:=sM (root0:=l.root) hb (hPre.send l L _ _ hpa hrow) (pF Va.heap.size l pn::cs);have heq:∀b:Nat,(cg Va l 1000).heap[b]?=(cg V l 1000).heap[b]?:=λb=>by
  have:(cg Va l 1000).heap=(cg V l 1000).heap:=by simp only[cg,itW,pgW,World.alloc,e1]
  rw[this]
 have hot:∀b,b≠V.heap.size+5->(eA w' (V.heap.size+3+2) 1000 L.toArray L.length 0 Z).heap[b]?=w'.heap[b]?:=λb hb=>by
  unfold eA World.setChan;exact sN (by omega)
 have hout:(eA w' (V.heap.size+3+2) 1000 L.toArray L.length 0 Z).cell? ⟨V.heap.size+3+3,0,N⟩=J (.chan (J (V.heap.size+3+2))):=by
  rw[cB (w:=cg Va l 1000) (a:=⟨V.heap.size+3+3,0,N⟩)]
  .exact hb.out
  .show (eA w' (V.heap.size+3+2) 1000 L.toArray L.length 0 Z).heap[V.heap.size+3+3]?=(cg Va l 1000).heap[V.heap.size+3+3]?;rw[hot _ (by omega)];exact hold _ (by rw[fk,e1];omega) (by omega)
 have s5:=A9 Va.heap.size (V.heap.size+3) l pn cs (eA w' (V.heap.size+3+2) 1000 L.toArray L.length 0 Z) l.root hout;refine⟨eA w' (V.heap.size+3+2) 1000 L.toArray L.length 0 Z,?_,λb h1 h2=>?_,?_,?_⟩
 .rw [<-e1];refine Steps.trans s1 (Steps.trans s2 (.head hcall (Steps.trans s3 (Steps.trans s4 ?_))));rw[e1]at s5 ⊢;exact s5
 .rw [hot b h2,<-heq];exact hold b (by rw[fk,e1];exact h1) (by omega)
 .exact heap_setChan _ _ _ _ _ _ _ _ (eS hr').1
 .exact (show w'.os=_ from hos.trans (by simp only[cg,itW,pgW,World.alloc];exact e2))
inductive RVl (ρ:Ren):List Wx->List Wx->Prop
 |nil:RVl ρ [] []
 |cons {v v':Wx} {l l':List Wx} (h:RV ρ v v') (hl:RVl ρ l l'):RVl ρ (v::l) (v'::l')
theorem RVl.len{ρ:Ren}{l a:List Wx}(h:RVl ρ l a):l.length=a.length:=by
 induction h with
 |nil=>rfl
 |cons _ _ ih=>simp[ih]
theorem RVl.at_{ρ:Ren}{l d:List Wx}(h:RVl ρ l d):∀ (i:Nat) v a,l[i]?=J v->d[i]?=J a->RV ρ v a:=by
 induction h with
 |nil=>intro i v a h;simp at h
 |cons h _ ih=>
  intro i v a b c;cases i with
  |zero=>simp at b c;subst b;subst c;exact h
  |succ i=>exact ih i v a (by simpa using b) (by simpa using c)
theorem RVl.arr{ρ:Ren}{l a:List Wx}(h:RVl ρ l a):RVs ρ l.toArray a.toArray:=⟨by simp[h.len],λi v c b d=>h.at_ i v c (by simpa using b) (by simpa using d)⟩
theorem RVl.agg{ρ:Ren}{l a:List Wx}(h:RVl ρ l a):RV ρ (.agg l.toArray) (.agg a.toArray):=.agg h.arr.size h.arr.at_
section
variable {σ:Ren} {l:Lst} {r':Option Wu}
theorem lE(h:RAo σ l.root r'):RVs σ (aM l) (aM {l with root:=r'}):=
 RVl.arr (.cons (.int _ _) (.cons (.pointer h) (.cons (.bool _) (.cons (.string _) (.cons (.string _) (.cons (.string _) (.cons (.int _ _) (.cons (.int _ _) .nil))))))))
theorem Ic(h:RAo σ l.root r'):RV σ (lV l) (lV {l with root:=r'}):=.agg (lE h).size (lE h).at_
theorem Id(a:Bool)(p d b:ByteArray):RV σ (qV a p d b) (qV a p d b):=RVl.agg (.cons (.bool _) (.cons (.string _) (.cons (.string _) (.cons (.string _) .nil))))
theorem Ie{H:Option Wu}(h:RAo σ H r'):RV σ (sV H) (sV r'):=RVl.agg (.cons (.pointer h) .nil)
end
theorem If{ρ:Ren}{l:Lst}{v':Wx}(h:RV ρ (lV l) v'):∃r',RAo ρ l.root r'/\v'=lV {l with root:=r'}:=by
 unfold lV at h;cases h with
 | @agg _ c' z a=>
  have d:c'.size=8:=by rw[<-z];rfl
  obtain⟨c⟩:=c';have b:c.length=8:=by simpa using d
  rcases c with - |⟨e,- |⟨y,- |⟨o,- |⟨m,- |⟨i,- |⟨p,- |⟨x,- |⟨n,- |⟨x8,c⟩⟩⟩⟩⟩⟩⟩⟩⟩<;>simp at b
  have j:=a 0 _ e rfl rfl;have s:=a 1 _ y rfl rfl;have f:=a 2 _ o rfl rfl;have k:=a 3 _ m rfl rfl;have r:=a 4 _ i rfl rfl;have u:=a 5 _ p rfl rfl;have q:=a 6 _ x rfl rfl;have t:=a 7 _ n rfl rfl;cases j;cases f;cases k;cases r;cases u;cases q;cases t;cases s with
  |pointer h=>exact⟨_,h,rfl⟩
theorem DW{ρ:Ren}{l:Lst}{pn:Int}{a:Array Wx}(h:RVs ρ #[lV l,I K pn] a):∃r',RAo ρ l.root r'/\a=#[lV {l with root:=r'},I K pn]:=by
 obtain⟨c⟩:=a;have b:=h.size;rcases c with - |⟨e,- |⟨i,- |⟨x2,c⟩⟩⟩<;>simp at b
 have j:=h.at_ 0 _ e rfl rfl;have f:=h.at_ 1 _ i rfl rfl;cases f;obtain⟨r',d,rfl⟩:=If j;exact⟨r',d,rfl⟩
section
variable {ρ:Ren} {V W V':Wj} {l:Lst} {r':Option Wu} {I:Nat->Prop} {ch:Nat->Prop}
theorem qN(S:bN ρ V W)(hS:ρ.F gq=Z)(z:RAo ρ l.root r')(y:∀i,I i->i<7)(m:I 5)(G:∀a b,ρ a b->V'.heap[a]?=V.heap[a]?)(t:∀i,i<7->i≠5->V'.heap[V.heap.size+i]?=(cg V l 1000).heap[V.heap.size+i]?)(j:∃k b x s q,V'.heap[V.heap.size+5]?=J (.chan k b x s q Z))(n:V'.os=V.os)(u:∀c,ch c->∃o,V'.heap[c]?=J o/\o.isChan=Y)(v:Nat):
  bN (ρ.plus V.heap.size W.heap.size I (λ_ _ h=>S.lt h) ch hS) V' ((cg W {l with root:=r'} 20).at v):=by
 refine DV S G (λb A=>eI W _ 20 A) (by rw[n];exact S.os) (λi B=>?_) u;have p:=y i B;have d:((cg W {l with root:=r'} 20).at v).heap[W.heap.size+i]?=_:=cu W {l with root:=r'} 20 i p;by_cases r:i=5
 .subst r;obtain⟨k,b,x,s,q,D⟩:=j;exact⟨_,_,D,d,.chan _ _ _ _ _ _ _ _ _ (.inl rfl) (.inl rfl)⟩
 .have e:=(t i p r).trans (cu V l 1000 i p);have f:RAo (ρ.plus V.heap.size W.heap.size I (λ_ _ h=>S.lt h) ch hS) l.root r':=RAo.re qM z;rcases i with - | - | - | - | - | - | - |i
  .exact ⟨_,_,e,d,.cells 107 (.inl rfl) (lE f)⟩
  .exact ⟨_,_,e,d,.cells 69 (.inl rfl) (RVl.arr (.cons (.slice _ _ .none) (.cons (.string _) .nil)))⟩
  .exact ⟨_,_,e,d,.cells 69 (.inl rfl) (RVl.arr (.cons (.slice _ _ .none) (.cons (.string _) .nil)))⟩
  .exact ⟨_,_,e,d,.cells 74 (.inl rfl) (RVl.arr (.cons (.bool _) (.cons (.string _) (.cons (.string _) (.cons (.string _) .nil)))))⟩
  .exact ⟨_,_,e,d,.cells 33 (.inl rfl) (RVl.arr (.cons (.pointer f) .nil))⟩
  .exact absurd rfl r
  .exact ⟨_,_,e,d,.cells 180 (.inl rfl) (RVl.arr (.cons (.chan (.some (nw m))) .nil))⟩
  .omega
end
section
variable {P:Wv} {σ:Ren} {l:Lst} {r':Option Wu} {n m c c':Nat} {pn:Int}
theorem vE(d:σ n m)(i:σ (n+1) (m+1))(o:σ (n+2) (m+2))(k:σ c c')(f:RAo σ l.root r')(e:aI P σ.F (dh (iz cf))=Y/\aI P σ.F (dh cf)=Y):RFr P σ (pF2 n l pn c) (pF2 m {l with root:=r'} pn c'):=by
 refine⟨rfl,?_,.cons (.regionEnd _ _) (.cons (.code e.1) (.cons (.code e.2) .nil)),.nil,.run,⟨rfl,rfl,by simp[pF2,Frame.at,base]⟩,.none⟩;have p:∀ {a b:Nat} (j:Nat),σ a b->RV σ (.pointer (J ⟨a,j,N⟩)) (.pointer (J ⟨b,j,N⟩)):=λj h=>.pointer (.some ⟨h,rfl,rfl⟩)
 have u:RV σ Wo Wo:=dm;exact RVl.arr (.cons (Ic f) (.cons (.int _ _) (.cons (p 0 d) (.cons u (.cons (p 0 i) (.cons (p 0 o) (.cons (.int _ _) (.cons (.int _ _) (.cons u (.cons (.int _ _) (.cons (p 6 d) (.cons (.int _ _) (.cons (.int _ _) (.cons (p 2 d) (.cons (Id _ _ _ _) (.cons (p 1 d) (.cons (Ie f) (.cons (.chan (.some k)) (.cons u (.cons u (.cons u (.cons u (.cons u (.cons u (.cons u (.cons u (.cons u (.cons u (.cons u (.cons u (.cons u (.cons u (.cons u (.cons u (.cons u (.cons u (.cons u (.cons u (.cons u (.cons u (.cons u (.cons u (.cons u (.cons u (.cons u (.cons u (.cons u (.cons u (.cons u .nil)))))))))))))))))))))))))))))))))))))))))))))))))
theorem Bb{Q:Wv}(k:CallKind)(x:(k == .early)=Z/\k≠.report){id m j l f n:Nat}(B:σ id l)(D:σ m f)(A:σ j n){fn:Func}{b:Code}(s:P.funcs[94]?=J fn)(o:Q.funcs[94]?=J fn)(t:fn.body=J b)(y:aI P σ.F b=Y):RFr P σ (Frame.enter Q 94 #[ptr id,ptr m,ptr j] .normal) (Frame.enter P 94 #[ptr l,ptr f,ptr n] k):=by
 have p:∀ {a b:Nat},σ a b->RV σ (ptr a) (ptr b):=λh=>.pointer (.some ⟨h,rfl,rfl⟩)
 have c:(Frame.enter Q 94 #[ptr id,ptr m,ptr j] .normal).todo=[.code b]:=by simp[Frame.enter,o,t]
 have d:(Frame.enter P 94 #[ptr l,ptr f,ptr n] k).todo=[.code b]:=by simp[Frame.enter,s,t]
 refine⟨rfl,?_,by rw[c,d];exact .cons (.code y) .nil,.nil,.run,⟨rfl,x.1,x.2⟩,.none⟩;have q:(Frame.enter Q 94 #[ptr id,ptr m,ptr j] .normal).tmps=#[ptr id,ptr m,ptr j]++Array.replicate (fn.ntmps-3) Wo:=by simp[Frame.enter,o]
 have r:(Frame.enter P 94 #[ptr l,ptr f,ptr n] k).tmps=#[ptr l,ptr f,ptr n]++Array.replicate (fn.ntmps-3) Wo:=by simp[Frame.enter,s]
 rw[q,r];have a:RVs σ #[ptr id,ptr m,ptr j] #[ptr l,ptr f,ptr n]:=RVl.arr (.cons (p B) (.cons (p D) (.cons (p A) .nil)));refine⟨by simp,λi v z c d=>?_⟩;rw[Array.getElem?_append]at c d;by_cases u:i<3
 .rw [if_pos (by simpa using u)]at c d;exact a.at_ i v z c d
 .rw [if_neg (by simpa using u)]at c d;simp only[Array.getElem?_replicate]at c d;split at c
  .cases c;split at d
   .cases d;exact dm
   .cases d
  .cases c
end
theorem Bc{a:Act}{c:Nat}{cs:List Wy}{w:Wj}{r:List Nat}(h:a.eval (.tmp 17)=.chan (J c)):∃z es,stepG Yq.prog Y (G (kC a (0::r)) cs) w=.comm (G (kC a (0::r)) cs) #[rcase c z] Y (.recv Y) w es:=by
 refine⟨.agg #[I K 0, U ⟨#[]⟩, I K 0], _, stepG_comm (o := { dst := J 18, op := .recv 151 (.tmp 17) Y, type := 0, pos := "listing.go:108", after := #[], guard := N }) rfl rfl (by decide) ?_⟩
 have e : execOp a.eval { dst := J 18, op := .recv 151 (.tmp 17) Y, type := 0, pos := "listing.go:108", after := #[], guard := N } = (do
  let .chan _ elem ← underlying 151 | stuck "receive: channel type expected"
  pure (.comm #[{chan:=a.eval (.tmp 17),send:=N,zero:=<-zeroValue elem}] Y (.recv Y))):=rfl
 rw[e,h];simp[go_sem,rcase]
theorem sP{v:Wx}(h:∃ (a b:Int)(s:ByteArray),v=.agg #[.int .i64 a,.string s,.int .i64 b]):Flat v:=by
 obtain⟨a,b,s,rfl⟩:=h;intro ρ;refine⟨RVl.agg (.cons (.int _ _) (.cons (.string _) (.cons (.int _ _) .nil))),λv' h=>?_⟩;cases h with
 | @agg _ c' m e=>
  obtain⟨d⟩:=c';have c:d.length=3:=by simpa using m.symm
  rcases d with - |⟨f,- |⟨l,- |⟨n,- |⟨x3,d⟩⟩⟩⟩<;>simp at c
  have k:=e 0 _ f rfl rfl;have j:=e 1 _ l rfl rfl;have i:=e 2 _ n rfl rfl;cases k;cases j;cases i;rfl
section
variable [Two Tryz.prog] [Two Yq.prog]
structure qO (G Fs Fr:FuncId->Bool):Prop where
 alt:Tryz.prog.alt=Yq.prog
 zero:bU Tryz.prog
 zero1:bU Yq.prog
 count:cq Tryz.prog
 count1:cq Yq.prog
 statS:gx Tryz.prog Fs
 statR:gx Tryz.prog Fr
 statS1:gx Yq.prog Fs
 statR1:gx Yq.prog Fr
 mark:∀f,Mk G f=Y->f=44
 s:Fs my=Z/\Fs Hx=Z/\Fs mz=Z
 smk:∀f,¬Mk Fs f=Y
 s119:Fs 94=Y
 r:Fr my=Z/\Fr gq=Z/\Fr mz=Z
 rmk:∀f,¬Mk Fr f=Y
 okG:aI Tryz.prog G (dh (iz cf))=Y/\aI Tryz.prog G (dh cf)=Y
 okR:aI Tryz.prog Fr (dh (iz cf))=Y/\aI Tryz.prog Fr (dh cf)=Y
 okR1:aI Yq.prog Fr (dh (iz cf))=Y/\aI Yq.prog Fr (dh cf)=Y
 notR:aI Tryz.prog Fr (bV Tryz.f44)=Z
theorem Bd{G Fs Fr:FuncId->Bool}(a:qO G Fs Fr){P:Wv}{n:Ww}(h:NoM P n)(b:P=Tryz.prog):NoM Yq.prog n:=by
 subst b;rw[<-a.alt];exact h
def FE(c:Nat)(h:Wk)(V:Wj):Prop:=
 ∃a,h=G (kC a [0,1]) [trap Yq.prog]/\a.eval (.tmp 17)=.chan (J c)/\∃k s q,V.heap[c]?=J (.chan k #[] Y s q Z)
def FF(c:Nat)(L:List Wx)(h:Wk)(V:Wj):Prop:=
 (h.callers=[trap Yq.prog]/\h.frame.fn=94/\h.frame.mode=.returning/\∃at_ t k,h.frame.defers=[{target:=.builtin .close at_ t k,args:=#[.chan (J c)]}])/\(h.dying=N/\h.status=.running)/\∃k s q,V.heap[c]?=J (.chan k L.toArray Z s q Z)
noncomputable def phD(T:Wk->Wj->Prop)(G Fs Fr:FuncId->Bool)(L:List Wx)(n m k:Nat)(X:List Wy×List Wy)(R0:Nat->Nat->Prop)(h0:Wk)(V0:Wj)(U:Outer):PhD Tryz.prog where
 T:=T
 Nr:=kn Yq.prog ([trap Yq.prog],[]) (λa=>a=n+5) Fr
 Tr:=FE (n+5)
 Ns:=kn Yq.prog ([trap Yq.prog],[]) (λa=>a=n+5) Fs
 Ts:=FF (n+5) L
 h0:=h0
 V0:=V0
 k:=k
 c:=m+5
 cV:=n+5
 cr:=n+5
 cs:=n+5
 X:=X
 Bs:=[dZ Tryz.prog]
 L:=L
 R0:=R0
 Fp:=G
 Fr:=Fr
 bo:=m+6
 U:=U
theorem Jp{G Fs Fr:FuncId->Bool}(c:qO G Fs Fr){T:Wk->Wj->Prop}{Post:Wx->Wj->Prop}{L:List Wx}{n m id:Nat}{D u:Wy}{cs p:List Wy}{ρ:Ren}{h0:Wk}{V0:Wj}{i:Outer}(hk:id≠0)(hL:∀v∈L,Flat v)(hT:∀h V,T h V->h.callers.length<=1)
  (hI:GId Tryz.prog ρ) (hE:fY Tryz.prog ρ.F) (x:ρ.F=G) (hS:ρ.F gq=Z) (hM:ρ.F mz=Z) (X:ρ.bad=i.bad) (hX:RFs Tryz.prog ρ ([trap Tryz.prog.alt],[]) (D::cs) (u::p)) (hlen:1<=cs.length)
  (t:∀h V,LSs Tryz.prog.alt T h0 V0 h V->pB Tryz.prog i G [] Post h V):wW Tryz.prog (phD T G Fs Fr L n m id (D::cs,u::p) ρ.rel h0 V0 i) Post where
 zero:=c.zero
 count:=c.count
 mark:=λf H fn b B P=>by
  obtain rfl:=c.mark f H;rw[func44]at B;cases B;have:bV Tryz.f44=b:=by unfold bV;rw[P];rfl
  rw[<-this];exact c.notR
 k0:=hk
 flat:=hL
 deep:=by show 2<=(D::cs).length;simp;omega
 leafT:=hT
 nr:=λh V l=>by rw[c.alt];exact l.2
 tr:=λh V l=>by
  obtain⟨a,rfl,Q,kk,s,q,j⟩:=l;refine⟨λ_=>.inl rfl,λn1 b s q R o=>?_,λy d=>?_⟩
  .have o:V.heap[n+5]?=_:=o;rw[j]at o;cases o;rfl
  .have ⟨z,es,e⟩:=Bc (cs:=[trap Yq.prog]) (w:=V.on y d) (r:=[1]) Q;rw[c.alt];exact⟨_,_,_,_,_,_,_,e,.shut (r:=n+5) rfl rfl j⟩
 ns:=λh V l=>by rw[c.alt];exact l.2
 bs:=by simp[phD]
 grow:=λh V y d h' V' l hl n b cl s q R o=>by
  rw[c.alt]at hl;exact kn.grow (w:=V.on y d) c.zero1 c.count1 c.s.2.1 (A:=λa=>a=_) rfl ⟨l.1.on y d,l.2⟩ hl o
 ts:=λh V l nn b cl s q R o=>by
  obtain⟨-,-,k2,s2,q2,j⟩:=l;have o:V.heap[n+5]?=_:=o;rw[j]at o;cases o;exact⟨rfl,rfl⟩
 close:=λh V ρs g W l S nn b s q R j=>by
  obtain⟨⟨B,P,h3,h4⟩,-⟩:=l;exact DQ func94 rfl S ⟨by rw[c.alt];exact B,P,h3,h4⟩ j
 fin:=A5 (ρ0:=ρ) (λ_ _ h=>h) hI hE hS hM (λf H=>by rw[x];exact H) (by rw[x];rfl) X hX (by show 2<=(D::cs).length;simp;omega) (by show 0<(u::p).length;simp) (by rw[x];exact t)
end
theorem dB(V:Wj)(l:Lst)(a:Nat):(cg V l a).heap[V.heap.size+5]?=J (.chan a #[] Z 0 0 Z):=cu V l a 5 (by omega)
section
variable [Two Tryz.prog] [Two Yq.prog] {Gf Fs Fr:FuncId->Bool} {Pre:Lst->List Wx->Wj->Prop} {ρ:Ren} {V W:Wj} {l:Lst} {r':Option Wu} {L:List Wx}
def DX(S:bN ρ V W)(hS:ρ.F gq=Z):Ren:=ρ.plus V.heap.size W.heap.size (λi=>3<=i/\i<7) (λ_ _ h=>S.lt h) (λa=>a=V.heap.size+5) hS
def uK(S:bN ρ V W)(hS:ρ.F gq=Z):Ren:=ρ.plus V.heap.size W.heap.size (λi=>i<7) (λ_ _ h=>S.lt h) (λa=>a=V.heap.size+5) hS
noncomputable def IV(n:Nat):Wk:=G (Frame.enter Yq.prog 94 #[ptr (n+6),ptr (n+3),ptr (n+4)] .normal) [trap Yq.prog]
noncomputable def Ji(m:Nat):Wk:=G (Frame.enter Tryz.prog 94 #[ptr (m+6),ptr (m+3),ptr (m+4)] .deferred) [dZ Tryz.prog]
theorem DY(e:qO Gf Fs Fr)(m:Ba Pre)(S:bN ρ V W)(hS:ρ.F gq=Z)(hr:RAo ρ l.root r')(hp:Pre l L V)(D:GId Tryz.prog ρ)(T:Nat):
  ∃Vs v,Snd Tryz.prog ([trap Tryz.prog.alt],[dZ Tryz.prog]) ((DX S hS).low Fs (λ_=>False) (V.heap.size+5) Z v) (IV V.heap.size) (Ji W.heap.size) Vs ((cg W {l with root:=r'} 20).at T) (V.heap.size+5) (W.heap.size+5) [] /\
   Dem Yq.prog (kn Yq.prog ([trap Yq.prog],[]) (λa=>a=V.heap.size+5) Fs) (FF (V.heap.size+5) L) (IV V.heap.size) Vs:=by
 have R:∀a b,ρ a b->(cg V l 1000).heap[a]?=V.heap[a]?:=λa b h=>eI V l 1000 (S.lt h).1
 have S3:bN (DX S hS) (cg V l 1000) ((cg W {l with root:=r'} 20).at T):=qN S hS hr (λi h=>h.2) ⟨by omega,by omega⟩ R (λ_ _ _=>rfl) ⟨_,_,_,_,_,dB V l 1000⟩ rfl (λc h=>by
  have h:c=_:=h;subst h;exact⟨_,dB V l 1000,rfl⟩) T
 have v:Fs gq=Y->Z=false:=λ_=>rfl
 have j:∀i,3<=i->i<7->(DX S hS) (V.heap.size+i) (W.heap.size+i):=λi h1 h2=>nw ⟨h1,h2⟩
 obtain⟨Vs,SS,ad,htp,hdr,hos,r,A,f,-,u⟩:=lower (F:=Fs) (live:=λ_=>False) (c:=V.heap.size+5) (c':=W.heap.size+5) (wide:=Z) (n:=1000) (b:=#[]) (cl:=Z) (s:=0) (q:=0) S3 v e.s.1 (j 5 (by omega) (by omega)) (dB W {l with root:=r'} 20) (.inr rfl) (λa h=>h.elim);refine⟨Vs,v,?_,?_⟩
 .have B:aI Tryz.prog Fs (bV Tryz.f94)=true:=e.statS.code 94 _ _ e.s119 func94 rfl;refine⟨⟨Bb (P:=Tryz.prog) (σ:=(DX S hS).low Fs (λ_=>False) (V.heap.size+5) Z v) (Q:=Yq.prog) .deferred ⟨rfl,by simp⟩ (j 6 (by omega) (by omega)) (j 3 (by omega) (by omega)) (j 4 (by omega) (by omega)) func94 (Yq.nq func94) rfl B,by rw[e.alt];exact .base,⟨λh=>?_,λ_=>rfl⟩,⟨rfl,rfl⟩,⟨rfl,rfl⟩,rfl,rfl⟩,SS,e.statS.gid (λg H=>.inl (D.glob g H)) D.prog (λh=>by rw[show(((DX S hS).low Fs (λ_=>False) (V.heap.size+5) Z v).F)=Fs from rfl,e.s.1]at h;cases h),e.statS.ext,⟨e.s.2.1,e.s.2.2⟩,e.smk,⟨rfl,rfl⟩,λx=>Iff.rfl,j 5 (by omega) (by omega),⟨_,_,_,_,_,r,rfl⟩,λa n b s q tm h=>A a _ h rfl⟩;rcases h with h|h
  .exact absurd rfl h
  .rw [e.alt]at h;simp at h
 .have o:Boxes Vs (V.heap.size+6) (V.heap.size+3) (V.heap.size+4) (V.heap.size+5) l.root l.vs l.p l.d l.af:=by
   have o:=jN V l 1000;exact⟨f _ _ _ _ (j 6 (by omega) (by omega)) o.out (.chan _),f _ _ _ _ (j 3 (by omega) (by omega)) o.q0 (.bool _),f _ _ _ _ (j 3 (by omega) (by omega)) o.q1 (.string _),f _ _ _ _ (j 3 (by omega) (by omega)) o.q2 (.string _),f _ _ _ _ (j 3 (by omega) (by omega)) o.q3 (.string _),f _ _ _ _ (j 4 (by omega) (by omega)) o.st (.pointer _)⟩
  have ac:Pre l L (cg V l 1000):=m.on V _ l L (pI V l 1000) (by rw[fk];omega) hp;have ab:Pre l L Vs:=m.low _ _ _ _ l L S3 ⟨r',RAo.re qM hr⟩ (λg H=>⟨_,.inl (D.glob g H)⟩) f (by rw[ad];exact lR _) ac;have B:aI Yq.prog Fs (bV Tryz.f94)=true:=e.statS1.code 94 _ _ e.s119 (Yq.nq func94) rfl;refine mF e.zero1 e.count1 (λg w h=>⟨by rw[h.1.1];simp,h.2.1⟩) (λg w X d=>Iff.rfl) ⟨rfl,((DX S hS).low Fs (λ_=>False) (V.heap.size+5) Z v).firm Yq.prog (Bd e ρ.noM D.prog) (V.heap.size+5),G (Frame.enter Yq.prog 94 #[ptr (W.heap.size+6),ptr (W.heap.size+3),ptr (W.heap.size+4)] .normal) [],(cg W {l with root:=r'} 20).at T,⟨Bb (P:=Yq.prog) (σ:=((DX S hS).low Fs (λ_=>False) (V.heap.size+5) Z v).firm Yq.prog (Bd e ρ.noM D.prog) (V.heap.size+5)) (Q:=Yq.prog) .normal ⟨rfl,by simp⟩ (j 6 (by omega) (by omega)) (j 3 (by omega) (by omega)) (j 4 (by omega) (by omega)) (Yq.nq func94) (Yq.nq func94) rfl B,.base,⟨λ_=>rfl,λ_=>rfl⟩,⟨rfl,rfl⟩,⟨rfl,rfl⟩,rfl,rfl⟩,xo SS (j 5 (by omega) (by omega)) u (λ_ _=>rfl) rfl r (dB W {l with root:=r'} 20) RVs.nil,e.statS1.gid (λg H=>.inl (D.glob g (by rw[Yq.globals_size]at H;exact H))) rfl (λ_ _ h=>h),e.statS1.ext,rfl,rfl,⟨rfl,λc h=>⟨W.heap.size+5,by rw[show c=V.heap.size+5 from h];exact j 5 (by omega) (by omega)⟩,rfl⟩,λ_ h=>h,e.smk⟩ (λX d=>?_);have z:=m.send l L (Vs.on X d) (V.heap.size+5) (m.on Vs _ l L (λ_ _=>rfl) (lR _) ab) r;obtain⟨fr,w',df,aa,hf,hm,hd,⟨at_,t,k,rfl⟩,-,-,-,y⟩:=sK (w:=Vs.on X d) ⟨o.out,o.q0,o.q1,o.q2,o.q3,o.st⟩ z [trap Yq.prog];exact⟨_,w',aa,⟨rfl,hf,hm,at_,t,k,hd⟩,⟨rfl,rfl⟩,_,_,_,y⟩
end
def xr:Prop:=∀ (l:Lst)(pn:Int)(L:List Wx)(n c:Nat)(w:Wj)(cs:List Wy),(∀v∈L,∃ (a b:Int)(s:ByteArray),v=.agg #[I K a,U s,I K b])->L.length<=1000->n+2<c ->
 w.heap[n]?=J (E (aM l) 107)->w.heap[n+1]?=J (E #[M N 0 0,U ⟨#[]⟩] 69)->w.heap[n+2]?=J (E #[M N 0 0,U ⟨#[]⟩] 69)->(∃k s q,w.heap[c]?=J (.chan k L.toArray Y s q Z)) ->
 ∃a d,Steps Yq.prog (lone (pF2 n l pn c) cs w) (lone (kC a [0,1]) cs d)/\a.eval (.tmp 17)=.chan (J c)/\∃k s q,d.heap[c]?=J (.chan k #[] Y s q Z)
theorem vF(l:Lst):∀ (i:Nat) v,(aM l)[i]?=J v->Good v:=λi v h=>by
 rcases i with - | - | - | - | - | - | - | - |i<;>simp[aM]at h<;>subst h
 .exact .int _ _
 .exact .pointer _
 .exact .bool _
 .exact .string _
 .exact .string _
 .exact .string _
 .exact .int _ _
 .exact .int _ _
theorem sQ:∀ (i:Nat) v,(#[.slice N 0 0,.string ⟨#[]⟩]:Array Wx)[i]?=J v->Good v:=λi v h=>by
 rcases i with - | - |i<;>simp at h<;>subst h
 .exact .slice _ _ _
 .exact .string _
section
variable [Two Tryz.prog] [Two Yq.prog] {Gf Fs Fr:FuncId->Bool} {ρ:Ren} {V W:Wj} {l:Lst} {r':Option Wu} {L:List Wx}
def own3(n a:Nat):Prop:=a=n\/a=n+1\/a=n+2
theorem DZ(f:qO Gf Fs Fr)(hR:xr)(S:bN ρ V W)(hS:ρ.F gq=Z)(hr:RAo ρ l.root r')(pn:Int)(hL:∀v∈L,∃ (a b:Int)(s:ByteArray),v=.agg #[I K a,U s,I K b])(R:L.length<=1000)(T:GId Tryz.prog ρ)(j:List Wy)(dd:Nat):
  ∃Vr t,Side Tryz.prog ([trap Tryz.prog.alt],j) ((uK S hS).low Fr (own3 V.heap.size) (V.heap.size+5) Y t) (G (pF2 V.heap.size l pn (V.heap.size+5)) [trap Yq.prog]) (G (pF2 W.heap.size {l with root:=r'} pn (W.heap.size+5)) j) Vr ((cg W {l with root:=r'} 20).at dd) (V.heap.size+5) (W.heap.size+5) L /\
   (∀ (a:Nat) o,Vr.heap[a]?=J o->o.isChan=Y->a=V.heap.size+5) /\
   Dem Yq.prog (kn Yq.prog ([trap Yq.prog],[]) (λa=>a=V.heap.size+5) Fr) (FE (V.heap.size+5)) (G (pF2 V.heap.size l pn (V.heap.size+5)) [trap Yq.prog]) Vr:=by
 have Q:∀a b,ρ a b->(cg V l 1000).heap[a]?=V.heap[a]?:=λa b h=>eI V l 1000 (S.lt h).1
 have S3:bN (uK S hS) (cg V l 1000) ((cg W {l with root:=r'} 20).at dd):=qN S hS hr (λi h=>h) (by omega) Q (λ_ _ _=>rfl) ⟨_,_,_,_,_,dB V l 1000⟩ rfl (λc h=>by
  have h:c=_:=h;subst h;exact⟨_,dB V l 1000,rfl⟩) dd
 have t:Fr gq=Y->Y=false:=λh=>by rw[f.r.2.1]at h;cases h
 have k:∀i,i<7->(uK S hS) (V.heap.size+i) (W.heap.size+i):=λi h=>nw h
 have r0:=cu V l 1000 0 (by omega);have r1:=cu V l 1000 1 (by omega);have r2:=cu V l 1000 2 (by omega);have A:∀a,own3 V.heap.size a->a≠V.heap.size+5/\∃x e z,(cg V l 1000).heap[a]?=J (E x e z)/\(∀ (i:Nat) v,x[i]?=J v->Good v)/\∀y,(uK S hS) a y->∃x',((cg W {l with root:=r'} 20).at dd).heap[y]?=J (E x' e z):=λa ha=>by
  rcases ha with rfl|rfl|rfl
  .refine ⟨by omega,_,_,_,r0,vF l,λy X=>?_⟩;obtain rfl:=(uK S hS).fn _ _ _ X (k 0 (by omega));exact⟨_,cu W {l with root:=r'} 20 0 (by omega)⟩
  .refine ⟨by omega,_,_,_,r1,sQ,λy X=>?_⟩;obtain rfl:=(uK S hS).fn _ _ _ X (k 1 (by omega));exact⟨_,cu W {l with root:=r'} 20 1 (by omega)⟩
  .refine ⟨by omega,_,_,_,r2,sQ,λy X=>?_⟩;obtain rfl:=(uK S hS).fn _ _ _ X (k 2 (by omega));exact⟨_,cu W {l with root:=r'} 20 2 (by omega)⟩
 have⟨Vr,SS,hsz,htp,hdr,hos,m,u,hcell,D,p⟩:=lower (F:=Fr) (live:=own3 V.heap.size) (c:=V.heap.size+5) (c':=W.heap.size+5) (wide:=Y) (n:=1000) (b:=L.toArray) (cl:=Y) (s:=L.length) (q:=0) S3 t f.r.1 (k 5 (by omega)) (dB W {l with root:=r'} 20) (.inl rfl) A;have H:∀ {σ:Ren},(∀a b,(uK S hS) a b->σ a b)->RAo σ l.root r':=λac=>by
  generalize l.root=x at hr;cases hr with
  |none=>exact .none
  |some h=>exact .some ⟨ac _ _ (.inl h.1),h.2⟩
 refine⟨Vr,t,?_,u,?_⟩
 .refine ⟨⟨vE (P:=Tryz.prog) (σ:=(uK S hS).low Fr (own3 V.heap.size) (V.heap.size+5) Y t) (k 0 (by omega)) (k 1 (by omega)) (k 2 (by omega)) (k 5 (by omega)) (H λ_ _ h=>h) f.okR,by rw[f.alt];exact .base,⟨λ_=>rfl,λ_=>rfl⟩,⟨rfl,rfl⟩,⟨rfl,rfl⟩,rfl,rfl⟩,SS,f.statR.gid (λg hg=>.inl (T.glob g hg)) T.prog (λh=>by rw[show(((uK S hS).low Fr (own3 V.heap.size) (V.heap.size+5) Y t).F)=Fr from rfl,f.r.1]at h;cases h),f.statR.ext,⟨f.r.2.1,f.r.2.2⟩,⟨rfl,rfl⟩,rfl,k 5 (by omega),⟨_,_,_,_,_,m,rfl⟩⟩
 .have ab:∀ {σ:Ren},RVs σ L.toArray L.toArray:=⟨rfl,λi v v' h1 h2=>by
   rw[h1]at h2;cases h2;exact(sP (hL v (by
    have:L[i]?=J v:=by simpa using h1
    exact List.mem_of_getElem? this)) _).1⟩
  refine mF f.zero1 f.count1 (λg w h=>?_) (λg w τ d=>Iff.rfl) ⟨rfl,((uK S hS).low Fr (own3 V.heap.size) (V.heap.size+5) Y t).firm Yq.prog (Bd f ρ.noM T.prog) (V.heap.size+5),G (pF2 W.heap.size {l with root:=r'} pn (W.heap.size+5)) [],((cg W {l with root:=r'} 20).at dd).setChan (W.heap.size+5) 20 L.toArray Y 0 0 Z,⟨vE (P:=Yq.prog) (σ:=((uK S hS).low Fr (own3 V.heap.size) (V.heap.size+5) Y t).firm Yq.prog (Bd f ρ.noM T.prog) (V.heap.size+5)) (k 0 (by omega)) (k 1 (by omega)) (k 2 (by omega)) (k 5 (by omega)) (H λ_ _ h=>h) f.okR1,.base,⟨λ_=>rfl,λ_=>rfl⟩,⟨rfl,rfl⟩,⟨rfl,rfl⟩,rfl,rfl⟩,xo SS (k 5 (by omega)) p (λb hb=>aP _ _ _ _ _ _ _ _ hb) rfl m (heap_setChan _ _ _ _ _ _ _ _ (eS (dB W {l with root:=r'} 20)).1) ab,f.statR1.gid (λg hg=>.inl (T.glob g (by rw[Yq.globals_size]at hg;exact hg))) rfl (λ_ _ h=>h),f.statR1.ext,rfl,rfl,⟨rfl,λc h=>⟨W.heap.size+5,by rw[show c=V.heap.size+5 from h];exact k 5 (by omega)⟩,rfl⟩,λ_ h=>h,f.rmk⟩ (λτ d=>?_)
  .obtain ⟨a,rfl,-⟩:=h;exact⟨by simp[G],rfl,rfl⟩
  .obtain ⟨a,w',hs,aa,B⟩:=hR l pn L V.heap.size (V.heap.size+5) (Vr.on τ d) [trap Yq.prog] hL R (by omega) ((D _ (.inl rfl)).trans r0) ((D _ (.inr (.inl rfl))).trans r1) ((D _ (.inr (.inr rfl))).trans r2) ⟨_,_,_,m⟩;exact⟨_,w',hs,a,rfl,aa,B⟩
end
theorem Gr(m:Nat)(l:Lst)(root:Option Wu)(cs:List Wy)(w:Wj):stepG Tryz.prog Y (G ((base 72).at ⟨fx m root l.vs l.p l.d l.af (ew m),[]⟩ [.inRegion vB [1],.code jB]) cs) w=.spawn (G ((base 72).at ⟨fx m root l.vs l.p l.d l.af (ew m),[]⟩ [.inRegion vB [],.code jB]) cs) (born Tryz.prog {target:=.fn (.func 94) #[ptr (m+3),ptr m,ptr (m+1)],args:=#[]}) w #[]:=by
 have hr : (execOp (Act.eval ⟨fx m root l.vs l.p l.d l.af (ew m), []⟩) { dst := N, op := .go { callee := .value (.tmp 7), args := #[], argTypes := #[] }, type := 0, pos := "items.go:22", after := #[{ on := 0, ground := .data }], guard := N }).run Tryz.prog w = .ok (.spawn { target := .fn (.func 94) #[ptr (m + 3), ptr m, ptr (m + 1)], args := #[] }) w := by
  simp[go_sem,Act.eval,fx,ew]
 have := stepG_spawn (P := Tryz.prog) (main := Y) (b := base 72) (a := ⟨fx m root l.vs l.p l.d l.af (ew m), []⟩) (k := [.code jB]) (cs := cs) (w := w) (ops := vB) (i := 1) (rest := []) (o := { dst := N, op := .go { callee := .value (.tmp 7), args := #[], argTypes := #[] }, type := 0, pos := "items.go:22", after := #[{ on := 0, ground := .data }], guard := N }) rfl rfl (by decide) hr rfl
 rw[this]
 have hl : listed Tryz.prog (base 72).fn ⟨fx m root l.vs l.p l.d l.af (ew m), []⟩ { dst := N, op := .go { callee := .value (.tmp 7), args := #[], argTypes := #[] }, type := 0, pos := "items.go:22", after := #[{ on := 0, ground := .data }], guard := N } w = #[] := listed_nil (by simp[go_sem, Act.eval, fx, ew])
 rw[hl];rfl
theorem Be{Q : Wv} {i : Nat} {fn : Func} (h : Q.funcs[i]? = J fn) (hn : (fn.name == "runtime.NumGoroutine") = Z) (hb : fn.body.isNone = Z) (args : Array Wx) (w : Wj) : (callFunc i args).runT Q w #[] = (.ok (.enter i args) w, #[]) := by
 show Sem.runT Q (match Q.funcs[i]? with|none=>_|some fn=>_) w #[]=_;rw[h];simp only[hn,hb];rfl
theorem Bf(m:Nat)(w:Wj):stepG Tryz.prog Z (born Tryz.prog {target:=.fn (.func 94) #[ptr (m+6),ptr (m+3),ptr (m+4)],args:=#[]}) w=.go (Ji m) w #[]:=by
 have a:(callFunc 94 #[ptr (m+6),ptr (m+3),ptr (m+4)]).runT Tryz.prog w #[]=(.ok (.enter 94 #[ptr (m+6),ptr (m+3),ptr (m+4)]) w,#[]):=Be func94 rfl rfl _ w;have b:(invoke (.fn (.func 94) #[ptr (m+6),ptr (m+3),ptr (m+4)]) #[]).runT Tryz.prog w #[]=(.ok (.enter 94 #[ptr (m+6),ptr (m+3),ptr (m+4)]) w,#[]):=by
  unfold invoke;simpa using a
 have c:stepG Tryz.prog Z (born Tryz.prog {target:=.fn (.func 94) #[ptr (m+6),ptr (m+3),ptr (m+4)],args:=#[]}) w=callDeferred Tryz.prog (dZ Tryz.prog) [] N {target:=.fn (.func 94) #[ptr (m+6),ptr (m+3),ptr (m+4)],args:=#[]} w:=rfl;rw[c];unfold callDeferred;simp only[b];rfl
section
variable [Two Tryz.prog] [Two Yq.prog] {Gf Fs Fr:FuncId->Bool} {Pre:Lst->List Wx->Wj->Prop}
structure FG (Pre:Lst->List Wx->Wj->Prop)(R:(Nat->Question->Nat)->Nat->Ending->Wj->Prop):Prop where
 stop:∀τ d x y e u,R τ d (.panicked (stopEntry x y::e)) u->∃l pn L,x=lV l/\y=I K pn/\Pre l L u
theorem pa{R:(Nat->Question->Nat)->Nat->Ending->Wj->Prop}(c:qO Gf Fs Fr)(m:FG Pre R)(t:∀l L V u,Ce V u->Pre l L u->Pre l L V){v' y:Wx}{s B:Wy}{cs v:List Wy}{V W:Wj}{ρ:Ren}{a:Outer}
  (f:Rel Tryz.prog a Gf [] ρ {frame:=s,callers:=cs,status:=.running,dying:=N} {frame:=B,callers:=v,status:=.running,dying:=N} V W)
  (hD:Dem Yq.prog (λg _=>NB [trap Yq.prog] g) (Ends Yq.prog f0 R) {frame:=Frame.enter Yq.prog 44 #[v',y] .normal,callers:=s::cs,status:=.running,dying:=N} V):
  ∃l pn L,v'=lV l/\y=I K pn/\Pre l L V:=by
 have j:(ρ.F gq||ρ.F mz)=false:=by rw[f.calm,f.quiet.1];rfl
 have hlen:1<=cs.length:=by
  have:=f.go.callers.len1;simpa using this
 have i:=f.go.callers;rw[c.alt]at i;have H:=Dem.on (λ_ _ _ _ h=>h) (λg w z d=>Ends.on z d) hD (λ_ _=>0) 0;obtain⟨p,D,hm,T,X⟩:=sJ v' y (s::cs) (V.on (λ_ _=>0) 0) Ib;obtain⟨k,hk⟩:=D;obtain⟨-,G⟩:=A7 (λg w h=>pE h) k _ _ H rfl {frame:=p,callers:=s::cs,status:=.running,dying:=N} _ hk rfl (by simp;omega);have n:p.catches Yq.prog=false:=by unfold Frame.catches;rw[X,Yq.func44]
 have⟨z,d,e,u,hR,hC⟩:=Gk (ρ:=ρ) (en:=stopEntry v' y) (V:=V) G [] hm rfl n (by rw[T];exactλd h=>by cases h) (.cons (fh f.go.frame _).1 (f.go.frame.defers.marks j) (RFs.fl j i)) (λr b Q l0 q=>by
  have⟨o,o',P,S,A⟩:=f.sim.obj r b Q;have q:V.heap[r]?=_:=q;rw[P]at q;cases q;cases A with
  |deferred h=>exact h.marks j) ⟨rfl,λ_=>rfl⟩
 have⟨l,pn,L,P,S,A⟩:=m.stop z d v' y e u hR;exact⟨l,pn,L,P,S,t l L V u hC A⟩
theorem yS{R:(Nat->Question->Nat)->Nat->Ending->Wj->Prop}{Post:Wx->Wj->Prop}{n:Outer}(m:qO Gf Fs Fr)(D:Ba Pre)(be:xr)(bk:FG Pre R)(cd:∀l L V u,Ce V u->Pre l L u->Pre l L V):vt Tryz.prog n Gf [] (Ends Yq.prog f0 R) Post:=by
 intro f a a' T A cs s V W ρ hM ⟨bi,cm⟩ r hD bb gs sl t q h0 hL hP;obtain rfl:f=44:=m.mark f (by rw[<-r.same];exact hM);obtain⟨al⟩:=a;rcases al with - |⟨x,- |⟨y,- |⟨z,al⟩⟩⟩<;>simp at cm
 have a9:=hD;rw[m.alt]at a9;obtain⟨l,pn,L,rfl,rfl,hp⟩:=pa m bk cd r a9;obtain⟨r',hr,rfl⟩:=DW bi;have bn:1<=cs.length:=by
  have:=r.go.callers.len1;simpa using this
 have hS:=r.calm;have bs:=r.quiet.1;have hX:RFs Tryz.prog ρ ([trap Tryz.prog.alt],[]) (T::cs) (A::s):=.cons r.go.frame r.go.kind r.go.callers;have b0:=Dem.on (λ_ _ _ _ h=>h) (λg w τ d=>Ends.on τ d) a9 (λ_ _=>1) 0;obtain⟨V4,⟨k4,ch⟩,a0,ar,av⟩:=sO D l pn L (V.on (λ_ _=>1) 0) (T::cs) (D.on V _ l L (λ_ _=>rfl) (lR _) hp) Ia;obtain⟨b6,b7⟩:=A7 (λg w h=>pE h) k4 _ _ b0 rfl {frame:=pF2 V.heap.size l pn (V.heap.size+5),callers:=T::cs,status:=.running,dying:=N} V4 ch rfl (by simp;omega);have a6:LSs Yq.prog (Ends Yq.prog f0 R) {frame:=Frame.enter Yq.prog 44 #[lV l,I K pn] .normal,callers:=T::cs,status:=.running,dying:=N} V {frame:=pF2 V.heap.size l pn (V.heap.size+5),callers:=T::cs,status:=.running,dying:=N} V4:=by
  rcases LSs.on (λg w τ d=>Ends.on τ d) b6 with⟨e,-⟩|h
  .exfalso;have:=congrArg (λg:Wk=>g.frame.todo) e;rw[pG]at this;cases this
  .exact h
 have a0:∀b,b<V.heap.size+7->b≠V.heap.size+5->V4.heap[b]?=(cg V l 1000).heap[b]?:=a0;have ar:V4.heap[V.heap.size+5]?=J (.chan 1000 L.toArray Y L.length 0 Z):=ar;have av:V4.os=V.os:=av;have H:∀a b,ρ a b->V4.heap[a]?=V.heap[a]?:=λa b h=>by
  have:=(r.sim.lt h).1;exact(a0 a (by omega) (by omega)).trans (eI V l 1000 this)
 have hsz:W.heap.size+7=W.heap.size+7:=rfl;refine xn (B:=W.heap.size+7) (Gm {l with root:=r'} pn (A::s) W (W.heap.size+7) rfl (λdd=>?_)) gs sl t q h0 hL (hP.mono (by omega));have a4:((pgW W {l with root:=r'}).at dd).heap.size=W.heap.size+3:=xq W _;refine xn (DR _ _ r' l.vs l.p l.d l.af ((pgW W {l with root:=r'}).at dd) (W.heap.size+7) (by rw[a4]) (λd2=>?_));intro b8 cp t1 q1 Q ca b1;have bx:∀d3,(itW ((pgW W {l with root:=r'}).at dd) r' l.vs l.p l.d l.af 20).at d3=(cg W {l with root:=r'} 20).at d3:=λ_=>rfl
 rw[a4]at Q;rw[bx];have⟨Vs,bo,bq,cr⟩:=DY m D r.sim hS hr hp r.gid 0;have⟨Vr,a3,a7,a8,b5⟩:=DZ m be r.sim hS hr pn (D.item l L V hp) (D.len l L V hp) r.gid (A::s) 0;refine A6 (W:=cg W {l with root:=r'} 20) (g:=G ((base 72).at ⟨fx (W.heap.size+3) r' l.vs l.p l.d l.af (ew (W.heap.size+3)),[]⟩ [.inRegion vB [1],.code jB]) (pF W.heap.size {l with root:=r'} pn::A::s)) rfl (λd=>Gr (W.heap.size+3) l r' _ _)
  (ρr:=(uK r.sim hS).low Fr (own3 V.heap.size) (V.heap.size+5) Y a3) (ρs:=(DX r.sim hS).low Fs (λ_=>False) (V.heap.size+5) Z bo) (λck cl t2 q2 d k b9 b4 cb cv cc=>?_) b8 cp t1 q1 d2 Q ca (by rw[fk];exact b1)
 have O:wW Tryz.prog (phD (Ends Yq.prog f0 R) Gf Fs Fr L V.heap.size W.heap.size k (T::cs,A::s) ρ.rel {frame:=Frame.enter Yq.prog 44 #[lV l,I K pn] .normal,callers:=T::cs,status:=.running,dying:=N} V n) Post:=
  Jp m b9 (λv hv=>sP (D.item l L V hp v hv)) (λh V hT=>by obtain⟨_,_,_,_,_,_,_,rfl,-⟩:=hT;simp) r.gid r.ext r.same hS bs r.out.2.2.2.2 hX bn (λh V2 hl=>bb h V2 (by rw[m.alt]at hl ⊢;exact hl))
 have bp:∀c,(c=V.heap.size+5\/∃b o,ρ c b/\V.heap[c]?=J o/\o.isChan=Y)->∃o,V4.heap[c]?=J o/\o.isChan=true:=λc h=>by
  rcases h with rfl|⟨b,o,Q,h2,h3⟩
  .exact ⟨_,ar,rfl⟩
  .exact ⟨o,(H c b Q).trans h2,h3⟩
 have SA:bN (ρ.plus V.heap.size W.heap.size (λi=>i<7) (λ_ _ h=>r.sim.lt h) (λc=>c=V.heap.size+5\/∃b o,ρ c b/\V.heap[c]?=J o/\o.isChan=Y) hS) V4 ((cg W {l with root:=r'} 20).at d):=
  qN r.sim hS hr (λi h=>h) (by omega) H (λi h h5=>a0 _ (by omega) (by omega)) ⟨_,_,_,_,_,ar⟩ av bp d
 have aa:∀i,i<7->(ρ.plus V.heap.size W.heap.size (λi=>i<7) (λ_ _ h=>r.sim.lt h) (λc=>c=V.heap.size+5\/∃b o,ρ c b/\V.heap[c]?=J o/\o.isChan=Y) hS) (V.heap.size+i) (W.heap.size+i):=λi h=>nw h
 generalize hρA:ρ.plus V.heap.size W.heap.size (λi=>i<7) (λ_ _ h=>r.sim.lt h) (λc=>c=V.heap.size+5\/∃b o,ρ c b/\V.heap[c]?=J o/\o.isChan=Y) hS=X at SA aa;have ac:X.F=Gf:=by subst hρA;exact r.same
 have a2:∀a b,X a b->ρ a b\/∃i,i<7/\a=V.heap.size+i/\b=W.heap.size+i:=λa b h=>by subst hρA;exact h
 have S:∀a b,ρ a b->X a b:=λa b h=>by subst hρA;exact .inl h
 have cj:RAo X l.root r':=by
  generalize l.root=x at hr;cases hr with
  |none=>exact .none
  |some h=>exact .some ⟨S _ _ h.1,h.2⟩
 have RR:oV (phD (Ends Yq.prog f0 R) Gf Fs Fr L V.heap.size W.heap.size k (T::cs,A::s) ρ.rel {frame:=Frame.enter Yq.prog 44 #[lV l,I K pn] .normal,callers:=T::cs,status:=.running,dying:=N} V n) X ((uK r.sim hS).low Fr (own3 V.heap.size) (V.heap.size+5) Y a3) ((cg W {l with root:=r'} 20).at d) {frame:=pF2 V.heap.size l pn (V.heap.size+5),callers:=T::cs,status:=.running,dying:=N} (G (pF2 V.heap.size l pn (V.heap.size+5)) [trap Yq.prog]) (G (pF2 W.heap.size {l with root:=r'} pn (W.heap.size+5)) (A::s)) V4 Vr L:=by
  refine⟨⟨⟨vE (P:=Tryz.prog) (σ:=X) (aa 0 (by omega)) (aa 1 (by omega)) (aa 2 (by omega)) (aa 5 (by omega)) cj (by rw[ac];exact m.okG),.base,⟨λ_=>rfl,λ_=>rfl⟩,⟨rfl,rfl⟩,⟨rfl,rfl⟩,rfl,rfl⟩,SA,?_,by rw[ac,<-r.same];exact r.ext,⟨by rw[ac,<-r.same];exact hS,by rw[ac,<-r.same];exact bs⟩,by subst hρA;exact⟨rfl,rfl⟩,by subst hρA;exact .inl rfl,aa 5 (by omega),⟨_,_,_,_,_,ar,rfl⟩⟩,a7.stays rfl (λ_ _ _ _=>rfl) rfl,a8,λx h=>h,⟨m.rmk,rfl⟩,⟨S,ac⟩,λa b o bd ho hc=>?_,λa b ap bd a5=>?_⟩
  .have hg:=r.gid;subst hρA;exact⟨λg h=>.inl (hg.glob g h),hg.prog,hg.code,hg.alt,λ_ _ h=>h,hg.same,hg.size,hg.apart⟩
  .have ap:(a=V.heap.size+5\/∃b o,ρ a b/\V.heap[a]?=J o/\o.isChan=Y):=by
    rcases a2 a b bd with h|⟨i,hi,rfl,rfl⟩
    .exact .inr ⟨b,o,h,by rw[<-H a b h];exact ho,hc⟩
    .by_cases h5:i=5
     .subst h5;exact .inl rfl
     .exfalso;rw[a0 _ (by omega) (by omega),cu V l 1000 i hi]at ho;rcases i with - | - | - | - | - | - | - |i;all_goals first|omega|(cases ho;cases hc)
   subst hρA;exact ap
  .have a5:a≠V.heap.size+5:=a5;have ap:(a=V.heap.size+5\/∃b o,ρ a b/\V.heap[a]?=J o/\o.isChan=Y):=by subst hρA;exact ap
   rcases ap with h|⟨b2,o,Q,h2,h3⟩
   .exact absurd h a5
   .obtain rfl:b2=b:=X.fn _ _ _ (S _ _ Q) bd;obtain⟨n1,s1,q1',tm1,rfl⟩:=r.quiet.2 a b2 o Q h2 h3;have⟨o1,o2,e1,e2,e3⟩:=r.sim.obj a b2 Q;rw[h2]at e1;cases e1;cases e3 with
    | @chan _ cap' _ b' _ cl' _ _ s' q' _ hb ct=>
     have hb:RVs ρ #[] b':=hb.resolve_left (by rw[r.firm.1];exactλh=>by cases h);obtain rfl:=ct.resolve_left (by rw[r.firm.2];exactλh=>by cases h);obtain rfl:b'=#[]:=Array.eq_empty_of_size_eq_zero (by rw[<-hb.size];rfl);exact⟨_,_,_,_,_,_,_,(H a b2 Q).trans h2,(eI W _ 20 (r.sim.lt Q).2).trans e2⟩
 have ab:∀a b,((uK r.sim hS).low Fr (own3 V.heap.size) (V.heap.size+5) Y a3) a b->ρ a b\/∃i,i<7/\a=V.heap.size+i/\b=W.heap.size+i:=λa b h=>h
 have a1:∀a b,((DX r.sim hS).low Fs (λ_=>False) (V.heap.size+5) Z bo) a b->ρ a b\/∃i,(3<=i/\i<7)/\a=V.heap.size+i/\b=W.heap.size+i:=λa b h=>h
 have bv:∀x y b,(ρ x b\/∃i,i<7/\x=V.heap.size+i/\b=W.heap.size+i)->(ρ y b\/∃i,(3<=i/\i<7)/\y=V.heap.size+i/\b=W.heap.size+i)->x=y/\¬own3 V.heap.size y:=λx y b Q h2=>by
  rcases Q with Q|⟨i,hi,Q,h3⟩<;>rcases h2 with h2|⟨j,hj,h2,h4⟩
  .have:=(r.sim.lt h2).1;exact⟨ρ.inj _ _ _ Q h2,λh=>by rcases h with h|h|h<;>omega⟩
  .have:=(r.sim.lt Q).2;omega
  .have:=(r.sim.lt h2).2;omega
  .exact ⟨by omega,λh=>by rcases h with h|h|h<;>omega⟩
 have b3:((uK r.sim hS).low Fr (own3 V.heap.size) (V.heap.size+5) Y a3) (V.heap.size+6) (W.heap.size+6):=.inr ⟨6,by omega,rfl,rfl⟩;have bt:Dem Tryz.prog.alt (phD (Ends Yq.prog f0 R) Gf Fs Fr L V.heap.size W.heap.size k (T::cs,A::s) ρ.rel {frame:=Frame.enter Yq.prog 44 #[lV l,I K pn] .normal,callers:=T::cs,status:=.running,dying:=N} V n).Ns (phD (Ends Yq.prog f0 R) Gf Fs Fr L V.heap.size W.heap.size k (T::cs,A::s) ρ.rel {frame:=Frame.enter Yq.prog 44 #[lV l,I K pn] .normal,callers:=T::cs,status:=.running,dying:=N} V n).Ts (IV V.heap.size) Vs:=by rw[m.alt];exact cr
 have bl:Dem Tryz.prog.alt (phD (Ends Yq.prog f0 R) Gf Fs Fr L V.heap.size W.heap.size k (T::cs,A::s) ρ.rel {frame:=Frame.enter Yq.prog 44 #[lV l,I K pn] .normal,callers:=T::cs,status:=.running,dying:=N} V n).Nr (phD (Ends Yq.prog f0 R) Gf Fs Fr L V.heap.size W.heap.size k (T::cs,A::s) ρ.rel {frame:=Frame.enter Yq.prog 44 #[lV l,I K pn] .normal,callers:=T::cs,status:=.running,dying:=N} V n).Tr (G (pF2 V.heap.size l pn (V.heap.size+5)) [trap Yq.prog]) Vr:=by rw[m.alt];exact b5
 refine Ge O bl _ _ bt ck ((cg W {l with root:=r'} 20).at d) cl t2 q2 X _ _ _ _ L [] [] [] 20 0 0 Z 14 2
  (.pre 12 RR (by rw[m.alt];exact b7) (by rw[m.alt];exact a6) ⟨⟨_,b3,λh=>?_⟩,?_⟩ (vD W.heap.size (W.heap.size+3) {l with root:=r'} pn (A::s) ((cg W {l with root:=r'} 20).at d) r' (jN W {l with root:=r'} 20).out))
  (.new (bq.stays rfl (λ_ _ _ _=>rfl) rfl) (λv=>Bf W.heap.size v) rfl) ⟨_,dB W {l with root:=r'} 20,rfl⟩ (by omega) rfl rfl ?_ ?_ b4 cb cv cc
 .have h:V.heap.size+6=V.heap.size+5:=h;omega
 .show W.heap.size+6≠W.heap.size+5;omega
 .intro b x y hx hy;obtain⟨rfl,ho⟩:=bv x y b (ab _ _ hx) (a1 _ _ hy);by_cases h5:x=V.heap.size+5
  .exact .inr ⟨h5,h5⟩
  .exact .inl ⟨⟨⟨b,hx⟩,ho,h5⟩,⟨b,hy⟩,(λh=>h),h5⟩
 .have bw:∀i,¬n.Ko (W.heap.size+i):=λi h=>by
   have:=n.lt _ h;have:=r.out.1.1;omega
  have ad:∀a b,(ρ a b\/∃i,i<7/\a=V.heap.size+i/\b=W.heap.size+i)->¬n.Ko b:=λa b h=>by
   rcases h with h|⟨i,-,-,rfl⟩
   .exact r.out.2.1 a b h
   .exact bw i
  refine⟨λb x y hx hy=>?_,⟨⟨?_,?_,λb hb=>?_⟩,⟨λa b h=>ad a b (a2 a b h),λa b h=>S a b (r.out.2.2.1 a b h),by rw[<-hρA];exact r.out.2.2.2⟩,⟨λa b h=>ad a b (ab a b h),λa b h=>.inl (r.out.2.2.1 a b h),r.out.2.2.2⟩,bw 5⟩,⟨λa b h=>ad a b ((a1 a b h).imp id (λ⟨i,Q,h2⟩=>⟨i,Q.2,h2⟩)),λa b h=>.inl (r.out.2.2.1 a b h),r.out.2.2.2⟩⟩
  .by_cases h5:y=V.heap.size+5
   .exact .inr h5
   .exact .inl ⟨⟨b,hy⟩,(λh=>h),h5⟩
  .have:=r.out.1.1;show n.W0.heap.size<=(cg W {l with root:=r'} 20).heap.size;rw[fk];omega
  .exact r.out.1.2.1
  .have Q:=n.lt b hb;have h2:=r.out.1.1;exact(eI W {l with root:=r'} 20 (by omega)).trans (r.out.1.2.2 b hb)
end
def qP(P:Wv)(D0:Nat->Prop)(F:FuncId->Bool)(pin:Nat->Option (Array Wx))(hb:NoM P 3):Ren where
 rel:=λa b=>a=b/\D0 a
 fn:=λ_a _b _b' h1 h2=>h1.1.symm.trans h2.1
 inj:=λ_a _a' _b h1 h2=>h1.1.trans h2.1.symm
 prog:=P
 F:=F
 old:=λ_=>False
 ch:=λ_=>False
 loose:=Z
 wide:=Z
 tight:=λ_=>rfl
 pin:=pin
 bad:=3
 noM:=hb
structure Start (W:Wj)(D0:Nat->Prop):Prop where
 rows:∀b,D0 b->∃c e z,W.heap[b]?=J (E c e z)
 glob:∀g,g<Tryz.prog.globals.size->D0 g
theorem D1{ρ:Ren}{v:Wx}(h:mX v=Y):RV ρ v v:=by
 cases v with
 |bool b=>exact .bool b
 |int k n=>exact .int k n
 |string s=>exact .string s
 |pointer a=>cases a with
  |none=>exact .pointer .none
  |some a=>cases h
 |slice a n c=>cases a with
  |none=>exact .slice n c .none
  |some a=>cases h
 |map r=>cases r with
  |none=>exact .map .none
  |some r=>cases h
 |chan r=>cases r with
  |none=>exact .chan .none
  |some r=>cases h
 |nilFunc=>exact .nilFunc
 |nilIface=>exact .nilIface
 |_=>cases h
theorem D2{ρ:Ren}{z a:Wx}(h:mX z=Y)(k:RV ρ z a):a=z:=by
 cases k with
 |bool|int|string|nilFunc|nilIface=>rfl
 |pointer k=>cases k with
  |none=>rfl
  |some _=>cases h
 |slice n c k=>cases k with
  |none=>rfl
  |some _=>cases h
 |map k=>cases k with
  |none=>rfl
  |some _=>cases h
 |chan k=>cases k with
  |none=>rfl
  |some _=>cases h
 |_=>cases h
structure mG (u v:Wx):Prop where
 rel:∀ρ:Ren,ρ.bad=3->RV ρ u v
 one:mX v=Y->u=v
 no:mX v=Z->iF u=Z\/∀ (ρ:Ren) v',RV ρ u v'->v'=v
theorem Bg:∀ (n:Nat)(v:Wx),SizeOf.sizeOf v<n->∃u,mG u v:=by
 intro n;induction n with
 |zero=>intro v h;omega
 |succ n ih=>
  intro v hn;have dead:iD v=Y->mX v=Z->∃u,mG u v:=λh1 h2=>⟨.tuple #[],λ_ _=>.dead v h1,(λh=>by rw[h2]at h;cases h),λ_=>.inl rfl⟩
  have self:mX v=Y->∃u,mG u v:=λh=>⟨v,λ_ _=>D1 h,λ_=>rfl,λh2=>by rw[h]at h2;cases h2⟩
  cases v with
  |agg c=>
   obtain⟨c0,h0,h1⟩:=om (c:=c) (c':=c) (Q:=λv _ u=>mG u v) rfl (λi v v' hv _=>ih v (by
    have:=Array.sizeOf_lt_of_mem (Array.mem_of_getElem? hv);simp only[Value.agg.sizeOf_spec]at hn;omega))
   refine⟨.agg c0,λρ hb=>.agg h0 (λi u v k1 k2=>?_),λh=>(by cases h),λ_=>.inl rfl⟩;have⟨u2,e,k⟩:=h1 i v v k2 k2;rw[k1]at e;cases e;exact k.rel ρ hb
  |pointer a=>cases a with
   |none=>exact self rfl
   |some a=>exact dead rfl rfl
  |slice a n c=>cases a with
   |none=>exact self rfl
   |some a=>exact dead rfl rfl
  |map a=>cases a with
   |none=>exact self rfl
   |some a=>exact dead rfl rfl
  |chan a=>cases a with
   |none=>exact self rfl
   |some a=>exact dead rfl rfl
  |func f a c=>cases f with
   |method s=>
    refine⟨.func (.method "") #[.iface 3 (.func (.method s) a c)] #[], fun ρ hb => .odd 3 s a c hb.symm, fun h => (by cases h), fun _ => .inr (fun ρ v' h => ?_)⟩
    cases h with
    |func hf=>cases hf
    |odd=>rfl
   |_=>exact dead rfl rfl
  |bool|int|string|nilFunc|nilIface=>exact self rfl
  |_=>exact dead rfl rfl
theorem yT(c:Array Wx):∃a:Array Wx,a.size=c.size/\∀ (i:Nat) v,c[i]?=J v->∃u,a[i]?=J u/\mG u v:=by
 obtain⟨a,e,d⟩:=om (c:=c) (c':=c) (Q:=λv _ u=>mG u v) rfl (λi v v' _ _=>Bg _ v (Nat.lt_succ_self _));exact⟨a,e,λi v b=>d i v v b b⟩
structure Clean (D0:Nat->Prop)(W V:Wj):Prop where
 os:V.os=W.os
 size:V.heap.size=W.heap.size
 rest:∀b,¬D0 b->V.heap[b]?=W.heap[b]?
 row:∀b,D0 b->∃c c0 e z,W.heap[b]?=J (E c e z)/\V.heap[b]?=J (E c0 e z)/\c0.size=c.size/\∀ (i:Nat) v,c[i]?=J v->∃u,c0[i]?=J u/\mG u v
theorem D3{W:Wj}(h:Start W D0):∃V,Clean D0 W V:=by
 classical
 have d:∀b:Nat,∃o:Obj,(D0 b->∃c j e z,W.heap[b]?=J (E c e z)/\o=E j e z/\j.size=c.size/\∀ (i:Nat) v,c[i]?=J v->∃u,j[i]?=J u/\mG u v)/\(¬D0 b->b<W.heap.size->W.heap[b]?=J o):=λb=>by
  by_cases m:D0 b
  .have ⟨c,e,z,p⟩:=h.rows b m;have⟨j,r,q⟩:=yT c;exact⟨E j e z,λ_=>⟨c,j,e,z,p,rfl,r,q⟩,λk=>absurd m k⟩
  .by_cases l:b<W.heap.size
   .exact ⟨W.heap[b],λk=>absurd k m,λ_ _=>eG l⟩
   .exact ⟨.coro N,λk=>absurd k m,λ_ k=>absurd k l⟩
 have⟨f,d⟩:=Classical.skolem.1 d;refine⟨{W with heap:=Array.ofFn (n:=W.heap.size) λa=>f a.1},rfl,by simp,λb l=>?_,λb l=>?_⟩
 .by_cases hlt:b<W.heap.size
  .rw [(d b).2 l hlt];simp[hlt]
  .rw [Array.getElem?_eq_none (by simpa using hlt),Array.getElem?_eq_none (by omega)]
 .have ⟨c,j,e,z,p,r,q⟩:=(d b).1 l;have hlt:=(eS p).1;exact⟨c,j,e,z,p,by simp[hlt,r],q⟩
theorem Clean.cell{W V:Wj}{D0:Nat->Prop}(h:Clean D0 W V){a:Wu}{v:Wx}(b:W.cell? a=J v)(k:mX v=Y):V.cell? a=J v:=by
 unfold World.cell? at b ⊢;by_cases d:D0 a.block
 .obtain ⟨c,c0,e,z,f,i,-,l⟩:=h.row _ d;rw[f]at b;rw[i];simp only at b ⊢;split at b
  .cases b
  .rename_i m;obtain⟨u,j,n⟩:=l _ _ b;rw[if_neg m,j,n.one k]
 .rw [h.rest _ d];exact b
noncomputable def kD(W:Wj)(D0:Nat->Prop)(b:Nat):Option (Array Wx):=by
 classical
 exact if D0 b then match W.heap[b]? with|some (E c _ _)=>J c|_=>N else N
theorem sR{W V:Wj}(h:Clean D0 W V)(P:Wv)(F:FuncId->Bool)(s:NoM P 3):bN (qP P D0 F (kD W D0) s) V W:=by
 refine⟨λa b l=>?_,λ_ h=>h.elim,λ_ h=>h.elim,h.os.symm,λ_ a m d=>?_⟩
 .obtain ⟨rfl,f⟩:=l;have⟨c,m,e,z,j,k,r,q⟩:=h.row a f;refine⟨_,_,k,j,.cells e (.inl rfl) ⟨r,λi u v o p=>?_⟩⟩;have⟨u2,n,t⟩:=q i v p;rw[o]at n;cases n;exact t.rel _ rfl
 .have d:kD W D0 a=J m:=d;unfold kD at d;split at d
  .rename_i f;obtain⟨c,x,e,z,j,k,-⟩:=h.row a f;rw[j]at d;cases d;exact⟨a,⟨rfl,f⟩,x,e,z,m,z,k,j,λ_ _ _ _=>rfl⟩
  .cases d
structure sU (W W':Wj):Prop where
 os:W'.os=W.os
 output:W'.output=W.output
 size:W.heap.size<=W'.heap.size
 block:∀b,b<W.heap.size->W'.heap[b]?=W.heap[b]?
def lF(Pre:Lst->List Wx->Wj->Prop)(W:Wj)(e:Ending)(u:Wj):Prop:=
 (e=.returned (C Y)/\u.os=W.os/\∀b,b<W.heap.size->u.heap[b]?=W.heap[b]?)\/∃x y l,e=.panicked (stopEntry x y::l)/\∃a pn L,x=lV a/\y=I K pn/\Pre a L u
section
variable [Two Tryz.prog] [Two Yq.prog] {Gf Fs Fr Fa:FuncId->Bool} {Pre:Lst->List Wx->Wj->Prop}
theorem Gt(k:qO Gf Fs Fr)(sG:gx Tryz.prog Gf)(sA:gx Yq.prog Fa)(bl:∀f,¬Mk Fa f=Y)(hG:Gf gq=Z/\Gf mz=Z/\Gf 44=Z/\Gf my=Y)(a4:Ba Pre)(ap:xr)(bb:∀l L V u,Ce V u->Pre l L u->Pre l L V)
  {p:FuncId} {fn:Func} {b0:Code} (a6:Tryz.prog.funcs[p]?=J fn) (T:Yq.prog.funcs[p]?=J fn) (aa:fn.body=J b0) (ab:Tryz.prog.inits.idxOf? p=N) (a8:Gf p=Y) (bi:Fa p=Y) {n:Array Wx} {W:Wj} {D0:Nat->Prop} (af:Start W D0) (D:∀ (ρ:Ren),(∀b,D0 b->ρ b b)->RVs ρ n n)
  (q:∀V,Clean D0 W V->∀τ d,Calls Yq.prog p n (V.on τ d) (lF Pre V)):Fin Tryz.prog (λv W'=>v=C Y/\sU W W') #[G (Frame.enter Tryz.prog p n .normal) []] W N #[]:=by
 have⟨V0,r⟩:=D3 af;replace q:=q V0 r;have t:NoM Tryz.prog 3:=by unfold NoM;kernel_rfl
 have al:NoM Yq.prog 3:=Bd k t rfl;have hA:∀F,RVs (qP Tryz.prog D0 F (kD W D0) t) n n:=λF=>D _ (λb h=>⟨rfl,h⟩)
 have a7:∀F,RVs (qP Yq.prog D0 F (kD W D0) al) n n:=λF=>D _ (λb h=>⟨rfl,h⟩)
 have a5:∀ (P Q:Wv) (σ:Ren),P.funcs[p]?=J fn->Q.funcs[p]?=J fn->RVs σ n n->aI P σ.F b0=Y->RFr P σ (Frame.enter Q p n .normal) (Frame.enter P p n .normal):=λP Q σ hP hQ ha ho=>by
  have e1:(Frame.enter Q p n .normal).todo=[.code b0]:=by simp[Frame.enter,hQ,aa]
  have e2:(Frame.enter P p n .normal).todo=[.code b0]:=by simp[Frame.enter,hP,aa]
  have t1:(Frame.enter Q p n .normal).tmps=n++Array.replicate (fn.ntmps-n.size) Wo:=by simp[Frame.enter,hQ]
  have t2:(Frame.enter P p n .normal).tmps=n++Array.replicate (fn.ntmps-n.size) Wo:=by simp[Frame.enter,hP]
  refine⟨rfl,?_,by rw[e1,e2];exact .cons (.code ho) .nil,.nil,.run,⟨rfl,rfl,by simp[Frame.enter]⟩,.none⟩;rw[t1,t2];refine⟨rfl,λi v v' s h2=>?_⟩;rw[s]at h2;cases h2;rw[Array.getElem?_append]at s;split at s
  .exact ha.at_ i v v s s
  .simp only[Array.getElem?_replicate]at s;split at s
   .cases s;exact dm
   .cases s
 have a3:∀ (τ:Nat->Question->Nat) (d:Nat) (u:Wj),¬lF Pre V0 .outgrown u:=λτ d u h=>by
  rcases h with⟨h,-⟩|⟨_,_,_,h,-⟩<;>cases h
 have av:Self Yq.prog ([trap Yq.prog],[]) (λ_=>False) Fa {frame:=Frame.enter Yq.prog p n .normal,callers:=[trap Yq.prog],status:=.running,dying:=N} V0:=
  ⟨rfl,qP Yq.prog D0 Fa (kD W D0) al,{frame:=Frame.enter Yq.prog p n .normal,callers:=[],status:=.running,dying:=N},W,⟨a5 Yq.prog Yq.prog _ T T (a7 _) (sA.code p fn b0 bi T aa),.base,⟨λ_=>rfl,λ_=>rfl⟩,⟨rfl,rfl⟩,⟨rfl,rfl⟩,rfl,rfl⟩,sR r _ _ _,sA.gid (σ:=qP Yq.prog D0 Fa (kD W D0) al) (λg hg=>⟨rfl,af.glob g (by rw[Yq.globals_size]at hg;exact hg)⟩) rfl (λ_ _ h=>h),sA.ext,rfl,rfl,⟨rfl,λ_ h=>h.elim,rfl⟩,λ_ h=>h,bl⟩
 have hD:=(sC k.zero1 k.count1 (R:=λ_ _=>lF Pre V0) q a3 av).imp (N':=λg _=>NB [trap Yq.prog] g) (λg w h=>h.2)
 let m:Outer:=⟨λb=>b<W.heap.size/\¬D0 b,W,λb h=>h.1,λa b=>a=b/\D0 a,kD W D0,3⟩
 have ac:Leaf Tryz.prog m Gf (Ends Tryz.prog.alt p (λ_ _=>lF Pre V0)) (λv W'=>v=C Y/\sU W W'):=by
  refine Gh (page:=44) hG.2.2.1 ab (λτ d e u h=>?_) (λh V ρ g W1 X W' hE hm H ar S hK=>⟨rfl,?_⟩)
  .rcases h with⟨h,-⟩|⟨x,y,l,h,-⟩
   .exact .inl h
   .exact .inr ⟨_,_,_,_,_,_,h⟩
  .obtain ⟨τ,d,τ',d',e,fr,hR,rfl,-,A,-⟩:=hE;rcases hR with⟨rfl,be,B⟩|⟨x,y,l,rfl,-⟩
   .refine ⟨S.os.trans (be.trans r.os),hK.2.1,hK.1,λb hb=>?_⟩;by_cases hd:D0 b
    .have a2:X b b:=ar _ _ (H.out.2.2.1 b b ⟨rfl,hd⟩);have⟨c,c0,e,z,s,h0,h3,h2⟩:=r.row b hd;have⟨o,o',k1,k2,k3⟩:=S.obj b b a2;have hF:X.F my=true:=by rw[ar.F,H.same];exact hG.2.2.2
     have a1:X.pin b=J c:=by
      rw[ar.pin,H.out.2.2.2.1];show kD W D0 b=J c;unfold kD;rw[if_pos hd,s]
     have⟨b2,bd,c1,e1,z1,c2,z2,p1,p2,p3⟩:=S.pin hF b c a1;obtain rfl:=X.fn _ _ _ a2 bd;have B:V.heap[b]?=V0.heap[b]?:=B b (by rw[r.size];exact hb);rw[B,h0]at k1 p1;cases k1;cases p1;rw[p2]at k2;cases k2;cases k3 with
     |cells e hz hv=>
      rcases hz with rfl|⟨hz,-⟩
      .rw [p2,s];refine congrArg (λx=>J (Obj.cells x e z)) ?_;refine Array.ext_getElem? (λi=>?_);by_cases hi:i<c.size
       .obtain ⟨u,q1,q2⟩:=h2 i _ (eG hi);by_cases ho:mX c[i]=Y
        .have q3:i<c2.size:=by rw[<-hv.size,h3];exact hi
         have q4:=q2.one ho;have:=hv.at_ i u _ q1 (eG q3);rw[q4]at this;rw[eG q3,eG hi,D2 ho this]
        .rcases q2.no (by simpa using ho)with q5|q5
         .exact p3 i u q1 q5
         .have q3:i<c2.size:=by rw[<-hv.size,h3];exact hi
          rw[eG q3,eG hi,q5 _ _ (hv.at_ i u _ q1 (eG q3))]
       .rw [Array.getElem?_eq_none (by rw[<-hv.size,h3];omega),Array.getElem?_eq_none (by omega)]
      .rw [hF]at hz;cases hz
    .exact hK.2.2 b ⟨hb,hd⟩
   .have A:=A.1;rw[hm]at A;cases A
 have a9:vt Tryz.prog m Gf [] (Ends Tryz.prog.alt p (λ_ _=>lF Pre V0)) (λv W'=>v=C Y/\sU W W'):=by
  rw[k.alt];refine yS k a4 ap ⟨λτ d x y e u h=>?_⟩ bb;rcases h with⟨h,-⟩|⟨x',y',l,h,hp⟩
  .cases h
  .cases h;exact hp
 have bk:Dem Tryz.prog.alt (λg _=>NB [trap Tryz.prog.alt] g) (Ends Tryz.prog.alt p (λ_ _=>lF Pre V0)) {frame:=Frame.enter Yq.prog p n .normal,callers:=[trap Yq.prog],status:=.running,dying:=N} V0:=by
  rw[k.alt];exact hD
 have hrel:Rel Tryz.prog m Gf [] (qP Tryz.prog D0 Gf (kD W D0) t) {frame:=Frame.enter Yq.prog p n .normal,callers:=[trap Yq.prog],status:=.running,dying:=N} {frame:=Frame.enter Tryz.prog p n .normal,callers:=[],status:=.running,dying:=N} V0 W:=by
  have hf:=a5 Tryz.prog Yq.prog (qP Tryz.prog D0 Gf (kD W D0) t) a6 T (hA _) (sG.code p fn b0 a8 a6 aa);have a0:GId Tryz.prog (qP Tryz.prog D0 Gf (kD W D0) t):=sG.gid (σ:=qP Tryz.prog D0 Gf (kD W D0) t) (λg hg=>⟨rfl,af.glob g hg⟩) rfl (λ_ _ h=>h);have hk:∀P:Wv,(Frame.enter P p n .normal).kind=.normal/\(Frame.enter P p n .normal).roundOf=none:=λ_=>⟨rfl,rfl⟩
  refine⟨⟨hf,by rw[k.alt];exact .base,⟨λ_=>(hk _).1.trans (hk _).1.symm,λ_=>(hk _).2⟩,⟨rfl,rfl⟩,⟨rfl,rfl⟩,rfl,rfl⟩,sR r _ _ _,a0,sG.ext,hG.1,rfl,⟨rfl,rfl⟩,⟨hG.2.1,λa b o ad ho hc=>?_⟩,⟨⟨lR _,rfl,λ_ _=>rfl⟩,λa b ad hk=>?_,λa b h=>h,rfl,rfl⟩⟩
  .obtain ⟨_,c,e,z,-,s,-⟩:=r.row a ad.2;rw[s]at ho;cases ho;cases hc
  .obtain ⟨rfl,hd⟩:=ad;exact hk.2 hd
 have A:Lv Tryz.prog (λ_=>False) #[] #[({frame:=Frame.enter Tryz.prog p n .normal,callers:=[],status:=.running,dying:=N}:Wk)] (λ_=>0):=by
  refine⟨λj y hj _ hy=>?_,λj hj=>?_⟩
  .cases j with
   |zero=>omega
   |succ j=>simp at hy
  .exact (Go.Conc.leavers_one Tryz.prog {frame:=Frame.enter Tryz.prog p n .normal,callers:=[],status:=.running,dying:=N}).above j hj
 exact Gd k.zero k.count (A3 ac) a9 bk _ _ (.refl _ _) _ _ W N #[] (λ_=>0) _ rfl A (Go.Conc.past_nil.mono (Nat.zero_le _)) hrel
end
end
theorem iS{v:Wx}(h:mX v=Y)(ρ:Ren):RV ρ v v:=by
 cases v with
 |bool b=>exact .bool b
 |int k n=>exact .int k n
 |string s=>exact .string s
 |pointer a=>cases a with
  |none=>exact .pointer .none
  |some a=>cases h
 |slice a n c=>cases a with
  |none=>exact .slice n c .none
  |some a=>cases h
 |map r=>cases r with
  |none=>exact .map .none
  |some r=>cases h
 |chan r=>cases r with
  |none=>exact .chan .none
  |some r=>cases h
 |nilFunc=>exact .nilFunc
 |nilIface=>exact .nilIface
 |_=>cases h
theorem ny{c:Array Wx}{p:Wx->Bool}(h:c.all p=Y){ρ:Ren}(d:∀v,p v=Y->RV ρ v v):RVs ρ c c:=⟨rfl,λi v v' a b=>by
 rw[a]at b;cases b;obtain⟨e,rfl⟩:=eS a;exact d _ (Array.all_eq_true.1 h i e)⟩
theorem jO{v:Wx}(h:nH v=Y)(ρ:Ren):RV ρ v v:=by
 unfold nH at h;split at h
 .exact .agg rfl (ny h (λv h=>iS h ρ)).at_
 .exact .tuple rfl (ny h (λv h=>iS h ρ)).at_
 .exact .iface _ (iS h ρ)
 .exact iS h ρ
def D5:Wx->Bool
 | .agg c=>c.all nH
 | .tuple c=>c.all nH
 |v=>nH v
theorem yU{v:Wx}(h:D5 v=Y)(ρ:Ren):RV ρ v v:=by
 unfold D5 at h;split at h
 .exact .agg rfl (ny h (λv h=>jO h ρ)).at_
 .exact .tuple rfl (ny h (λv h=>jO h ρ)).at_
 .exact jO h ρ
theorem pJ{ρ:Ren}{z:Wx}(h:RV ρ z z):RVs ρ z.cells z.cells:=by
 have b:RVs ρ #[z] #[z]:=⟨rfl,λi v v' a d=>by
  rw[a]at d;cases d;cases i with
  |zero=>simp at a;subst a;exact h
  |succ i=>simp at a⟩
 cases z with
 |agg c=>
  cases h with
  |agg hc e=>exact⟨rfl,e⟩
 |_=>exact b
theorem RVs.append'{ρ:Ren}{a l b f:Array Wx}(h:RVs ρ a l)(k:RVs ρ b f):RVs ρ (a++b) (l++f):=⟨by simp[h.size,k.size],λi v j c d=>by
 rw[Array.getElem?_append]at c d;by_cases e:i<a.size
 .rw [if_pos e]at c;rw[if_pos (by rw[<-h.size];exact e)]at d;exact h.at_ i v j c d
 .rw [if_neg e]at c;rw[if_neg (by rw[<-h.size];exact e),<-h.size]at d;exact k.at_ _ v j c d⟩
def Zi(i:TypeInfo):Prop:=∀z,i.zero=J z->∀ρ,RV ρ z z
theorem Bh{ρ:Ren}{c:Array Wx}(h:RVs ρ c c)(n:Nat):RVs ρ (Array.replicate n c).flatten (Array.replicate n c).flatten:=by
 induction n with
 |zero=>simp;exact RVs.nil
 |succ n ih=>
  rw[Array.replicate_succ,Array.flatten_push];exact ih.append' h
theorem Bi{α β:Type}(c:α->β->Option (ForInStep β))(I:β->Prop)(f:∀a b s,I b->c a b=J s->I (match s with| .done x=>x| .yield x=>x)):∀ (l:List α)(b r:β),I b->forIn l b c=J r->I r:=by
 intro l;induction l with
 |nil=>intro b r e h;simp at h;subst h;exact e
 |cons a l ih=>
  intro b r e h;rw[List.forIn_cons]at h;cases d:c a b with
  |none=>rw[d]at h;cases h
  |some s=>
   rw[d]at h;have:=f a b s e d;cases s with
   |done x=>cases h;exact this
   |yield x=>exact ih x r this h
theorem lG{d:TypeDesc}{a:String}{z:Wx}{c:Bool}{b:Nat}(h:mX z=Y):Zi (Made.word d a z c b):=λy e ρ=>by
 cases e;exact iS h ρ
theorem Bj{info:Ww->Option TypeInfo}(hi:∀t i,info t=J i->Zi i){fs:Array Field}{i:TypeInfo}(h:Made.reckonStruct info fs=J i):Zi i:=by
 unfold Made.reckonStruct at h;dsimp only at h;rw[<-Array.forIn_toList]at h;rw[Option.bind_eq_bind,Option.bind_eq_some_iff]at h;obtain⟨r,hr,h⟩:=h;have key:=Bi _ (λr=>∀a,r.2.2.2.2.2.2.2.1=J a->∀ρ,RVs ρ a a) (λf b s hI hs=>by
  rw[Option.bind_eq_bind,Option.bind_eq_some_iff]at hs;obtain⟨i,hf,hs⟩:=hs;have hz:∀a,(if b.2.1+i.size > Made.mostCells then N else(b.2.2.2.2.2.2.2.1.bind λx=>i.zero.bind λy=>J (x++y.cells)))=J a->∀ρ,RVs ρ a a:=λa ha ρ=>by
   split at ha
   .cases ha
   .rw [Option.bind_eq_some_iff]at ha;obtain⟨x,hx,ha⟩:=ha;rw[Option.bind_eq_some_iff]at ha;obtain⟨y,hy,ha⟩:=ha;cases ha;exact(hI x hx ρ).append' (pJ (hi _ _ hf y hy ρ))
  simp only[Option.bind_eq_bind,Option.pure_def,Option.bind_none,Option.bind_some]at hs;generalize(if b.2.1+i.size > Made.mostCells then N else(b.2.2.2.2.2.2.2.1.bind λx=>i.zero.bind λy=>J (x++y.cells)))=zx at hs hz
  generalize(if b.fst.size + 1 < fs.size then ";" else "") = sm at hs
  split at hs
  .cases hs
  .split at hs
   .cases hs
   .split at hs
    .split at hs<;>(cases hs;exact hz)
    .rw [Option.bind_eq_some_iff]at hs;obtain⟨tg,-,hs⟩:=hs;split at hs<;>(cases hs;exact hz)) _ _ r (λa ha ρ=>by cases ha;exact RVs.nil) hr
 intro z hz ρ;have fin:∀ (o:Option (Array Wx)),(∀a,o=J a->∀ρ,RVs ρ a a)->o.map Value.agg=J z->RV ρ z z:=λo ho h=>by
  cases o with
  |none=>cases h
  |some a=>cases h;exact .agg rfl (ho a rfl ρ).at_
 split at h
 .cases h;exact fin _ key hz
 .cases h;exact fin _ key hz
theorem Bk{b:Ww->Option TypeInfo}(l:∀t i,b t=J i->Zi i){d:TypeDesc}{i:TypeInfo}(h:Made.reckon b d=J i):Zi i:=by
 unfold Made.reckon at h;cases d with
 |struct fs=>exact Bj l h
 |array n e=>
  simp only[Option.bind_eq_bind,Option.pure_def,Option.bind_eq_some_iff]at h;obtain⟨j,c,s,-,h⟩:=h;cases h;intro z a ρ;simp only at a;split at a
  .cases a
  .split at a
   .cases a;exact .agg rfl RVs.nil.at_
   .cases f:j.zero with
    |none=>rw[f]at a;cases a
    |some y=>
     rw[f]at a;cases a;exact .agg rfl (Bh (pJ (l _ _ c y f ρ)) n).at_
 |pointer e=>
  simp only[Option.bind_eq_bind,Option.pure_def,Option.bind_eq_some_iff]at h;obtain⟨j,c,h⟩:=h;split at h
  .cases h
  .split at h
   .cases h
   .rw [Option.bind_eq_some_iff]at h;obtain⟨s,-,h⟩:=h;cases h;exact lG rfl
  .rw [Option.bind_eq_some_iff]at h;obtain⟨s,-,h⟩:=h;cases h;exact lG rfl
 |slice e=>
  simp only[Option.bind_eq_bind,Option.pure_def,Option.bind_eq_some_iff]at h;obtain⟨j,c,s,-,h⟩:=h;cases h;exact lG rfl
 |map k e=>
  simp only[Option.bind_eq_bind,Option.pure_def,Option.bind_eq_some_iff]at h;obtain⟨j,c,s,-,j2,-,s2,-,h⟩:=h;cases h;exact lG rfl
 |chan dir e=>
  simp only[Option.bind_eq_bind,Option.pure_def,Option.bind_eq_some_iff]at h;obtain⟨j,c,s,-,h⟩:=h;cases h;exact lG rfl
 |func ps rs v=>
  simp only[Option.bind_eq_bind,Option.pure_def,Option.bind_eq_some_iff]at h;obtain⟨s,-,h⟩:=h;cases h;exact lG rfl
 |_=>cases h
theorem Gu{P:Wv}(h:∀ (t:Nat)(i:TypeInfo)(z:Wx),P.types[t]?=J i->i.zero=J z->D5 z=Y):bU P:=by
 have c:∀ (t:Nat) (i:TypeInfo),P.types[t]?=J i->Zi i:=λt i a z b ρ=>yU (h t i z a b) ρ
 have e:∀f t i,Made.infoAt P.toTables f t=J i->Zi i:=λf=>by
  induction f with
  |zero=>intro t i h;cases h
  |succ f ih=>
   intro t i h;unfold Made.infoAt at h;split at h
   .exact c t i h
   .rw [Option.bind_eq_some_iff]at h;obtain⟨d,-,h⟩:=h;exact Bk (λt i h=>ih t i h) h
 intro t i z a b ρ;unfold Tables.info? at a;split at a
 .exact c t i a z b ρ
 .exact e _ t i a z b ρ
def rg(a b f:Nat):Bool:=Nat.ble a f&&Nat.ble f b
def Gs(f:Nat):Bool:=rg 3 43 f||rg 45 71 f||rg 73 93 f||rg 96 112 f||rg 116 129 f||rg 133 139 f||rg 142 146 f||rg 151 154 f||rg 157 158 f||f==1000000||f==1000001||f==2000044
def Ss(f:Nat):Bool:=f==39||f==66||f==76||f==86||f==91||rg 94 95 f||rg 97 98 f||rg 108 110 f||rg 113 115 f||f==128||rg 130 132 f||rg 140 141 f||rg 147 150 f||rg 155 156 f||f==1000002
def Rs(f:Nat):Bool:=f==73||f==96||f==116||f==126||f==133||rg 142 145 f||rg 151 154 f||rg 157 158 f||f==1000001
def As(f:Nat):Bool:=rg 3 158 f||rg 1000000 1000003 f
def D6(P:Wv)(F:FuncId->Bool):Bool:=(List.range 181).all λf=>!F f||(match P.funcs[f]? with|some fn=>(match fn.body with|some b=>aI P F b|none=>f==111||f==148||f==155)|none=>Y)
theorem gy{P:Wv}{F:FuncId->Bool}(h:D6 P F=Y)(c:P.funcs.size=181):∀ (f:FuncId) fn b,F f=Y->P.funcs[f]?=J fn->fn.body=J b->aI P F b=true:=λf fn b d a e=>by
 have hlt:f<181:=by rw[<-c];exact(eS a).1
 have:=List.all_eq_true.1 h f (List.mem_range.2 hlt);rw[d,a]at this;simp only[e]at this;simpa using this
theorem Bl{P:Wv}{F:FuncId->Bool}(h:D6 P F=Y)(b:P.funcs.size=181):∀ (f:FuncId) fn,F f=Y->P.funcs[f]?=J fn->fn.body=N->f=111\/f=148\/f=155:=λf fn c a d=>by
 have hlt:f<181:=by rw[<-b];exact(eS a).1
 have:=List.all_eq_true.1 h f (List.mem_range.2 hlt);rw[c,a]at this;simp only[d]at this;have:=this;simp at this;rcases this with(h|h)|h
 .exact .inl h
 .exact .inr (.inl h)
 .exact .inr (.inr h)
theorem oo:Tryz.prog.funcs.size=181:=by kernel_rfl
theorem oq:Yq.prog.funcs.size=181:=by kernel_rfl
theorem Ig:D6 Tryz.prog Gs=true:=by kernel_rfl
theorem Ih:D6 Tryz.prog Ss=true:=by kernel_rfl
theorem Ii:D6 Tryz.prog Rs=true:=by kernel_rfl
theorem FH:D6 Yq.prog Ss=true:=by kernel_rfl
theorem FI:D6 Yq.prog Rs=true:=by kernel_rfl
theorem FJ:D6 Yq.prog As=true:=by kernel_rfl
theorem IW:aI Tryz.prog Gs (dh (iz cf))=Y/\aI Tryz.prog Gs (dh cf)=true:=⟨by kernel_rfl,by kernel_rfl⟩
theorem IY:aI Tryz.prog Rs (dh (iz cf))=Y/\aI Tryz.prog Rs (dh cf)=true:=⟨by kernel_rfl,by kernel_rfl⟩
theorem IZ:aI Yq.prog Rs (dh (iz cf))=Y/\aI Yq.prog Rs (dh cf)=true:=⟨by kernel_rfl,by kernel_rfl⟩
theorem Ij:aI Tryz.prog Rs (bV Tryz.f44)=false:=by kernel_rfl
def Jq(P:Wv):Bool:=P.types.all λi=>match i.zero with|some z=>D5 z|none=>Y
theorem ot{P:Wv}(h:Jq P=Y):bU P:=Gu λt i z a c=>by
 obtain⟨b,rfl⟩:=eS a;have:=Array.all_eq_true.1 h t b;simp only[c]at this;exact this
theorem Ik:bU Tryz.prog:=ot (by kernel_rfl)
theorem Il:bU Yq.prog:=ot (by kernel_rfl)
theorem mH{P : Wv} (h : (P.funcs.all fun f => !(f.name == "runtime.NumGoroutine")) = Y) : cq P := fun f fn hf e => by
 obtain⟨ht,rfl⟩:=eS hf;have:=Array.all_eq_true.1 h f ht;rw[e]at this;cases this
theorem Gv:cq Tryz.prog:=mH (by kernel_rfl)
theorem Gw:cq Yq.prog:=mH (by kernel_rfl)
section
variable {P:Wv} [Two P] {ρ:Ren}
theorem Bm:∀ (n:Nat){ρ:Ren}{a d:Wu}(c:ByteArray),RA ρ a d->RS P QE ρ (Extern.Bytes.loadBytes a n c) (Extern.Bytes.loadBytes d n c):=by
 intro n;induction n with
 |zero=>intro ρ a d c _;exact ae rfl
 |succ n ih=>
  intro ρ a d c h;unfold Extern.Bytes.loadBytes;refine aj (nM h _) (λρ1 f v v' e=>?_);cases e with
  |int k b=>cases k<;>first|exact ag _|exact ih _ ((h.mono f).add 1)
  |_=>exact ag _
theorem lH{z b:Wx}(h:RV ρ z b):RS P QE ρ (Extern.Bytes.bytesOf z) (Extern.Bytes.bytesOf b):=by
 cases h with
 |string s=>exact ae rfl
 |slice n c a=>
  cases a with
  |none=>exact ae rfl
  |some a=>exact Bm n _ a
 |_=>exact ag _
theorem Bn{z a:Wx}(h:RV ρ z a):RS P QE ρ (Extern.Bytes.asByte z) (Extern.Bytes.asByte a):=by
 cases h with
 |int k n=>cases k<;>first|exact ag _|exact ae rfl
 |_=>exact ag _
theorem Bo{Q:Ren->Wx->Wx->Prop}{g:Array Wx->Sem Wx}(h:∀x b y c,RV ρ x b->RV ρ y c->RS P Q ρ (g #[x,y]) (g #[b,c]))(k:∀a:Array Wx,a.size≠2->dq P (g a)){a d:Array Wx}(f:RVs ρ a d):RS P Q ρ (g a) (g d):=by
 by_cases i:a.size=2
 .obtain ⟨l⟩:=a;obtain⟨e⟩:=d;have j:l.length=e.length:=by simpa using f.size
  rcases l with - |⟨x,- |⟨y,- |⟨z,l⟩⟩⟩<;>simp at i
  rcases e with - |⟨b,- |⟨c,- |⟨z',e⟩⟩⟩<;>simp at j
  exact h x b y c (f.at_ 0 x b rfl rfl) (f.at_ 1 y c rfl rfl)
 .exact .lost (k a i) _
theorem sW{a d:Array Wx}(j:RVs ρ a d):RS P QV ρ (Extern.BytealgIndexByte.indexByte a) (Extern.BytealgIndexByte.indexByte d):=by
 refine Bo (λx x' y y' e i=>?_) (λa h=>?_) j
 .unfold Extern.BytealgIndexByte.indexByte;refine ai (lH e) (λρ1 f b=>?_);refine ai (Bn (i.mono f)) (λρ2 l2 c=>?_);split<;>exact ae (.int _ _)
 .obtain ⟨l⟩:=a;rcases l with - |⟨x,- |⟨y,- |⟨z,l⟩⟩⟩
  .exact .halt rfl
  .exact .halt rfl
  .simp at h
  .exact .halt rfl
theorem qQ(b:GId P ρ)(a:String):RS P QA ρ (globalAddr a) (globalAddr a):=by
 unfold globalAddr;refine bh ?_ rfl;cases h:P.globals.findIdx? (·.name==a)with
 |none=>exact ag _
 |some g=>
  refine ae ⟨b.glob g ?_,rfl,rfl⟩;exact(Array.findIdx?_eq_some_iff_getElem.1 h).1
theorem Bp(c:GId P ρ):RS P QE ρ Extern.BytealgIndex.maxLen Extern.BytealgIndex.maxLen:=by
 unfold Extern.BytealgIndex.maxLen;refine aj (qQ c _) (λρ1 l1 a a' h=>?_);refine aj (nM h _) (λρ2 l2 v v' b=>gR b)
theorem Bq(f:GId P ρ){a d:Array Wx}(k:RVs ρ a d):RS P QV ρ (Extern.BytealgIndex.index a) (Extern.BytealgIndex.index d):=by
 refine Bo (λx x' y y' n i=>?_) (λa h=>?_) k
 .unfold Extern.BytealgIndex.index;refine ai (lH n) (λρ1 e b=>?_);refine ai (lH (i.mono e)) (λρ2 j c=>?_);refine ai (Bp ((f.mono e).mono j)) (λρ3 l3 m=>?_);refine aJ (λ_=>bX (ak _)) (λ_=>?_);refine aJ (λ_=>bX (ak _)) (λ_=>?_);split<;>exact ae (.int _ _)
 .obtain ⟨l⟩:=a;rcases l with - |⟨x,- |⟨y,- |⟨z,l⟩⟩⟩
  .exact .halt rfl
  .exact .halt rfl
  .simp at h
  .exact .halt rfl
theorem kE(c:ρ.F my=Y){a b:Wu}(h:RA ρ a b):RS P QE ρ (frozen a) (frozen b):=.frozen h (λs=>ae rfl) (λe=>by rw[c]at e;cases e)
theorem mI(f:ρ.F my=Y){a d:Wu}(h:RA ρ a d):RS P QE ρ (stringish a) (stringish d):=by
 unfold stringish;refine ai (kE f h) (λρ0 b z=>?_);refine aJ (λ_=>ae rfl) (λ_=>?_);refine ai (eY (b _ _ h.1)) (λρ1 c s=>?_);rcases s with - |⟨e,n⟩
 .exact ae rfl
 .exact kE (by rw[c.F,b.F];exact f) ⟨c _ _ (b _ _ h.1),rfl,rfl⟩
theorem vG(j:ρ.F my=Y){a h b k:Wu}(f:RA ρ a h)(l:RA ρ b k):RS P QE ρ (mayBeOne a b) (mayBeOne h k):=by
 unfold mayBeOne;refine ai (mI j f) (λρ1 c x=>?_);refine ai (mI (by rw[c.F];exact j) (l.mono c)) (λρ2 i y=>?_);refine ai (ai (eY (i _ _ (c _ _ f.1))) (λd m s=>ae rfl)) (λd m u=>?_);refine ai (ai (eY (m _ _ (i _ _ (c _ _ l.1)))) (λe n s=>ae rfl)) (λe n v=>?_);exact ae rfl
theorem vH(D:ρ.F my=Y)(k p:Array Ww){a h:Array Wx}(S:RVs ρ a h):RS P QV ρ (Extern.SlicesOverlaps.overlaps k p a) (Extern.SlicesOverlaps.overlaps k p h):=by
 refine Bo (g:=Extern.SlicesOverlaps.overlaps k p) (λx x' y y' T R=>?_) (λa i=>?_) S
 .cases T with
  | @slice a h la ca s=>
   cases R with
   | @slice b r lb cb A=>
    unfold Extern.SlicesOverlaps.overlaps;cases hp:k[0]? with
    |none=>exact ag _
    |some t=>
     refine ai (ay t) (λρ1 X d=>?_);cases d with
     |slice V=>
      refine ai (bF V) (λρ2 l2 sz=>?_);cases s with
      |none=>exact ae (.bool _)
      | @some a h i=>
       cases A with
       |none=>exact ae (.bool _)
       | @some b r u=>
        have c:=Ren.le_trans X l2;refine aJ (λ_=>ae (.bool _)) (λ_=>?_);refine ai (kE (by rw[c.F];exact D) (i.mono c)) (λρ3 L fa=>?_);refine ai (kE (by rw[L.F,c.F];exact D) ((u.mono c).mono L)) (λH Q fb=>?_);have f:=Ren.le_trans (Ren.le_trans c L) Q;have o:=i.mono f;have e:=u.mono f;have q:(a.block != b.block)=(h.block != r.block):=by
         have:=gu o.1 e.1;simp only[bne,this]
        have v:(a.block==b.block)=(h.block==r.block):=gu o.1 e.1;have B:H.F my=true:=by rw[f.F];exact D
        rw[<-q,<-i.2.1,<-u.2.1,<-v];refine aJ (λ_=>ak _) (λ_=>?_);refine aJ (λ_=>?_) (λ_=>ae (.bool _));refine aj (nR o) (λρ5 j _ _ _=>?_);refine aj (nR (e.mono j)) (λρ6 G _ _ _=>?_);refine ai (vG (by rw[G.F,j.F];exact B) ((o.mono j).mono G) ((e.mono j).mono G)) (λρ7 l7 m=>?_);refine aJ (λ_=>?_) (λ_=>ae (.bool _));exact ai (ft _) (λρ8 l8 n=>ae (.bool _))
     |_=>exact ag _
   |_=>exact ag _
  |_=>exact ag _
 .obtain ⟨l⟩:=a;rcases l with - |⟨x,- |⟨y,- |⟨z,l⟩⟩⟩
  .exact .halt rfl
  .exact .halt rfl
  .simp at i
  .exact .halt rfl
end
theorem D7{P : Wv} [Two P] {F : FuncId → Bool} (hx : ∀ f fn, F f = Y → P.funcs[f]? = J fn → fn.body = N → fn.name ≠ "runtime.NumGoroutine" ∧ Extern.findNext fn = N ∧ ∃ e, Extern.find fn = J e ∧ ∀ ρ a a', ρ.F = F → GId P ρ → RVs ρ a a' → RS P QV ρ (e a) (e a')) : fY P F := by
 intro f fn hF hf hb ρ a a' hFF hI h;have⟨h1,h2,e,h3,h4⟩:=hx f fn hF hf hb
 have hn : (fn.name == "runtime.NumGoroutine") = Z := beq_eq_false_iff_ne.2 h1
 unfold callFunc;refine bh ?_ (by simp only[hI.alt f (by rw[hFF];exact hF)]);simp only[hf,hn,hb,Option.isNone_none,if_true,h2,h3];exact .mark (.extern f) (cC (h4 ρ a a' hFF hI h))
@[reducible] noncomputable def yV:Two Tryz.prog:=⟨Yq.prog.funcs⟩
@[reducible] noncomputable def yW:Two Yq.prog:=⟨Yq.prog.funcs⟩
theorem Im{P:Wv}{q:FuncId}{a b:Func}:@Program.alt P ⟨(Sw.prog P f0 q a b).funcs⟩=Sw.prog P f0 q a b:=rfl
theorem Gx{P:Wv}:@Program.alt P ⟨P.funcs⟩=P:=rfl
theorem ou:@Program.alt Tryz.prog yV=Yq.prog:=Im
theorem qR:@Program.alt Yq.prog yW=Yq.prog:=Gx
theorem Gy:Extern.findNext Tryz.f111=none:=by kernel_rfl
theorem Gz:Extern.findNext Tryz.f148=none:=by kernel_rfl
theorem GA:Extern.findNext Tryz.f155=none:=by kernel_rfl
theorem GB:Extern.find Tryz.f111=J (Extern.SlicesOverlaps.overlaps Tryz.f111.params Tryz.f111.resultTypes):=by kernel_rfl
theorem GC:Extern.find Tryz.f148=J Extern.BytealgIndex.index:=by kernel_rfl
theorem GD:Extern.find Tryz.f155=J Extern.BytealgIndexByte.indexByte:=by kernel_rfl
theorem pK{P:Wv} [Two P]{F:FuncId->Bool}(o:P.funcs.size=181)(p:D6 P F=Y)(e:P.funcs[111]?=J Tryz.f111)(i:P.funcs[148]?=J Tryz.f148)(d:P.funcs[155]?=J Tryz.f155)(m:F 111=Y->F my=Y):fY P F:=
 D7 λf fn l c n=>by
  rcases Bl p o f fn l c n with rfl|rfl|rfl
  .rw [e]at c;cases c;exact⟨by decide,Gy,_,GB,λρ a k b j h=>vH (by rw[b];exact m l) _ _ h⟩
  .rw [i]at c;cases c;exact⟨by decide,Gz,_,GC,λρ a k b j h=>Bq j h⟩
  .rw [d]at c;cases c;exact⟨by decide,GA,_,GD,λρ a k b j h=>sW h⟩
theorem xu{f:Nat}(a:44≠f)(b:72≠f):Yq.prog.funcs[f]?=Tryz.prog.funcs[f]?:=Sw.ne a b rfl
theorem size_eq:Yq.prog.funcs.size=Tryz.prog.funcs.size:=oq.trans oo.symm
theorem qS(f:Nat):(Yq.prog.funcs[f]?).map strip=(Tryz.prog.funcs[f]?).map strip:=by
 by_cases a:44=f
 .subst a;rw[Yq.func44,func44];rfl
 .by_cases b:72=f
  .subst b;rw[Yq.func72,func72];rfl
  .rw [xu a b]
theorem Jj{f:Nat}(h:Mk Gs f=Y):f=44:=by
 have h:Gs (2000000+f)=true:=h;unfold Gs rg at h;simp only[Bool.or_eq_true,bT,Nat.ble_eq,beq_iff_eq]at h;omega
theorem I0(f:Nat):¬Mk Ss f=true:=λh=>by
 have h:Ss (2000000+f)=true:=h;unfold Ss rg at h;simp only[Bool.or_eq_true,bT,Nat.ble_eq,beq_iff_eq]at h;omega
theorem I3(f:Nat):¬Mk Rs f=true:=λh=>by
 have h:Rs (2000000+f)=true:=h;unfold Rs rg at h;simp only[Bool.or_eq_true,bT,Nat.ble_eq,beq_iff_eq]at h;omega
theorem Jk(f:Nat):¬Mk As f=true:=λh=>by
 have h:As (2000000+f)=true:=h;unfold As rg at h;simp only[Bool.or_eq_true,bT,Nat.ble_eq]at h;omega
theorem GE{F:FuncId->Bool}(a:F 44=Z)(b:F 72=Z){f:Nat}(h:F f=Y):Yq.prog.funcs[f]?=Tryz.prog.funcs[f]?:=
 xu (λe=>by subst e;rw[a]at h;cases h) (λe=>by subst e;rw[b]at h;cases h)
theorem In:@gx Tryz.prog yV Gs:=
 @gx.mk Tryz.prog yV Gs (gy Ig oo) (λf h=>by rw[ou];exact GE (by decide) (by decide) h) (λf=>by rw[ou];exact qS f) (by rw[ou];exact size_eq) (λf h=>by
  obtain rfl:=Jj h;rw[ou];exact⟨_,_,Yq.func44,func44,rfl,rfl,rfl⟩) (@pK Tryz.prog yV Gs oo Ig func111 func148 func155 (λ_=>by decide))
theorem Io:@gx Tryz.prog yV Ss:=
 @gx.mk Tryz.prog yV Ss (gy Ih oo) (λf h=>by rw[ou];exact GE (by decide) (by decide) h) (λf=>by rw[ou];exact qS f) (by rw[ou];exact size_eq) (λf h=>absurd h (I0 f)) (@pK Tryz.prog yV Ss oo Ih func111 func148 func155 (λh=>absurd h (by decide)))
theorem Ip:@gx Tryz.prog yV Rs:=
 @gx.mk Tryz.prog yV Rs (gy Ii oo) (λf h=>by rw[ou];exact GE (by decide) (by decide) h) (λf=>by rw[ou];exact qS f) (by rw[ou];exact size_eq) (λf h=>absurd h (I3 f)) (@pK Tryz.prog yV Rs oo Ii func111 func148 func155 (λh=>absurd h (by decide)))
theorem GF:@gx Yq.prog yW Ss:=
 @gx.mk Yq.prog yW Ss (gy FH oq) (λ_ _=>by rw[qR]) (λ_=>by rw[qR]) (by rw[qR]) (λf h=>absurd h (I0 f)) (@pK Yq.prog yW Ss oq FH (Yq.nq func111) (Yq.nq func148) (Yq.nq func155) (λh=>absurd h (by decide)))
theorem GG:@gx Yq.prog yW Rs:=
 @gx.mk Yq.prog yW Rs (gy FI oq) (λ_ _=>by rw[qR]) (λ_=>by rw[qR]) (by rw[qR]) (λf h=>absurd h (I3 f)) (@pK Yq.prog yW Rs oq FI (Yq.nq func111) (Yq.nq func148) (Yq.nq func155) (λh=>absurd h (by decide)))
theorem GH:@gx Yq.prog yW As:=
 @gx.mk Yq.prog yW As (gy FJ oq) (λ_ _=>by rw[qR]) (λ_=>by rw[qR]) (by rw[qR]) (λf h=>absurd h (Jk f)) (@pK Yq.prog yW As oq FJ (Yq.nq func111) (Yq.nq func148) (Yq.nq func155) (λ_=>by decide))
theorem env:@qO yV yW Gs Ss Rs:=
 @qO.mk yV yW Gs Ss Rs ou Ik Il Gv Gw Io Ip GF GG (λ_f h=>Jj h) ⟨rfl,rfl,rfl⟩ I0 rfl ⟨rfl,rfl,rfl⟩ I3 IW IY IZ Ij
section
open Go.Conc Go.ConcX Go.ConcX.Gen Go.RowKit
def wf(ro:Option Nat):Fence:={Fence.wide with round:=ro}
theorem I4{ro:Option Nat}{P:Wv}(m:Machine):m.fenced P (wf ro):=fenced_wide P m
theorem qT{ro:Option Nat}{P:Wv}{m m':Machine}:StepsIn (Machine.fenced P (wf ro)) P m m'↔Steps P m m':=
 ⟨StepsIn.steps,λh=>(StepsIn.of_steps h).mono λm _=>I4 m⟩
theorem GI(ro:Option Nat)(k:Nat):(wf ro).room k:=λ_ h=>by cases h
section
variable {P:Wv} {ops:Array Oper} {ro:Option Nat}
def yX(P:Wv)(ops:Array Oper)(ro:Option Nat)(i:Nat)(a:Act)(w:Wj)(K:Act->Wj->Prop):Prop:=
 ∀ (b:Wy) (k:List Item) (cs:List Wy) (c:List Nat),b.roundOf=ro ->
  ∃e d,K e d/\Steps P (lone (b.atR a (.inRegion ops (i::c)::k)) cs w) (lone (b.atR e (.inRegion ops c::k)) cs d)
def yY(P:Wv)(ops:Array Oper)(ro:Option Nat)(K:Act->Wj->Prop):List Nat->Act->Wj->Prop
 | [],a,w=>K a w
 |i::r,a,w=>yX P ops ro i a w (yY P ops ro K r)
theorem yX.mono{i:Nat}{a:Act}{w:Wj}{c K':Act->Wj->Prop}(h:yX P ops ro i a w c)(e:∀a w,c a w->K' a w):yX P ops ro i a w K':=
 λb k cs d f=>let⟨a',w',h1,h2⟩:=h b k cs d f;⟨a',w',e _ _ h1,h2⟩
theorem jP{c:Act->Wj->Prop}{b:Wy}{k:List Item}{cs:List Wy}(f:b.roundOf=ro):∀ (l:List Nat)(a:Act)(w:Wj),yY P ops ro c l a w ->
  ∃e d,c e d/\Steps P (lone (b.atR a (.inRegion ops l::k)) cs w) (lone (b.atR e k) cs d)
 | [],a,w,h=>⟨a,w,h,.one stepR_region_end⟩
 |i::r,a,w,h=>by
  obtain⟨n,j,p,s1⟩:=h b k cs r f;obtain⟨m,q,o,s2⟩:=jP f r n j p;exact⟨m,q,o,s1.trans s2⟩
theorem Br{id n:Nat}{Q:Exit->Act->Wj->Prop}{a:Act}{w:Wj}(h:yY P ops ro (Q .normal) (List.range ops.size) a w):(Code.region id ops Z).wpIn (wf ro) n P Q a w:=by
 intro b k cs d _ _;obtain⟨i,e,c,f⟩:=jP (b:=b) (k:=k) (cs:=cs) d _ _ _ h;exact⟨.normal,i,e,c,qT.2 (.head stepR_region f)⟩
theorem ao{i:Nat}{q:Oper}{a:Act}{w w':Wj}{v:Wx}{K:Act->Wj->Prop}(f:ops[i]?=J q)(l:Region.wanted q (yielded ops a.tmps)=Y)(j:∀c,q.op≠.defer c)(m:(execOp a.eval q).run P w=.ok (.value v) w')(n:K (a.put q.dst v) w'):yX P ops ro i a w K:=by
 intro b k cs d hb;refine⟨_,_,n,.one ?_⟩;have h:=stepGR_op (P:=P) (b:=b) (k:=k) (cs:=cs) (w:=w) (rest:=d) f l;rw[Oper.semAt_eq _ _ _ j]at h;have e:(b.atR a (.inRegion ops (i::d)::k)).finish v=b.atR (a.put q.dst v) (.inRegion ops d::k):=by rw[Frame.finish_atR,f];rfl
 exact step_lone_go (by rw[h,<-e];simp[stepG.apply,m])
theorem iT{i:Nat}{o:Oper}{a:Act}{w w':Wj}{f:FuncId}{args:Array Wx}{d:Act->Wj->Prop}(p:ops[i]?=J o)(s:Region.wanted o (yielded ops a.tmps)=Y)(r:∀c,o.op≠.defer c)(x:(execOp a.eval o).run P w=.ok (.enter f args) w')
  (t:Calls P f args w' λe n=>∃v,e=.returned v/\d (a.put o.dst v) n):yX P ops ro i a w d:=by
 intro b k cs h hb;obtain⟨e,w2,fr,⟨v,rfl,y⟩,m,-,u⟩:=t (b.atR a (.inRegion ops (i::h)::k)::cs);have m:Steps P _ _:=m;refine⟨_,_,y,?_⟩;have q:=stepGR_op (P:=P) (b:=b) (k:=k) (cs:=cs) (w:=w) (rest:=h) p s;rw[Oper.semAt_eq _ _ _ r]at q;have j:step P (lone (b.atR a (.inRegion ops (i::h)::k)) cs w)=.next (lone (Frame.enter P f args .normal) (b.atR a (.inRegion ops (i::h)::k)::cs) w'):=
  step_lone_go (by rw[q];simp[stepG.apply,x,Frame.atR])
 have l:(b.atR a (.inRegion ops (i::h)::k)).finish v=b.atR (a.put o.dst v) (.inRegion ops h::k):=by rw[Frame.finish_atR,p];rfl
 refine .head j (m.trans (.one ?_));rw[<-l];exact step_leave_returned u
theorem ov{i:Nat}{o:Oper}{a:Act}{w:Wj}{S y:Operand}{c m id r:Nat}{n:Array Wx}{B:Bool}{d:Act->Wj->Prop}(u:ops[i]?=J o)(F:Region.wanted o (yielded ops a.tmps)=Y)(q:o.op=.send S y)(H:a.eval S=.chan (J c))
  (R:w.heap[c]?=J (.chan m n Z id r B)) (l:n.size<m) (Q:d (a.put o.dst Wo) (w.setChan c m (n.push (a.eval y)) Z (id+1) r B)):yX P ops ro i a w d:=by
 intro b k cs f hb;refine⟨_,_,Q,.one ?_⟩;have A:=stepGR_op (P:=P) (b:=b) (k:=k) (cs:=cs) (w:=w) (rest:=f) u F;rw[Oper.semAt_eq _ _ _ (by rw[q];exactλc h=>by cases h)]at A;have L:(execOp a.eval o).run P w=.ok (.comm #[scase c (a.eval y) (.tuple #[])] Y .send) w:=by
  have e:execOp a.eval o=pure (.comm #[{chan:=a.eval S,send:=J (a.eval y),zero:=.tuple #[]}] Y .send):=by simp only[execOp,q]
  rw[e,H];rfl
 have p:(b.atR a (.inRegion ops (i::f)::k)).finish Wo=b.atR (a.put o.dst Wo) (.inRegion ops f::k):=by rw[Frame.finish_atR,u];rfl
 obtain⟨v,j⟩:∃v,stepG P Y (G (b.atR a (.inRegion ops (i::f)::k)) cs) w=.comm (G (b.atR a (.inRegion ops (i::f)::k)) cs) #[scase c (a.eval y) (.tuple #[])] Y .send w v:=by
  have t:stepG P Y (G (b.atR a (.inRegion ops (i::f)::k)) cs) w=_:=A;rw[t];simp only[stepG.apply,G,Frame.atR,GStep.after,if_true];have D:((execOp a.eval o).runT P w #[]).1=.ok (.comm #[scase c (a.eval y) (.tuple #[])] Y .send) w:=by rw[Sem.runT_eq];exact L
  generalize(execOp a.eval o).runT P w #[]=z at D;obtain⟨z1,z2⟩:=z;subst D;exact⟨_,rfl⟩
 rw[<-p];exact step_lone_send_room j R l
theorem Bt{b:Act->Wj->Prop}(I:Array Bool->Act->Wj->Prop)(k:∀c a w i,I c a w->i∈Region.ready .any ops c->yX P ops ro i a w (I (c.setIfInBounds i Y)))(f:∀c a w,I c a w->Region.ready .any ops c=[]->b a w):
  ∀ (d t:Nat) (c:Array Bool) (a:Act) (w:Wj),I c a w->(List.range ops.size).countP (λi=>!c.getD i Y)<=d->yY P ops ro b (Region.linearise.go .any ops d t c []) a w:=by
 intro d;induction d with
 |zero=>
  intro t c a w o A;have r:Region.ready .any ops c=[]:=by
   unfold Region.ready;rw[List.filter_eq_nil_iff];intro i p h;have:=List.countP_eq_zero.1 (Nat.le_zero.1 A) i p;simp only[bT]at h;exact this h.1
  simp only[Region.linearise.go];exact f _ _ _ o r
 |succ d ih=>
  intro t c a w o A;simp only[Region.linearise.go];change yY P ops ro b (match(Region.ready .any ops c)[t%(Region.ready .any ops c).length]? with
   |some i=>Region.linearise.go .any ops d (t/(Region.ready .any ops c).length) (c.setIfInBounds i Y) [i]
   |none=>[].reverse) a w
  cases p:(Region.ready .any ops c)[t%(Region.ready .any ops c).length]? with
  |none=>
   refine f _ _ _ o ?_;cases D:Region.ready .any ops c with
   |nil=>rfl
   |cons x F=>
    rw[D,List.getElem?_eq_none_iff]at p;have:=Nat.mod_lt t (show 0<(x::F).length by simp);omega
  |some i=>
   simp only[];rw[linearise_go_acc,List.reverse_singleton,List.singleton_append];have y:=List.mem_of_getElem? p;refine(k _ _ _ i o y).mono λa' w' s=>ih _ _ _ _ s ?_
   have m:=List.mem_filter.1 y;have hlt:i<ops.size:=List.mem_range.1 m.1;have q:(!c.getD i Y)=true:=by
    have:=m.2;simp only[bT]at this;exact this.1
   have u:i<c.size:=by
    rcases Nat.lt_or_ge i c.size with h|h
    .exact h
    .rw [gD,Array.getElem?_eq_none h]at q;cases q
   have n:∀j,(!(c.setIfInBounds i Y).getD j Y)=Y->(!c.getD j Y)=true:=λj h=>by
    by_cases z:j=i
    .subst z;exact q
    .rw [gD,sN (λe=>z e.symm),<-gD]at h;exact h
   have hlt2:(List.range ops.size).countP (λj=>!(c.setIfInBounds i Y).getD j Y)<(List.range ops.size).countP (λj=>!c.getD j Y):=by
    have v:(!(c.setIfInBounds i Y).getD i Y)=false:=by
     rw[gD,sS u];rfl
    have⟨G,H,B⟩:=List.append_of_mem (List.mem_range.2 hlt);rw[B];simp only[List.countP_append,List.countP_cons,v,q];have e1:=List.countP_mono_left (l:=G) (λj _=>n j);have e2:=List.countP_mono_left (l:=H) (λj _=>n j);simp only[Bool.false_eq_true,if_false,if_true];omega
   omega
theorem pL{id n:Nat}{Q:Exit->Act->Wj->Prop}{a:Act}{w:Wj}(f:P.follows .mixedOrders=Y)(I:Array Bool->Act->Wj->Prop)(d:∀c a w i,I c a w->i∈Region.ready .any ops c->yX P ops ro i a w (I (c.setIfInBounds i Y)))(e:∀c a w,I c a w->Region.ready .any ops c=[]->Q .normal a w)
  (q:I (Array.replicate ops.size Z) a {w with drawn:=w.drawn+1}):(Code.region id ops Y).wpIn (wf ro) n P Q a w:=by
 intro b k cs s _ _;have r:=Bt (ro:=ro) I d e ops.size (w.tape w.drawn (.order b.fn id)) _ a _ q (by
  have:=List.countP_le_length (p:=λi=>!(Array.replicate ops.size Z).getD i Y) (l:=List.range ops.size);simpa using this)
 obtain⟨m,h,o,j⟩:=jP (b:=b) (k:=k) (cs:=cs) s _ _ _ r;refine⟨.normal,m,h,o,qT.2 (.head stepR_region_draw ?_)⟩;simp only[Region.schedule,f,Bool.true_or,if_true];exact j
theorem sX{i:Nat}{q:Oper}{a:Act}{w:Wj}{K:Act->Wj->Prop}(d:ops[i]?=J q)(f:Region.wanted q (yielded ops a.tmps)=Z)(e:K (a.put q.dst Wo) w):yX P ops ro i a w K:=by
 intro b k cs c hb;refine⟨_,_,e,.one ?_⟩;have h:=stepR_op_skip (P:=P) (b:=b) (a:=a) (k:=k) (cs:=cs) (w:=w) (ops:=ops) (i:=i) (rest:=c) (by simp[d,f]);simpa only[d,Option.bind_some]using h
theorem yZ{i:Nat}{o:Oper}{a:Act}{w w':Wj}{l:Nat}{f:FuncId}{tmps:Array Wx}{assign body:Code}{n:Nat}{d:Act->Wj->Prop}(r:ops[i]?=J o)(u:Region.wanted o (yielded ops a.tmps)=Y)(t:∀c,o.op≠.defer c)(y:(execOp a.eval o).run P w=.ok (.round l f tmps assign body) w')
  (x:RoundIn (wf ro) n P l f tmps assign body w' λe q=>∃v,e=.returned v/\d (a.put o.dst v) q):yX P ops ro i a w d:=by
 intro b k cs h hb;obtain⟨e,w2,⟨v,rfl,z⟩,p⟩:=x.2 (b.atR a (.inRegion ops (i::h)::k)) cs (GI _ _);have p:=qT.1 (show StepsIn (Machine.fenced P (wf ro)) P _ _ from p);refine⟨_,_,z,?_⟩;have s:=stepGR_op (P:=P) (b:=b) (k:=k) (cs:=cs) (w:=w) (rest:=h) r u;rw[Oper.semAt_eq _ _ _ t]at s;have j:step P (lone (b.atR a (.inRegion ops (i::h)::k)) cs w)=.next (lone (Frame.round l f tmps assign body .normal) (b.atR a (.inRegion ops (i::h)::k)::cs) w'):=
  step_lone_go (by rw[s];simp[stepG.apply,y,Frame.atR])
 have m:(b.atR a (.inRegion ops (i::h)::k)).finish v=b.atR (a.put o.dst v) (.inRegion ops h::k):=by rw[Frame.finish_atR,r];rfl
 rw[<-m];exact .head j p
theorem jC{a:Act}{d t:Nat}{z:Wx}(h:t≠d):(a.put (J d) z).eval (.tmp t)=a.eval (.tmp t):=by
 simp only[Act.put,Act.eval,gD];rw[sN (λe=>h e.symm)]
theorem qU{a:Act}{d:Nat}{z:Wx}(h:d<a.tmps.size):(a.put (J d) z).eval (.tmp d)=z:=by
 simp only[Act.put,Act.eval,gD];rw[sS h];rfl
theorem jm{a:Act}{j d:Nat}{q:Oper}{x:Bool}(f:ops[j]?=J q)(e:q.dst=J d)(c:d<a.tmps.size)(b:a.eval (.tmp d)=C x):yielded ops a.tmps j=J x:=by
 simp only[Act.eval,gD,eG c,Option.getD_some]at b;simp[yielded,f,e,c,b]
structure Vals (a0:Act)(base lim:Nat)(vals:Nat->Wx)(Wd:(Nat->Bool)->Wj->Prop)(sz:Nat)(listed:Array Bool)(a:Act)(w:Wj):Prop where
 size:a.tmps.size=a0.tmps.size
 defers:a.defers=a0.defers
 old:∀t,t<base->a.eval (.tmp t)=a0.eval (.tmp t)
 new:∀i,i<lim->listed.getD i Z=Y->a.eval (.tmp (base+i))=vals i
 world:Wd (λi=>listed.getD i Z) w
 len:listed.size=sz
theorem lI{a:Array Bool}{i:Nat}{q:Oper}(h:i∈Region.ready .any ops a)(c:ops[i]?=J q):∀e∈q.after,Region.binds .any e=Y->a.getD e.on Z=true:=by
 have b:=(List.mem_filter.1 h).2;simp only[c,Option.map_some,Option.getD_some,bT]at b;intro e f d;have:=Array.all_eq_true'.1 b.2 e f;simpa[d]using this
theorem cR{a:Array Bool}{i:Nat}(h:i∈Region.ready .any ops a):i<ops.size/\a.getD i Y=false:=by
 have b:=List.mem_filter.1 h;have c:=b.2;simp only[bT,Bool.not_eq_true']at c;exact⟨List.mem_range.1 b.1,c.1⟩
def ed(d:Nat->Bool)(i:Nat):Nat->Bool:=λj=>if j=i then Y else d j
theorem pM{a:Array Bool}{i:Nat}(h:i<a.size):(λj=>(a.setIfInBounds i Y).getD j Z)=ed (λj=>a.getD j Z) i:=by
 funext j;unfold ed;by_cases b:j=i
 .subst b;rw[if_pos rfl,gD,sS h];rfl
 .rw [if_neg b,gD,sN (λe=>b e.symm),<-gD]
theorem Vals.step{m:Act}{d c:Nat}{f:Nat->Wx}{Wd:(Nat->Bool)->Wj->Prop}{b:Array Bool}{a:Act}{w w':Wj}{i:Nat}{o:Oper}(V:Vals m d c f Wd ops.size b a w)(x:i∈Region.ready .any ops b)(ho:ops[i]?=J o)(r:i<c->o.dst=J (d+i))(l:¬i<c->o.dst=N)(hsz:d+c<=m.tmps.size)
  {v:Wx} (s:i<c->v=f i) (q:Wd (ed (λj=>b.getD j Z) i) w'):Vals m d c f Wd ops.size (b.setIfInBounds i Y) (a.put o.dst v) w':=by
 have hlt:i<b.size:=by rw[V.len];exact(cR x).1
 by_cases h:i<c
 .rw [r h];refine⟨by simp[Act.put,V.size],V.defers,λt u=>(jC (by omega)).trans (V.old t u),λj p n=>?_,by rw[pM hlt];exact q,by simp[V.len]⟩;by_cases k:j=i
  .subst k;rw[qU (by rw[V.size];omega)];exact s h
  .rw [jC (by omega)];refine V.new j p ?_
   rwa [gD,sN (λe=>k e.symm),<-gD]at n
 .rw [l h];refine⟨V.size,V.defers,V.old,λj p n=>V.new j p ?_,by rw[pM hlt];exact q,by simp[V.len]⟩
  rwa [gD,sN (λe=>h (by omega)),<-gD]at n
def Bu(ops:Array Oper):Bool:=(List.range ops.size).all λi=>((ops[i]?).map λo=>o.after.toList.all λe=>decide (e.on<i)).getD Y
def GJ(ops:Array Oper)(a b:Nat):Bool:=(List.range ops.size).all λi=>((ops[i]?).map λo=>if i<b then o.dst==J (a+i)else o.dst==N).getD Y
theorem xx(j:Bu ops=Y){a:Array Bool}(hs:a.size=ops.size)(l:Region.ready .any ops a=[]):∀i,i<ops.size->a.getD i Z=true:=by
 intro i;induction i using Nat.strongRecOn with
 |_ i ih=>
  intro b;by_cases h:a.getD i Z=Y
  .exact h
  .exfalso;have c:i∈Region.ready .any ops a:=by
    refine List.mem_filter.2 ⟨List.mem_range.2 b,?_⟩;have f:=List.all_eq_true.1 j i (List.mem_range.2 b);simp only[eG b,Option.map_some,Option.getD_some,bT]at f ⊢;refine⟨?_,Array.all_eq_true'.2 λe k=>?_⟩
    .rw [gD,eG (by omega)]at h ⊢;simpa using h
    .have d:=List.all_eq_true.1 f e (Array.mem_toList_iff.2 k);have m:=ih e.on (by simpa using d) (Nat.lt_trans (show e.on<i by simpa using d) (by omega));simp[m]
   rw[l]at c;cases c
theorem xy{a b:Nat}(e:GJ ops a b=Y):∀i o,ops[i]?=J o->(i<b->o.dst=J (a+i))/\(¬i<b->o.dst=N):=by
 intro i o d;have f:i<ops.size:=(eS d).1;have c:=List.all_eq_true.1 e i (List.mem_range.2 f);simp only[d,Option.map_some,Option.getD_some]at c;refine⟨λh=>?_,λh=>?_⟩
 .rw [if_pos h]at c;simpa using c
 .rw [if_neg h]at c;simpa using c
theorem jQ{id n:Nat}{Q:Exit->Act->Wj->Prop}{a0:Act}{w0:Wj}(H:P.follows .mixedOrders=Y)(c k:Nat)(f:Nat->Wx)(Wd:(Nat->Bool)->Wj->Prop)(x:c+k<=a0.tmps.size)
  (l:GJ ops c k=Y) (s:Bu ops=Y)
  (m:∀ (b:Array Bool) (a:Act) (w:Wj) (i:Nat) (o:Oper),i∈Region.ready .any ops b->ops[i]?=J o->Vals a0 c k f Wd ops.size b a w->(∀e∈o.after,Region.binds .any e=Y->b.getD e.on Z=Y) ->
   yX P ops ro i a w (λA z=>∃v,A=a.put o.dst v/\(i<k->v=f i)/\Wd (ed (λj=>b.getD j Z) i) z))
  (r:∀a w,a.tmps.size=a0.tmps.size->a.defers=a0.defers->(∀t,t<c->a.eval (.tmp t)=a0.eval (.tmp t))->(∀i,i<k->i<ops.size->a.eval (.tmp (c+i))=f i)->(∃d,(∀i,i<ops.size->d i=Y)/\Wd d w)->Q .normal a w)
  (G:Wd (λ_=>Z) {w0 with drawn:=w0.drawn+1}):(Code.region id ops Y).wpIn (wf ro) n P Q a0 w0:=by
 have y:(λi=>(Array.replicate ops.size Z).getD i Z)=λ_=>false:=by
  funext i;rw[gD,Array.getElem?_replicate];split<;>rfl
 refine pL H (Vals a0 c k f Wd ops.size) (λb a w i V p=>?_) (λb a w V F=>?_) ⟨rfl,rfl,λ_ _=>rfl,λi _ h=>?_,by rw[y];exact G,by simp⟩
 .have hlt:=(cR p).1;have q:=eG hlt;refine(m b a w i _ p q V (lI p q)).mono ?_;rintro A z ⟨v,rfl,L,D⟩;exact V.step p q (xy l i _ q).1 (xy l i _ q).2 x L D
 .have B:=xx s V.len F;exact r a w V.size V.defers V.old (λi p u=>V.new i p (B i u)) ⟨_,B,V.world⟩
 .have:=congrFun y i;exact absurd (this.symm.trans h) (by simp)
end
end
section
open Go.RowKit
theorem ah{W b:Wj}(c:Below W.heap.size W b){a:Wu}{v:Wx}(h:W.cell? a=J v):b.cell? a=J v:=by
 rw[c.cell (bC W a h)];exact h
theorem xz(x y:Int):mW x y<0↔x<y:=by unfold mW;(repeat' split)<;>omega
theorem FK(x y:Int):(mW x y==0)=decide (x=y):=by unfold mW;(repeat' split)<;>simp<;>omega
theorem GK(b n D:Nat)(L:Nat->Int)(p:Nat->Option Wu)(t:Int)(w:Wj)(hn:n<=2199023255552)
  (G:∀i,i<n->w.cell? ⟨b,i*2,N⟩=J (I .u8 (L i))/\w.cell? ⟨b,i*2+1,N⟩=J (O (p i)))
  (F:∀i j,i<j->j<n->L i<L j):
  Calls Yq.prog 108 #[M (J ⟨b,0,N⟩) n D,I .u8 t,.func (.func 109) #[] #[]] w λe z=>∃r:Nat,r<=n/\(∀j,j<r->L j<t)/\(∀j,r<=j->j<n->t<=L j) /\
   e=.returned (.tuple #[I K r,C (decide (r<n/\L r=t))])/\Below w.heap.size w z:=by
 have HS:Hid (∀i j,i<j->j<n->L i<L j):=F;clear F;go_enter (Yq.nq func108),ntmps108;go_wp2
 go_loopw [9,10,11] (λi j _ wr=>∃x y:Nat,x<=y/\y<=n/\i=I K x/\j=I K y/\(∀k,k<x->L k<t)/\(∀k,y<=k->k<n->t<=L k)/\Below w.heap.size w wr) (λi j _ _=>(intOf j).toNat-(intOf i).toNat)
 case atStart=>exact⟨0,n,Nat.zero_le _,lR _,rfl,rfl,λk h=>absurd h (Nat.not_lt_zero _),λk h1 H=>absurd H (by omega),bR _ _⟩
 case round=>
  obtain⟨x,y,A,c,rfl,rfl,o,u,a⟩:=hrel;have HL:Hid (∀k,k<x->L k<t):=o;have HH:Hid (∀k,y<=k->k<n->t<=L k):=u;clear o u;by_cases hlt:x<y
  .have ⟨s,v⟩:=G ((x+y)/2) (by omega);replace s:=ah a s;replace v:=ah a v;by_cases f:L ((x+y)/2)<t
   .have q:=(xz _ _).2 f;go_wp2_with (go_at_call 109;refine(qt _ _ _ _).mono ?_;rintro e z ⟨rfl,rfl⟩)
    refine⟨⟨(x+y)/2+1,y,by omega,c,by go_num,rfl,λk hk=>?_,HH.out,a.alloc a.size _⟩,by simp[intOf];omega⟩;by_cases l:k=(x+y)/2
    .rw [l];exact f
    .have:=HS.out k ((x+y)/2) (by omega) (by omega);omega
   .have q:¬mW (L ((x+y)/2)) t<0:=λh=>f ((xz _ _).1 h)
    go_wp2_with (go_at_call 109;refine(qt _ _ _ _).mono ?_;rintro e z ⟨rfl,rfl⟩)
    refine⟨⟨x,(x+y)/2,by omega,by omega,rfl,by go_num,HL.out,λk hk1 l=>?_,a.alloc a.size _⟩,by simp[intOf];omega⟩;by_cases B:k=(x+y)/2
    .rw [B];omega
    .have:=HS.out ((x+y)/2) k (by omega) (by omega);omega
  .have m:x=y:=by omega
   subst m;clear hlt A;by_cases d:x<n
   .have ⟨s,v⟩:=G x d;replace s:=ah a s;replace v:=ah a v;go_wp2_with (go_at_call 109;refine(qt _ _ _ _).mono ?_;rintro e z ⟨rfl,rfl⟩)
    go_ret2
    exact⟨x,c,HL.out,HH.out,by simp[d,FK],a.alloc a.size _⟩
   .go_wp2
    go_ret2
    exact⟨x,c,HL.out,HH.out,by simp[d],a⟩
theorem D8(a:Option Wu)(b:Nat)(t:Int)(w:Wj):
  Calls Yq.prog 108 #[M a 0 b,I .u8 t,.func (.func 109) #[] #[]] w λe c=>e=.returned (.tuple #[I K 0,C Z])/\c=w:=by
 go_enter (Yq.nq func108),ntmps108;go_wp2;refine wp_loop_rounds 1 ?_;rw[rounds_succ];go_wp2
 go_ret2
 exact⟨rfl,rfl⟩
theorem GL(b n F:Nat)(L:Nat->Int)(S:Nat->ByteArray)(a:Nat->Bool)(t:Int)(w:Wj)(hn:n<=2199023255552)
  (H:∀i,i<n->w.cell? ⟨b,i*3,N⟩=J (I K (L i))/\w.cell? ⟨b,i*3+1,N⟩=J (U (S i))/\w.cell? ⟨b,i*3+2,N⟩=J (C (a i)))
  (G:∀i j,i<j->j<n->L i<L j):
  Calls Yq.prog 87 #[M (J ⟨b,0,N⟩) n F,I K t,.func (.func 88) #[] #[]] w λe A=>∃r:Nat,r<=n/\(∀j,j<r->L j<t)/\(∀j,r<=j->j<n->t<=L j) /\
   e=.returned (.tuple #[I K r,C (decide (r<n/\L r=t))])/\Below w.heap.size w A:=by
 have HS:Hid (∀i j,i<j->j<n->L i<L j):=G;clear G;go_enter (Yq.nq func87),ntmps87;go_wp2
 go_loopw [9,10,11] (λi j _ wr=>∃x y:Nat,x<=y/\y<=n/\i=I K x/\j=I K y/\(∀k,k<x->L k<t)/\(∀k,y<=k->k<n->t<=L k)/\Below w.heap.size w wr) (λi j _ _=>(intOf j).toNat-(intOf i).toNat)
 case atStart=>exact⟨0,n,Nat.zero_le _,lR _,rfl,rfl,λk h=>absurd h (Nat.not_lt_zero _),λk h1 P=>absurd P (by omega),bR _ _⟩
 case round=>
  obtain⟨x,y,B,d,rfl,rfl,q,v,c⟩:=hrel;have HL:Hid (∀k,k<x->L k<t):=q;have HH:Hid (∀k,y<=k->k<n->t<=L k):=v;clear q v;by_cases hlt:x<y
  .have ⟨u,z,m⟩:=H ((x+y)/2) (by omega);replace u:=ah c u;replace z:=ah c z;replace m:=ah c m;by_cases l:L ((x+y)/2)<t
   .have s:=(xz _ _).2 l;go_wp2_with (go_at_call 88;refine(qu _ _ _ _ _).mono ?_;rintro e A ⟨rfl,rfl⟩)
    refine⟨⟨(x+y)/2+1,y,by omega,d,by go_num,rfl,λk hk=>?_,HH.out,c.alloc c.size _⟩,by simp[intOf];omega⟩;by_cases o:k=(x+y)/2
    .rw [o];exact l
    .have:=HS.out k ((x+y)/2) (by omega) (by omega);omega
   .have s:¬mW (L ((x+y)/2)) t<0:=λh=>l ((xz _ _).1 h)
    go_wp2_with (go_at_call 88;refine(qu _ _ _ _ _).mono ?_;rintro e A ⟨rfl,rfl⟩)
    refine⟨⟨x,(x+y)/2,by omega,by omega,rfl,by go_num,HL.out,λk hk1 o=>?_,c.alloc c.size _⟩,by simp[intOf];omega⟩;by_cases D:k=(x+y)/2
    .rw [D];omega
    .have:=HS.out ((x+y)/2) k (by omega) (by omega);omega
  .have p:x=y:=by omega
   subst p;clear hlt B;by_cases f:x<n
   .have ⟨u,z,m⟩:=H x f;replace u:=ah c u;replace z:=ah c z;replace m:=ah c m;go_wp2_with (go_at_call 88;refine(qu _ _ _ _ _).mono ?_;rintro e A ⟨rfl,rfl⟩)
    go_ret2
    exact⟨x,d,HL.out,HH.out,by simp[f,FK],c.alloc c.size _⟩
   .go_wp2
    go_ret2
    exact⟨x,d,HL.out,HH.out,by simp[f],c⟩
theorem D9(a:Option Wu)(b:Nat)(t:Int)(w:Wj):
  Calls Yq.prog 87 #[M a 0 b,I K t,.func (.func 88) #[] #[]] w λe c=>e=.returned (.tuple #[I K 0,C Z])/\c=w:=by
 go_enter (Yq.nq func87),ntmps87;go_wp2;refine wp_loop_rounds 1 ?_;rw[rounds_succ];go_wp2
 go_ret2
 exact⟨rfl,rfl⟩
structure Ver where
 num:Int
 body:ByteArray
 mark:Bool
def aq(h:List Ver):List Wx:=h.flatMap λv=>[I K v.num,U v.body,C v.mark]
def aC(ks:List (UInt8×Option Wu)):List Wx:=ks.flatMap λk=>[I .u8 (k.1.toNat:Int),O k.2]
def bZ(A:Nat->Prop)(w:Wj)(v:Wx)(n:Nat)(xs:List Wx):Prop:=
 ∃a b,v=M a n b/\(a=N->b=0)/\(xs≠[]->∃g,a=J ⟨g,0,N⟩/\A g/\g<w.heap.size/\∀j,j<xs.length->w.cell? ⟨g,j,N⟩=xs[j]?)
def bm(A:Nat->Prop)(w:Wj)(v:Wx)(h:List Ver):Prop:=bZ A w v h.length (aq h)
def gz(A:Nat->Prop)(w:Wj)(v:Wx)(ks:List (UInt8×Option Wu)):Prop:=bZ A w v ks.length (aC ks)
def am(A:Nat->Prop):Nat->Wj->Option Wu->(List UInt8->List Ver)->Prop
 | 0,_,p,f=>p=N/\∀k,f k=[]
 |n+1,w,p,f=>(p=N/\∀k,f k=[])\/∃g e h d,p=J ⟨g,0,N⟩/\A g/\w.cell? ⟨g,0,N⟩=J (C (!(f []).isEmpty))/\w.cell? ⟨g,1,N⟩=J e /\
   w.cell? ⟨g,2,N⟩=J h/\bm A w e (f [])/\gz A w h d/\d.Pairwise (λa b=>a.1<b.1) /\
   (∀c q,(c,q)∈d->am A n w q (λk=>f (c::k)))/\(∀c,(∀q,(c,q) ∉ d)->∀k,f (c::k)=[])/\∀c q,(c,q)∈d->q≠N
theorem bZ.keep{A:Nat->Prop}{w w':Wj}{z:Wx}{n:Nat}{xs:List Wx}(h:bZ A w z n xs)
  (l:∀b,A b->b<w.heap.size->A' b/\w'.heap[b]?=w.heap[b]?):bZ A' w' z n xs:=by
 obtain⟨a,e,o,d,t⟩:=h;refine⟨a,e,o,d,λc=>?_⟩;have⟨g,p,s,k,r⟩:=t c;have⟨q,f⟩:=l g s k;refine⟨g,p,q,?_,λj m=>?_⟩
 .have:w'.heap[g]?.isSome:=by rw[f];simp[k]
  simpa using this
 .rw [cB (w:=w) (w':=w') (a:=⟨g,j,N⟩) f];exact r j m
theorem am.keep{A:Nat->Prop}{w w':Wj}(j:∀b,A b->b<w.heap.size->A' b/\w'.heap[b]?=w.heap[b]?):
  ∀ (n:Nat) (p:Option Wu) (f:List UInt8->List Ver),am A n w p f->am A' n w' p f:=by
 intro n;induction n with
 |zero=>intro p f h;exact h
 |succ n ih=>
  intro p f h;rcases h with h|⟨g,y,u,s,m,D,l,B,o,r,i,t,k,d⟩
  .exact Or.inl h
  .have v:=bC w _ l;have⟨z,e⟩:=j g D v;refine Or.inr ⟨g,y,u,s,m,z,?_,?_,?_,r.keep j,i.keep j,t,λc q x=>ih q _ (k c q x),d⟩
   .rw [cB (w:=w) (w':=w') (a:=⟨g,0,N⟩) e];exact l
   .rw [cB (w:=w) (w':=w') (a:=⟨g,1,N⟩) e];exact B
   .rw [cB (w:=w) (w':=w') (a:=⟨g,2,N⟩) e];exact o
theorem sY{A:Nat->Prop}{w a:Wj}(d:Below w.heap.size w a):∀b,A b->b<w.heap.size->A b/\a.heap[b]?=w.heap[b]?:=
 λb c hlt=>⟨c,d.block b hlt⟩
theorem am.on{A:Nat->Prop}{w w':Wj}{n:Nat}{H:Option Wu}{f:List UInt8->List Ver}(h:am A n w H f)(a:Below w.heap.size w w'):am A n w' H f:=
 am.keep (sY a) n H f h
theorem bZ.on{A:Nat->Prop}{w w':Wj}{z:Wx}{n:Nat}{xs:List Wx}(h:bZ A w z n xs)(a:Below w.heap.size w w'):bZ A w' z n xs:=h.keep (sY a)
theorem fO{α:Type}(m:Nat)(g:α->List Wx)(b:∀a,(g a).length=m)(l:List α):(l.flatMap g).length=l.length*m:=by
 induction l with
 |nil=>simp
 |cons a l ih=>simp[ih,b];rw[Nat.add_mul,Nat.one_mul,Nat.add_comm]
theorem ce{α:Type}(m:Nat)(g:α->List Wx)(b:∀a,(g a).length=m)(l:List α)(i j:Nat)(c:i<l.length)(d:j<m):
  (l.flatMap g)[i*m+j]?=(g l[i])[j]?:=by
 induction l generalizing i with
 |nil=>simp at c
 |cons a l ih=>
  rw[List.flatMap_cons];cases i with
  |zero=>simp only[Nat.zero_mul,zA,List.getElem_cons_zero];rw[aL (by rw[b];exact d)]
  |succ i=>
   rw[aR (by rw[b,Nat.add_mul,Nat.one_mul];omega),b];have e:(i+1)*m+j-m=i*m+j:=by rw[Nat.add_mul,Nat.one_mul];omega
   rw[e,ih i (by simpa using c)];rfl
theorem fP(h:List Ver):(aq h).length=h.length*3:=fO 3 _ (λ_=>rfl) h
theorem eJ(a:List (UInt8×Option Wu)):(aC a).length=a.length*2:=fO 2 _ (λ_=>rfl) a
theorem vI{h:List Ver}(a:h≠[]):aq h≠[]:=by
 intro e;have:=fP h;rw[e]at this;simp only[lN]at this;exact a (List.length_eq_zero_iff.1 (by omega))
theorem vJ(a:ks≠[]):aC ks≠[]:=by
 intro e;have:=eJ ks;rw[e]at this;simp only[lN]at this;exact a (List.length_eq_zero_iff.1 (by omega))
theorem bm.cells{A:Nat->Prop}{w:Wj}{v:Wx}{h:List Ver}(l:bm A w v h)(e:h≠[]):
  ∃g b,v=M (J ⟨g,0,N⟩) h.length b/\A g/\g<w.heap.size/\(∀i (d:i<h.length),w.cell? ⟨g,i*3,N⟩=J (I K h[i].num)/\w.cell? ⟨g,i*3+1,N⟩=J (U h[i].body)/\w.cell? ⟨g,i*3+2,N⟩=J (C h[i].mark)) /\
   ∀j,j<(aq h).length->w.cell? ⟨g,j,N⟩=(aq h)[j]?:=by
 obtain⟨a,b,f,-,o⟩:=l;have⟨g,k,n,m,c⟩:=o (vI e);subst k;refine⟨g,b,f,n,m,λi d=>?_,c⟩;have hl:=fP h;refine⟨?_,?_,?_⟩
 .rw [c (i*3) (by omega)];exact ce 3 _ (λ_=>rfl) h i 0 d (by omega)
 .rw [c (i*3+1) (by omega)];exact ce 3 _ (λ_=>rfl) h i 1 d (by omega)
 .rw [c (i*3+2) (by omega)];exact ce 3 _ (λ_=>rfl) h i 2 d (by omega)
theorem gz.cells{A:Nat->Prop}{w:Wj}{v:Wx}{h:List (UInt8×Option Wu)}(l:gz A w v h)(c:h≠[]):
  ∃g b,v=M (J ⟨g,0,N⟩) h.length b/\A g/\g<w.heap.size/\(∀i (e:i<h.length),w.cell? ⟨g,i*2,N⟩=J (I .u8 (h[i].1.toNat:Int))/\w.cell? ⟨g,i*2+1,N⟩=J (O h[i].2)) /\
   ∀j,j<(aC h).length->w.cell? ⟨g,j,N⟩=(aC h)[j]?:=by
 obtain⟨a,b,f,-,o⟩:=l;have⟨g,k,n,m,d⟩:=o (vJ c);subst k;refine⟨g,b,f,n,m,λi e=>?_,d⟩;have hl:=eJ h;refine⟨?_,?_⟩
 .rw [d (i*2) (by omega)];exact ce 2 _ (λ_=>rfl) h i 0 e (by omega)
 .rw [d (i*2+1) (by omega)];exact ce 2 _ (λ_=>rfl) h i 1 e (by omega)
theorem vK(c:List (UInt8×Option Wu))(m:Nat)(i:c.Pairwise (λa b=>a.1<b.1))(f:∀k∈c,m<=k.1.toNat)(d:m<=256):c.length+m<=256:=by
 induction c generalizing m with
 |nil=>simpa using d
 |cons a c ih=>
  have⟨e,j⟩:=List.pairwise_cons.1 i;have ha:=f a (List.mem_cons_self ..);have hlt:=a.1.toNat_lt;have:=ih (a.1.toNat+1) j (λk h=>by have:=UInt8.lt_iff_toNat_lt.1 (e k h);omega) (by omega);simp only[lC];omega
theorem lJ(c:List (UInt8×Option Wu))(d:c.Pairwise (λa b=>a.1<b.1)):c.length<=256:=by
 have:=vK c 0 d (λ_ _=>Nat.zero_le _) (by omega);omega
theorem jR{c:List (UInt8×Option Wu)}(e:c.Pairwise (λa b=>a.1<b.1))(i j:Nat)(d:i<j)(f:j<c.length):(c[i].1.toNat:Int)<(c[j].1.toNat:Int):=by
 have:=List.pairwise_iff_getElem.1 e i j (by omega) f d;have:=UInt8.lt_iff_toNat_lt.1 this;omega
end
section
open Go.Conc Go.ConcX Go.ConcX.Gen Go.RowKit
structure iA (B:Nat)(w:Wj)(g cap:Nat)(bs:List UInt8):Prop where
 base:B<=g
 obj:∃x e z,w.heap[g]?=J (E x e z)
 le:bs.length<=cap
 cells:∀j (hj:j<bs.length),w.cell? ⟨g,j,N⟩=J (I .u8 (bs[j].toNat:Int))
 room:∀j,j<cap->(w.cell? ⟨g,j,N⟩).isSome=Y/\w.frozen? ⟨g,j,N⟩=Z
theorem iA.lt{B:Nat}{w:Wj}{g b:Nat}{c:List UInt8}(a:iA B w g b c):g<w.heap.size:=by
 have⟨x,e,z,h⟩:=a.obj;exact(eS h).1
def nc(g cap:Nat)(bs:List UInt8):Wx:=M (J ⟨g,0,N⟩) bs.length cap
theorem iA.same{B:Nat}{w w':Wj}{g c:Nat}{bs:List UInt8}(b:iA B w g c bs)(h:w'.heap[g]?=w.heap[g]?):iA B w' g c bs:=by
 exact⟨b.base,by rw[h];exact b.obj,b.le,λj d=>(cB (a:=⟨g,j,N⟩) h).trans (b.cells j d),λj d=>by
  rw[cB (a:=⟨g,j,N⟩) h,fB (a:=⟨g,j,N⟩) h];exact b.room j d⟩
theorem iA.take{B:Nat}{w:Wj}{g c:Nat}{bs:List UInt8}{b:UInt8}(a:iA B w g c (bs++[b])):iA B w g c bs:=by
 refine⟨a.base,a.obj,by have:=a.le;simp at this;omega,λj d=>?_,a.room⟩;rw[a.cells j (by simp;omega),List.getElem_append_left d]
theorem Yq.infoByte:(Yq.prog.info? 5).map (λi=>(i.zero,i.size,i.bytes))=J (J (I .u8 0),1,1):=by kernel_rfl
theorem bO{g i j:Nat}(h:i≠j):(⟨g,i,N⟩:Wu)≠⟨g,j,N⟩:=by simp
theorem zb{B:Nat}{w:Wj}{g m:Nat}{d:List UInt8}(a:iA B w g m d)(hB:B<=w.heap.size)(hl:d.length<=1000)(D:Nat)(b:UInt8)(hb:w.cell? ⟨D,0,N⟩=J (I .u8 (b.toNat:Int)))(ty:Ww):
  ∃r c t,(Builtin.append_ #[118,118] ty #[nc g m d,M (J ⟨D,0,N⟩) 1 1]).run Yq.prog w=.ok (nc r c (d++[b])) t/\iA B t r c (d++[b])/\(r=g/\c=m\/w.heap.size<=r/\t.heap[g]?=w.heap[g]?) /\
   (∀k,k<w.heap.size->k≠g->t.heap[k]?=w.heap[k]?)/\w.heap.size<=t.heap.size/\t.os=w.os:=by
 have⟨X,hi,Q,q,aa⟩:=info_parts Yq.infoByte;have s:∀j u,[Value.int .u8 (b.toNat:Int)][j]?=J u->w.cell? ((⟨D,0,N⟩:Wu).add j)=J u:=λj u f=>by
  cases j with
  |zero=>simp at f;subst f;rw[Addr.add_lit];exact hb
  |succ j=>simp at f
 have T:∀u∈[Value.int .u8 (b.toNat:Int)],u.oneCell'=true:=λu hu=>by simp at hu;subst hu;rfl
 by_cases hr:d.length+1<=m
 .have l:=a.room d.length (by omega);have H:∀j,j < [Value.int .u8 (b.toNat:Int)].length->j=0:=λj f=>by simp at f;omega
  have o:=run_append_room_cells (P:=Yq.prog) w 118 ty 5 X (Yq.u underlying118) hi g 0 d.length m ⟨D,0,N⟩ 1 1 [I .u8 (b.toNat:Int)] (by simp[q]) s T hr (λj f=>by rw[H j f];simpa[q]using l.1) (λj f=>by rw[H j f];simpa[q]using l.2);have e:w.setCells g (0+d.length*X.size) [I .u8 (b.toNat:Int)]=w.setCell ⟨g,d.length,N⟩ (I .u8 (b.toNat:Int)):=by simp[World.setCells,q]
  rw[e]at o;have⟨u0,G⟩:=Option.isSome_iff_exists.1 l.1;have V:(w.setCell ⟨g,d.length,N⟩ (I .u8 (b.toNat:Int))).heap.size=w.heap.size:=by simp
  have S:∃x e z,(w.setCell ⟨g,d.length,N⟩ (I .u8 (b.toNat:Int))).heap[g]?=J (E x e z):=by
   have⟨x,e,z,h⟩:=a.obj;refine⟨x.setIfInBounds d.length (I .u8 (b.toNat:Int)),e,z,?_⟩;have⟨T,h2⟩:=eS h;show(w.heap.modify g _)[g]?=_;rw[eG (by rw[Array.size_modify];exact T),Array.getElem_modify_self,h2];rfl
  refine⟨g,m,_,by simpa[nc]using o,⟨a.base,S,by simpa using hr,λj f=>?_,λj f=>?_⟩,.inl ⟨rfl,rfl⟩,λk _ R=>bS _ _ _ _ R,by rw[V];exact lR _,((bR 0 w).setCell (p:=⟨g,d.length,N⟩) (Nat.zero_le _) _).os⟩
  .by_cases n:j=d.length
   .subst n;rw[cS _ _ _ (by rw[G];rfl)];simp
   .rw [cO _ _ _ _ (bO λe=>n e.symm),a.cells j (by simp at f;omega),List.getElem_append_left (by simp at f;omega)]
  .have:=a.room j f;refine⟨?_,by rw[World.frozen?_setCell];exact this.2⟩;by_cases n:j=d.length
   .subst n;rw[cS _ _ _ (by rw[G];rfl)];rfl
   .rw [cO _ _ _ _ (bO λe=>n e.symm)];exact this.1
 .obtain ⟨v',t,o,v,i⟩:=run_append_arg_grows (P:=Yq.prog) w 118 ty 5 X _ 1 1 (Yq.u underlying118) hi Q q aa rfl (by decide) ⟨g,0,N⟩ d.length m (d.map λb=>Value.int .u8 (b.toNat:Int)) (by simp) (λj u f=>by
   rw[Addr.add_lit,zA];have⟨A,n⟩:=sL f;simp at A;rw[a.cells j A,<-n];simp) ⟨D,0,N⟩ 1 1 [I .u8 (b.toNat:Int)] rfl s (by omega) (by simp only[maxLen];omega) (by omega)
  rcases v.2 with⟨-,h⟩|⟨r,c,F,rfl,L,y,ad,hm,hs,htake⟩
  .omega
  have ac:∀j,t.cell? ⟨r,j,N⟩=F[j]?:=λj=>cell_of_row t r j F 5 (0,0) y
  refine⟨r,c,t,?_,⟨lT hB L,⟨_,_,_,y⟩,by simpa using ad,λj f=>?_,λj f=>?_⟩,.inr ⟨L,i.block g a.lt (by simp)⟩,λk R _=>i.block k R (by simp),i.size,i.os⟩
  .rw [show nc r c (d++[b])=M (J ⟨r,0,N⟩) (d.length+1) c by simp[nc]];exact o
  .have hc:=v.cells (g:=r) rfl j (I .u8 ((d++[b])[j].toNat:Int)) (by
    rw[List.getElem?_append];by_cases h:j<d.length
    .simp [h]
    .have:j=d.length:=by simp at f;omega
     subst this;simp)
   rw[Addr.add_lit,zA]at hc;exact hc
  .rw [ac,World.frozen?,y];simp[hs,f]
def Aw:List UInt8:=(List.range 256).map UInt8.ofNat
def db:Nat->(List UInt8->List Ver)->List UInt8->List (List UInt8×List Ver)
 | 0,_,_=>[]
 |n+1,f,bs=>(if(f []).isEmpty then[]else[(bs,f [])])++Aw.flatMap λb=>db n (λk=>f (b::k)) (bs++[b])
theorem ow(n:Nat)(f:List UInt8->List Ver)(a:List UInt8)(h:∀k,f k=[]):db n f a=[]:=by
 induction n generalizing f a with
 |zero=>rfl
 |succ n ih=>simp[db,h,ih]
theorem g7{α β:Type}(g:UInt8->List β):∀ (l:List UInt8)(e:List (UInt8×α)),l.Pairwise (· < ·)->e.Pairwise (λa b=>a.1<b.1)->(∀k∈e,k.1∈l)->(∀b∈l,(∀q,(b,q) ∉ e)->g b=[])->l.flatMap g=e.flatMap λk=>g k.1
 | [],e,_,_,hk,_=>by
  cases e with
  |nil=>rfl
  |cons a e=>exact absurd (hk a (by simp)) (by simp)
 |b::l,e,hl,hs,hk,hg=>by
  have⟨n,j⟩:=List.pairwise_cons.1 hl;cases e with
  |nil=>
   rw[List.flatMap_cons,hg b (by simp) (by simp)];exact g7 g l [] j hs (by simp) (λb x h=>hg b (by simp[x]) h)
  |cons a e=>
   have⟨i,r⟩:=List.pairwise_cons.1 hs;rw[List.flatMap_cons];by_cases d:a.1=b
   .rw [List.flatMap_cons,d];congr 1;refine g7 g l e j r (λk f=>?_) (λc p h=>hg c (by simp[p]) (λq t=>?_))
    .have y:=hk k (by simp[f]);have u:=i k f;rcases List.mem_cons.1 y with h|h
     .rw [h,<-d]at u;exact absurd u (by simp)
     .exact h
    .rcases List.mem_cons.1 t with s|s
     .have v:=n c p;rw[<-d,<-s]at v;exact absurd v (by simp)
     .exact h q s
   .have hlt:b<a.1:=by
     rcases List.mem_cons.1 (hk a (by simp))with h|h
     .exact absurd h d
     .exact n _ h
    rw[hg b (by simp) (λq t=>?_),List.nil_append]
    .refine g7 g l (a::e) j hs (λk f=>?_) (λc p h=>hg c (by simp[p]) h);rcases List.mem_cons.1 (hk k f)with h|h
     .exfalso;rcases List.mem_cons.1 f with m|m
      .rw [m]at h;exact d h
      .have o:=i k m;rw[h]at o;exact absurd o (UInt8.lt_asymm hlt)
     .exact h
    .rcases List.mem_cons.1 t with m|m
     .exact d (by rw[<-m])
     .have o:=i _ m;exact absurd o (UInt8.lt_asymm hlt)
theorem nz(b:UInt8):b∈Aw:=List.mem_map.2 ⟨b.toNat,List.mem_range.2 b.toNat_lt,by simp⟩
theorem jS:Aw.Pairwise (· < ·):=by
 rw[Aw,List.pairwise_map];refine List.pairwise_lt_range.imp_of_mem λa b h=>?_
 have:=List.mem_range.1 a;have:=List.mem_range.1 b;rw[UInt8.lt_iff_toNat_lt];simp;omega
theorem zd(n:Nat)(f:List UInt8->List Ver)(e:List UInt8)(d:List (UInt8×Option Wu))(j:d.Pairwise (λa b=>a.1<b.1))(i:∀c,(∀q,(c,q) ∉ d)->∀k,f (c::k)=[]):
  db (n+1) f e=(if(f []).isEmpty then[]else[(e,f [])])++d.flatMap λk=>db n (λx=>f (k.1::x)) (e++[k.1]):=by
 rw[db];congr 1;exact g7 (λb=>db n (λx=>f (b::x)) (e++[b])) Aw d jS j (λk _=>nz _) (λb _ h=>ow _ _ _ (i b h))
abbrev KVs:=List (List UInt8×List Ver)
def dL(t:Nat)(W W':Wj):Prop:=W.heap.size<=W'.heap.size/\W'.os=W.os/\∀ (b:Nat)(o:Obj),W.heap[b]?=J o->o.isCells=Y->b≠t->W'.heap[b]?=J o
theorem dL.refl(t:Nat)(W:Wj):dL t W W:=⟨lR _,rfl,λ_ _ h _ _=>h⟩
theorem dL.trans{t:Nat}{W W' W'':Wj}(h:dL t W W')(k:dL t W' W''):dL t W W'':=⟨lT h.1 k.1,k.2.1.trans h.2.1,λb o d c a=>k.2.2 b o (h.2.2 b o d c a) c a⟩
def fA(O:Wj->Nat->Prop)(t:Nat)(W W':Wj):Prop:=W.heap.size<=W'.heap.size/\W'.os=W.os/\(∀b,O W' b->O W b\/W.heap.size<=b)/\∀ (b:Nat)(o:Obj),W.heap[b]?=J o->o.isCells=Y->b≠t->¬O W b->W'.heap[b]?=J o
theorem fA.refl(O:Wj->Nat->Prop)(t:Nat)(W:Wj):fA O t W W:=⟨lR _,rfl,λ_ h=>.inl h,λ_ _ h _ _ _=>h⟩
theorem FL{O:Wj->Nat->Prop}{W W' w':Wj}(hs:W.heap.size<=W'.heap.size)(h:∀b,O W' b->O W b\/W.heap.size<=b)(k:∀b,O w' b->O W' b\/W'.heap.size<=b):∀b,O w' b->O W b\/W.heap.size<=b:=λb c=>by
 rcases k b c with a|a
 .exact h b a
 .exact .inr (by omega)
theorem xA{O:Wj->Nat->Prop}{W W':Wj}{b:Nat}(h:∀b,O W' b->O W b\/W.heap.size<=b)(e:W.heap[b]?=J o')(d:¬O W b):¬O W' b:=λc=>by
 rcases h b c with a|a
 .exact d a
 .have:=(eS e).1;omega
theorem fA.trans{O:Wj->Nat->Prop}{t:Nat}{W W' W'':Wj}(h:fA O t W W')(k:fA O t W' W''):fA O t W W'':=⟨lT h.1 k.1,k.2.1.trans h.2.1,FL h.1 h.2.2.1 k.2.2.1,λb o e d a c=>k.2.2.2 b o (h.2.2.2 b o e d a c) d a (xA h.2.2.1 e c)⟩
def g8(O:Wj->Nat->Prop)(g t:Nat)(W W':Wj):Prop:=W.heap.size<=W'.heap.size/\W'.os=W.os/\(∀b,O W' b->O W b\/W.heap.size<=b)/\∀ (b:Nat)(o:Obj),W.heap[b]?=J o->o.isCells=Y->b≠t->b≠g->¬O W b->W'.heap[b]?=J o
theorem g8.trans{O:Wj->Nat->Prop}{g t:Nat}{W W' W'':Wj}(h:g8 O g t W W')(k:g8 O g t W' W''):g8 O g t W W'':=⟨lT h.1 k.1,k.2.1.trans h.2.1,FL h.1 h.2.2.1 k.2.2.1,λb o d c a e f=>k.2.2.2 b o (h.2.2.2 b o d c a e f) c a e (xA h.2.2.1 d f)⟩
theorem fA.row{O:Wj->Nat->Prop}{t:Nat}{W W':Wj}(h:fA O t W W')(g:Nat):g8 O g t W W':=⟨h.1,h.2.1,h.2.2.1,λb o e d a _ c=>h.2.2.2 b o e d a c⟩
structure fG (O:Wj->Nat->Prop)(B:Nat)(w:Wj)(g cap:Nat)(bs:List UInt8):Prop extends iA B w g cap bs where
 no:¬O w g
theorem fG.same{O:Wj->Nat->Prop}{B:Nat}{w w':Wj}{g b:Nat}{bs:List UInt8}(a:fG O B w g b bs)(h:w'.heap[g]?=w.heap[g]?)(d:O w' g->O w g):fG O B w' g b bs:=⟨a.toiA.same h,λc=>a.no (d c)⟩
structure sZ (A:Nat->Prop)(w0:Wj)(B0 t l:Nat)(O:Wj->Nat->Prop)(total:KVs)(J:KVs->Wj->Prop):Prop where
 tree:∀b,A b->b<B0/\b≠t/\∃o:Obj,w0.heap[b]?=some o/\o.isCells=true
 box:t<B0
 own:∀X Y b,Y.heap[t]?=X.heap[t]?->O Y b->O X b
 ownB:∀pre X b,J pre X->O X b->B0<=b/\b<X.heap.size
 stable:∀pre X Y,J pre X->(∀b,b<B0->Y.heap[b]?=X.heap[b]?)->(∀b,O X b->Y.heap[b]?=X.heap[b]?)->X.heap.size<=Y.heap.size->Y.os=X.os->J pre Y
 size:∀pre X,J pre X->B0<=X.heap.size
 yields:∀pre k h hv X,pre++[(k,h)] <+:total->bm A w0 hv h->h≠[]->J pre X->YieldAt (wf N) 0 Yq.prog l #[U ⟨k.toArray⟩,hv] X λe X'=>e=.returned (C true)/\J (pre++[(k,h)]) X'/\fA O t X X'
def Ag(A:Nat->Prop)(w0 W:Wj):Prop:=∀b,A b->W.heap[b]?=w0.heap[b]?
noncomputable def vM:Array Oper:=oW (iz (iz (dh (bV Tryz.f98))))
def yf(l:Nat):Wx:=.func (.yield l) #[] #[]
section
variable {A:Nat->Prop} {w0:Wj} {B0 t l:Nat} {O:Wj->Nat->Prop} {total:KVs} {J:KVs->Wj->Prop}
theorem Ag.keepR(a:sZ A w0 B0 t l O total J){g:Nat}{W W':Wj}{c:KVs}(j:J c W)(h:Ag A w0 W)(k:g8 O g t W W')(hg:B0<=g):Ag A w0 W':=λb e=>by
 have⟨h1,f,o,d,i⟩:=a.tree b e;rw[d];exact k.2.2.2 b o ((h b e).trans d) i f (by omega) (λm=>by have:=(a.ownB _ _ _ j m).1;omega)
theorem mixed:Yq.prog.follows .mixedOrders=true:=by rfl
theorem Ea(k:sZ A w0 B0 t l O total J){id n:Nat}{Q:Exit->Act->Wj->Prop}{T:Act}{W:Wj}{r g F:Nat}{L:Wx}{h:List Ver}{bs:List UInt8}{done:KVs}(hs:T.tmps.size=44)(e0:T.eval (.tmp 0)=.pointer (some ⟨r,0,N⟩))(e1:T.eval (.tmp 1)=nc g F bs)(e2:T.eval (.tmp 2)=yf l)
  (c0:W.cell? ⟨r,0,N⟩=some (C (!h.isEmpty))) (c1:W.cell? ⟨r,1,N⟩=some L) (av:r≠t) (hgB:r<B0) (hh:bm A w0 L h) (ab:done++(if h.isEmpty then[]else[(bs,h)]) <+:total) (m:fG O B0 W g F bs) (hJ:J done W)
  (P:∀a w,a.tmps.size=44->a.defers=T.defers->(∀t,t<9->a.eval (.tmp t)=T.eval (.tmp t))->a.eval (.tmp 23)=C Z->J (done++(if h.isEmpty then[]else[(bs,h)])) w->fA O t W w->Q .normal a w):
  (Code.region id vM Y).wpIn (wf N) n Yq.prog Q T W:=by
 obtain⟨W1,R⟩:∃W1:Wj,W1={W with drawn:=W.drawn+1}:=⟨_,rfl⟩;have s:W1.heap=W.heap:=by rw[R]
 have aa:W1.os=W.os:=by rw[R]
 have d0:W1.cell? ⟨r,0,N⟩=some (C (!h.isEmpty)):=(cB (a:=⟨r,0,N⟩) (by rw[s])).trans c0;have d1:W1.cell? ⟨r,1,N⟩=some L:=(cB (a:=⟨r,1,N⟩) (by rw[s])).trans c1;have D:∀b,O W1 b->O W b:=λb=>k.own _ _ b (by rw[s])
 have K1:fG O B0 W1 g F bs:=m.same (by rw[s]) (D g);have J1:J done W1:=k.stable done W W1 hJ (λb _=>by rw[s]) (λb _=>by rw[s]) (by rw[s];exact lR _) aa;have k1:fA O t W W1:=⟨by rw[s];exact lR _,aa,λb h=>.inl (D b h),λb o hb _ _ _=>by rw[s];exact hb⟩;have ar:¬O W1 r:=λh=>by have:=(k.ownB _ _ _ J1 h).1;omega
 by_cases hf:h.isEmpty=Y
 .rw [hf]at d0 P;refine jQ (ro:=N) (a0:=T) (w0:=W) mixed 9 15
   (λi=>match i with| 0=>.pointer (some ⟨r,0,N⟩)| 1=>.pointer (some ⟨r,0,N⟩)| 2=>.pointer (some ⟨r,0,N⟩)| 3=>C Z| 4=>C Z| 14=>C Z|_=>Wo)
   (λd w=>w=W1) (by omega) (by rfl) (by rfl) (λz a w i o hi y V p=>?_) (λa w h1 h2 h3 h4 h5=>?_) (by rw[R])
  .obtain rfl:w=W1:=V.world;have hlt:i<15:=(cR hi).1;have HY:=λh=>jm (ops:=vM) (a:=a) (j:=4) (x:=Z) (show vM[4]?=some _ from rfl) rfl (by rw[V.size,hs];omega) (V.new 4 (by omega) h)
   rcases i with - | - | - | - | - | - | - | - | - | - | - | - | - | - | - |i;all_goals first|omega|(have D:=y;dsimp only[vM,bV,Tryz.f98,iz,dh,oW,Option.getD]at D;simp only[gA,gS,gZ,oI,Nat.reduceAdd,zA]at D;subst D)
   .have q:a.eval (.tmp 0)=.pointer (some ⟨r,0,N⟩):=(V.old 0 (by omega)).trans e0;refine ao y rfl (λc h=>by cases h) (v:=.pointer (some ⟨r,0,N⟩)) (w':=w) (by generalize a.eval=ρ at q ⊢;simp[go_sem,q]) ⟨_,rfl,λ_=>rfl,V.world⟩
   .have q:a.eval (.tmp 9)=.pointer (some ⟨r,0,N⟩):=V.new 0 (by omega) (p ⟨0,.data⟩ (by simp) rfl);refine ao y rfl (λc h=>by cases h) (v:=.pointer (some ⟨r,0,N⟩)) (w':=w) (by generalize a.eval=ρ at q ⊢;simp[go_sem,q]) ⟨_,rfl,λ_=>rfl,V.world⟩
   .have q:a.eval (.tmp 10)=.pointer (some ⟨r,0,N⟩):=V.new 1 (by omega) (p ⟨1,.data⟩ (by simp) rfl);refine ao y rfl (λc h=>by cases h) (v:=.pointer (some ⟨r,0,N⟩)) (w':=w) (by generalize a.eval=ρ at q ⊢;simp[go_sem,q]) ⟨_,rfl,λ_=>rfl,V.world⟩
   .have q:a.eval (.tmp 11)=.pointer (some ⟨r,0,N⟩):=V.new 2 (by omega) (p ⟨2,.data⟩ (by simp) rfl);refine ao y rfl (λc h=>by cases h) (v:=C Z) (w':=w) (by generalize a.eval=ρ at q ⊢;simp[go_sem,q,d0]) ⟨_,rfl,λ_=>rfl,V.world⟩
   .have q:a.eval (.tmp 12)=C false:=V.new 3 (by omega) (p ⟨3,.data⟩ (by simp) rfl);refine ao y rfl (λc h=>by cases h) (v:=C Z) (w':=w) (by generalize a.eval=ρ at q ⊢;simp[go_sem,q]) ⟨_,rfl,λ_=>rfl,V.world⟩
   iterate 9 exact sX y (by simp[Region.wanted,HY (p ⟨4,.guard⟩ (by simp) rfl)]) ⟨_,rfl,λ_=>rfl,V.world⟩
   .have q:a.eval (.tmp 13)=C false:=V.new 4 (by omega) (p ⟨4,.data⟩ (by simp) rfl);have q1:a.eval (.tmp 22)=Wo:=V.new 13 (by omega) (p ⟨13,.data⟩ (by simp) rfl);have q2:a.eval (.const (C Z))=C false:=rfl;refine ao y rfl (λc h=>by cases h) (v:=C Z) (w':=w) (by generalize a.eval=ρ at q q1 q2 ⊢;simp[go_sem,q,q1,q2]) ⟨_,rfl,λ_=>rfl,V.world⟩
  .obtain ⟨d,-,rfl⟩:=h5;exact P a _ (h1.trans hs) h2 h3 (h4 14 (by omega) (by decide)) (by simpa using J1) k1
 .have bb:h.isEmpty=false:=by simpa using hf
  rw[bb]at d0;have bd:∀ (d:Nat->Bool) w,((d 12=Z->w=W1)/\(d 12=Y->J (done++[(bs,h)]) w/\fA O t W1 w))->fA O t W1 w:=λd w H=>by
   cases hd:d 12 with
   |false=>rw[H.1 hd];exact fA.refl _ _ _
   |true=>exact(H.2 hd).2
  have G:∀ (d:Nat->Bool) w,((d 12=Z->w=W1)/\(d 12=Y->J (done++[(bs,h)]) w/\fA O t W1 w))->∀ (b j:Nat) v,b≠t->¬O W1 b->W1.cell? ⟨b,j,N⟩=some v->w.cell? ⟨b,j,N⟩=some v:=λd w H b j v hb hn L=>by
   obtain⟨o,y,a3⟩:∃o:Obj,W1.heap[b]?=some o/\o.isCells=true:=by
    unfold World.cell? at L;cases y:W1.heap[b]? with
    |none=>simp[y]at L
    |some o=>exact⟨o,rfl,by cases o<;>simp_all[Obj.isCells]⟩
   rw[cB (w:=W1) (a:=⟨b,j,N⟩) (((bd d w H).2.2.2 b o y a3 hb hn).trans y.symm)];exact L
  have a9:g≠t:=by have:=m.base;have:=k.box;omega
  have a4:∀ {d:Nat->Bool} w,((d 12=Z->w=W1)/\(d 12=Y->J (done++[(bs,h)]) w/\fA O t W1 w))->w.cell? ⟨r,0,N⟩=some (C Y):=λw H=>G _ w H r 0 _ av ar d0
  have bi:∀ {d:Nat->Bool} w,((d 12=Z->w=W1)/\(d 12=Y->J (done++[(bs,h)]) w/\fA O t W1 w))->w.cell? ⟨r,1,N⟩=some L:=λw H=>G _ w H r 1 _ av ar d1
  have be:∀ {d:Nat->Bool} w,((d 12=Z->w=W1)/\(d 12=Y->J (done++[(bs,h)]) w/\fA O t W1 w))->(convert 118 9 (nc g F bs)).run Yq.prog w=.ok (U ⟨bs.toArray⟩) w:=λw H=>
   run_convert_bytes_back w 118 9 5 ⟨g,0,N⟩ F bs (Yq.u underlying118) (Yq.u underlying5) (Yq.u underlying9) (λj hj=>by rw[Addr.add_lit,zA];exact G _ w H g j _ a9 K1.no (K1.cells j hj))
  refine jQ (ro:=N) (a0:=T) (w0:=W) mixed 9 15
   (λi=>match i with| 0=>.pointer (some ⟨r,0,N⟩)| 1=>.pointer (some ⟨r,0,N⟩)| 2=>.pointer (some ⟨r,0,N⟩)| 3=>C Y| 4=>C Y| 5=>yf l| 6=>nc g F bs| 7=>U ⟨bs.toArray⟩| 8=>.pointer (some ⟨r,0,N⟩)| 9=>.pointer (some ⟨r,0,N⟩)| 10=>.pointer (some ⟨r,1,N⟩)| 11=>L| 12=>C Y| 13=>C Z| 14=>C Z|_=>Wo)
   (λd w=>(d 12=Z->w=W1)/\(d 12=Y->J (done++[(bs,h)]) w/\fA O t W1 w)) (by omega) (by rfl) (by rfl) (λz a w i o hi y V p=>?_) (λa w h1 h2 h3 h4 h5=>?_) ⟨λ_=>by rw[R],λh=>by cases h⟩
  .have hlt:i<15:=(cR hi).1;have HY:=λh=>jm (ops:=vM) (a:=a) (j:=4) (x:=Y) (show vM[4]?=some _ from rfl) rfl (by rw[V.size,hs];omega) (V.new 4 (by omega) h)
   rcases i with - | - | - | - | - | - | - | - | - | - | - | - | - | - | - |i;all_goals first|omega|(have D:=y;dsimp only[vM,bV,Tryz.f98,iz,dh,oW,Option.getD]at D;simp only[gA,gS,gZ,oI,Nat.reduceAdd,zA]at D;subst D)
   .have q:a.eval (.tmp 0)=.pointer (some ⟨r,0,N⟩):=(V.old 0 (by omega)).trans e0;refine ao y rfl (λc h=>by cases h) (v:=.pointer (some ⟨r,0,N⟩)) (w':=w) (by generalize a.eval=ρ at q ⊢;simp[go_sem,q]) ⟨_,rfl,λ_=>rfl,⟨λh=>V.world.1 (by simpa[ed]using h),λh=>V.world.2 (by simpa[ed]using h)⟩⟩
   .have q:a.eval (.tmp 9)=.pointer (some ⟨r,0,N⟩):=V.new 0 (by omega) (p ⟨0,.data⟩ (by simp) rfl);refine ao y rfl (λc h=>by cases h) (v:=.pointer (some ⟨r,0,N⟩)) (w':=w) (by generalize a.eval=ρ at q ⊢;simp[go_sem,q]) ⟨_,rfl,λ_=>rfl,⟨λh=>V.world.1 (by simpa[ed]using h),λh=>V.world.2 (by simpa[ed]using h)⟩⟩
   .have q:a.eval (.tmp 10)=.pointer (some ⟨r,0,N⟩):=V.new 1 (by omega) (p ⟨1,.data⟩ (by simp) rfl);refine ao y rfl (λc h=>by cases h) (v:=.pointer (some ⟨r,0,N⟩)) (w':=w) (by generalize a.eval=ρ at q ⊢;simp[go_sem,q]) ⟨_,rfl,λ_=>rfl,⟨λh=>V.world.1 (by simpa[ed]using h),λh=>V.world.2 (by simpa[ed]using h)⟩⟩
   .have q:a.eval (.tmp 11)=.pointer (some ⟨r,0,N⟩):=V.new 2 (by omega) (p ⟨2,.data⟩ (by simp) rfl);refine ao y rfl (λc h=>by cases h) (v:=C Y) (w':=w) (by generalize a.eval=ρ at q ⊢;simp[go_sem,q,a4 (d:=λi=>z.getD i Z) w V.world]) ⟨_,rfl,λ_=>rfl,⟨λh=>V.world.1 (by simpa[ed]using h),λh=>V.world.2 (by simpa[ed]using h)⟩⟩
   .have q:a.eval (.tmp 12)=C true:=V.new 3 (by omega) (p ⟨3,.data⟩ (by simp) rfl);refine ao y rfl (λc h=>by cases h) (v:=C Y) (w':=w) (by generalize a.eval=ρ at q ⊢;simp[go_sem,q]) ⟨_,rfl,λ_=>rfl,⟨λh=>V.world.1 (by simpa[ed]using h),λh=>V.world.2 (by simpa[ed]using h)⟩⟩
   .have q:a.eval (.tmp 2)=yf l:=(V.old 2 (by omega)).trans e2;refine ao y (by simp[Region.wanted,HY (p ⟨4,.guard⟩ (by simp) rfl)]) (λc h=>by cases h) (v:=yf l) (w':=w) (by generalize a.eval=ρ at q ⊢;simp[go_sem,q]) ⟨_,rfl,λ_=>rfl,⟨λh=>V.world.1 (by simpa[ed]using h),λh=>V.world.2 (by simpa[ed]using h)⟩⟩
   .have q:a.eval (.tmp 1)=nc g F bs:=(V.old 1 (by omega)).trans e1;refine ao y (by simp[Region.wanted,HY (p ⟨4,.guard⟩ (by simp) rfl)]) (λc h=>by cases h) (v:=nc g F bs) (w':=w) (by generalize a.eval=ρ at q ⊢;simp[go_sem,q]) ⟨_,rfl,λ_=>rfl,⟨λh=>V.world.1 (by simpa[ed]using h),λh=>V.world.2 (by simpa[ed]using h)⟩⟩
   .have q:a.eval (.tmp 15)=nc g F bs:=V.new 6 (by omega) (p ⟨6,.data⟩ (by simp) rfl);refine ao y (by simp[Region.wanted,HY (p ⟨4,.guard⟩ (by simp) rfl)]) (λc h=>by cases h) (v:=U ⟨bs.toArray⟩) (w':=w) (by generalize a.eval=ρ at q ⊢;simp[go_sem,q,be (d:=λi=>z.getD i Z) w V.world]) ⟨_,rfl,λ_=>rfl,⟨λh=>V.world.1 (by simpa[ed]using h),λh=>V.world.2 (by simpa[ed]using h)⟩⟩
   .have q:a.eval (.tmp 0)=.pointer (some ⟨r,0,N⟩):=(V.old 0 (by omega)).trans e0;refine ao y (by simp[Region.wanted,HY (p ⟨4,.guard⟩ (by simp) rfl)]) (λc h=>by cases h) (v:=.pointer (some ⟨r,0,N⟩)) (w':=w) (by generalize a.eval=ρ at q ⊢;simp[go_sem,q]) ⟨_,rfl,λ_=>rfl,⟨λh=>V.world.1 (by simpa[ed]using h),λh=>V.world.2 (by simpa[ed]using h)⟩⟩
   .have q:a.eval (.tmp 17)=.pointer (some ⟨r,0,N⟩):=V.new 8 (by omega) (p ⟨8,.data⟩ (by simp) rfl);refine ao y (by simp[Region.wanted,HY (p ⟨4,.guard⟩ (by simp) rfl)]) (λc h=>by cases h) (v:=.pointer (some ⟨r,0,N⟩)) (w':=w) (by generalize a.eval=ρ at q ⊢;simp[go_sem,q]) ⟨_,rfl,λ_=>rfl,⟨λh=>V.world.1 (by simpa[ed]using h),λh=>V.world.2 (by simpa[ed]using h)⟩⟩
   .have q:a.eval (.tmp 18)=.pointer (some ⟨r,0,N⟩):=V.new 9 (by omega) (p ⟨9,.data⟩ (by simp) rfl);refine ao y (by simp[Region.wanted,HY (p ⟨4,.guard⟩ (by simp) rfl)]) (λc h=>by cases h) (v:=.pointer (some ⟨r,1,N⟩)) (w':=w) (by generalize a.eval=ρ at q ⊢;simp[go_sem,q]) ⟨_,rfl,λ_=>rfl,⟨λh=>V.world.1 (by simpa[ed]using h),λh=>V.world.2 (by simpa[ed]using h)⟩⟩
   .have q:a.eval (.tmp 19)=.pointer (some ⟨r,1,N⟩):=V.new 10 (by omega) (p ⟨10,.data⟩ (by simp) rfl);refine ao y (by simp[Region.wanted,HY (p ⟨4,.guard⟩ (by simp) rfl)]) (λc h=>by cases h) (v:=L) (w':=w) (by generalize a.eval=ρ at q ⊢;simp[go_sem,q,bi (d:=λi=>z.getD i Z) w V.world]) ⟨_,rfl,λ_=>rfl,⟨λh=>V.world.1 (by simpa[ed]using h),λh=>V.world.2 (by simpa[ed]using h)⟩⟩
   .have ac:a.eval (.tmp 14)=yf l:=V.new 5 (by omega) (p ⟨5,.data⟩ (by simp) rfl);have a1:a.eval (.tmp 16)=U ⟨bs.toArray⟩:=V.new 7 (by omega) (p ⟨7,.data⟩ (by simp) rfl);have af:a.eval (.tmp 20)=L:=V.new 11 (by omega) (p ⟨11,.data⟩ (by simp) rfl);have al:z.getD 12 Z=false:=by
     have:=(cR hi).2;rw[gD]at this ⊢;rw[eG (by rw[V.len];exact(cR hi).1)]at this ⊢;exact this
    obtain rfl:w=W1:=V.world.1 al;have⟨fn,ap,S,ad,a7,hR⟩:=k.yields done bs h L w (by rw[if_neg hf]at ab;exact ab) hh (λe=>hf (by rw[e];rfl)) J1;refine yZ (l:=l) (f:=fn) (tmps:=ap) (assign:=S) (body:=ad) (n:=0) (w':=w) y (by simp[Region.wanted,HY (p ⟨4,.guard⟩ (by simp) rfl)]) (λc h=>by cases h) (by generalize a.eval=ρ at ac a1 af ⊢;unfold yf at ac;simp[go_sem,ac,a1,af,a7]) (hR.mono ?_);rintro e X ⟨rfl,a2,a5⟩;exact⟨_,rfl,_,rfl,λ_=>rfl,λh=>by simp[ed]at h,λ_=>⟨a2,a5⟩⟩
   .have q:a.eval (.tmp 21)=C true:=V.new 12 (by omega) (p ⟨12,.data⟩ (by simp) rfl);refine ao y (by simp[Region.wanted,HY (p ⟨4,.guard⟩ (by simp) rfl)]) (λc h=>by cases h) (v:=C Z) (w':=w) (by generalize a.eval=ρ at q ⊢;simp[go_sem,q]) ⟨_,rfl,λ_=>rfl,⟨λh=>V.world.1 (by simpa[ed]using h),λh=>V.world.2 (by simpa[ed]using h)⟩⟩
   .have q:a.eval (.tmp 13)=C true:=V.new 4 (by omega) (p ⟨4,.data⟩ (by simp) rfl);have q1:a.eval (.tmp 22)=C false:=V.new 13 (by omega) (p ⟨13,.data⟩ (by simp) rfl);refine ao y rfl (λc h=>by cases h) (v:=C Z) (w':=w) (by generalize a.eval=ρ at q q1 ⊢;simp[go_sem,q,q1]) ⟨_,rfl,λ_=>rfl,⟨λh=>V.world.1 (by simpa[ed]using h),λh=>V.world.2 (by simpa[ed]using h)⟩⟩
  .obtain ⟨d,hd,H⟩:=h5;have⟨a6,a8⟩:=H.2 (hd 12 (by decide));exact P a _ (h1.trans hs) h2 h3 (h4 14 (by omega) (by decide)) (by rw[if_neg hf];exact a6) (k1.trans a8)
end
noncomputable def FM:Code:=cIn (cIn (dh (iz (dh (dh (bV Tryz.f98))))))
noncomputable def FN:Array Oper:=oW (iz (dh (cIn (iz (dh (dh FM))))))
structure Wd6 (W1 Wb Wc:Wj)(Post:Wj->Prop)(d:Nat->Bool)(w:Wj):Prop where
 w1:d 5=Z->w=W1
 w2:d 5=Y->d 6=Z->w=Wb
 w3:d 6=Y->d 8=Z->w=Wc
 w4:d 8=Y->Post w
 c6:d 6=Y->d 5=Y
 c8:d 8=Y->d 6=Y
theorem dX{d:Nat->Bool}{i j:Nat}(h:j≠i):ed d i j=d j:=by simp[ed,h]
theorem qW{d:Nat->Bool}{i:Nat}:ed d i i=true:=by simp[ed]
section
variable {W1 Wb Wc w:Wj} {Post:Wj->Prop} {d:Nat->Bool}
theorem Wd6.other(h:Wd6 W1 Wb Wc Post d w){i:Nat}(f:i≠5)(j:i≠6)(k:i≠8):Wd6 W1 Wb Wc Post (ed d i) w:=by
 have c:ed d i 5=d 5:=dX (λe=>f e.symm);have a:ed d i 6=d 6:=dX (λe=>j e.symm);have b:ed d i 8=d 8:=dX (λe=>k e.symm);exact⟨by rw[c];exact h.w1,by rw[c,a];exact h.w2,by rw[a,b];exact h.w3,by rw[b];exact h.w4,by rw[c,a];exact h.c6,by rw[a,b];exact h.c8⟩
theorem Wd6.at5(h:Wd6 W1 Wb Wc Post d w)(c:d 5=Z):Wd6 W1 Wb Wc Post (ed d 5) Wb:=by
 have a:d 6=false:=by
  cases e:d 6 with
  |false=>rfl
  |true=>rw[h.c6 e]at c;cases c
 have i:d 8=false:=by
  cases e:d 8 with
  |false=>rfl
  |true=>rw[h.c8 e]at a;cases a
 have f:ed d 5 6=false:=(dX (by decide)).trans a;have b:ed d 5 8=false:=(dX (by decide)).trans i;exact⟨λk=>by(rw[qW]at k;cases k),λ_ _=>rfl,λk=>(by rw[f]at k;cases k),λk=>(by rw[b]at k;cases k),λ_=>qW,λk=>(by rw[b]at k;cases k)⟩
theorem Wd6.at6(h:Wd6 W1 Wb Wc Post d w)(i:d 5=Y)(c:d 6=Z):Wd6 W1 Wb Wc Post (ed d 6) Wc:=by
 have f:d 8=false:=by
  cases e:d 8 with
  |false=>rfl
  |true=>rw[h.c8 e]at c;cases c
 have b:ed d 6 5=true:=(dX (by decide)).trans i;have a:ed d 6 8=false:=(dX (by decide)).trans f;exact⟨λk=>(by rw[b]at k;cases k),λ_ k=>(by rw[qW]at k;cases k),λ_ _=>rfl,λk=>(by rw[a]at k;cases k),λ_=>b,λk=>(by rw[a]at k;cases k)⟩
theorem Wd6.at8(h:Wd6 W1 Wb Wc Post d w)(b:d 6=Y){X:Wj}(e:Post X):Wd6 W1 Wb Wc Post (ed d 8) X:=by
 have c:ed d 8 5=true:=(dX (by decide)).trans (h.c6 b);have a:ed d 8 6=true:=(dX (by decide)).trans b;exact⟨λk=>(by rw[c]at k;cases k),λ_ k=>(by rw[a]at k;cases k),λ_ k=>(by rw[qW]at k;cases k),λ_=>e,λ_=>c,λ_=>a⟩
end
theorem hfun{ρ:Operand->Wx}(a:Act)(h:a.eval=ρ)(f:FuncId):ρ (.func f)=.func (.func f) #[] #[]:=by rw[<-h];rfl
theorem hnot{ops:Array Oper}{a:Array Bool}{i:Nat}(b:i∈Region.ready .any ops a)(hl:a.size=ops.size):a.getD i Z=false:=by
 have h:=(cR b).2;have hlt:=(cR b).1;rw[gD,eG (by omega)]at h ⊢;exact h
theorem tc{W:Wj}{b j:Nat}{z:Wx}(h:W.cell? ⟨b,j,N⟩=J z):∃o:Obj,W.heap[b]?=J o/\o.isCells=true:=by
 unfold World.cell? at h;cases a:W.heap[b]? with
 |none=>simp[a]at h
 |some o=>exact⟨o,rfl,by cases o<;>simp_all[Obj.isCells]⟩
section
variable {A:Nat->Prop} {w0:Wj} {B0 t l:Nat} {O:Wj->Nat->Prop} {total:KVs} {J:KVs->Wj->Prop}
theorem Eb(k:sZ A w0 B0 t l O total J){id n:Nat}{Q:Exit->Act->Wj->Prop}{a0:Act}{W:Wj}{kb g G:Nat}{c:UInt8}{q:Option Wu}{bs:List UInt8}{pre sub:KVs}(hs:a0.tmps.size=44)(e1:a0.eval (.tmp 1)=nc g G bs)(e2:a0.eval (.tmp 2)=yf l)(e8:a0.eval (.tmp 8)=.pointer (some ⟨kb,0,N⟩))
  (bb:W.cell? ⟨kb,0,N⟩=some (I .u8 (c.toNat:Int))) (bo:W.cell? ⟨kb,1,N⟩=some (.pointer q)) (bn:kb≠t) (bp:¬O W kb) (bi:kb≠g) (hl:bs.length<=1000) (be:Ag A w0 W) (m:fG O B0 W g G bs) (hJ:J pre W)
  (ac:∀X F p,Ag A w0 X->fG O B0 X F p (bs++[c])->J pre X->Calls Yq.prog 98 #[.pointer q,nc F p (bs++[c]),yf l] X λe X'=>e=.returned (C Y)/\J (pre++sub) X'/\fG O B0 X' F p (bs++[c])/\g8 O F t X X')
  (a1:∀a w,a.tmps.size=44->a.defers=a0.defers->(∀t,t<33->a.eval (.tmp t)=a0.eval (.tmp t))->a.eval (.tmp 42)=C Z->J (pre++sub) w->fG O B0 w g G bs->g8 O g t W w->Q .normal a w):
  (Code.region id FN Y).wpIn (wf N) n Yq.prog Q a0 W:=by
 obtain⟨W1,ap⟩:∃W1:Wj,W1={W with drawn:=W.drawn+1}:=⟨_,rfl⟩;have y:W1.heap=W.heap:=by rw[ap]
 have a7:W1.os=W.os:=by rw[ap]
 have k0:W1.cell? ⟨kb,0,N⟩=some (I .u8 (c.toNat:Int)):=(cB (a:=⟨kb,0,N⟩) (by rw[y])).trans bb;have k1:W1.cell? ⟨kb,1,N⟩=some (.pointer q):=(cB (a:=⟨kb,1,N⟩) (by rw[y])).trans bo;have hB:B0<=W.heap.size:=k.size pre W hJ;obtain⟨Wb,aa⟩:∃Wb:Wj,Wb=W1.alloc (E #[I .u8 (c.toNat:Int)] 5):=⟨_,rfl⟩;have r:∀b,b<W.heap.size->Wb.heap[b]?=W.heap[b]?:=λb R=>by rw[aa,bA _ _ _ (by rw[y];exact R),y]
 have hbsz:Wb.heap.size=W.heap.size+1:=by rw[aa,World.size_alloc,y]
 have htB:=k.box;have a8:∀b,O Wb b->O W b:=λb=>k.own _ _ b (r t (by omega))
 have Kb:fG O B0 Wb g G bs:=m.same (r g m.lt) (a8 g);obtain⟨F,p,Wc,a2,Kc',av,B,hcsz,af⟩:=zb Kb.toiA (by omega) hl W1.heap.size c (by rw[aa,cA (w:=W1) _ _ W1.heap.size 0 rfl];rfl) 118;have bd:Wb.os=W.os:=by rw[aa];exact a7
 have hgB:=m.base;have S:∀b,O Wc b->O W b:=λb h=>a8 b (k.own _ _ b (B t (by omega) (by omega)) h)
 have Kc:fG O B0 Wc F p (bs++[c]):=⟨Kc',λh=>by
  have h1:=S _ h;rcases av with⟨rfl,-⟩|⟨h2,-⟩
  .exact m.no h1
  .have:=(k.ownB _ _ _ hJ h1).2;omega⟩
 have Ac:Ag A w0 Wc:=λb R=>by
  have⟨h1,h2,h3⟩:=k.tree b R;rw[B b (by omega) (by omega),r b (by omega)];exact be b R
 have Jc:J pre Wc:=k.stable pre W Wc hJ (λb R=>by rw[B b (by omega) (by omega),r b (by omega)]) (λb R=>by
  have h1:=(k.ownB _ _ _ hJ R).2;rw[B b (by omega) (λe=>m.no (e▸R)),r b h1]) (by omega) (af.trans bd)
 have a3:=ac Wc F p Ac Kc Jc;have hg'':F=g\/W.heap.size<F:=by
  rcases av with h|h
  .exact .inl h.1
  .exact .inr (by omega)
 have ad:∀w,(J (pre++sub) w/\fG O B0 w F p (bs++[c])/\g8 O F t Wc w)->fG O B0 w g G bs/\g8 O g t W w:=λw h=>by
  obtain⟨hJ',a4,L⟩:=h;refine⟨?_,⟨by have:=L.1;omega,L.2.1.trans (af.trans bd),λb h=>(L.2.2.1 b h).elim (λh=>.inl (S b h)) (λh=>.inr (by omega)),λb o R H ht hg hn=>?_⟩⟩
  .rcases av with⟨rfl,rfl⟩|⟨h1,h2⟩
   .exact ⟨a4.toiA.take,a4.no⟩
   .have ⟨x,e,z,hx⟩:=Kb.obj;have a5:¬O Wc g:=λh=>m.no (S _ h)
    refine⟨Kb.toiA.same ((L.2.2.2 g _ (h2.trans hx) rfl ?_ ?_ a5).trans hx.symm),xA L.2.2.1 (h2.trans hx) a5⟩
    .have:=k.box;omega
    .have:=Kb.lt;omega
  .have hlt:b<W.heap.size:=(eS R).1;exact L.2.2.2 b o ((B b (by omega) hg).trans ((r b hlt).trans R)) H ht (by omega) (λh=>hn (S _ h))
 have bk:kb<W.heap.size:=by
  obtain⟨o,h,-⟩:=tc bb;exact(eS h).1
 have T:∀ {d:Nat->Bool} w,Wd6 W1 Wb Wc (λw=>J (pre++sub) w/\fG O B0 w F p (bs++[c])/\g8 O F t Wc w) d w->∀ (j:Nat) v,W1.cell? ⟨kb,j,N⟩=some v->w.cell? ⟨kb,j,N⟩=some v:=fun{d} w P j v hv=>by
  have bl:W.cell? ⟨kb,j,N⟩=some v:=(cB (a:=⟨kb,j,N⟩) (by rw[y])).trans hv;have a6:Wb.cell? ⟨kb,j,N⟩=some v:=(cB (a:=⟨kb,j,N⟩) (r kb bk)).trans bl;have al:Wc.cell? ⟨kb,j,N⟩=some v:=(cB (a:=⟨kb,j,N⟩) (B kb (by omega) bi)).trans a6;cases h5:d 5 with
  |false=>rw[P.w1 h5];exact hv
  |true=>cases h6:d 6 with
   |false=>rw[P.w2 h5 h6];exact a6
   |true=>cases h8:d 8 with
    |false=>rw[P.w3 h6 h8];exact al
    |true=>
     have⟨o,H,a9⟩:=tc al;have:=(P.w4 h8).2.2.2.2.2 kb o H a9 bn (by omega) (λh=>bp (S _ h));exact(cB (a:=⟨kb,j,N⟩) (this.trans H.symm)).trans al
 refine jQ (ro:=N) (a0:=a0) (w0:=W) mixed 33 10
  (λi=>match i with| 0=>.pointer (some ⟨kb,1,N⟩)| 1=>.pointer q| 2=>nc g G bs| 3=>.pointer (some ⟨kb,0,N⟩)| 4=>I .u8 (c.toNat:Int)| 5=>M (some ⟨W1.heap.size,0,N⟩) 1 1| 6=>nc F p (bs++[c])| 7=>yf l| 8=>C Y| 9=>C Z|_=>Wo)
  (Wd6 W1 Wb Wc (λw=>J (pre++sub) w/\fG O B0 w F p (bs++[c])/\g8 O F t Wc w)) (by omega) (by rfl) (by rfl) (λab a w i o hi H V u=>?_) (λa w h1 h2 h3 h4 h5=>?_) ⟨λ_=>(by rw[ap]),λh=>(by cases h),λh=>(by cases h),λh=>(by cases h),λh=>(by cases h),λh=>(by cases h)⟩
 .have hlt:i<10:=(cR hi).1;have hnot:ab.getD i Z=false:=hnot hi V.len;rcases i with - | - | - | - | - | - | - | - | - | - |i;all_goals first|omega|(have ar:=H;dsimp only[FN,FM,bV,Tryz.f98,iz,dh,cIn,oW,Option.getD]at ar;simp only[gA,gS,gZ,oI,Nat.reduceAdd,zA]at ar;subst ar)
  .have s:a.eval (.tmp 8)=.pointer (some ⟨kb,0,N⟩):=(V.old 8 (by omega)).trans e8;refine ao H rfl (λc h=>by cases h) (v:=.pointer (some ⟨kb,1,N⟩)) (w':=w) (by generalize a.eval=ρ at s ⊢;simp[go_sem,s]) ⟨_,rfl,λ_=>rfl,V.world.other (by omega) (by omega) (by omega)⟩
  .have s:a.eval (.tmp 33)=.pointer (some ⟨kb,1,N⟩):=V.new 0 (by omega) (u ⟨0,.data⟩ (by simp) rfl);refine ao H rfl (λc h=>by cases h) (v:=.pointer q) (w':=w) (by generalize a.eval=ρ at s ⊢;simp[go_sem,s,T w V.world 1 _ k1]) ⟨_,rfl,λ_=>rfl,V.world.other (by omega) (by omega) (by omega)⟩
  .have s:a.eval (.tmp 1)=nc g G bs:=(V.old 1 (by omega)).trans e1;refine ao H rfl (λc h=>by cases h) (v:=nc g G bs) (w':=w) (by generalize a.eval=ρ at s ⊢;simp[go_sem,s]) ⟨_,rfl,λ_=>rfl,V.world.other (by omega) (by omega) (by omega)⟩
  .have s:a.eval (.tmp 8)=.pointer (some ⟨kb,0,N⟩):=(V.old 8 (by omega)).trans e8;refine ao H rfl (λc h=>by cases h) (v:=.pointer (some ⟨kb,0,N⟩)) (w':=w) (by generalize a.eval=ρ at s ⊢;simp[go_sem,s]) ⟨_,rfl,λ_=>rfl,V.world.other (by omega) (by omega) (by omega)⟩
  .have s:a.eval (.tmp 36)=.pointer (some ⟨kb,0,N⟩):=V.new 3 (by omega) (u ⟨3,.data⟩ (by simp) rfl);refine ao H rfl (λc h=>by cases h) (v:=I .u8 (c.toNat:Int)) (w':=w) (by generalize a.eval=ρ at s ⊢;simp[go_sem,s,T w V.world 0 _ k0]) ⟨_,rfl,λ_=>rfl,V.world.other (by omega) (by omega) (by omega)⟩
  .have s:a.eval (.tmp 37)=I .u8 (c.toNat:Int):=V.new 4 (by omega) (u ⟨4,.data⟩ (by simp) rfl);have P:=V.world.w1 hnot;subst P;refine ao H rfl (λc h=>by cases h) (v:=M (some ⟨w.heap.size,0,N⟩) 1 1) (w':=w.alloc (E #[I .u8 (c.toNat:Int)] 5)) (by generalize a.eval=ρ at s ⊢;simp[go_sem,s]) ⟨_,rfl,λ_=>rfl,(by rw[<-aa];exact V.world.at5 hnot)⟩
  .have s:a.eval (.tmp 35)=nc g G bs:=V.new 2 (by omega) (u ⟨2,.data⟩ (by simp) rfl);have h5:=u ⟨5,.data⟩ (by simp) rfl;have q1:a.eval (.tmp 38)=M (some ⟨W1.heap.size,0,N⟩) 1 1:=V.new 5 (by omega) h5;have P:=V.world.w2 h5 hnot;subst P;refine ao H rfl (λc h=>by cases h) (v:=nc F p (bs++[c])) (w':=Wc) (by generalize a.eval=ρ at s q1 ⊢;simp[execOp,resolve,invoke,builtin,s,q1,a2,Result.andThen]) ⟨_,rfl,λ_=>rfl,V.world.at6 h5 hnot⟩
  .have s:a.eval (.tmp 2)=yf l:=(V.old 2 (by omega)).trans e2;refine ao H rfl (λc h=>by cases h) (v:=yf l) (w':=w) (by generalize a.eval=ρ at s ⊢;simp[go_sem,s]) ⟨_,rfl,λ_=>rfl,V.world.other (by omega) (by omega) (by omega)⟩
  .have s:a.eval (.tmp 34)=.pointer q:=V.new 1 (by omega) (u ⟨1,.data⟩ (by simp) rfl);have h6:=u ⟨6,.data⟩ (by simp) rfl;have q1:a.eval (.tmp 39)=nc F p (bs++[c]):=V.new 6 (by omega) h6;have q2:a.eval (.tmp 40)=yf l:=V.new 7 (by omega) (u ⟨7,.data⟩ (by simp) rfl);have P:=V.world.w3 h6 hnot;subst P;refine iT (f:=98) (args:=#[.pointer q,nc F p (bs++[c]),yf l]) (w':=w) H rfl (λc h=>by cases h) (by generalize bq:a.eval=ρ at s q1 q2 ⊢;have qf:=hfun a bq 98;simp[go_sem,s,q1,q2,qf]) (a3.mono ?_);rintro e X ⟨rfl,hX⟩;exact⟨_,rfl,_,rfl,λ_=>rfl,V.world.at8 h6 hX⟩
  .have s:a.eval (.tmp 41)=C true:=V.new 8 (by omega) (u ⟨8,.data⟩ (by simp) rfl);refine ao H rfl (λc h=>by cases h) (v:=C Z) (w':=w) (by generalize a.eval=ρ at s ⊢;simp[go_sem,s]) ⟨_,rfl,λ_=>rfl,V.world.other (by omega) (by omega) (by omega)⟩
 .obtain ⟨d,hd,P⟩:=h5;have hP:=P.w4 (hd 8 (by decide));exact a1 a w (h1.trans hs) h2 h3 (h4 9 (by omega) (by decide)) hP.1 (ad w hP).1 (ad w hP).2
end
end
section
open Go.RowKit
structure Place (ks:List (UInt8×Option Wu))(c:UInt8)(r:Nat):Prop where
 le:r<=ks.length
 lo:∀j (h:j<ks.length),j<r->ks[j].1<c
 hi:∀j (h:j<ks.length),r<=j->c<=ks[j].1
def nA(ks:List (UInt8×Option Wu))(c:UInt8)(r:Nat):Bool:=(ks[r]?.map (·.1))==J c
def labs(ks:List (UInt8×Option Wu))(i:Nat):Int:=((ks.getD i (0,N)).1.toNat:Int)
def ptrs(ks:List (UInt8×Option Wu))(i:Nat):Option Wu:=(ks.getD i (0,N)).2
theorem lK{a:List (UInt8×Option Wu)}{i:Nat}(h:i<a.length):labs a i=(a[i].1.toNat:Int):=by simp[labs,h]
theorem GM{a:List (UInt8×Option Wu)}{i:Nat}(h:i<a.length):ptrs a i=a[i].2:=by simp[ptrs,h]
theorem GN(a:List (UInt8×Option Wu))(c:UInt8)(r:Nat):decide (r<a.length/\labs a r=(c.toNat:Int))=nA a c r:=by
 unfold nA;by_cases b:r<a.length
 .rw [Bool.eq_iff_iff];simp only[b,eL,Option.map_some,true_and,lK b,decide_eq_true_eq,beq_iff_eq,oI];exact⟨λh=>UInt8.toNat_inj.1 (by omega),λh=>by rw[h]⟩
 .simp [b]
theorem ox(A:Nat->Prop)(g:Nat)(u:Wx)(d:List (UInt8×Option Wu))(c:UInt8)(w:Wj)
  (c2:w.cell? ⟨g,2,N⟩=J u) (x:gz A w u d) (t:d.Pairwise (λa b=>a.1<b.1)):
  Calls Yq.prog 91 #[O (J ⟨g,0,N⟩),I .u8 (c.toNat:Int)] w λe l=>∃r:Nat,Place d c r /\
   e=.returned (.tuple #[I K r,C (nA d c r)])/\Below w.heap.size w l:=by
 by_cases m:d=[]
 .subst m;obtain⟨a,k,rfl,-,-⟩:=x;go_enter (Yq.nq func91),ntmps91;go_wp2_with (go_at_call 108;refine(D8 _ _ _ _).mono ?_;rintro e l ⟨rfl,rfl⟩)
  go_ret2
  exact⟨0,⟨lR _,λj h=>absurd h (Nat.not_lt_zero _),λj h=>absurd h (Nat.not_lt_zero _)⟩,by simp[nA],bR _ _⟩
 .obtain ⟨v,k,rfl,-,-,y,-⟩:=x.cells m;have hle:=lJ d t;have o:Calls Yq.prog 108 #[M (J ⟨v,0,N⟩) d.length k,I .u8 (c.toNat:Int),.func (.func 109) #[] #[]] w λe l=>∃r:Nat,Place d c r /\
    e=.returned (.tuple #[I K r,C (nA d c r)])/\Below w.heap.size w l:=by
   refine(GK v d.length k (labs d) (ptrs d) (c.toNat:Int) w (by omega)
    (λi p=>by rw[lK p,GM p];exact y i p) (λi j n f=>by rw[lK f,lK (Nat.lt_trans n f)];exact jR t i j n f)).mono ?_
   rintro e l ⟨r,q,z,B,rfl,s⟩;refine⟨r,⟨q,λj h f=>?_,λj h f=>?_⟩,by rw[GN],s⟩
   .have:=z j f;rw[lK h]at this;exact UInt8.lt_iff_toNat_lt.2 (by omega)
   .have:=B j f h;rw[lK h]at this;exact UInt8.le_iff_toNat_le.2 (by omega)
  clear y;go_enter (Yq.nq func91),ntmps91;go_wp2_with (go_at_call 108;refine o.mono ?_;rintro e l ⟨r,q,rfl,s⟩)
  go_ret2
  exact⟨r,q,rfl,s⟩
theorem Place.mem{a:List (UInt8×Option Wu)}{c:UInt8}{i:Nat}(h:nA a c i=Y):∃b:i<a.length,a[i].1=c:=by
 unfold nA at h;by_cases b:i<a.length
 .exact ⟨b,by simpa[b]using h⟩
 .simp [List.getElem?_eq_none (Nat.le_of_not_lt b)]at h
theorem Place.nomem{c:UInt8}{B:Nat}(k:Place ks c B)(p:ks.Pairwise (λa b=>a.1<b.1))(h:nA ks c B=Z):∀q,(c,q) ∉ ks:=by
 intro q m;have⟨j,f,e⟩:=gM m;by_cases i:j<B
 .have:=k.lo j f i;rw[e]at this;have:=UInt8.lt_iff_toNat_lt.1 this;simp only at this;omega
 .have n:B<ks.length:=by omega
  have o:=k.hi B n (lR _);by_cases d:j=B
  .subst d;simp[nA,f,e]at h
  .have l:=jR p B j (by omega) f;rw[e]at l;have:=UInt8.le_iff_toNat_le.1 o;simp only at l;omega
theorem am.nil{A:Nat->Prop}{n:Nat}{w:Wj}{f:List UInt8->List Ver}(h:∀k,f k=[]):am A n w N f:=by
 cases n with
 |zero=>exact⟨rfl,h⟩
 |succ n=>exact Or.inl ⟨rfl,h⟩
theorem am.of_nil{A:Nat->Prop}{n:Nat}{w:Wj}{f:List UInt8->List Ver}(h:am A n w N f):∀k,f k=[]:=by
 cases n with
 |zero=>exact h.2
 |succ n=>
  rcases h with h|⟨g,hv,kv,ks,a,_⟩
  .exact h.2
  .cases a
theorem Bv(A:Nat->Prop)(g:Nat)(p:Wx)(d:List (UInt8×Option Wu))(c:UInt8)(w:Wj)
  (l:w.cell? ⟨g,2,N⟩=J p) (t:gz A w p d) (o:d.Pairwise (λa b=>a.1<b.1)):
  Calls Yq.prog 86 #[O (J ⟨g,0,N⟩),I .u8 (c.toNat:Int)] w λe s=>∃q,e=.returned (O q)/\((c,q)∈d\/(q=N/\∀B,(c,B) ∉ d))/\Below w.heap.size w s:=by
 have y:=ox A g p d c w l t o;have HS:Hid (d.Pairwise (λa b=>a.1<b.1)):=o;clear o;go_enter (Yq.nq func86),ntmps86;go_wp2_with fail
 refine y.mono ?_;rintro e s ⟨r,z,rfl,k⟩;by_cases f:nA d c r=Y
 .have ⟨n,i⟩:=Place.mem f;have m:d≠[]:=by intro h;subst h;simp at n
  obtain⟨gk,cap,rfl,-,-,v,-⟩:=t.cells m;have⟨x,u⟩:=v r n;have d1':=ah k u;have c2':=ah k l;have HR:Hid (d[r].1=c):=i;clear v x u l i;go_wp2;go_ret;exact⟨_,rfl,Or.inl (by have:=List.getElem_mem n;rw[<-HR.out];exact this),k⟩
 .have j:nA d c r=false:=by simpa using f
  clear f;go_wp2;go_ret;exact⟨_,rfl,Or.inr ⟨rfl,z.nomem HS.out j⟩,k⟩
theorem Bw(A:Nat->Prop)(n:Nat)(a:Wu)(f:List UInt8->List Ver)(c:UInt8)(w:Wj)(h:am A (n+1) w (J a) f):
  Calls Yq.prog 86 #[O (J a),I .u8 (c.toNat:Int)] w λe l=>∃q,e=.returned (O q)/\am A n w q (λk=>f (c::k))/\Below w.heap.size w l:=by
 rcases h with h|⟨g,hv,u,r,m,hA,c0,c1,o,hh,i,t,j,d⟩
 .cases h.1
 .cases m;refine(Bv A g u r c w o i t).mono ?_;rintro e l ⟨q,p,b,s⟩;refine⟨q,p,?_,s⟩;rcases b with b|⟨rfl,b⟩
  .exact j c q b
  .exact am.nil (d.1 c b)
theorem Bx(s:ByteArray)(k:Nat)(h:k<s.size):s.data.toList.take (k+1)=s.data.toList.take k++[s[k]]:=by
 rw[tS (by simpa using h)];rfl
theorem nB(A:Nat->Prop)(w:Wj):bm A w (M N 0 0) []:=⟨N,0,rfl,λ_=>rfl,λh=>absurd rfl h⟩
theorem pN(A:Nat->Prop)(n:Nat)(p:Option Wu)(f:List UInt8->List Ver)(b:ByteArray)(w:Wj)(z:b.size<=maxLen)(h:am A n w p f):
  Calls Yq.prog 66 #[O p,U b] w λe u=>∃q,e=.returned (O q)/\am A (n-b.size) u q (λx=>f (b.data.toList++x))/\Below w.heap.size w u:=by
 unfold maxLen at z;have H:Hid (am A n w p f):=h;clear h;go_enter (Yq.nq func66),ntmps66;go_wp2
 go_loopw [0,5] (λq i wr=>∃ (k:Nat) (r:Option Wu),k<=b.size/\q=O r/\i=I K k/\am A (n-k) wr r (λx=>f (b.data.toList.take k++x))/\Below w.heap.size w wr) (λ_ i _=>b.size-(intOf i).toNat)
 case atStart=>exact⟨0,p,Nat.zero_le _,rfl,rfl,by simpa using H.out,bR _ _⟩
 case round=>
  obtain⟨k,r,hk,rfl,rfl,c,s⟩:=hrel;cases r with
  |none=>
   have d:∀x,f (b.data.toList++x)=[]:=λx=>by
    have:=c.of_nil (b.data.toList.drop k++x)
    rwa [<-pA,List.take_append_drop]at this
   have HN:Hid (∀x,f (b.data.toList++x)=[]):=d;clear d c;go_wp2;go_ret;exact⟨N,rfl,am.nil HN.out,s⟩
  |some a=>
   by_cases hlt:k<b.size
   .obtain ⟨m,t⟩:∃m,n-k=m+1:=by
     cases y:n-k with
     |zero=>rw[y]at c;exact absurd c.1 (by simp)
     |succ m=>exact⟨m,rfl⟩
    rw[t]at c;have HM:Hid (n-k=m+1):=t;clear t;have v:=Bw A m a _ b[k] wr c;clear c;go_wp2_with (go_at_call 86;refine v.mono ?_;rintro e u ⟨q,rfl,B,l⟩)
    refine⟨⟨k+1,q,by omega,rfl,by go_num,?_,s.trans (l.mono s.size)⟩,by simp[intOf];omega⟩;have e:n-(k+1)=m:=by have:=HM.out;omega
    rw[e,Bx b k hlt];simpa using B.on l
   .have j:b.data.toList.take k=b.data.toList:=by
     rw[tO];have:b.data.toList.length=b.size:=by simp
     omega
    have o:k=b.size:=by omega
    rw[j,o]at c;have HQ:Hid (am A (n-b.size) wr (J a) (λx=>f (b.data.toList++x))):=c;clear c j o;go_wp2;go_ret;exact⟨J a,rfl,HQ.out,s⟩
theorem nC(A:Nat->Prop)(n:Nat)(p:Option Wu)(f:List UInt8->List Ver)(b:ByteArray)(w:Wj)(hn:b.size<n)(x:b.size<=maxLen)(h:am A n w p f):
  Calls Yq.prog 38 #[.agg #[O p],U b] w λe l=>∃r,e=.returned (.tuple #[r,C (!(f b.data.toList).isEmpty)])/\bm A l r (f b.data.toList)/\Below w.heap.size w l:=by
 have u:=λl (G:am A n l p f)=>pN A n p f b l x G
 have H:Hid (am A n w p f):=h;clear h;go_enter (Yq.nq func38),ntmps38;go_wp2_with fail
 refine(u _ (H.out.on ((bR _ _).alloc (lR _) _))).mono ?_;rintro e o ⟨q,rfl,j,d⟩;have i:Below w.heap.size w o:=((bR _ w).alloc (lR _) _).trans (d.mono (by simp));cases q with
 |none=>
  have c:f b.data.toList=[]:=by
   have:=j.of_nil [];simpa using this
  have HN:Hid (f b.data.toList=[]/\Below w.heap.size w o):=⟨c,i⟩;clear c j i d;go_wp2
  go_ret2
  refine⟨M N 0 0,?_,?_,HN.out.2⟩
  .rw [HN.out.1];rfl
  .rw [HN.out.1];exact nB A _
 |some a=>
  obtain⟨m,B⟩:∃m,n-b.size=m+1:=⟨n-b.size-1,by omega⟩;rw[B]at j;rcases j with j|⟨g,r,kv,ks,D,hA,v,c1,c2,z,t,F,y,s⟩
  .cases j.1
  .cases D;simp only[List.append_nil]at v z;clear y s F t B;cases k:(f b.data.toList).isEmpty with
   |true=>
    rw[k]at v;have HE:Hid ((f b.data.toList).isEmpty=Y/\Below w.heap.size w o):=⟨k,i⟩;clear k i d;go_wp2
    go_ret2
    have c:=List.isEmpty_iff.1 HE.out.1;refine⟨M N 0 0,?_,?_,HE.out.2⟩
    .rw [HE.out.1];rfl
    .rw [c];exact nB A _
   |false=>
    rw[k]at v;have HE:Hid ((f b.data.toList).isEmpty=Z/\Below w.heap.size w o):=⟨k,i⟩;clear k i d;go_wp2
    go_ret2
    refine⟨r,?_,z,HE.out.2⟩;rw[HE.out.1];rfl
end
section
open Go.Conc Go.ConcX Go.ConcX.Gen Go.RowKit
theorem oy(a:Act)(n:Nat)(h:a.tmps.size=n):a=⟨((List.range n).map λi=>a.eval (.tmp i)).toArray,a.defers⟩:=by
 obtain⟨t,d⟩:=a;have:t=((List.range n).map λi=>Act.eval ⟨t,d⟩ (.tmp i)).toArray:=by
  refine Array.ext (by simpa using h) (λi b h2=>?_);simp[Act.eval,Array.getD_eq_getD_getElem?,b]
 rw[<-this]
section
variable {A:Nat->Prop} {w0:Wj} {B0 t l:Nat} {O:Wj->Nat->Prop} {total:KVs} {J:KVs->Wj->Prop}
theorem GO(m:sZ A w0 B0 t l O total J):∀ (n:Nat)(p:Option Wu)(f:List UInt8->List Ver)(y:List UInt8)(done:KVs)(W:Wj)(g D:Nat),am A n w0 p f->p≠N->y.length+n<=1000->done++db n f y <+:total->Ag A w0 W->fG O B0 W g D y->J done W ->
  Calls Yq.prog 98 #[.pointer p,nc g D y,yf l] W λe W'=>e=.returned (C Y)/\J (done++db n f y) W'/\fG O B0 W' g D y/\g8 O g t W W':=by
 intro n;induction n with
 |zero=>intro p f y done W g D h hp;exact absurd h.1 hp
 |succ n ih=>
  intro p f y done W g D h hp hlen P aa d hJ;rcases h with h|⟨V,hv,kv,u,rfl,hA,c0,c1,c2,hh,bx,hs,b7,b8,ch⟩
  .exact absurd h.1 hp
  rw[zd n f y u hs b8]at P ⊢;have a2:=(m.tree V hA);have af:∀X,Ag A w0 X->∀b j,A b->X.cell? ⟨b,j,N⟩=w0.cell? ⟨b,j,N⟩:=λX hX b j Q=>cB (a:=⟨b,j,N⟩) (hX b Q)
  obtain⟨L,v⟩:∃L:KVs,(if(f []).isEmpty then[]else[(y,f [])])=L:=⟨_,rfl⟩;have c6:Hid ((if(f []).isEmpty then[]else[(y,f [])])=L):=v;rw[v]at P ⊢;go_enter (Yq.nq func98),ntmps98
  go_upto_region 1 with fail
  rename_i K1 cv K2 al;refine wpIn_wide.1 (show Code.wpIn (wf N) 0 _ _ _ _ _ from Ea (id:=1) (n:=0) m rfl rfl rfl rfl ((af W aa V 0 hA).trans c0) ((af W aa V 1 hA).trans c1) a2.2.1 a2.1 hh (by rw[v];exact(List.prefix_append _ _).trans (by rw[pA];exact P)) d hJ (λa w h1 h2 s h4 R H=>?_));rw[v]at R;have h2:a.defers=[]:=h2;have ha:=oy a 44 h1;have f0:a.eval (.tmp 0)=.pointer (some ⟨V,0,N⟩):=s 0 (by decide);have f1:a.eval (.tmp 1)=nc g D y:=s 1 (by decide);have f2:a.eval (.tmp 2)=yf l:=s 2 (by decide);have f6:a.eval (.tmp 6)=C false:=s 6 (by decide);refine al _ _ ?_;rw[ha,h2];clear ha h1 h2 s;generalize a.eval=ρ at f0 f1 f2 f6 h4 ⊢;simp only[List.range,List.range.loop,List.map_cons,List.map_nil,f0,f1,f2,f6,h4];clear f0 f1 f2 f6 h4 al K2;have ca:=bx;obtain⟨ka,kc,rfl,c3,cp⟩:=ca;have A1:Ag A w0 w:=aa.keepR m hJ (H.row g) d.base;have KR1:fG O B0 w g D y:=by
   have⟨x,e,z,ho⟩:=d.obj;exact⟨d.toiA.same ((H.2.2.2 g _ ho rfl (by have:=d.base;have:=m.box;omega) d.no).trans ho.symm),xA H.2.2.1 ho d.no⟩
  have d2:w.cell? ⟨V,2,N⟩=some (M ka u.length kc):=(af w A1 V 2 hA).trans c2;have HX:Hid (J (done++L) w/\fG O B0 w g D y/\g8 O g t W w/\Ag A w0 w):=⟨R,KR1,H.row g,A1⟩;have hkl:u.length<=256:=lJ u hs;have bk:Hid ((∀c q,(c,q)∈u->am A n w0 q λk=>f (c::k))/\(∀c q,(c,q)∈u->q≠N)/\gz A w0 (M ka u.length kc) u):=⟨b7,ch,bx⟩;obtain⟨r,T⟩:∃r:Nat->KVs,r=λi=>done++(L++(u.take i).flatMap λk=>db n (λx=>f (k.1::x)) (y++[k.1])):=⟨_,rfl⟩
  have HL:Hid (r=λi=>done++(L++(u.take i).flatMap λk=>db n (λx=>f (k.1::x)) (y++[k.1]))):=T;have cl:Hid (done++(L++u.flatMap λk=>db n (λx=>f (k.1::x)) (y++[k.1])) <+:total):=P;have cm:=show Hid _ from ih;have G:Hid (sZ A w0 B0 t l O total J):=m;have bi:Hid (B0<=g/\t<B0):=⟨d.base,m.box⟩;clear R KR1 A1 H b7 ch cp P d hJ aa hh b8 c3 hs bx ih m T af a2;go_wp2_with fail
  go_loopw [8,29] (λ_ s29 wr=>∃i:Nat,i<=u.length/\s29=I K i/\J (r i) wr/\fG O B0 wr g D y/\g8 O g t W wr/\Ag A w0 wr) (λ_ s29 _=>u.length-(intOf s29).toNat)
  case atStart=>exact⟨0,Nat.zero_le _,rfl,by rw[HL.out];simpa using HX.out.1,HX.out.2.1,HX.out.2.2.1,HX.out.2.2.2⟩
  case round=>
   obtain⟨i,hi,rfl,hJ,hK,hR,ad⟩:=hrel;have HR:Hid (J (r i) wr/\fG O B0 wr g D y/\g8 O g t W wr/\Ag A w0 wr):=⟨hJ,hK,hR,ad⟩;by_cases hlt:i<u.length
   .have ck:u≠[]:=by intro e;rw[e]at hlt;simp at hlt
    obtain⟨gk,capk,he,b5,hgl,bn,-⟩:=bk.out.2.2.cells ck;cases he;have c0:wr.cell? ⟨gk,i*2,N⟩=some (I .u8 (u[i].1.toNat:Int)):=(cB (a:=⟨gk,i*2,N⟩) (ad gk b5)).trans (bn i hlt).1;have c1:wr.cell? ⟨gk,i*2+1,N⟩=some (.pointer u[i].2):=(cB (a:=⟨gk,i*2+1,N⟩) (ad gk b5)).trans (bn i hlt).2;have av:Hid ((u[i].1,u[i].2)∈u):=List.getElem_mem hlt;have cd:r (i+1)=r i++db n (λx=>f (u[i].1::x)) (y++[u[i].1]):=by
     rw[HL.out];simp only;rw[tS hlt,List.flatMap_append,List.flatMap_singleton];simp only[pA]
    have bd:Hid (r (i+1)=r i++db n (λx=>f (u[i].1::x)) (y++[u[i].1])):=cd;clear cd;have c5:Hid (r (i+1) <+:total):=by
     rw[HL.out];simp only;refine List.IsPrefix.trans ?_ cl.out
     conv=>rhs;rw[<-List.take_append_drop (i+1) u,List.flatMap_append]
     refine⟨(u.drop (i+1)).flatMap λk=>db n (λx=>f (k.1::x)) (y++[k.1]),?_⟩;simp
    generalize u[i]=c4 at *;obtain⟨F,kq⟩:=c4;simp only at c0 c1 av bd;clear hJ hK hR ad bn
    go_upto_region 6 with fail
    rename_i K1 cv K2 al;have⟨S,ac,b9,b0⟩:=HR.out;have B:∀b,b<wr.heap.size->(wr.alloc (E #[I .u8 (F.toNat:Int),.pointer kq] 177)).heap[b]?=wr.heap[b]?:=λb Q=>bA _ _ _ Q
    have hBr:B0<=wr.heap.size:=G.out.size _ _ S;have v:∀b,O (wr.alloc (E #[I .u8 (F.toNat:Int),.pointer kq] 177)) b->O wr b:=λb=>G.out.own _ _ b (B t (by have:=bi.out;omega))
    refine wpIn_wide.1 (show Code.wpIn (wf N) 0 _ _ _ _ _ from Eb (id:=6) (n:=0) (kb:=wr.heap.size) (c:=F) (q:=kq) (pre:=r i) (sub:=db n (λx=>f (F::x)) (y++[F])) G.out rfl rfl rfl rfl
     (by rw[cA (w:=wr) _ _ wr.heap.size 0 rfl];rfl) (by rw[cA (w:=wr) _ _ wr.heap.size 1 rfl];rfl) (by have:=bi.out;omega) (λhO=>by have:=(G.out.ownB _ _ _ S (v _ hO)).2;omega) (by have:=ac.lt;omega) (by omega)
     (λb Q=>(B b (by have:=G.out.tree b Q;omega)).trans (b0 b Q)) (ac.same (B g ac.lt) (v g)) (G.out.stable _ _ _ S (λb Q=>B b (by omega)) (λb Q=>B b (G.out.ownB _ _ _ S Q).2) (by simp) rfl)
     (λX g' cb hX cr cj=>cm.out kq (λx=>f (F::x)) (y++[F]) (r i) X g' cb (bk.out.1 F kq av.out) (bk.out.2.1 F kq av.out) (by simp;omega) (by rw[<-bd.out];exact c5.out) hX cr cj)
     (λa w h1 h2 s h4 R ap H=>?_))
    rw[<-bd.out]at R;have b6:g8 O g t wr (wr.alloc (E #[I .u8 (F.toNat:Int),.pointer kq] 177)):=⟨by simp,rfl,λb h=>.inl (v b h),λb o Q _ _ _ _=>(B b (eS Q).1).trans Q⟩;have cc:g8 O g t W w:=b9.trans (b6.trans H);clear b6;have ab:Hid (J (r (i+1)) w/\fG O B0 w g D y/\g8 O g t W w/\Ag A w0 w):=⟨R,ap,cc,λb Q=>by
     have⟨h5,h6,o,h7,h8⟩:=G.out.tree b Q;rw[h7];exact H.2.2.2 b o ((B b (by omega)).trans ((b0 b Q).trans h7)) h8 h6 (by have:=bi.out;omega) (λhO=>by have:=(G.out.ownB _ _ _ S (v b hO)).1;omega)⟩
    have h2:a.defers=[]:=h2;have ha:=oy a 44 h1;have f0:a.eval (.tmp 0)=.pointer (some ⟨V,0,N⟩):=s 0 (by decide);have f1:a.eval (.tmp 1)=nc g D y:=s 1 (by decide);have f2:a.eval (.tmp 2)=yf l:=s 2 (by decide);have f3:a.eval (.tmp 3)=ρ (.tmp 3):=s 3 (by decide);have f4:a.eval (.tmp 4)=ρ (.tmp 4):=s 4 (by decide);have f5:a.eval (.tmp 5)=ρ (.tmp 5):=s 5 (by decide);have f6:a.eval (.tmp 6)=u6:=s 6 (by decide);have f7:a.eval (.tmp 7)=ρ (.tmp 7):=s 7 (by decide);have f8:a.eval (.tmp 8)=.pointer (some ⟨wr.heap.size,0,N⟩):=s 8 (by decide);have f9:a.eval (.tmp 9)=ρ (.tmp 9):=s 9 (by decide);have bw:a.eval (.tmp 10)=ρ (.tmp 10):=s 10 (by decide);have be:a.eval (.tmp 11)=ρ (.tmp 11):=s 11 (by decide);have a5:a.eval (.tmp 12)=ρ (.tmp 12):=s 12 (by decide);have b4:a.eval (.tmp 13)=ρ (.tmp 13):=s 13 (by decide);have a1:a.eval (.tmp 14)=ρ (.tmp 14):=s 14 (by decide);have b1:a.eval (.tmp 15)=ρ (.tmp 15):=s 15 (by decide);have a3:a.eval (.tmp 16)=ρ (.tmp 16):=s 16 (by decide);have a8:a.eval (.tmp 17)=ρ (.tmp 17):=s 17 (by decide);have bb:a.eval (.tmp 18)=ρ (.tmp 18):=s 18 (by decide);have bq:a.eval (.tmp 19)=ρ (.tmp 19):=s 19 (by decide);have b2:a.eval (.tmp 20)=ρ (.tmp 20):=s 20 (by decide);have ar:a.eval (.tmp 21)=ρ (.tmp 21):=s 21 (by decide);have a4:a.eval (.tmp 22)=ρ (.tmp 22):=s 22 (by decide);have bp:a.eval (.tmp 23)=C false:=s 23 (by decide);have bl:a.eval (.tmp 24)=.pointer (some ⟨V,0,N⟩):=s 24 (by decide);have a0:a.eval (.tmp 25)=.pointer (some ⟨V,0,N⟩):=s 25 (by decide);have a7:a.eval (.tmp 26)=.pointer (some ⟨V,2,N⟩):=s 26 (by decide);have a6:a.eval (.tmp 27)=M (some ⟨gk,0,N⟩) u.length kc:=s 27 (by decide);have a9:a.eval (.tmp 28)=I K (u.length:Int):=s 28 (by decide);have bo:a.eval (.tmp 29)=I K (i:Int):=s 29 (by decide);have b3:a.eval (.tmp 30)=C true:=s 30 (by decide);have bv:a.eval (.tmp 31)=.pointer (some ⟨gk,i*2,N⟩):=s 31 (by decide);have bt:a.eval (.tmp 32)=.agg #[I .u8 (F.toNat:Int),.pointer kq]:=s 32 (by decide);refine al _ _ ?_;rw[ha,h2];clear ha h1 h2 s S ac b9 b0 R ap H cc B;generalize a.eval=σ at f0 f1 f2 f3 f4 f5 f6 f7 f8 f9 bw be a5 b4 a1 b1 a3 a8 bb bq b2 ar a4 bp bl a0 a7 a6 a9 bo b3 bv bt h4 ⊢;simp only[List.range,List.range.loop,List.map_cons,List.map_nil,f0,f1,f2,f3,f4,f5,f6,f7,f8,f9,bw,be,a5,b4,a1,b1,a3,a8,bb,bq,b2,ar,a4,bp,bl,a0,a7,a6,a9,bo,b3,bv,bt,h4];clear f0 f1 f2 f3 f4 f5 f6 f7 f8 f9 bw be a5 b4 a1 b1 a3 a8 bb bq b2 ar a4 bp bl a0 a7 a6 a9 bo b3 bv bt h4;go_wp2_with fail
    exact⟨⟨_,_,_,⟨i+1,by omega,by simp,ab.out.1,ab.out.2.1,ab.out.2.2.1,ab.out.2.2.2⟩,rfl,rfl,rfl⟩,by simp[intOf];omega⟩
   .go_wp2_with fail
    have ct:i=u.length:=by omega
    subst ct;have e1:r u.length=done++(L++u.flatMap λk=>db n (λx=>f (k.1::x)) (y++[k.1])):=by rw[HL.out];simp
    rw[e1]at hJ;go_ret;exact⟨rfl,hJ,hK,hR⟩
end
def cz(f:List UInt8->List Ver)(p:List UInt8):KVs:=db (41-p.length) (λk=>f (p++k)) p
theorem ze{B:Nat}(w:Wj)(s:ByteArray)(a:Nat)(h:B<=w.heap.size)(i:s.size<=a):
  iA B (w.drew.alloc (E (bytesRow s a) 5 ((bytesRow s a).size,(bytesRow s a).size+1))) w.heap.size a s.data.toList:=by
 have b:(w.drew.alloc (E (bytesRow s a) 5 ((bytesRow s a).size,(bytesRow s a).size+1))).heap[w.heap.size]?=J (E (bytesRow s a) 5 ((bytesRow s a).size,(bytesRow s a).size+1)):=by
  have:=aN w.drew (E (bytesRow s a) 5 ((bytesRow s a).size,(bytesRow s a).size+1));exact this
 have hss:s.data.size=s.size:=rfl;have f:(bytesRow s a).size=a:=by simp[bytesRow];omega
 have e:s.data.toList.length=s.size:=by simp
 have c:∀j,(w.drew.alloc (E (bytesRow s a) 5 ((bytesRow s a).size,(bytesRow s a).size+1))).cell? ⟨w.heap.size,j,N⟩=(bytesRow s a)[j]?:=λj=>cell_of_row _ w.heap.size j _ 5 _ b
 refine⟨h,⟨_,_,_,b⟩,by rw[e];exact i,λj d=>?_,λj d=>?_⟩
 .rw [c,bytesRow,Array.getElem?_append_left (by simpa using d)];simp at d;simp[d]
 .rw [c,World.frozen?,b];refine⟨by simp[f,d],?_⟩;simp[f];omega
section
variable {A:Nat->Prop} {w0:Wj} {B0 t l:Nat} {O:Wj->Nat->Prop} {total:KVs} {J:KVs->Wj->Prop}
theorem Ec(a:sZ A w0 B0 t l O total J)(d:Option Wu)(f:List UInt8->List Ver)(p:ByteArray)(W:Wj)(D L:Nat)(R:am A 41 w0 d f)(s:total=cz f p.data.toList)(j:Ag A w0 W)(c1:W.cell? ⟨D,0,N⟩=some (.pointer d))(S:W.cell? ⟨L,0,N⟩=some (U p))(T:p.size<=maxLen)(o:J [] W):
  Calls Yq.prog 97 #[yf l,.pointer (some ⟨D,0,N⟩),.pointer (some ⟨L,0,N⟩)] W λe W'=>(∃v,e=.returned v)/\J total W':=by
 have hB:B0<=W.heap.size:=a.size _ _ o;have F:am A 41 W d f:=am.keep (λb i _=>⟨i,j b i⟩) 41 d f R;have HF:=pN A 41 d f p W T F;have HC:Hid (sZ A w0 B0 t l O total J/\J [] W/\Ag A w0 W):=⟨a,o,j⟩;have HT:Hid (total=cz f p.data.toList):=s;clear a o j s R F;go_enter (Yq.nq func97),ntmps97;have HW:Hid (∀ (c:Wj) (q:Option Wu),q.isSome=Y->am A (41-p.size) c q (λx=>f (p.data.toList++x))->Below W.heap.size W c ->
   Calls Yq.prog 98 #[.pointer q,M (some ⟨c.heap.size,0,N⟩) p.size (grownCap c p.size 0 5),yf l] (c.drew.alloc (E (bytesRow p (grownCap c p.size 0 5)) 5 ((bytesRow p (grownCap c p.size 0 5)).size,(bytesRow p (grownCap c p.size 0 5)).size+1))) λe W'=>e=.returned (C Y)/\J total W'):=λc q m y i=>by
  have⟨a,o,j⟩:=HC.out;have r:∀b,b<W.heap.size->(c.drew.alloc (E (bytesRow p (grownCap c p.size 0 5)) 5 ((bytesRow p (grownCap c p.size 0 5)).size,(bytesRow p (grownCap c p.size 0 5)).size+1))).heap[b]?=W.heap[b]?:=λb h=>by
   rw[bA _ _ _ (by show b<c.heap.size;have:=i.size;omega)];exact i.block b h
  have B:∀b,A b->b<W.heap.size:=λb h=>by have:=(a.tree b h).1;omega
  have n:p.data.toList.length=p.size:=by simp
  have hn:p.size<=40:=by
   rcases Nat.lt_or_ge 40 p.size with h|h
   .have e:41-p.size=0:=by omega
    rw[e]at y;rw[y.1]at m;cases m
   .exact h
  have H:am A (41-p.size) w0 q (λx=>f (p.data.toList++x)):=am.keep (λb z _=>⟨z,((i.block b (B b z)).trans (j b z)).symm⟩) _ q _ y;have:=GO a (41-p.size) q (λx=>f (p.data.toList++x)) p.data.toList [] _ c.heap.size (grownCap c p.size 0 5) H (by intro e;rw[e]at m;cases m) (by omega) (by rw[HT.out,cz,n];exact List.prefix_refl _)
   (λb z=>(r b (B b z)).trans (j b z)) ⟨ze c p _ (by have:=i.size;omega) (grownCap_ge _ _ _ _),λh=>by
    have Q:=(a.ownB _ _ _ o (a.own _ _ _ (r t (by have:=a.box;omega)) h)).2;have:=i.size;omega⟩ (a.stable _ _ _ o (λb h=>r b (by omega)) (λb h=>r b (a.ownB _ _ _ o h).2) (by have:=i.size;rw[World.size_alloc];show W.heap.size<=c.heap.size+1;omega) i.os)
  rw[nc,n]at this;refine this.mono ?_;rintro e W' ⟨rfl,Q,-⟩;refine⟨rfl,?_⟩;rw[HT.out,cz,n];exact Q
 go_wp2_with (first|(go_at_call 66;refine HF.mono ?_;clear HF;rintro e c ⟨q,rfl,y,i⟩;have c2':=ah i S;have hcv:=run_bytes_of_string (P:=Yq.prog) c 9 118 5 p (Yq.u underlying9) (Yq.u underlying118) (Yq.u underlying5))|(go_at_call 98;refine(HW.out c q (by assumption) y i).mono ?_;rintro e w2 ⟨rfl,G⟩))
 .go_end0;exact⟨⟨_,rfl⟩,G⟩
 .have m:q=none:=by
   cases q with
   |none=>rfl
   |some _=>simp at *
  subst m;go_end0;refine⟨⟨_,rfl⟩,?_⟩;obtain⟨a,o,-⟩:=HC.out;rw[HT.out,cz,ow _ _ _ (λk=>y.of_nil k)];exact a.stable _ _ _ o (λb h=>i.block b (by omega)) (λb h=>i.block b (a.ownB _ _ _ o h).2) i.size i.os
end
def lO(c t:Nat)(W W':Wj):Prop:=W.heap.size<=W'.heap.size/\W'.os=W.os/\∀b,b<W.heap.size->b≠c->b≠t->W'.heap[b]?=W.heap[b]?
theorem lO.below{c t:Nat}{W W':Wj}(h:Below W.heap.size W W'):lO c t W W':=⟨h.size,h.os,λb a _ _=>h.block b a⟩
theorem lO.cells{c t:Nat}{W W':Wj}(h:lO c t W W')(k:∃o:Obj,W.heap[c]?=J o/\o.isCells=Z):dL t W W':=⟨h.1,h.2.1,λb o a j i=>by
 refine(h.2.2 b (eS a).1 (λe=>?_) i).trans a;subst e;obtain⟨o',d,f⟩:=k;rw[a]at d;cases d;rw[j]at f;cases f⟩
theorem fQ{t l:Nat}{W:Wj}(h:W.heap[l]?=J o')(f:o'.isCells=Z)(d:Obj):dL t W (W.putObj l d):=⟨by simp,rfl,λb x a c _=>by
 by_cases e:b=l
 .subst e;rw[h]at a;cases a;rw[f]at c;cases c
 .exact (pO e).trans a⟩
def xB(O:Wj->Nat->Prop)(c t:Nat)(W W':Wj):Prop:=W.heap.size<=W'.heap.size/\W'.os=W.os/\(∀b,O W' b->O W b\/W.heap.size<=b)/\∀b,b<W.heap.size->b≠c->b≠t->¬O W b->W'.heap[b]?=W.heap[b]?
def noO(_:Wj)(_:Nat):Prop:=False
theorem lO.own{c t:Nat}{W W':Wj}(h:lO c t W W'):xB noO c t W W':=⟨h.1,h.2.1,λ_ h=>h.elim,λb a d e _=>h.2.2 b a d e⟩
theorem xB.cells{O:Wj->Nat->Prop}{c t:Nat}{W W':Wj}(h:xB O c t W W')(l:c=t\/∃o:Obj,W.heap[c]?=J o/\o.isCells=Z):fA O t W W':=⟨h.1,h.2.1,h.2.2.1,λb o a j i m=>by
 refine(h.2.2.2 b (eS a).1 (λe=>?_) i m).trans a;subst e;rcases l with k|⟨o',f,d⟩
 .exact i k
 rw[a]at f;cases f;rw[j]at d;cases d⟩
theorem mJ{O:Wj->Nat->Prop}{t l:Nat}{W:Wj}(j:∀X a b,a.heap[t]?=X.heap[t]?->O a b->O X b)(d:t≠l)(h:W.heap[l]?=J o')(i:o'.isCells=Z)(k:Obj):fA O t W (W.putObj l k):=⟨by simp,rfl,λb c=>.inl (j _ _ b (pO d) c),λb x c f _ _=>by
 by_cases e:b=l
 .subst e;rw[h]at c;cases c;rw[i]at f;cases f
 .exact (pO e).trans c⟩
section
variable {P:Wv} {α β:Type}
theorem By{g:Operand}{ps:Array Tmp}{assign body:Code}{Q:Exit->Act->Wj->Prop}{a:Act}{w:Wj}{n gf:Nat}{lb:Array Wx}{encs:β->Array Wx}(π:β->α)(hg:a.eval g=.func (.func gf) #[] lb)(eg:∀R w,(callFunc gf R).run P w=.ok (.enter gf R) w)(bb:∀x,(encs x).size=ps.size)
  (c t:Nat) (ht:t<w.heap.size) (O:Wj->Nat->Prop) (hO:∀X d b,d.heap[t]?=X.heap[t]?->O d b->O X b) (I:List α->Wj->Prop) (L:List α->β->Prop) (total:List α)
  (G:∀i X b,I i X->O X b->w.heap.size<=b/\∃o:Obj,X.heap[b]?=some o/\o.isCells=Y)
  (hI:∀i X d,I i X->(∀b,b<w.heap.size->d.heap[b]?=X.heap[b]?)->(∀b,O X b->d.heap[b]?=X.heap[b]?)->X.heap.size<=d.heap.size->d.os=X.os->I i d) (af:∀i X,I i X->(c=t\/c<w.heap.size)/\(c=t\/∃o:Obj,X.heap[c]?=some o/\o.isCells=Z)) (h0:I [] w) (S:β->Act)
  (ad:∀ (l:Nat) (J:List α->Wj->Prop) (W:Wj),W.heap.size=w.heap.size+2->(∀b,b<w.heap.size->W.heap[b]?=w.heap[b]?) ->
   (∀i X b,J i X->O X b->w.heap.size+2<=b/\b<X.heap.size)->(∀i X d,J i X->(∀b,b<w.heap.size+2->d.heap[b]?=X.heap[b]?)->(∀b,O X b->d.heap[b]?=X.heap[b]?)->X.heap.size<=d.heap.size->d.os=X.os->J i d)->(∀i X,J i X->w.heap.size+2<=X.heap.size) ->
   (∀i x X,L i x->J i X->YieldAt (wf N) 0 P l (encs x) X λe X'=>e=.returned (.bool Y)/\J (i++[π x]) X'/\fA O t X X')->J [] W ->
   Calls P gf (#[.func (.yield l) #[] #[]]++lb) W λe W'=>(∃v,e=.returned v)/\J total W')
  (z:∀ (l:Nat) (x:β) (W:Wj) (f:Act->Wj->Prop),f (S x) W->assign.wpIn (wf (some l)) 0 P (Exit.then f (λ_ _ _=>False)) {tmps:=(ps.zip (encs x)).foldl (λt (p,v)=>t.setIfInBounds p v) a.tmps,defers:=[]} W)
  (ac:∀ (l:Nat) (i:List α) (x:β) (W:Wj),L i x->I i W->body.wpIn (wf (some l)) 0 P (λe _ W'=>e=.normal/\xB O c t W W'/\I (i++[π x]) W') (S x) W)
  (aa:∀ (D:Nat) (W:Wj),w.heap.size<=D->I total W->W.heap[D]?=some (.deferred (some []))->Q .normal {a with defers:={target:=.collected D,args:=#[]} :: a.defers} W):
  (Code.rangeFunc g ps assign body).wpIn (wf N) n P Q a w:=by
 refine wpIn_rangeFunc ?_;intro fn hfn;obtain⟨k,m⟩:∃k:LoopState->Loop,k=λst=>{state:=st,pending:=N,fn,tmps:=a.tmps,params:=ps,assign,body,defers:=w.heap.size}:=⟨_,rfl⟩
 obtain⟨W1,s⟩:∃W1,(w.alloc (.deferred (some []))).alloc (.loop (k .ready))=W1:=⟨_,rfl⟩;have a6:W1.heap[w.heap.size+1]?=some (.loop (k .ready)):=by
  rw[<-s];have:=aN (w.alloc (.deferred (some []))) (.loop (k .ready));rwa [World.size_alloc]at this
 have bd:W1.heap[w.heap.size]?=some (.deferred (some [])):=by
  rw[<-s];exact(bA _ _ _ (by simp)).trans (aN w _)
 have y:∀b,b<w.heap.size->W1.heap[b]?=w.heap[b]?:=λb q=>by
  rw[<-s,bA _ _ _ (by simp;omega),bA _ _ _ q]
 have a1:W1.heap.size=w.heap.size+2:=by rw[<-s];simp
 have hcl:c<w.heap.size:=by
  rcases(af _ _ h0).1 with h|h
  .omega
  .exact h
 have r:∀i X b,I i X->O X b->∀ {j:Nat} {o:Obj},X.heap[j]?=some o->o.isCells=Z->b≠j:=λi X b hi q j o hj hc e=>by
  obtain⟨-,o',h1,h2⟩:=G _ _ _ hi q;subst e;rw[hj]at h1;cases h1;rw[hc]at h2;cases h2
 have a7:I [] W1:=hI _ _ _ h0 y (λb q=>y b (eS (G _ _ _ h0 q).2.choose_spec.1).1) (by omega) (by rw[<-s];rfl);refine⟨w.heap.size+1,[{target:=.collected w.heap.size,args:=#[]}],W1,{target:=.fn (.func gf) lb,args:=#[.func (.yield (w.heap.size+1)) #[] #[]]},W1,gf,
  #[.func (.yield (w.heap.size+1)) #[] #[]]++lb,W1,?_,?_,λ_ _=>trivial,?_,(λh=>by cases h),?_⟩
 .rw [<-s,m];exact run_enterLoop_outer _ _ _ _ _
 .simp only[resolve,hg];simp[go_sem]
 .simp [invoke,go_sem,eg]
 .refine callsIn_wide.2 ((ad (w.heap.size+1) (λi W=>I i W/\W.heap[w.heap.size+1]?=some (.loop (k .ready))/\W.heap[w.heap.size]?=some (.deferred (some []))) W1 a1 y (λi X b h q=>by
   have h1:=(G _ _ _ h.1 q).1;have h2:=r _ _ _ h.1 q h.2.1 rfl;have h3:=r _ _ _ h.1 q h.2.2 rfl;exact⟨by omega,(eS (G _ _ _ h.1 q).2.choose_spec.1).1⟩) (λi X d h h1 a8 h2 h3=>⟨hI i X d h.1 (λb q=>h1 b (by omega)) a8 h2 h3,(h1 _ (by omega)).trans h.2.1,(h1 _ (by omega)).trans h.2.2⟩) (λi X h=>(eS h.2.1).1) ?_ ⟨a7,a6,bd⟩).mono ?_)
  .rintro i x X V ⟨hi,T,hk⟩;have hlt:w.heap.size+1<X.heap.size:=(eS T).1;have hy:=run_yield (P:=P) (args:=encs x) T (by rw[m];exact bb x);rw[m]at hy;refine⟨fn,_,assign,body,hy,roundIn_of_wpIn (F:=wf N) trivial (z _ x X _ ?_)⟩;refine⟨_,run_beginRound T (by rw[m]),?_⟩;obtain⟨X2,u⟩:∃X2,X.putObj (w.heap.size+1) (.loop {k .ready with state:=.busy})=X2:=⟨_,rfl⟩;have ar:X2.heap[w.heap.size+1]?=some (.loop {k .ready with state:=.busy}):=by rw[<-u];exact World.putObj_heap_same hlt
   have H:∀b,b≠w.heap.size+1->X2.heap[b]?=X.heap[b]?:=λb q=>by rw[<-u];exact pO q
   have hsz2:X2.heap.size=X.heap.size:=by rw[<-u];simp
   have ap:X2.os=X.os:=by rw[<-u];rfl
   have A:I i X2:=hI _ _ _ hi (λb q=>H b (by omega)) (λb q=>H b (r _ _ _ hi q T rfl)) (by omega) ap;have a0:fA O t X X2:=by rw[<-u];exact mJ hO (by omega) T rfl _
   rw[u];refine wpIn_mono (ac _ i x _ V A) ?_;rintro e a3 X3 ⟨rfl,ab,a2⟩;have B:X3.heap[w.heap.size+1]?=some (.loop {k .ready with state:=.busy}):=(ab.2.2.2 _ (by omega) (by omega) (by omega) (λh=>r _ _ _ A h ar rfl rfl)).trans ar;have a9:X3.heap[w.heap.size]?=some (.deferred (some [])):=(ab.2.2.2 _ (by omega) (by omega) (by omega) (λh=>r _ _ _ A h ((H _ (by omega)).trans hk) rfl rfl)).trans ((H _ (by omega)).trans hk);have al:=run_endRound (P:=P) N B;have hfin:({k .ready with state:=.busy}:Loop)={k .ready with state:=.busy}:=rfl;have e4:({({k .ready with state:=.busy}:Loop)with state:=if(N:Option Code).isNone then .ready else .done,pending:=N}:Loop)=k .ready:=by rw[m];rfl
   rw[e4]at al;have a4:w.heap.size+1<X3.heap.size:=(eS B).1;refine⟨_,_,al,rfl,⟨hI _ _ _ a2 (λb q=>pO (by omega)) (λb q=>pO (r _ _ _ a2 q B rfl)) (by simp) rfl,World.putObj_heap_same a4,(pO (by omega)).trans a9⟩,a0.trans ((ab.cells (af _ _ A).2).trans (mJ hO (by omega) B rfl _))⟩
  .rintro e W2 ⟨⟨v,rfl⟩,hi,T,hk⟩;have av:=run_endLoop (P:=P) T (by rw[m];simp);have a5:(k .ready).pending=none:=by rw[m]
   rw[a5]at av;exact⟨N,_,av,aa w.heap.size _ (lR _) (hI _ _ _ hi (λb q=>pO (by omega)) (λb q=>pO (r _ _ _ hi q T rfl)) (by simp) rfl) ((pO (by omega)).trans hk)⟩
end
end
