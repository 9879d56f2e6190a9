/- Part of a proof. -/
import Derived.Test.YtnapepbdohidgaaGreatDoorQM02
set_option maxHeartbeats 4000000
set_option maxRecDepth 100000
namespace Go.Proofs.YtnapepbdohidgaaGreatDoorQ
section
open Go
theorem RVs.set {ρ:Ren}{c c':Array Value}(h:RVs ρ c c')(i:Nat){v v':Value}(hv:RV ρ v v'):RVs ρ (c.setIfInBounds i v) (c'.setIfInBounds i v'):=by
 refine ⟨by simp [h.size],fun j x x' h1 h2=>?_⟩;rw [Array.getElem?_setIfInBounds] at h1 h2;by_cases hij:i=j
 ·subst hij;by_cases hi:i<c.size
  ·have hi':i<c'.size:=by rw [<-h.size];exact hi
   simp [hi,hi'] at h1 h2;subst h1;subst h2;exact hv
  ·simp [hi] at h1
 ·simp only [hij,if_false] at h1 h2;exact h.at_ j x x' h1 h2
theorem br.lt {ρ:Ren}{w w':World}(S:br ρ w w'){a b:Nat}(h:ρ a b):a<w.heap.size/\b<w'.heap.size:=by
 obtain ⟨o,o',h1,h2,-⟩:=S.obj a b h;exact ⟨(eS h1).1,(eS h2).1⟩
theorem br.oldLt {ρ:Ren}{w w':World}(S:br ρ w w'){a:Nat}(h:ρ.old a):a<w.heap.size:=by
 obtain ⟨o,h1,-⟩:=S.fix a h;exact (eS h1).1
theorem br.put {ρ:Ren}{w w':World}(S:br ρ w w'){r r':Nat}(h:ρ r r'){o o':Obj}(ho:RO ρ o o')(hn:¬ρ.old r)(hch:ρ.ch r->o.isChan=true)(hnc:∀c e z,w.heap[r]?≠some (.cells c e z)):br ρ {w with heap:=w.heap.setIfInBounds r o} {w' with heap:=w'.heap.setIfInBounds r' o'}:=by
 refine ⟨fun a b hab=>?_,fun a ha=>?_,fun c hc=>?_,S.os,fun hb a c0 hp=>?_⟩
 rotate_left 3
 ·obtain ⟨b,hab,hP⟩:=S.pin hb a c0 hp;have e:r≠a:=fun e=>by
   obtain ⟨c,t,z,_,_,k1,-⟩:=hP;exact hnc c t z (e▸k1)
  have e':r'≠b:=fun e'=>e (ρ.inj _ _ _ h (e'▸hab))
  exact ⟨b,hab,hP.same (by simp [e]) (by simp [e'])⟩
 ·obtain ⟨x,x',h1,h2,hx⟩:=S.obj a b hab;obtain ⟨y,y',k1,k2,-⟩:=S.obj r r' h;by_cases e:r=a
  ·subst e;have:=ρ.fn _ _ _ h hab;subst this;have l1:=(eS k1).1;have l2:=(eS k2).1;exact ⟨o,o',by simp [l1],by simp [l2],ho⟩
  ·have e':r'≠b:=fun e'=>e (ρ.inj _ _ _ h (e'▸hab))
   exact ⟨x,x',by simp [e,h1],by simp [e',h2],hx⟩
 ·obtain ⟨x,h1,h2⟩:=S.fix a ha;have e:r≠a:=fun e=>hn (e▸ha)
  exact ⟨x,by simp [e,h1],h2⟩
 ·obtain ⟨x,h1,h2⟩:=S.chan c hc;by_cases e:r=c
  ·exact ⟨o,by rw [<-e];simp [(S.lt h).1],hch (e▸hc)⟩
  ·exact ⟨x,by simp [e,h1],h2⟩
theorem cq (w:World)(a:Addr)(v:Value){b:Nat}(h:a.block≠b):(w.setCell a v).heap[b]?=w.heap[b]?:=by
 unfold World.setCell;simp only [Array.getElem?_modify,h,if_false]
theorem br.set {ρ:Ren}{w w':World}(S:br ρ w w'){a a':Addr}(h:RA ρ a a'){v v':Value}(hv:RV ρ v v')(hn:¬ρ.old a.block)(h1v:gz v=true):br ρ (w.setCell a v) (w'.setCell a' v'):=by
 refine ⟨fun x y hxy=>?_,fun x hx=>?_,fun c hc=>?_,S.os,fun hb x c0 hp=>?_⟩
 rotate_left 3
 ·obtain ⟨y,hxy,hP⟩:=S.pin hb x c0 hp;refine ⟨y,hxy,?_⟩;by_cases e:a.block=x
  ·have e':a'.block=y:=by rw [<-e] at hxy;exact ρ.fn _ _ _ h.1 hxy
   obtain ⟨c,t,z,c',z',k1,k2,k3⟩:=hP;unfold rN World.setCell;simp only [Array.getElem?_modify,e,e',if_true,k1,k2,Option.map_some,<-h.2.1,<-h.2.2];refine ⟨_,t,z,_,z',rfl,rfl,fun i x hx h0=>?_⟩;by_cases hs:a.spot.isSome=true
   ·simp only [hs,if_true] at hx ⊢;exact k3 i x hx h0
   ·simp only [hs,Bool.false_eq_true,if_false] at hx ⊢;rw [Array.getElem?_setIfInBounds] at hx ⊢;by_cases hi:a.off=i
    ·subst hi;by_cases hc:a.off<c.size
     ·simp only [if_true,hc] at hx;cases hx;rw [h1v] at h0;cases h0
     ·simp [hc] at hx
    ·simp only [hi,if_false] at hx ⊢;exact k3 i x hx h0
  ·have e':a'.block≠y:=fun e'=>e (ρ.inj _ _ _ h.1 (e'▸hxy))
   exact hP.same (cq w a v e) (cq w' a' v' e')
 ·obtain ⟨o,o',h1,h2,ho⟩:=S.obj x y hxy;unfold World.setCell;simp only [Array.getElem?_modify];by_cases e:a.block=x
  ·have e':a'.block=y:=by rw [<-e] at hxy;exact ρ.fn _ _ _ h.1 hxy
   simp only [e,e',if_true,h1,h2,Option.map_some];refine ⟨_,_,rfl,rfl,?_⟩;cases ho with
   |cells t hz hc=>
    simp only [<-h.2.1,<-h.2.2];split
    ·exact .cells t hz hc
    ·exact .cells t (by simpa using hz) (hc.set _ hv)
   |chan cap cap' cl cl' s r s' r' tm hb hc=>exact .chan cap cap' cl cl' s r s' r' tm hb hc
   |map c h=>exact .map c h
   |stringIter s n=>exact .stringIter s n
   |loop hl=>exact .loop hl
   |deferred hd=>exact .deferred hd
   |taken=>exact .taken
   |number b h=>exact .number b h
   |dead o' h=>cases o'<;>first|exact .dead _ h|simp [ot] at h
  ·have e':a'.block≠y:=fun e'=>e (ρ.inj _ _ _ h.1 (e'▸hxy))
   simp only [e,e',if_false];exact ⟨o,o',h1,h2,ho⟩
 ·obtain ⟨o,h1,h2⟩:=S.fix x hx;exact ⟨o,by rw [cq w a v (fun e=>hn (e▸hx))];exact h1,h2⟩
 ·obtain ⟨o,h1,h2⟩:=S.chan c hc;unfold World.setCell;simp only [Array.getElem?_modify];by_cases e:a.block=c
  ·simp only [e,if_true,h1,Option.map_some];refine ⟨_,rfl,?_⟩;cases o<;>first|exact h2|simp [Obj.isChan] at h2
  ·simp only [e,if_false];exact ⟨o,h1,h2⟩
theorem Zr.freeze {f:Bool}{n:Nat}{lo hi lo' hi':Nat}(h:Zr f n (lo,hi) (lo',hi'))(o m:Nat):Zr f n (if lo==hi then (o,o+m) else (min lo o,max hi (o+m))) (if lo'==hi' then (o,o+m) else (min lo' o,max hi' (o+m))):=by
 rcases h with h|⟨h0,h1,h2,h3,h4⟩
 ·cases h;exact .inl rfl
 ·simp only at h1 h2 h3 h4;subst h1;have e:(0==hi)=false:=by simp;omega
  simp only [e,Bool.false_eq_true,if_false];refine .inr ⟨h0,by simp,by simp only;omega,by simp only;omega,?_⟩;split<;>(simp only;omega)
theorem ck (w:World)(a:Addr)(n:Nat){b:Nat}(h:a.block≠b):(w.freeze a n).heap[b]?=w.heap[b]?:=by
 unfold World.freeze;split
 ·rfl
 ·simp only [Array.getElem?_modify,h,if_false]
theorem br.freeze {ρ:Ren}{w w':World}(S:br ρ w w'){a a':Addr}(h:RA ρ a a')(n:Nat)(hn:¬ρ.old a.block):br ρ (w.freeze a n) (w'.freeze a' n):=by
 refine ⟨fun x y hxy=>?_,fun x hx=>?_,fun c hc=>?_,by unfold World.freeze;split<;>exact S.os,fun hb x c0 hp=>?_⟩
 rotate_left 3
 ·obtain ⟨y,hxy,hP⟩:=S.pin hb x c0 hp;refine ⟨y,hxy,?_⟩;by_cases e:a.block=x
  ·have e':a'.block=y:=by rw [<-e] at hxy;exact ρ.fn _ _ _ h.1 hxy
   obtain ⟨c,t,z,c',z',k1,k2,k3⟩:=hP;unfold rN World.freeze;split
   ·exact ⟨c,t,z,c',z',k1,k2,k3⟩
   ·simp only [Array.getElem?_modify,e,e',if_true,k1,k2,Option.map_some];exact ⟨c,t,_,c',_,rfl,rfl,k3⟩
  ·have e':a'.block≠y:=fun e'=>e (ρ.inj _ _ _ h.1 (e'▸hxy))
   exact hP.same (ck w a n e) (ck w' a' n e')
 ·obtain ⟨o,o',h1,h2,ho⟩:=S.obj x y hxy;unfold World.freeze;split
  ·exact ⟨o,o',h1,h2,ho⟩
  simp only [Array.getElem?_modify];by_cases e:a.block=x
  ·have e':a'.block=y:=by rw [<-e] at hxy;exact ρ.fn _ _ _ h.1 hxy
   simp only [e,e',if_true,h1,h2,Option.map_some];refine ⟨_,_,rfl,rfl,?_⟩;cases ho with
   | @cells c c' t z z' hz hc=>
    obtain ⟨lo,hi⟩:=z;obtain ⟨lo',hi'⟩:=z';simp only [<-h.2.1];exact .cells t (hz.freeze _ _) hc
   |chan cap cap' cl cl' s r s' r' tm hb hc=>exact .chan cap cap' cl cl' s r s' r' tm hb hc
   |map c h=>exact .map c h
   |stringIter s n=>exact .stringIter s n
   |loop hl=>exact .loop hl
   |deferred hd=>exact .deferred hd
   |taken=>exact .taken
   |number b h=>exact .number b h
   |dead o' h=>cases o'<;>first|exact .dead _ h|simp [ot] at h
  ·have e':a'.block≠y:=fun e'=>e (ρ.inj _ _ _ h.1 (e'▸hxy))
   simp only [e,e',if_false];exact ⟨o,o',h1,h2,ho⟩
 ·obtain ⟨o,h1,h2⟩:=S.fix x hx;exact ⟨o,by rw [ck w a n (fun e=>hn (e▸hx))];exact h1,h2⟩
 ·obtain ⟨o,h1,h2⟩:=S.chan c hc;by_cases e:a.block=c
  ·unfold World.freeze;split
   ·exact ⟨o,h1,h2⟩
   simp only [Array.getElem?_modify,e,if_true,h1,Option.map_some];refine ⟨_,rfl,?_⟩;cases o<;>first|exact h2|simp [Obj.isChan] at h2
  ·exact ⟨o,by rw [ck w a n e];exact h1,h2⟩
theorem lH (w:World)(a:Addr)(n:Nat):(w.freeze a n).heap.size=w.heap.size:=by
 unfold World.freeze;split<;>simp
theorem br.freshL {ρ:Ren}{w w':World}(S:br ρ w w'):∀b,¬ρ w.heap.size b:=fun b h=>by have:=(S.lt h).1;omega
theorem br.freshR {ρ:Ren}{w w':World}(S:br ρ w w'):∀a,¬ρ a w'.heap.size:=fun a h=>by have:=(S.lt h).2;omega
theorem br.freshO {ρ:Ren}{w w':World}(S:br ρ w w'):¬ρ.old w.heap.size:=fun h=>by have:=S.oldLt h;omega
theorem lh {α:Type}(x:Array α)(v:α){i:Nat}{o:α}(h:x[i]?=some o):(x.push v)[i]?=some o:=by
 have:=(eS h).1;rw [Array.getElem?_push,if_neg (by omega)];exact h
theorem br.push {ρ:Ren}{w w':World}(S:br ρ w w'){o o':Obj}(ho:RO ρ o o'):br (ext ρ w.heap.size w'.heap.size S.freshL S.freshR) {w with heap:=w.heap.push o} {w' with heap:=w'.heap.push o'}:=by
 refine ⟨fun a b h=>?_,fun a ha=>?_,fun c hc=>?_,S.os,fun hb a c0 hp=>?_⟩
 rotate_left 3
 ·obtain ⟨b,hab,hP⟩:=S.pin hb a c0 hp;obtain ⟨l1,l2⟩:=S.lt hab;exact ⟨b,.inl hab,hP.same (by simp only [Array.getElem?_push,if_neg (show ¬a=w.heap.size by omega)]) (by simp only [Array.getElem?_push,if_neg (show ¬b=w'.heap.size by omega)])⟩
 ·rcases h with h|⟨rfl,rfl⟩
  ·obtain ⟨x,x',h1,h2,hx⟩:=S.obj a b h;exact ⟨x,x',lh _ _ h1,lh _ _ h2,hx.mono (pG _ _ _ _ _)⟩
  ·exact ⟨o,o',by simp,by simp,ho.mono (pG _ _ _ _ _)⟩
 ·obtain ⟨x,h1,h2⟩:=S.fix a ha;exact ⟨x,lh _ _ h1,h2⟩
 ·obtain ⟨x,h1,h2⟩:=S.chan c hc;exact ⟨x,lh _ _ h1,h2⟩
theorem br.ne_chan {ρ:Ren}{w w':World}(_S:br ρ w w'){r r' c b:Nat}(h:ρ r r')(hb:ρ c b)(hne:r≠c):r'≠b:=fun e=>hne (ρ.inj _ _ _ h (e▸hb))
theorem br.cell_ch {ρ:Ren}{w w':World}(S:br ρ w w'){a:Addr}{x:Value}(hx:w.cell? a=some x):¬ρ.ch a.block:=fun hc=>by
 obtain ⟨o,h1,h2⟩:=S.chan _ hc;unfold World.cell? at hx;rw [h1] at hx;cases o<;>simp [Obj.isChan] at h2 hx
theorem pL (w:World)(a:Addr)(v:Value){b:Nat}{o:Obj}(h:(w.setCell a v).heap[b]?=some o)(hc:o.isChan=true):w.heap[b]?=some o:=by
 by_cases hne:a.block=b
 ·subst hne;unfold World.setCell at h;simp only [Array.getElem?_modify,if_true] at h;obtain ⟨x,h1,h2⟩:=Option.map_eq_some_iff.1 h;rw [h1];cases x<;>first|exact congrArg some h2|(subst h2;simp [Obj.isChan] at hc)
 ·rw [cq _ _ _ hne] at h;exact h
theorem pM (w:World)(a:Addr)(n:Nat){b:Nat}{o:Obj}(h:(w.freeze a n).heap[b]?=some o)(hc:o.isChan=true):w.heap[b]?=some o:=by
 by_cases hne:a.block=b
 ·subst hne;unfold World.freeze at h;split at h
  ·exact h
  ·simp only [Array.getElem?_modify,if_true] at h;obtain ⟨x,h1,h2⟩:=Option.map_eq_some_iff.1 h;rw [h1];cases x<;>first|exact congrArg some h2|(subst h2;simp [Obj.isChan] at hc)
 ·rw [ck _ _ _ hne] at h;exact h
theorem br.chs_set {ρ:Ren}{w w':World}(S:br ρ w w'){a a':Addr}{v v' x:Value}(hx:w.cell? a=some x)(h:RA ρ a a'):Chs ρ w w' (w.setCell a v) (w'.setCell a' v'):=⟨fun c b hc hb=>by
 have hne:a.block≠c:=fun e=>S.cell_ch hx (e▸hc)
 exact .inl ⟨cq _ _ _ hne,cq _ _ _ (S.ne_chan h.1 hb hne)⟩,fun _ b o ho hc=>.inl (pL w a v ho hc)⟩
theorem br.chs_push {ρ:Ren}{w w':World}(S:br ρ w w')(o o':Obj)(hs:o.isChan=true->ρ.F j8=true):Chs ρ w w' {w with heap:=w.heap.push o} {w' with heap:=w'.heap.push o'}:=⟨fun c b hc hb=>by
 obtain ⟨h1,h2⟩:=S.lt hb;refine .inl ⟨?_,?_⟩
 ·simp only [Array.getElem?_push,if_neg (show ¬c=w.heap.size by omega)]
 ·simp only [Array.getElem?_push,if_neg (show ¬b=w'.heap.size by omega)],fun hS b x hx hc=>by
 simp only [Array.getElem?_push] at hx;split at hx
 ·cases hx;rw [hs hc] at hS;cases hS
 ·exact .inl hx⟩
theorem lI (w:World)(a:Addr)(n:Nat){o:Obj}(h:w.heap[a.block]?=some o)(hc:o.isChan=true):(w.freeze a n).heap[a.block]?=w.heap[a.block]?:=by
 unfold World.freeze;split
 ·rfl
 ·simp only [Array.getElem?_modify,h,if_true,Option.map_some];cases o<;>first|rfl|simp [Obj.isChan] at hc
theorem br.chs_freeze {ρ:Ren}{w w':World}(S:br ρ w w'){a a':Addr}(h:RA ρ a a')(n:Nat):Chs ρ w w' (w.freeze a n) (w'.freeze a' n):=⟨fun c b hc hb=>by
 by_cases hne:a.block=c
 ·subst hne;obtain ⟨o,h1,h2⟩:=S.chan _ hc;obtain ⟨x,x',k1,k2,k3⟩:=S.obj _ _ h.1;rw [h1] at k1;cases k1;have h3:x'.isChan=true:=by cases k3<;>simp [Obj.isChan] at h2 ⊢
  obtain rfl:a'.block=b:=ρ.fn _ _ _ h.1 hb;exact .inl ⟨lI w a n h1 h2,lI w' a' n k2 h3⟩
 ·exact .inl ⟨ck _ _ _ hne,ck _ _ _ (S.ne_chan h.1 hb hne)⟩,fun _ b o ho hc=>.inl (pM w a n ho hc)⟩
theorem br.chs_put {ρ:Ren}{w w':World}(S:br ρ w w'){r r':Nat}(h:ρ r r'){o o':Obj}(hch:ρ.ch r->ρ.F ft=true/\∃n b s q tm,o=.chan n b true s q tm)(hs:o.isChan=true->ρ.F ft=true/\∃n b s q tm,o=.chan n b true s q tm):Chs ρ w w' {w with heap:=w.heap.setIfInBounds r o} {w' with heap:=w'.heap.setIfInBounds r' o'}:=⟨fun c b hc hb=>by
 by_cases hne:r=c
 ·subst hne;obtain ⟨h1,n,q,s,t,tm,rfl⟩:=hch hc;refine .inr ⟨h1,n,q,s,t,tm,?_⟩;simp [(S.lt h).1]
 ·exact .inl ⟨by simp [hne],by simp [S.ne_chan h hb hne]⟩,fun hS b x hx hc=>by
 by_cases hne:r=b
 ·subst hne;have hx0:=hx;simp [(S.lt h).1] at hx;subst hx;obtain ⟨h1,n,q,s,t,tm,rfl⟩:=hs hc;exact .inr ⟨h1,n,q,s,t,tm,hx0⟩
 ·exact .inl (by simpa [hne] using hx)⟩
def zL {α:Type}(r:Result α):Prop:=∃h w,r=.halt h w/\dS h=true
def Out {α β:Type}(Q:Ren->α->β->Prop)(ρ:Ren)(w w':World)(es':Array Event)(r:Result α)(r':Result β×Array Event):Prop:=
 ∃ρ',ρ.le ρ'/\br ρ' r.w r'.1.w/\RR Q ρ' r r'.1/\Keep ρ w' r'.1.w/\(∀a b,ρ' a b->ρ a b\/(w.heap.size<=a/\w'.heap.size<=b))/\r'.1.w.drawn+w.drawn=w'.drawn+r.w.drawn/\d7 ρ' es' r'.2/\w.heap.size<=r.w.heap.size/\Chs ρ w w' r.w r'.1.w
def Draws (w w' u:World):Prop:=∀i,w.drawn+i<u.drawn->w'.tape (w'.drawn+i)=w.tape (w.drawn+i)
theorem Out.after {α β:Type}{Q:Ren->α->β->Prop}{ρ ρ1:Ren}{w w' w1 w1':World}{es' es1':Array Event}{r:Result α}{r':Result β×Array Event}(h:Out Q ρ1 w1 w1' es1' r r')(hle:ρ.le ρ1)(hk:Keep ρ w' w1')(hs:w.heap.size<=w1.heap.size)(hn:∀a b,ρ1 a b->ρ a b\/(w.heap.size<=a/\w'.heap.size<=b))(hd:w1'.drawn+w.drawn=w'.drawn+w1.drawn)(he:d7 ρ1 es' es1')(hc:Chs ρ w w' w1 w1':=by exact Chs.refl _ _ _):Out Q ρ w w' es' r r':=by
 obtain ⟨ρ',l,S,R,K,N,D,E,G,C⟩:=h;refine ⟨ρ',Ren.le_trans hle l,S,R,hk.trans K hle.old (fun a b h=>(hn a b h).imp id (·.2)),fun a b h=>?_,by omega,(he.mono l).trans E,lT hs G,hc.trans hle C⟩;rcases N a b h with h1|⟨h1,h2⟩
 ·exact hn a b h1
 ·have:=hk.size;exact .inr ⟨by omega,by omega⟩
theorem wZ (w:World)(c:Sys):w.drawn<=(w.sys c).2.drawn:=by
 unfold World.sys;obtain ⟨-,h2,-,-⟩:=Dv (Kernel.perform c w.os) w;split
 ·exact lR _
 ·rename_i r os u _ hu;rw [hu] at h2;exact h2
theorem xb {α:Type}(P:Program)(s:Sem α):∀ (w:World)(es:Array Event),w.drawn<=(s.runT P w es).1.w.drawn:=by
  induction s with
  |pure a=>intro w es;exact lR _
  |load m a k ih=>
    intro w es;simp only [Sem.runT];split
    · exact ih _ w _
    · split
      · exact ih _ w _
      · exact lR _
  |store m a v k ih=>
    intro w es;by_cases ho:gz v=true
    · have e : (Sem.store m a v k).runT P w es = match w.cell? a with
          | some _ => if w.frozen? a then (.halt (.unsupported (.unsafePointer "a write to bytes that a string shares")) w, es) else k.runT P (w.setCell a v) (es.push ⟨.cell a, true, m == .atomic⟩)
          |none=>match w.farStore P a v (m == .atomic) with
            | .ok (u,touched)=>k.runT P u (es++touched.toArray.map (⟨.cell ·,true,m == .atomic⟩))
            | .error h=>(.halt h w,es):=by cases v<;>first|rfl|simp [gz] at ho
      rw [e];split
      · split
        · exact lR _
        · exact ih (w.setCell a v) _
      · split
        · rename_i u l hu
          rw [<-(oq hu).2];exact ih u _
        · exact lR _
    · have e : (Sem.store m a v k).runT P w es = (.halt (.stuck "store: not the value of one cell") w, es) := by cases v <;> first | rfl | simp [gz] at ho
      rw [e];exact lR _
  |new o k ih=>intro w es;exact ih _ {w with heap:=w.heap.push o} es
  |shape r k ih=>intro w es;exact ih _ w es
  |freeze a n k ih=>intro w es;have:=ih (w.freeze a n) es;rw [(bW w a n).2] at this;exact this
  |frozen a k ih=>intro w es;exact ih _ w es
  |getObj r k ih=>
    intro w es;simp only [Sem.runT];split
    · exact lR _
    · exact ih _ w _
    · exact lR _
  |setObj r o k ih=>
    intro w es;simp only [Sem.runT];split
    · exact lR _
    · exact ih {w with heap:=w.heap.setIfInBounds r o} _
    · exact lR _
  |choose q k ih=>
    intro w es;simp only [Sem.runT];split
    · exact ih _ w es
    · have:=ih (q.cut (w.tape w.drawn q)) {w with drawn:=w.drawn+1} es
      simp only at this;omega
  |sys c k ih=>intro w es;exact lT (wZ w c) (ih _ _ _)
  |program k ih=>intro w es;exact ih P w es
  |mark m k ih=>intro w es;exact ih w _
  |halt h=>intro w es;exact lR _
theorem cH.run {P:Program} [Two P]{α:Type}{s:Sem α}(h:cH P s)(p:Program)(hp:p.toTables=P.toTables):∀ (w:World)(es:Array Event),Mir p s w es/\zL (s.runT p w es).1:=by
 induction h with
 |halt hn=>intro w es;exact ⟨tH _,_,w,rfl,hn⟩
 |mark m _ ih=>intro w es;exact ⟨tI (ih w _).1,(ih w _).2⟩
 |shape r _ ih=>intro w es;exact ⟨pI (ih _ w _).1,(ih _ w _).2⟩
 |frozen a _ ih=>intro w es;exact ⟨jy (ih _ w _).1,(ih _ w _).2⟩
 |program _ ih=>intro w es;exact ⟨lG (ih p hp w _).1,(ih p hp w _).2⟩
structure Fine (P:Program) [Two P]{α β:Type}(Q:Ren->α->β->Prop)(ρ:Ren)(s:Sem α)(s':Sem β)(w w':World)(es es':Array Event):Prop where
 mir:Mir P s w es
 out:(zL (s.runT P w es).1/\zL (s.runT P.alt w es).1)\/(s.runT P.alt w es=s.runT P w es/\Out Q ρ w w' es' (s.runT P w es).1 (s'.runT P w' es'))
theorem Fine.lost {P:Program} [Two P]{α β:Type}{Q:Ren->α->β->Prop}{ρ:Ren}{s:Sem α}{s':Sem β}{w w':World}{es es':Array Event}(h1:Mir P s w es)(h2:∀p:Program,zL (s.runT p w es).1):Fine P Q ρ s s' w w' es es':=⟨h1,.inl ⟨h2 P,h2 P.alt⟩⟩
theorem ou {P:Program} [Two P]{α β:Type}{Q:Ren->α->β->Prop}{ρ:Ren}{s:Sem α}{s':Sem β}(h:RS P Q ρ s s'):∀ (w w':World)(es es':Array Event),br ρ w w'->Draws w w' (s.runT P w es).1.w->Fine P Q ρ s s' w w' es es':=by
 induction h with
 |pure h=>intro w w' es es' S _;exact ⟨zJ _,.inr ⟨rfl,_,Ren.le_refl _,S,.ok w w' h,Keep.refl _ _,fun a b h=>.inl h,by simp only [Sem.runT,Result.w],d7.refl _ _,lR _,Chs.refl _ _ _⟩⟩
 | @load ρ m a a' k k' h _ ih=>
  intro w w' es es' S hd;rcases S.cell h with c1|⟨v,v',c1,c2,hv⟩
  ·obtain ⟨e,f1,f3⟩:=S.farLoad h (m == .atomic);have f2:∀p:Program,w.farLoad p a (m == .atomic)=.error e:=fun p=>f1 p w.tape w.drawn
   exact .lost (rO c1 (f1 P)) (fun p=>⟨e,w,by simp only [Sem.runT,c1,f2],f3⟩)
  ·simp only [Sem.runT,c1] at hd;obtain ⟨t1,t2⟩:=ih v v' hv w w' _ (es'.push ⟨.cell a',false,m == .atomic⟩) S hd;refine ⟨zK c1 t1,?_⟩;simp only [Sem.runT,c1,c2];exact t2.imp id (fun ⟨ha,ho⟩=>⟨ha,ho.after (Ren.le_refl _) (Keep.refl _ _) (lR _) (fun a b h=>.inl h) rfl (d7.push ⟨a.block,h.1,(fun h=>by cases h),S.cell_ch c1⟩)⟩)
 | @store ρ m a a' v v' k k' h hv _ ih=>
  intro w w' es es' S hd;by_cases ho:gz v=true
  ·have ho':gz v'=true:=by cases hv<;>first|rfl|simp [gz] at ho
   have e:=fun p:Program=>fu p m a v k ho
   have e':=fun p:Program=>fu p m a' v' k' ho'
   rcases S.cell h with c1|⟨x,x',c1,c2,-⟩
   ·obtain ⟨y,f1,f3⟩:=S.farStore h v (m == .atomic);have f2:∀p:Program,w.farStore p a v (m == .atomic)=.error y:=fun p=>f1 p w.tape w.drawn
    exact .lost (pH ho c1 (f1 P)) (fun p=>⟨y,w,by rw [e,c1];simp only [f2],f3⟩)
   ·cases hz:w.frozen? a with
    | true => exact .lost (lF ho c1 hz) (fun p => ⟨.unsupported (.unsafePointer "a write to bytes that a string shares"), w, by rw [e, c1]; simp only [hz, if_true], rfl⟩)
    |false=>
     have hz':w'.frozen? a'=false:=by
      rcases S.frozenEq h with k|⟨k,-⟩
      ·rw [k];exact hz
      ·rw [k] at hz;cases hz
     have hold:¬ρ.old a.block:=fun ho=>by
      obtain ⟨o,h1,h2⟩:=S.fix _ ho;unfold World.cell? at c1;unfold World.frozen? at hz;rw [h1] at c1 hz;cases o with
      |cells c e z=>
       obtain ⟨lo,hi⟩:=z;obtain ⟨z1,z2⟩:=h2;simp only at z1 z2 c1 hz;subst z1;split at c1
       ·cases c1
       ·have:=(eS c1).1;simp at hz;omega
      |_=>simp at c1
     rw [e] at hd;simp only [c1,hz,Bool.false_eq_true,if_false] at hd;obtain ⟨t1,t2⟩:=ih (w.setCell a v) (w'.setCell a' v') _ (es'.push ⟨.cell a',true,m == .atomic⟩) (S.set h hv hold ho) hd;refine ⟨wY ho c1 hz t1,?_⟩;rw [e,e,e'];simp only [c1,c2,hz,hz',Bool.false_eq_true,if_false];refine t2.imp id (fun ⟨ha,hout⟩=>⟨ha,hout.after (Ren.le_refl _) ⟨rfl,rfl,rfl,by simp [World.setCell],fun b hb hno=>?_⟩ (by simp [World.setCell]) (fun a b h=>.inl h) (by simp [World.setCell]) (d7.push ⟨a.block,h.1,(fun _=>hold),S.cell_ch c1⟩) (S.chs_set c1 h)⟩);exact cq w' a' v' (fun e=>hold (hno a.block (e▸h.1)))
  ·have e : ∀ (p : Program) (u : World), (Sem.store m a v k).runT p u es = (.halt (.stuck "store: not the value of one cell") u, es) := fun p u => by cases v <;> first | rfl | simp [gz] at ho
   exact .lost (rP ho) (fun p=>⟨_,w,by rw [e],rfl⟩)
 | @new ρ o o' k k' h _ hs ih=>
  intro w w' es es' S hd;simp only [Sem.runT] at hd;obtain ⟨t1,t2⟩:=ih w.heap.size w'.heap.size S.freshL S.freshR S.freshO {w with heap:=w.heap.push o} {w' with heap:=w'.heap.push o'} es es' (S.push h) hd;refine ⟨B3 t1,?_⟩;simp only [Sem.runT];exact t2.imp id (fun ⟨ha,ho⟩=>⟨ha,ho.after (pG _ _ _ _ _) ⟨rfl,rfl,rfl,by simp,fun b hb _=>by simp only [Array.getElem?_push,if_neg (show ¬b=w'.heap.size by omega)]⟩ (by simp) (fun a b h=>h.imp id (fun h=>⟨by omega,by omega⟩)) (by simp) (d7.refl _ _) (S.chs_push _ _ hs)⟩)
 | @shape ρ r r' k k' h _ ih=>
  intro w w' es es' S hd;simp only [Sem.runT] at hd;obtain ⟨t1,t2⟩:=ih _ w w' es es' S hd;refine ⟨pI t1,?_⟩;simp only [Sem.runT,S.shapeEq h];exact t2
 | @frozen ρ a a' k k' h _ _ ih ih'=>
  intro w w' es es' S hd;simp only [Sem.runT] at hd;rcases S.frozenEq h with z|⟨z,hzf⟩
  ·obtain ⟨t1,t2⟩:=ih _ w w' es es' S hd;refine ⟨jy t1,?_⟩;simp only [Sem.runT,z];exact t2
  ·rw [z] at hd;obtain ⟨t1,t2⟩:=ih' hzf (w'.frozen? a') w w' es es' S hd;refine ⟨jy (by rw [z];exact t1),?_⟩;simp only [Sem.runT,z];exact t2
 | @freeze ρ a a' n k k' h ho _ ih=>
  intro w w' es es' S hd;simp only [Sem.runT] at hd;have hd':Draws (w.freeze a n) (w'.freeze a' n) (k.runT P (w.freeze a n) es).1.w:=by
   unfold Draws;rw [(bW w a n).1,(bW w a n).2,(bW w' a' n).1,(bW w' a' n).2];exact hd
  obtain ⟨t1,t2⟩:=ih (w.freeze a n) (w'.freeze a' n) es es' (S.freeze h n ho) hd';refine ⟨uM t1,?_⟩;simp only [Sem.runT];refine t2.imp id (fun ⟨ha,hout⟩=>⟨ha,hout.after (Ren.le_refl _) ⟨?_,?_,(bW w' a' n).1,by rw [lH];exact lR _,fun b hb hno=>?_⟩ (by rw [lH];exact lR _) (fun a b h=>.inl h) (by rw [(bW w a n).2,(bW w' a' n).2]) (d7.refl _ _) (S.chs_freeze h n)⟩)
  ·unfold World.freeze;split<;>rfl
  ·unfold World.freeze;split<;>rfl
  ·exact ck w' a' n (fun e=>ho (hno a.block (e▸h.1)))
 | @getObj ρ r r' k k' h _ ih=>
  intro w w' es es' S hd;obtain ⟨o,o',h1,h2,ho⟩:=S.obj r r' h;by_cases hcell:∃c e z,o=.cells c e z
  ·obtain ⟨c,e,z,rfl⟩:=hcell
   exact .lost (pJ h1) (fun p => ⟨.stuck "getObj: a row of cells", w, by simp only [Sem.runT, h1], rfl⟩)
  have hold:ρ.old r->Dw o:=fun hr=>by
   obtain ⟨x,k1,k2⟩:=S.fix r hr;rw [h1] at k1;cases k1;cases o with
   |cells c e z=>exact absurd ⟨c,e,z,rfl⟩ hcell
   |coro p=>cases p with
    |none=>exact .coro
    |some _=>exact absurd k2 (fun h=>h)
   |number a l=>exact .number a l
   |_=>exact absurd k2 (fun h=>h)
  have hch:ρ.ch r->o.isChan=true:=fun e=>by
   obtain ⟨x,k1,k2⟩:=S.chan r e;rw [h1] at k1;cases k1;exact k2
  have hch':o'.isChan=false->¬ρ.ch r:=fun e1 e2=>by
   have:=hch e2;cases ho<;>simp [Obj.isChan] at this e1
  have r1:∀ (p:Program) es1,(Sem.getObj r k).runT p w es1=(k o).runT p w (es1.push ⟨.obj r,false,o.isChan⟩):=fun p es1=>by
   cases o<;>first|exact absurd ⟨_,_,_,rfl⟩ hcell|simp only [Sem.runT,h1]
  have r2:(Sem.getObj r' k').runT P w' es'=(k' o').runT P w' (es'.push ⟨.obj r',false,o'.isChan⟩):=by
   cases ho with
   |cells e hz hc=>exact absurd ⟨_,_,_,rfl⟩ hcell
   |dead _ hd=>cases o'<;>first|(simp [ot] at hd;done)|simp only [Sem.runT,h2]
   |_=>simp only [Sem.runT,h2]
  rw [r1] at hd;obtain ⟨t1,t2⟩:=ih o o' ho hold hch w w' _ (es'.push ⟨.obj r',false,o'.isChan⟩) S hd;refine ⟨uN h1 hcell t1,?_⟩;rw [r1,r1,r2];exact t2.imp id (fun ⟨ha,hout⟩=>⟨ha,hout.after (Ren.le_refl _) (Keep.refl _ _) (lR _) (fun a b h=>.inl h) rfl (d7.push ⟨r,h,(fun h=>by cases h),hch'⟩)⟩)
 | @setObj ρ r r' o o' k k' h ho hn hch _ hs ih=>
  intro w w' es es' S hd;obtain ⟨x,x',h1,h2,hx⟩:=S.obj r r' h;by_cases hcell:∃c e z,x=.cells c e z
  ·obtain ⟨c,e,z,rfl⟩:=hcell
   exact .lost (pK h1) (fun p => ⟨.stuck "setObj: a row of cells", w, by simp only [Sem.runT, h1], rfl⟩)
  have hch':o'.isChan=false->¬ρ.ch r:=fun e1 e2=>by
   have:=hch e2;obtain ⟨-,_,_,_,_,_,rfl⟩:=this;cases ho;simp [Obj.isChan] at e1
  have r1:∀ (p:Program) es1,(Sem.setObj r o k).runT p w es1=k.runT p {w with heap:=w.heap.setIfInBounds r o} (es1.push ⟨.obj r,true,o.isChan⟩):=fun p es1=>by
   cases x<;>first|exact absurd ⟨_,_,_,rfl⟩ hcell|simp only [Sem.runT,h1]
  have r2:(Sem.setObj r' o' k').runT P w' es'=k'.runT P {w' with heap:=w'.heap.setIfInBounds r' o'} (es'.push ⟨.obj r',true,o'.isChan⟩):=by
   cases hx with
   |cells e hz hc=>exact absurd ⟨_,_,_,rfl⟩ hcell
   |dead _ hd=>cases x'<;>first|(simp [ot] at hd;done)|simp only [Sem.runT,h2]
   |_=>simp only [Sem.runT,h2]
  rw [r1] at hd;obtain ⟨t1,t2⟩:=ih {w with heap:=w.heap.setIfInBounds r o} {w' with heap:=w'.heap.setIfInBounds r' o'} _ (es'.push ⟨.obj r',true,o'.isChan⟩) (S.put h ho hn (fun k=>by obtain ⟨-,_,_,_,_,_,rfl⟩:=hch k;rfl) (fun c e z k=>hcell ⟨c,e,z,by rw [h1] at k;exact Option.some.inj k⟩)) hd;refine ⟨uO h1 hcell t1,?_⟩;rw [r1,r1,r2];refine t2.imp id (fun ⟨ha,hout⟩=>⟨ha,hout.after (Ren.le_refl _) ⟨rfl,rfl,rfl,by simp,fun b hb hno=>?_⟩ (by simp) (fun a b h=>.inl h) (by simp) (d7.push ⟨r,h,fun _=>hn,hch'⟩) (S.chs_put h hch hs)⟩);have hne:r'≠b:=fun e=>hn (hno r (e▸h))
  simp [hne]
 | @choose ρ q k k' _ ih=>
  intro w w' es es' S hd;by_cases hf:q.forced=true
  ·simp only [Sem.runT,hf,if_true] at hd;obtain ⟨t1,t2⟩:=ih 0 w w' es es' S hd;refine ⟨kM hf t1,?_⟩;simp only [Sem.runT,hf,if_true];exact t2
  ·have e:∀ (p:Program) (u:World),(Sem.choose q k).runT p u es=(k (q.cut (u.tape u.drawn q))).runT p {u with drawn:=u.drawn+1} es:=fun p u=>by simp only [Sem.runT,hf];rfl
   have e':∀ (u:World),(Sem.choose q k').runT P u es'=(k' (q.cut (u.tape u.drawn q))).runT P {u with drawn:=u.drawn+1} es':=fun u=>by simp only [Sem.runT,hf];rfl
   rw [e] at hd;have S1:br ρ {w with drawn:=w.drawn+1} {w' with drawn:=w'.drawn+1}:=⟨S.obj,S.fix,S.chan,S.os,S.pin⟩;have hlow:w.drawn+1<=((k (q.cut (w.tape w.drawn q))).runT P {w with drawn:=w.drawn+1} es).1.w.drawn:=xb P (k (q.cut (w.tape w.drawn q))) {w with drawn:=w.drawn+1} es;have h0:w'.tape w'.drawn=w.tape w.drawn:=by have:=hd 0 (by omega);simpa using this
   obtain ⟨t1,t2⟩:=ih (q.cut (w.tape w.drawn q)) {w with drawn:=w.drawn+1} {w' with drawn:=w'.drawn+1} es es' S1 (fun i hi=>by
    have:=hd (i+1) (by simp only at hi;omega);simp only;rw [show w'.drawn+1+i=w'.drawn+(i+1) by omega,show w.drawn+1+i=w.drawn+(i+1) by omega];exact this)
   refine ⟨uP hf t1,?_⟩;rw [e,e,e',h0];exact t2.imp id (fun ⟨ha,hout⟩=>⟨ha,hout.after (Ren.le_refl _) ⟨rfl,rfl,rfl,lR _,fun b hb _=>rfl⟩ (lR _) (fun a b h=>.inl h) (by simp only;omega) (d7.refl _ _) ⟨fun _ _ _ _=>.inl ⟨rfl,rfl⟩,fun _ _ _ h _=>.inl h⟩⟩)
 |program h1 _ ih=>
  intro w w' es es' S hd;obtain ⟨t1,t2⟩:=ih w w' es es' S hd;refine ⟨lG t1,?_⟩;simp only [Sem.runT];rw [h1];exact t2
 | @mark ρ m k k' h _ ih=>
  intro w w' es es' S hd;simp only [Sem.runT] at hd;obtain ⟨t1,t2⟩:=ih w w' _ (es'.push ⟨.mark m,false,true⟩) S hd;refine ⟨tI t1,?_⟩;simp only [Sem.runT];exact t2.imp id (fun ⟨ha,hout⟩=>⟨ha,hout.after (Ren.le_refl _) (Keep.refl _ _) (lR _) (fun a b h=>.inl h) rfl (d7.push h)⟩)
 |halt hh=>intro w w' es es' S _;exact ⟨tH _,.inr ⟨rfl,_,Ren.le_refl _,S,.halt w w' hh,Keep.refl _ _,fun a b h=>.inl h,by simp only [Sem.runT,Result.w],d7.refl _ _,lR _,Chs.refl _ _ _⟩⟩
 | @env ρ k k' _ ih=>
  intro w w' es es' S hd;have e:∀u:World,u.sys .env=(.strings u.os.env,u):=fun u=>rfl
  have e1:∀ (p:Program),(Sem.sys .env k).runT p w es=(k (.strings w.os.env)).runT p w (es.push ⟨.output,true,false⟩):=fun p=>rfl
  have e2:(Sem.sys .env k').runT P w' es'=(k' (.strings w.os.env)).runT P w' (es'.push ⟨.output,true,false⟩):=by
   rw [<-S.os];rfl
  rw [e1] at hd;obtain ⟨t1,t2⟩:=ih (.strings w.os.env) w w' _ (es'.push ⟨.output,true,false⟩) S hd;refine ⟨gl P _ (k (.strings w.os.env)) w w es _ (e1 P) rfl rfl (fun τ d=>rfl) t1,?_⟩;rw [e1,e1,e2];exact t2.imp id (fun ⟨ha,hout⟩=>⟨ha,hout.after (Ren.le_refl _) (Keep.refl _ _) (lR _) (fun a b h=>.inl h) rfl (d7.push trivial)⟩)
 |lost h s'=>intro w w' es es' S _;exact ⟨(h.run P rfl w es).1,.inl ⟨(h.run P rfl w es).2,(h.run P.alt rfl w es).2⟩⟩
def QE {α:Type}:Ren->α->α->Prop:=fun _ a b=>a=b
def QV:Ren->Value->Value->Prop:=fun ρ v v'=>RV ρ v v'
def QA:Ren->Addr->Addr->Prop:=fun ρ a a'=>RA ρ a a'
def QVs:Ren->Array Value->Array Value->Prop:=fun ρ c c'=>RVs ρ c c'
def QU:Ren->Unit->Unit->Prop:=fun _ _ _=>True
def bB (P:Program):Prop:=∀t i z,P.info? t=some i->i.zero=some z->∀ρ,RV ρ z z
section
variable {P:Program} [Two P] {ρ:Ren}
theorem ac {α β:Type}{Q:Ren->α->β->Prop}(s:String){x':Sem β}:RS P Q ρ (stuck s) x':=.lost (.halt rfl) _
theorem ah {α β:Type}{Q:Ren->α->β->Prop}(u:Unsupported)(hn:dS (.unsupported u)=true:=by rfl){x':Sem β}:RS P Q ρ (unsupported u) x':=.lost (.halt hn) _
theorem aa {α β:Type}{Q:Ren->α->β->Prop}{a:α}{b:β}(h:Q ρ a b):RS P Q ρ (Pure.pure a) (Pure.pure b):=.pure h
theorem ag {α β γ δ:Type}{Q:Ren->α->β->Prop}{Q':Ren->γ->δ->Prop}{x:Sem α}{x':Sem β}{f:α->Sem γ}{f':β->Sem δ}(h:RS P Q ρ x x')(hf:∀ρ',ρ.le ρ'->∀a b,Q ρ' a b->RS P Q' ρ' (f a) (f' b)):RS P Q' ρ (x >>= f) (x' >>= f'):=RS.bind h hf
theorem ae {α γ δ:Type}{Q':Ren->γ->δ->Prop}{x x':Sem α}{f:α->Sem γ}{f':α->Sem δ}(h:RS P QE ρ x x')(hf:∀ρ',ρ.le ρ'->∀a,RS P Q' ρ' (f a) (f' a)):RS P Q' ρ (x >>= f) (x' >>= f'):=RS.bind h (fun ρ' hl a b (e:a=b)=>e▸hf ρ' hl a)
theorem aY {γ δ:Type}{Q':Ren->γ->δ->Prop}{f:Program->Sem γ}{f':Program->Sem δ}(h:RS P Q' ρ (f P) (f' P))(h1:f P.alt=f P:=by rfl):RS P Q' ρ (program >>= f) (program >>= f'):=.program h1 h
theorem aC (t:TypeId):RS P (fun _ a b=>a=b/\P.info? t=some a) ρ (typeInfo t) (typeInfo t):=by
 unfold typeInfo;refine .program rfl ?_
 show RS P _ ρ (match P.info? t with | some i => Pure.pure i | none => stuck "no such type") (match P.info? t with | some i => Pure.pure i | none => stuck "no such type")
 cases P.info? t with
 |none=>exact ac _
 |some i=>exact aa ⟨rfl,rfl⟩
theorem ao (t:TypeId):RS P QE ρ (underlying t) (underlying t):=by
 unfold underlying;refine .program rfl ?_
 show RS P _ ρ (match P.underlying t with | some i => Pure.pure i | none => stuck "no such type") (match P.underlying t with | some i => Pure.pure i | none => stuck "no such type")
 cases P.underlying t with
 |none=>exact ac _
 |some i=>exact aa rfl
theorem aP (t:TypeId):RS P (fun _ a b=>a=b/\P.underlying t=some a) ρ (underlying t) (underlying t):=by
 unfold underlying;refine .program rfl ?_
 show RS P _ ρ (match P.underlying t with | some i => Pure.pure i | none => stuck "no such type") (match P.underlying t with | some i => Pure.pure i | none => stuck "no such type")
 cases P.underlying t with
 |none=>exact ac _
 |some i=>exact aa ⟨rfl,rfl⟩
theorem bl (hZ:bB P)(t:TypeId):RS P QV ρ (zeroValue t) (zeroValue t):=by
 unfold zeroValue;refine ag (aC t) (fun ρ' _ a b h=>?_);obtain ⟨rfl,hi⟩:=h;cases hz:a.zero with
 |none=>exact ah _
 |some z=>exact aa (hZ t a z hi hz ρ')
theorem bf (t:TypeId):RS P QE ρ (sizeOf t) (sizeOf t):=by
 unfold sizeOf;exact ag (aC t) (fun ρ' _ a b h=>by obtain ⟨rfl,-⟩:=h;exact aa rfl)
theorem tJ (t:TypeId):RS P QE ρ (isAgg t) (isAgg t):=by
 unfold isAgg;refine ae (ao t) (fun ρ' _ a=>?_);split<;>exact aa rfl
theorem lJ {a a':Addr}(h:RA ρ a a')(m:Mode):RS P QV ρ (load a m) (load a' m):=.load m h (fun _ _ hv=>.pure hv)
theorem zM {a a':Addr}(h:RA ρ a a'){v v':Value}(hv:RV ρ v v')(m:Mode):RS P QU ρ (store a v m) (store a' v' m):=.store m h hv (.pure trivial)
theorem RA.add {a a':Addr}(h:RA ρ a a')(n:Nat):RA ρ (a.add n) (a'.add n):=by
 unfold Addr.add;split
 ·exact h
 ·exact ⟨h.1,by simp [h.2.1],rfl⟩
theorem RVs.push {c c':Array Value}(h:RVs ρ c c'){v v':Value}(hv:RV ρ v v'):RVs ρ (c.push v) (c'.push v'):=by
 refine ⟨by simp [h.size],fun i x x' h1 h2=>?_⟩;rw [Array.getElem?_push] at h1 h2;rw [<-h.size] at h2;by_cases hi:i=c.size
 ·simp only [hi,if_true,oI] at h1 h2;subst h1;subst h2;exact hv
 ·simp only [hi,if_false] at h1 h2;exact h.at_ i x x' h1 h2
theorem RVs.nil:RVs ρ #[] #[]:=⟨rfl,fun i v v' h=>by simp at h⟩
theorem kN:∀ (n i:Nat){ρ:Ren}{a a':Addr}{c c':Array Value},RA ρ a a'->RVs ρ c c'->RS P QVs ρ (loadCellsFrom a i n c) (loadCellsFrom a' i n c'):=by
 intro n;induction n with
 |zero=>intro i ρ a a' c c' _ hc;exact aa hc
 |succ n ih=>
  intro i ρ a a' c c' h hc;unfold loadCellsFrom;exact ag (lJ (h.add i) _) (fun ρ' hl v v' hv=>ih (i+1) (h.mono hl) ((hc.mono hl).push hv))
theorem eO {a a':Addr}(h:RA ρ a a')(n:Nat):RS P QVs ρ (loadCells a n) (loadCells a' n):=kN n 0 h RVs.nil
theorem nv (t:TypeId){a a':Addr}(h:RA ρ a a'):RS P QV ρ (loadVar t a) (loadVar t a'):=by
 unfold loadVar;refine ae (tJ t) (fun ρ1 l1 b=>?_);cases b with
 |true=>
  refine ae (bf t) (fun ρ2 l2 n=>?_);refine ag (eO ((h.mono l1).mono l2) n) (fun ρ3 _ c c' hc=>aa (.agg hc.size hc.at_))
 |false=>exact lJ (h.mono l1) _
theorem RV.cellsRel {v v':Value}(h:RV ρ v v'):RVs ρ v.cells v'.cells:=by
 have one:RVs ρ #[v] #[v']:=RVs.nil.push h;cases h with
 |agg hc h=>exact ⟨hc,h⟩
 |dead v' h=>cases v'<;>first|exact one|simp [gv] at h
 |_=>exact one
theorem bO:∀ (vs vs':List Value)(i:Nat){ρ:Ren}{a a':Addr},RA ρ a a'->vs.length=vs'.length->(∀ (j:Nat) v v',vs[j]?=some v->vs'[j]?=some v'->RV ρ v v')->RS P QU ρ (storeCells a vs i) (storeCells a' vs' i):=by
 intro vs;induction vs with
 |nil=>intro vs' i ρ a a' _ hl _;cases vs' with
  |nil=>exact aa trivial
  |cons=>simp at hl
 |cons v vs ih=>
  intro vs' i ρ a a' h hl hv;cases vs' with
  |nil=>simp at hl
  |cons v' vs'=>
   unfold storeCells;exact ag (zM (h.add i) (hv 0 v v' rfl rfl) _) (fun ρ' l _ _ _=>ih vs' (i+1) (h.mono l) (by simpa using hl) (fun j x x' h1 h2=>(hv (j+1) x x' h1 h2).mono l))
theorem rQ (t:TypeId){a a':Addr}(h:RA ρ a a'){v v':Value}(hv:RV ρ v v'):RS P QU ρ (storeVar t a v) (storeVar t a' v'):=by
 have hc:=hv.cellsRel;unfold storeVar;refine ae (bf t) (fun ρ1 l1 n=>?_);have hc1:=hc.mono l1;have fin:RS P QU ρ1 (storeCells a v.cells.toList) (storeCells a' v'.cells.toList):=bO _ _ 0 (h.mono l1) (by simpa using hc1.size) (fun j x x' h1 h2=>hc1.at_ j x x' (by simpa using h1) (by simpa using h2));rw [<-hc.size];split
 ·exact ag (Q:=QU) (ac _) (fun ρ2 l2 _ _ _=>bO _ _ 0 ((h.mono l1).mono l2) (by simpa using hc1.size) (fun j x x' h1 h2=>(hc1.at_ j x x' (by simpa using h1) (by simpa using h2)).mono l2))
 ·exact fin
theorem dx (e:TypeId){c c':Array Value}(h:RVs ρ c c'):RS P QA ρ (newRow e c) (newRow e c'):=by
 unfold newRow;exact .new (.cells e (.inl rfl) h) (fun r r' _ _ _=>.pure ⟨.inr ⟨rfl,rfl⟩,rfl,rfl⟩)
theorem lK (t:TypeId){v v':Value}(hv:RV ρ v v'):RS P QA ρ (newVar t v) (newVar t v'):=dx t hv.cellsRel
theorem ez {α β:Type}{Q:Ren->α->β->Prop}:RS P Q ρ (runtimePanic .nilDeref) (runtimePanic .nilDeref):=.program rfl (.halt (.panic (.iface _ (.string _))))
theorem pN {v v':Value}(hv:RV ρ v v'):RS P QA ρ (asAddr v) (asAddr v'):=by
 cases hv with
 |pointer h=>
  cases h with
  |none=>exact ez
  |some h=>exact aa h
 |_=>exact ac _
theorem pP {v v':Value}(hv:RV ρ v v'):RS P QE ρ (asBool v) (asBool v'):=by
 cases hv<;>first|exact aa rfl|exact ac _
theorem zN {v v':Value}(hv:RV ρ v v'):RS P QVs ρ (asAgg v) (asAgg v'):=by
 cases hv with
 |agg hc h=>exact aa ⟨hc,h⟩
 |_=>exact ac _
end
section
variable {P:Program} [Two P] {ρ:Ren}
theorem eA {v v':Value}(hv:RV ρ v v'):RS P QA ρ (Instr.sureAddr v) (Instr.sureAddr v'):=by
 cases hv with
 |pointer h=>
  cases h with
  |none=>exact ac _
  |some h=>exact aa h
 |_=>exact ac _
theorem zO (hZ:bB P)(t:TypeId):RS P QV ρ (Instr.alloc t true (.tuple #[])) (Instr.alloc t true (.tuple #[])):=by
 unfold Instr.alloc;refine ag (bl hZ t) (fun ρ1 _ z z' hz=>?_);exact ag (lK t hz) (fun ρ2 _ a a' ha=>aa (.pointer (.some ha)))
theorem Dx (t:TypeId){v v':Value}(hv:RV ρ v v'):RS P QV ρ (Instr.box t v) (Instr.box t v'):=by
 unfold Instr.box;exact ag (lK t hv) (fun ρ2 _ a a' ha=>aa (.pointer (.some ha)))
theorem xc (t:TypeId){v v':Value}(hv:RV ρ v v'):RS P QV ρ (Instr.loadAt t v) (Instr.loadAt t v'):=by
 unfold Instr.loadAt;exact ag (eA hv) (fun ρ1 _ a a' ha=>nv t ha)
theorem uQ (t:TypeId){v v' x x':Value}(hv:RV ρ v v')(hx:RV ρ x x'):RS P QU ρ (Instr.storeAt t v x) (Instr.storeAt t v' x'):=by
 unfold Instr.storeAt;exact ag (eA hv) (fun ρ1 l a a' ha=>rQ t ha (hx.mono l))
theorem uR {v v':Value}(hv:RV ρ v v')(i:Nat):RS P QV ρ (Instr.extract v i) (Instr.extract v' i):=by
 unfold Instr.extract;cases hv with
 |tuple hc h=>
  rcases RVs.get ⟨hc,h⟩ i with ⟨h1,h2⟩|⟨x,x',h1,h2,hx⟩
  ·simp only [h1,h2];exact ac _
  ·simp only [h1,h2];exact aa hx
 |_=>exact ac _
theorem rR {f f':Fn}(hf:RFn ρ f f'){a a' c c':Array Value}(ha:RVs ρ a a')(hc:RVs ρ c c'):RS P QV ρ (Instr.makeFunc f a c) (Instr.makeFunc f' a' c'):=by
 unfold Instr.makeFunc;exact aa (.func hf ha.size hc.size ha.at_ hc.at_)
theorem RVs.extract {c c':Array Value}(h:RVs ρ c c')(i j:Nat):RVs ρ (c.extract i j) (c'.extract i j):=by
 refine ⟨by simp [h.size],fun k v v' h1 h2=>?_⟩;rw [Array.getElem?_extract] at h1 h2;rw [<-h.size] at h2;split at h1
 ·rename_i hk;rw [if_pos hk] at h2;exact h.at_ _ v v' h1 h2
 ·cases h1
theorem gB (t:TypeId){c c':Array Value}(h:RVs ρ c c')(o:Nat):RS P QV ρ (Go.part t c o) (Go.part t c' o):=by
 unfold Go.part;refine ae (tJ t) (fun ρ1 l1 b=>?_);cases b with
 |true=>exact ae (bf t) (fun ρ2 l2 n=>aa (by have:=((h.mono l1).mono l2).extract o (o+n);exact .agg this.size this.at_))
 |false=>
  rcases (h.mono l1).get o with ⟨h1,h2⟩|⟨x,x',h1,h2,hx⟩
  ·simp only [h1,h2];exact ac _
  ·simp only [h1,h2];exact aa hx
theorem zP (t:TypeId){v v':Value}(hv:RV ρ v v')(f:Nat):RS P QV ρ (Instr.field t v f) (Instr.field t v' f):=by
 unfold Instr.field;refine ae (ao t) (fun ρ1 l1 d=>?_);split
 ·split
  ·exact ag (zN (hv.mono l1)) (fun ρ2 l2 c c' hc=>gB _ hc _)
  ·exact ac _
 ·exact ac _
theorem ig {v v':Value}(hv:RV ρ v v'):RS P QE ρ (asIntOf v) (asIntOf v'):=by
 cases hv with
 |int k n=>exact aa rfl
 |pointer h=>
  cases h with
  |none=>exact ac _
  |some h=>exact ah _
 |_=>exact ac _
theorem bX {α β:Type}{Q:Ren->α->β->Prop}(k:IntKind)(x y:Int)(c:BoundsCode):RS P Q ρ (boundsPanic k x y c) (boundsPanic k x y c):=by
 have fin:∀ (ρ1:Ren) (s:Bool),RS P Q ρ1 (runtimePanic (.bounds (IntKind.i64.wrap x) y s c)) (runtimePanic (.bounds (IntKind.i64.wrap x) y s c)):=by
  intro ρ1 s;refine .program rfl (.halt (.panic (.iface _ (.agg rfl (fun i v v' h1 h2=>?_)))));rw [h1] at h2;cases h2;have hb:∀u∈#[Value.int .i64 (IntKind.i64.wrap x),.int .i64 y,.bool s,.int .u8 c.toNat],RV ρ1 u u:=by
   intro u hu;simp at hu;rcases hu with rfl|rfl|rfl|rfl
   ·exact .int _ _
   ·exact .int _ _
   ·exact .bool _
   ·exact .int _ _
  exact hb v (Array.mem_of_getElem? h1)
 unfold boundsPanic;simp only;split
 ·exact .choose _ (fun n=>fin ρ _)
 ·exact fin ρ _
theorem zQ (t:TypeId){v v' i i':Value}(hv:RV ρ v v')(hi:RV ρ i i'):RS P QV ρ (Instr.index t v i) (Instr.index t v' i'):=by
 unfold Instr.index;refine ae (ig hi) (fun ρ1 l1 ki=>?_);obtain ⟨k,n⟩:=ki;refine ae (ao t) (fun ρ2 l2 d=>?_);have hv2:=(hv.mono l1).mono l2;cases hv2 with
 |agg hc h=>
  cases d with
  |array len elem=>
   simp only;split
   ·exact ae (bf elem) (fun ρ3 l3 m=>gB _ (RVs.mono l3 ⟨hc,h⟩) _)
   ·exact bX _ _ _ _
  |_=>exact ac _
 |string s=>
  cases d with
  |string=>
   simp only;split
   ·exact aa (.int _ _)
   ·exact bX _ _ _ _
  |_=>exact ac _
 |_=>cases d<;>exact ac _
theorem cu {v v':Value}(hv:RV ρ v v')(y:Nat)(c:BoundsCode):RS P QE ρ (Instr.sliceBound v y c) (Instr.sliceBound v' y c):=by
 unfold Instr.sliceBound;refine ae (ig hv) (fun ρ1 l1 ki=>?_);obtain ⟨k,n⟩:=ki;simp only;split
 ·exact aa rfl
 ·exact bX _ _ _ _
theorem dM (isS:Bool)(len cap:Nat){lo lo' hi hi' mx mx':Option Value}(h1:∀v v',lo=some v->lo'=some v'->RV ρ v v')(h2:∀v v',hi=some v->hi'=some v'->RV ρ v v')(h3:∀v v',mx=some v->mx'=some v'->RV ρ v v')
  (e1:lo.isSome=lo'.isSome) (e2:hi.isSome=hi'.isSome) (e3:mx.isSome=mx'.isSome):RS P QE ρ (Instr.sliceBounds isS len cap lo hi mx) (Instr.sliceBounds isS len cap lo' hi' mx'):=by
 unfold Instr.sliceBounds;cases mx<;>cases mx'<;>first|(simp at e3;done)|skip
 ·refine ae (aa rfl) (fun ρ1 l1 m=>?_);cases hi<;>cases hi'<;>first|(simp at e2;done)|skip
  ·refine ae (aa rfl) (fun ρ2 l2 h=>?_);cases lo<;>cases lo'<;>first|(simp at e1;done)|skip
   ·exact ae (aa rfl) (fun _ _ _=>aa rfl)
   ·exact ae (cu (((h1 _ _ rfl rfl).mono l1).mono l2) _ _) (fun _ _ _=>aa rfl)
  ·refine ae (cu ((h2 _ _ rfl rfl).mono l1) _ _) (fun ρ2 l2 h=>?_);cases lo<;>cases lo'<;>first|(simp at e1;done)|skip
   ·exact ae (aa rfl) (fun _ _ _=>aa rfl)
   ·exact ae (cu (((h1 _ _ rfl rfl).mono l1).mono l2) _ _) (fun _ _ _=>aa rfl)
 ·refine ae (cu (h3 _ _ rfl rfl) _ _) (fun ρ1 l1 m=>?_);cases hi<;>cases hi'<;>first|(simp at e2;done)|skip
  ·refine ae (ac _) (fun ρ2 l2 h=>?_);cases lo<;>cases lo'<;>first|(simp at e1;done)|skip
   ·exact ae (aa rfl) (fun _ _ _=>aa rfl)
   ·exact ae (cu (((h1 _ _ rfl rfl).mono l1).mono l2) _ _) (fun _ _ _=>aa rfl)
  ·refine ae (cu ((h2 _ _ rfl rfl).mono l1) _ _) (fun ρ2 l2 h=>?_);cases lo<;>cases lo'<;>first|(simp at e1;done)|skip
   ·exact ae (aa rfl) (fun _ _ _=>aa rfl)
   ·exact ae (cu (((h1 _ _ rfl rfl).mono l1).mono l2) _ _) (fun _ _ _=>aa rfl)
end
section
variable {P:Program} [Two P] {ρ:Ren}
theorem RAo.addAll {a a':Option Addr}(h:RAo ρ a a')(n:Nat):RAo ρ (a.map (·.add n)) (a'.map (·.add n)):=by
 cases h with
 |none=>exact .none
 |some h=>exact .some (h.add n)
theorem uS (t:TypeId){v v' i i':Value}(hv:RV ρ v v')(hi:RV ρ i i'):RS P QV ρ (Instr.indexAt t v i) (Instr.indexAt t v' i'):=by
 unfold Instr.indexAt;refine ae (ig hi) (fun ρ1 l1 ki=>?_);obtain ⟨k,n⟩:=ki;refine ae (ao t) (fun ρ2 l2 d=>?_);have hv2:=(hv.mono l1).mono l2;cases d with
 |array len elem=>
  refine ag (eA hv2) (fun ρ3 l3 a a' ha=>?_);refine ag (Q:=fun ρ (x y:Option Addr×Nat×TypeId)=>RAo ρ x.1 y.1/\x.2=y.2) (aa ⟨.some ha,rfl⟩) (fun ρ4 l4 x y h=>?_);obtain ⟨b,len,elem⟩:=x;obtain ⟨b',len',elem'⟩:=y;obtain ⟨hb,e⟩:=h;simp only [Prod.mk.injEq] at e;obtain ⟨rfl,rfl⟩:=e;simp only at hb ⊢;refine ae (ao t) (fun ρ5 l5 d=>?_);cases hb with
  |none=>exact bX _ _ _ _
  |some ha=>
   simp only;split
   ·exact ae (bf _) (fun ρ6 l6 m=>aa (.pointer (.some (((ha.mono l5).mono l6).add _))))
   ·repeat' split
    all_goals first
     |exact ah _
     |exact bX _ _ _ _
 |slice elem=>
  cases hv2 with
  |slice m c hs=>
   refine ag (Q:=fun ρ (x y:Option Addr×Nat×TypeId)=>RAo ρ x.1 y.1/\x.2=y.2) (aa ⟨hs,rfl⟩) (fun ρ4 l4 x y h=>?_);obtain ⟨b,len,elem⟩:=x;obtain ⟨b',len',elem'⟩:=y;obtain ⟨hb,e⟩:=h;simp only [Prod.mk.injEq] at e;obtain ⟨rfl,rfl⟩:=e;simp only at hb ⊢;refine ae (ao t) (fun ρ5 l5 d=>?_);cases hb with
   |none=>exact bX _ _ _ _
   |some ha=>
    simp only;split
    ·exact ae (bf _) (fun ρ6 l6 m=>aa (.pointer (.some (((ha.mono l5).mono l6).add _))))
    ·repeat' split
     all_goals first
      |exact ah _
      |exact bX _ _ _ _
  |_=>exact ac _
 |_=>exact ac _
theorem zR (t:TypeId){v v':Value}(hv:RV ρ v v'){lo lo' hi hi' mx mx':Option Value}(h1:∀v v',lo=some v->lo'=some v'->RV ρ v v')(h2:∀v v',hi=some v->hi'=some v'->RV ρ v v')(h3:∀v v',mx=some v->mx'=some v'->RV ρ v v')
  (e1:lo.isSome=lo'.isSome) (e2:hi.isSome=hi'.isSome) (e3:mx.isSome=mx'.isSome):RS P QV ρ (Instr.slice t v lo hi mx) (Instr.slice t v' lo' hi' mx'):=by
 unfold Instr.slice;refine ae (ao t) (fun ρ1 l1 d=>?_);have hv1:=hv.mono l1;have g1:∀v v',lo=some v->lo'=some v'->RV ρ1 v v':=fun v v' a b=>(h1 v v' a b).mono l1
 have g2:∀v v',hi=some v->hi'=some v'->RV ρ1 v v':=fun v v' a b=>(h2 v v' a b).mono l1
 have g3:∀v v',mx=some v->mx'=some v'->RV ρ1 v v':=fun v v' a b=>(h3 v v' a b).mono l1
 cases d with
 |string=>
  cases hv1 with
  |string s=>
   simp only;have fin:∀ρ2,ρ1.le ρ2->RS P QV ρ2 (do let (l,h,_) <-Instr.sliceBounds false s.size s.size lo hi none;pure (.string (s.extract l h)):Sem Value) (do let (l,h,_) <-Instr.sliceBounds false s.size s.size lo' hi' none;pure (.string (s.extract l h))):=fun ρ2 l2=>
    ae (dM false _ _ (fun v v' a b=>(g1 v v' a b).mono l2) (fun v v' a b=>(g2 v v' a b).mono l2) (fun v v' a _=>by cases a) e1 e2 rfl) (fun ρ3 _ x=>aa (.string _))
   rw [<-e3];split
   ·exact ag (Q:=QU) (ac _) (fun ρ2 l2 _ _ _=>fin ρ2 l2)
   ·exact fin ρ1 (Ren.le_refl _)
  |_=>exact ac _
 |slice elem=>
  cases hv1 with
  |slice n c ha=>
   refine ae (dM true _ _ g1 g2 g3 e1 e2 e3) (fun ρ2 l2 x=>?_);obtain ⟨l,h,m⟩:=x;refine ae (bf elem) (fun ρ3 l3 z=>?_);refine aa (.slice _ _ ?_);have ha3:=(ha.mono l2).mono l3;split
   ·exact ha3
   ·exact ha3.addAll _
  |_=>exact ac _
 |pointer arr=>
  refine ag (pN hv1) (fun ρ2 l2 a a' ha=>?_);refine ae (ao arr) (fun ρ3 l3 d=>?_);cases d with
  |array n elem=>
   refine ae (dM false _ _ (fun v v' a b=>((g1 v v' a b).mono l2).mono l3) (fun v v' a b=>((g2 v v' a b).mono l2).mono l3) (fun v v' a b=>((g3 v v' a b).mono l2).mono l3) e1 e2 e3) (fun ρ4 l4 x=>?_);obtain ⟨l,h,m⟩:=x;refine ae (bf elem) (fun ρ5 l5 z=>?_);refine aa (.slice _ _ (.some ?_));have ha5:=((ha.mono l3).mono l4).mono l5;split
   ·exact ha5
   ·exact ha5.add _
  |_=>exact ac _
 |_=>exact ac _
end
end
