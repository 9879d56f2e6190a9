/- Part of a proof. -/
import Derived.Test.YtnapepbdohidgaaGreatDoorQM08
import Derived.Conc.Beside
import Derived.Conc.CrowdComm
import Derived.Conc.CrowdTrace
set_option maxHeartbeats 4000000
set_option maxRecDepth 100000
namespace Go.Proofs.YtnapepbdohidgaaGreatDoorQ
section
open Go
open Go.Conc (crowd Past EvL Deaf QuitsD woken awake crowd_pick runT_crowd_go rcase scase parked ph)
open Go.ConcN (sumTo upd sumTo_upd upd_ne upd_same)
def Fin (P:Program)(Post:Value->World->Prop)(gs:Array Goroutine)(w:World)(sl:Option (Nat×Nat))(t:Trace):Prop:=
 ∃N last o w' t',runNT P (N+1) (crowd gs w sl) t=(.ended o w',t')/\runN P N (crowd gs w sl)=.next last/\step P last=.ended o w'/\Conc.Good P Post last o w' t'
theorem Fin.next {P:Program}{Post:Value->World->Prop}{gs gs':Array Goroutine}{w w':World}{sl sl':Option (Nat×Nat)}{t:Trace}{ops:Array MemOp}(hs:stepT P (crowd gs w sl)=(.next (crowd gs' w' sl'),ops))(h:Fin P Post gs' w' sl' (t++ops)):Fin P Post gs w sl t:=by
 obtain ⟨N,last,o,w2,t2,h1,h2,h3,h4⟩:=h;exact ⟨N+1,last,o,w2,t2,by rw [runNT];simp only [hs];exact h1,by rw [runN];simp only [step,hs];exact h2,h3,h4⟩
theorem Fin.last {P:Program}{Post:Value->World->Prop}{gs:Array Goroutine}{w w':World}{sl:Option (Nat×Nat)}{t:Trace}{ops:Array MemOp}{o:Outcome}(hs:stepT P (crowd gs w sl)=(.ended o w',ops))(h:Conc.Good P Post (crowd gs w sl) o w' (t++ops)):Fin P Post gs w sl t:=
 ⟨0,crowd gs w sl,o,w',t++ops,by simp [runNT,hs],rfl,by simp [step,hs],h⟩
structure Lv (P:Program)(K:Nat->Prop)(t:Trace)(gs:Array Goroutine)(q:Nat->Nat):Prop where
 old:∀i g,0<i->¬K i->gs[i]?=some g->QuitsD P (q i) (Deaf t i) g
 above:∀j,gs.size<=j->Deaf t j=0
theorem iH {P:Program}{n d:Nat}{g:Goroutine}(h:QuitsD P n d g)(w:World):g.again w=g:=Conc.again_running _ h.status
section
variable {P:Program} {K:Nat->Prop} {Shun:Loc->Prop} {gs:Array Goroutine} {w:World} {sl:Option (Nat×Nat)} {t:Trace} {q:Nat->Nat}
theorem eU {P:Program}{g g' o:Goroutine}{w:World}(h:o.again w=o):woken P g g' w o=o:=by
 unfold Conc.woken;split
 ·exact h
 ·rfl
theorem slip (hL:Lv P K t gs q){Pa:Trace->Prop}(hP:Pa t)(hmute:∀ (t:Trace)(i:Nat)(fn:FuncId)(pos:String)(es:Array Event),i≠0->¬K i->Pa t->(∀e∈es,e.mute=true)->Pa (t++MemOp.ofEvents i fn pos es)){i:Nat}{g:Goroutine}{d:Nat}{sl':Option (Nat×Nat)}(hi:gs[i]?=some g)(hg:g.status=.running)(hpos:0<i)(hK:¬K i)
    (hfirm:∀j o,(j=0\/K j)->gs[j]?=some o->o.again (w.at d)=o) (hst:stepT P (crowd gs w sl)=runT P (crowd gs (w.at d) sl') i):
    ∃gs' q' ops,stepT P (crowd gs w sl)=(.next (crowd gs' (w.at d) sl'),ops)/\gs'.size=gs.size/\(∀j,(j=0\/K j)->gs'[j]?=gs[j]?)/\Lv P K (t++ops) gs' q'/\Pa (t++ops)/\sumTo gs'.size q'<sumTo gs.size q/\(∀op∈ops,op.g=i):=by
  have hq:=hL.old i g hpos hK hi;have hi0:(i==0)=false:=by simp;omega
  have hlt:i<gs.size:=(eS hi).1;cases hqi:q i with
  |zero=>rw [hqi] at hq;rw [hq.1] at hg;cases hg
  |succ k=>
    rw [hqi] at hq;rcases hq with ⟨hf,_⟩|⟨_,g',es,hm,hstp,hq'⟩
    · rw [hf] at hg;cases hg
    have hrunT:=runT_crowd_go (P:=P) (sl:=sl') (i:=i) hi (by rw [hi0];exact hstp (w.at d));have hsz:((gs.map (woken P g g' (w.at d))).setIfInBounds i g').size=gs.size:=by simp
    have hsum:sumTo gs.size (upd q i k)+(k+1)=sumTo gs.size q+k:=by
      have:=sumTo_upd q k id hlt;simpa [hqi] using this
    refine ⟨_,upd q i k,_,hst.trans hrunT,hsz,fun j hj=>?_,⟨fun j x hj hKj hx=>?_,fun j hj=>?_⟩,hmute t i _ _ es (by omega) hK hP hm,by rw [hsz];omega,fun op hop=>by obtain ⟨e,_,rfl⟩:=Conc.mem_ofEvents hop;rfl⟩
    · have hne : i ≠ j := fun e => by subst e; rcases hj with h | h; · omega
                                      · exact hK h
      rw [sN hne,Array.getElem?_map];cases ho:gs[j]? with
      |none=>rfl
      |some o=>simp only [Option.map_some];rw [eU (hfirm j o hj ho)]
    · by_cases hji:i=j
      · subst hji
        rw [sS (by simpa using hlt)] at hx;obtain rfl:=Option.some.inj hx;rw [upd_same,Conc.Deaf_own];exact hq'
      · rw [sN hji,Array.getElem?_map] at hx
        obtain ⟨y,hy,rfl⟩:=Option.map_eq_some_iff.1 hx;have hqj:=hL.old j y hj hKj hy;rw [eU (iH hqj _),upd_ne q k (Ne.symm hji),Conc.Deaf_other t hji _ (fun op hop=>by obtain ⟨e,_,rfl⟩:=Conc.mem_ofEvents hop;rfl)];exact hqj
    · rw [Conc.Deaf_other t (g':=i) (by simp at hj;omega) _ (fun op hop=>by obtain ⟨e,_,rfl⟩:=Conc.mem_ofEvents hop;rfl)]
      exact hL.above j (by simpa using hj)
theorem oF (hL:Lv P K t gs q){i:Nat}{a a':Goroutine}{w':World}{es:Array Event}{d:Nat}{sl':Option (Nat×Nat)}(hi:gs[i]?=some a)(hK:i=0\/K i)(hst:stepT P (crowd gs w sl)=runT P (crowd gs (w.at d) sl') i)(hgo:stepG P (i==0) a (w.at d)=.go a' w' es):
    ∃gs' ops,stepT P (crowd gs w sl)=(.next (crowd gs' w' sl'),ops)/\ops=MemOp.ofEvents i a.frame.fn a.frame.place es/\gs'.size=gs.size/\gs'[i]?=some a'/\(∀j o,j≠i->gs[j]?=some o->gs'[j]?=some (woken P a a' w' o))/\Lv P K (t++ops) gs' q:=by
  have hrunT:=runT_crowd_go (P:=P) (sl:=sl') (i:=i) hi hgo;have hlt:i<gs.size:=(eS hi).1;refine ⟨_,_,hst.trans hrunT,rfl,by simp,by simp [hlt],fun j o hj ho=>?_,⟨fun j x hj hKj hx=>?_,fun j hj=>?_⟩⟩
  · rw [sN (Ne.symm hj),Array.getElem?_map,ho];rfl
  · have hne : i ≠ j := fun e => by subst e; rcases hK with h | h; · omega
                                    · exact hKj h
    rw [sN hne,Array.getElem?_map] at hx;obtain ⟨y,hy,rfl⟩:=Option.map_eq_some_iff.1 hx;have hq:=hL.old j y hj hKj hy;rw [eU (iH hq _),Conc.Deaf_other t hne _ (fun op hop=>by obtain ⟨e,_,rfl⟩:=Conc.mem_ofEvents hop;rfl)];exact hq
  · rw [Conc.Deaf_other t (g':=i) (by simp at hj;omega) _ (fun op hop=>by obtain ⟨e,_,rfl⟩:=Conc.mem_ofEvents hop;rfl)]
    exact hL.above j (by simpa using hj)
def cK (B:Nat):MemAct->Prop
 | .send c _| .sendDone c _| .recv c _ _| .recvDone c _| .close c| .recvClosed c=>c<B
 |_=>False
theorem cK.low {B:Nat}{a:MemAct}(h:cK B a):a.low B:=by cases a<;>first|exact h|exact h.elim
theorem cK.none {B:Nat}{a:MemAct}(h:cK B a):a.touch?=none:=by cases a<;>first|rfl|exact h.elim
theorem cK.still {B:Nat}{a:MemAct}(h:cK B a):a≠.mark .disable/\a≠.mark .enable:=by cases a<;>first|exact h.elim|exact ⟨by simp,by simp⟩
theorem bm (t:Trace)(g:Nat)(u:Trace)(hu:∀op∈u,op.act≠.mark .disable/\op.act≠.mark .enable):Deaf (t++u) g=Deaf t g:=by
 obtain ⟨l⟩:=u;rw [Conc.Deaf_append];induction l generalizing t with
 |nil=>rfl
 |cons x l ih=>
  have hx:=hu x (by simp);have e:Conc.deafStep g (Deaf t g) x=Deaf t g:=by
   obtain ⟨xg,xf,xp,xa⟩:=x;cases xa with
   |mark m=>cases m<;>first|rfl|exact absurd rfl hx.1|exact absurd rfl hx.2
   |_=>rfl
  rw [List.foldl_cons,e];exact ih t (fun op hop=>hu op (by simp at hop ⊢;exact .inr hop))
theorem Lv.put (hL:Lv P K t gs q){gs':Array Goroutine}{u:Trace}(hu:∀op∈u,op.act≠.mark .disable/\op.act≠.mark .enable)(hsz:gs'.size=gs.size)(hs:∀j,0<j->¬K j->gs'[j]?=gs[j]?):Lv P K (t++u) gs' q:=
 ⟨fun i g hi hK hg=>by rw [bm t i u hu];exact hL.old i g hi hK (by rw [<-hs i hi hK];exact hg),fun j hj=>by rw [bm t j u hu];exact hL.above j (by omega)⟩
theorem xF {B:Nat}(h:Past Shun B t){u:Trace}(hu:∀op∈u,op.g=0/\cK B op.act):Past Shun B (t++u):=
 h.app0 (fun op hop=>(hu op hop).1) (fun op hop b hb=>by rw [(hu op hop).2.none] at hb;cases hb) (bm t 0 u (fun op hop=>(hu op hop).2.still)) (fun op hop=>(hu op hop).2.low)
theorem Lv.alone (hL:Lv P (fun _=>False) t gs q)(r:Nat)(b:Bool):partners (gs.setIfInBounds 0 ph) r b=[]:=by
 refine Conc.partners_nil (fun j x hx=>?_);rcases Conc.getElem?_stand gs 0 j x hx with ⟨-,rfl⟩|⟨hne,hx⟩
 ·exact Conc.offersAt_ph r b
 ·refine Conc.offersAt_of_not_blocked (fun e=>?_) r b;rcases (hL.old j x (by omega) (fun k=>k) hx).status with h|h<;>rw [h] at e<;>cases e
end
def gq:Loc->Prop:=fun _=>False
theorem i8 {ρ:Ren}{V W:World}(S:br ρ V W){e:Event}(h:ie ρ e):EvL gq W.heap.size e:=by
 obtain ⟨loc,wr,sy⟩:=e;cases loc with
 |cell a=>
  obtain ⟨x,h1,-⟩:=h;exact ⟨fun _ _ k=>k.elim,by simp,by simp,(S.lt h1).2⟩
 |obj r=>
  obtain ⟨x,h1,-⟩:=h;refine ⟨fun _ _ k=>k.elim,by simp,by simp,?_⟩;have:=(S.lt h1).2;cases wr<;>cases sy<;>exact this
 |mark m=>
  have h:RMk m:=h;cases h with
  |extern f=>exact ⟨fun _ _ k=>k.elim,by simp,by simp,trivial⟩
  |noRoom=>exact ⟨fun _ _ k=>k.elim,by simp,by simp,trivial⟩
 |output=>exact ⟨fun _ _ k=>k.elim,by simp,by simp,trivial⟩
 |goroutines=>exact h.elim
inductive LSs (P:Program)(T:Goroutine->World->Prop):Goroutine->World->Goroutine->World->Prop
 |refl (g:Goroutine) (w:World):LSs P T g w g w
 |step {g g1 g2:Goroutine} {w w1 w2:World} (hT:¬T g w) (τ:Nat->Question->Nat) (d:Nat) (h:LS P g (w.on τ d) g1 w1) (hs:LSs P T g1 w1 g2 w2):LSs P T g w g2 w2
theorem LSs.trans {P:Program}{T:Goroutine->World->Prop}{a b c:Goroutine}{u v w:World}(h:LSs P T a u b v)(k:LSs P T b v c w):LSs P T a u c w:=by
 induction h with
 |refl=>exact k
 |step hT τ d h _ ih=>exact .step hT τ d h (ih k)
def Quiet (ρ:Ren)(V:World):Prop:=ρ.F j8=false/\∀a b o,ρ a b->V.heap[a]?=some o->o.isChan=true->∃n s q tm,o=.chan n #[] true s q tm
theorem Quiet.reach {ρ ρ':Ren}{w w' u u':World}(h:Quiet ρ w)(hS:ρ.F ft=false)(R:Reach ρ ρ' w w' u u'):Quiet ρ' u:=⟨by rw [R.le.F];exact h.1,fun a b o hab ho hc=>by
 rcases R.chs.only h.1 a o ho hc with k|⟨k,-⟩
 ·rcases R.new a b hab with k2|⟨k2,-⟩
  ·exact h.2 a b o k2 k hc
  ·have:=(eS k).1;omega
 ·rw [hS] at k;cases k⟩
structure Outer where
 Ko:Nat->Prop
 W0:World
 lt:∀b,Ko b->b<W0.heap.size
 R:Nat->Nat->Prop
 pin:Nat->Option (Array Value)
 bad:TypeId
def Kp (U:Outer)(W:World):Prop:=U.W0.heap.size<=W.heap.size/\W.output=U.W0.output/\∀b,U.Ko b->W.heap[b]?=U.W0.heap[b]?
def Off (U:Outer)(ρ:Ren):Prop:=(∀a b,ρ a b->¬U.Ko b)/\(∀a b,U.R a b->ρ a b)/\ρ.pin=U.pin/\ρ.bad=U.bad
theorem Kp.keep {U:Outer}{W W1:World}{ρ:Ren}(h:Kp U W)(hO:Off U ρ)(K:Keep ρ W W1):Kp U W1:=
 ⟨lT h.1 K.size,K.output.trans h.2.1,fun b hb=>(K.block b (lL (U.lt b hb) h.1) (fun a ha=>absurd hb (hO.1 a b ha))).trans (h.2.2 b hb)⟩
theorem Off.new {U:Outer}{W:World}{ρ ρ':Ren}(hO:Off U ρ)(h:Kp U W)(hle:∀a b,ρ a b->ρ' a b)(hn:∀a b,ρ' a b->ρ a b\/W.heap.size<=b)(hp:ρ'.pin=ρ.pin/\ρ'.bad=ρ.bad):Off U ρ':=⟨fun a b hab hb=>by
 rcases hn a b hab with k|k
 ·exact hO.1 a b k hb
 ·have:=U.lt b hb;have:=h.1;omega,fun a b k=>hle a b (hO.2.1 a b k),hp.1.trans hO.2.2.1,hp.2.trans hO.2.2.2⟩
theorem Kp.reach {U:Outer}{ρ ρ':Ren}{w w' u u':World}(h:Kp U w'/\Off U ρ)(R:Reach ρ ρ' w w' u u'):Kp U u'/\Off U ρ':=⟨h.1.keep h.2 R.keep,h.2.new h.1 R.le.sub (fun a b k=>(R.new a b k).imp id (·.2)) ⟨R.le.pin,R.le.bad⟩⟩
structure Rel (P:Program) [Two P](U:Outer)(G:FuncId->Bool)(Y:List Frame)(ρ:Ren)(h g:Goroutine)(V W:World):Prop where
 go:RGo P ρ ([trap P.alt],Y) h g
 sim:br ρ V W
 gid:GId P ρ
 ext:fh P ρ.F
 calm:ρ.F ft=false
 same:ρ.F=G
 firm:ρ.loose=false/\ρ.wide=false
 quiet:Quiet ρ V
 out:Kp U W/\Off U ρ
section
variable {P:Program} [Two P]
def nG (P:Program) [Two P](U:Outer)(G:FuncId->Bool)(Y:List Frame)(Post:Value->World->Prop)(h:Goroutine)(V:World):Prop:=
 ∀ (gs:Array Goroutine) (g:Goroutine) (W:World) (sl:Option (Nat×Nat)) (t:Trace) (q:Nat->Nat) (ρ:Ren),gs[0]?=some g->Lv P (fun _=>False) t gs q->Past gq W.heap.size t->Rel P U G Y ρ h g V W->Fin P Post gs W sl t
def si (P:Program) [Two P](U:Outer)(G:FuncId->Bool)(Y:List Frame)(T:Goroutine->World->Prop)(Post:Value->World->Prop):Prop:=
 ∀ (f:FuncId) (a a':Array Value) (fr fr':Frame) (cs cs':List Frame) (V W:World) (ρ:Ren),Mk ρ.F f=true->RVs ρ a a'/\a.size=2->Rel P U G Y ρ {frame:=fr,callers:=cs,status:=.running,dying:=none} {frame:=fr',callers:=cs',status:=.running,dying:=none} V W ->
  Dem P.alt (fun g _=>NB [trap P.alt] g) T {frame:=Frame.enter P.alt f a .normal,callers:=fr::cs,status:=.running,dying:=none} V ->
  (∀h2 V2,LSs P.alt T {frame:=Frame.enter P.alt f a .normal,callers:=fr::cs,status:=.running,dying:=none} V h2 V2->nG P U G Y Post h2 V2) ->
  ∀ (gs:Array Goroutine) (sl:Option (Nat×Nat)) (t:Trace) (q:Nat->Nat),gs[0]?=some {frame:=Frame.enter P f a' .normal,callers:=fr'::cs',status:=.running,dying:=none}->Lv P (fun _=>False) t gs q->Past gq W.heap.size t->Fin P Post gs W sl t
omit [Two P] in
theorem RFs.nil_of {ρ:Ren}{x:Frame}{l':List Frame}(h:RFs P ρ ([x],[]) [x] l'):l'=[]:=by
 generalize hX:(([x],[]):List Frame×List Frame)=X at h;generalize hl:[x]=l at h;cases h with
 |base=>rw [<-hX]
 |cons _ _ hl2=>
  cases hl;subst hX;generalize hX:(([x],[]):List Frame×List Frame)=X at hl2;generalize hl:([]:List Frame)=l at hl2;cases hl2 with
  |base=>rw [<-hX] at hl;cases hl
  |cons _ _ _=>cases hl
theorem ja (B:Nat):∀ (t:Trace)(i:Nat)(fn:FuncId)(pos:String)(es:Array Event),i≠0->¬(fun _:Nat=>False) i->Past gq B t->(∀e∈es,e.mute=true)->Past gq B (t++MemOp.ofEvents i fn pos es):=
 fun _ _ _ _ _ hi _ h hm=>h.mute hi hm
def Leaf (P:Program) [Two P](U:Outer)(G:FuncId->Bool)(T:Goroutine->World->Prop)(Post:Value->World->Prop):Prop:=
 ∀ (h g:Goroutine) (V W:World) (ρ:Ren),T h V->Rel P U G [] ρ h g V W->∀d,∃v es ρ' V' W',stepG P true g (W.at d)=.ended (.done v) W' es/\Post v W'/\br ρ' V' W'/\W.heap.size<=W'.heap.size/\∀e∈es,ie ρ' e
theorem oG {ρ:Ren}{V W:World}(S:br ρ V W){c c':CommCase}(hcc:RC ρ c c'){r cap sent rcvd:Nat}{buf:Array Value}{cl tm:Bool}(hc:c.chan=.chan (some r))(ho:V.heap[r]?=some (.chan cap buf cl sent rcvd tm)):
  ∃r' cap' buf' cl' sent' rcvd',c'.chan=.chan (some r')/\ρ r r'/\W.heap[r']?=some (.chan cap' buf' cl' sent' rcvd' tm)/\(ρ.loose=true\/RVs ρ buf buf')/\(ρ.wide=true\/cl=cl')/\¬ρ.old r:=by
 have h:=hcc.chan;rw [hc] at h;generalize c'.chan=x at h;cases h with
 |chan h=>
  cases h with
  | @some _ r' h=>
   obtain ⟨o,o',k1,k2,k3⟩:=S.obj _ _ h;rw [ho] at k1;cases k1;cases k3 with
   |chan _ cap' _ cl' _ _ s' q' _ hb hcl=>
    refine ⟨r',cap',_,cl',s',q',rfl,h,k2,hb,hcl,fun hold=>?_⟩;obtain ⟨o,f1,f2⟩:=S.fix _ hold;rw [ho] at f1;cases f1;exact f2
theorem tM {c:CommCase}{r:Nat}(h:c.chan=.chan (some r))(hs:c.send=none):c=rcase r c.zero:=by
 obtain ⟨a,b,z⟩:=c;simp only at h hs;subst h;subst hs;rfl
theorem xG {U:Outer}{T:Goroutine->World->Prop}{Post:Value->World->Prop}{G:FuncId->Bool}(hleaf:Leaf P U G T Post):∀h V,T h V->nG P U G [] Post h V:=by
 have firm:∀ (gs:Array Goroutine) (g:Goroutine) (w:World),gs[0]?=some g->g.status=.running->∀j o,(j=0\/False)->gs[j]?=some o->o.again w=o:=fun gs g w h0 hr j o hj ho=>by
  rcases hj with rfl|hj
  ·rw [h0] at ho;cases ho;exact Conc.again_running _ (.inl hr)
  ·exact hj.elim
 have awk:∀ (gs:Array Goroutine) (g:Goroutine) (t:Trace) (q:Nat->Nat),gs[0]?=some g->g.status=.running->Lv P (fun _=>False) t gs q->∀x∈gs,awake x:=fun gs g t q h0 hr hL x hx=>by
  obtain ⟨i,hi,rfl⟩:=Array.mem_iff_getElem.1 hx;rcases Nat.eq_zero_or_pos i with rfl|hpos
  ·have:gs[0]=g:=by simpa [eG hi] using h0
   rw [this];exact Conc.awake_of (.inl hr)
  ·exact Conc.awake_of ((hL.old i _ hpos (fun k=>k) (eG hi)).status.elim .inl fun x=>.inr (.inr x))
 intro h V hT;intro gs g W sl t q ρ h0 hL hP hR;obtain ⟨M,hM⟩:∃M,sumTo gs.size q<=M:=⟨_,lR _⟩;induction M using Nat.strongRecOn generalizing gs W sl t q with
 |_ M ih=>
  have hr:=hR.go.status.2;obtain ⟨i,x,d,sl',hi,hx,hst⟩:=crowd_pick (P:=P) (w:=W) (sl:=sl) (awk gs g t q h0 hr hL) ⟨0,g,h0,hr⟩;rcases Nat.eq_zero_or_pos i with rfl|hpos
  ·obtain rfl:x=g:=by rw [h0] at hi;exact (Option.some.inj hi).symm
   obtain ⟨v,es,ρ',V',W',he,hpost,hsim,hsz,hes⟩:=hleaf h x V W ρ hT hR d;have hrunT:=Conc.runT_many_ended (P:=P) (sl:=sl') (i:=0) hi (show stepG P (0==0) x (W.at d)=_ from he);have hP':=(hP.mono hsz).own (fn:=x.frame.fn) (pos:=x.frame.place) (fun e he=>i8 hsim (hes e he));refine Fin.last (hst.trans hrunT) ⟨v,rfl,hpost,hP'.clean,hP'.over,⟨fun y hy=>?_,rfl⟩,fun j y hy hj=>?_⟩
   ·obtain ⟨j,hj⟩:=List.mem_iff_getElem?.1 hy;rw [List.getElem?_drop] at hj;exact ⟨_,(hL.old (1+j) y (by omega) (fun k=>k) (by simpa [crowd] using hj)).leaves⟩
   ·have hq:=hL.old j y (by omega) (fun k=>k) hy;refine ⟨q j,?_⟩;have e:(t++MemOp.ofEvents 0 x.frame.fn x.frame.place es).deaf j (t++MemOp.ofEvents 0 x.frame.fn x.frame.place es).size=Deaf t j:=
     Conc.Deaf_other t (g:=j) (g':=0) (by omega) _ (fun op hop=>by obtain ⟨e,_,rfl⟩:=Conc.mem_ofEvents hop;rfl)
    rw [e];exact hq.hears _
  ·obtain ⟨gs',q',ops,e1,e2,e3,e4,e5,e6,-⟩:=slip hL hP (ja W.heap.size) hi hx hpos (fun k=>k) (firm gs g _ h0 hr) hst;exact Fin.next e1 (ih _ (by omega) gs' (W.at d) sl' (t++ops) q' ((e3 0 (.inl rfl)).trans h0) e4 e5 ⟨hR.go,⟨hR.sim.obj,hR.sim.fix,hR.sim.chan,hR.sim.os,hR.sim.pin⟩,hR.gid,hR.ext,hR.calm,hR.same,hR.firm,hR.quiet,hR.out⟩ (lR _))
theorem Cd (hZ:bB P)(hN:bH P){U:Outer}{T:Goroutine->World->Prop}{Post:Value->World->Prop}{G:FuncId->Bool}{Y:List Frame}(hleaf:∀h V,T h V->nG P U G Y Post h V)(hap:si P U G Y T Post){h:Goroutine}{V:World}(hD:Dem P.alt (fun g _=>NB [trap P.alt] g) T h V):∀h2 V2,LSs P.alt T h V h2 V2->nG P U G Y Post h2 V2:=by
 have firm:∀ (gs:Array Goroutine) (g:Goroutine) (w:World),gs[0]?=some g->g.status=.running->∀j o,(j=0\/False)->gs[j]?=some o->o.again w=o:=fun gs g w h0 hr j o hj ho=>by
  rcases hj with rfl|hj
  ·rw [h0] at ho;cases ho;exact Conc.again_running _ (.inl hr)
  ·exact hj.elim
 have awk:∀ (gs:Array Goroutine) (g:Goroutine) (t:Trace) (q:Nat->Nat),gs[0]?=some g->g.status=.running->Lv P (fun _=>False) t gs q->∀x∈gs,awake x:=fun gs g t q h0 hr hL x hx=>by
  obtain ⟨i,hi,rfl⟩:=Array.mem_iff_getElem.1 hx;rcases Nat.eq_zero_or_pos i with rfl|hpos
  ·have:gs[0]=g:=by simpa [eG hi] using h0
   rw [this];exact Conc.awake_of (.inl hr)
  ·exact Conc.awake_of ((hL.old i _ hpos (fun k=>k) (eG hi)).status.elim .inl fun x=>.inr (.inr x))
 induction hD with
 | @stop h V hT=>
  intro h2 V2 hs;cases hs with
  |step hnT _ _ _ _=>exact absurd hT hnT
  |refl=>exact hleaf _ _ hT
 | @step h V hNB hT hgo hn ihD=>
  intro h2 V2 hs;cases hs with
  |step hnT τ d hl hs=>exact ihD τ d _ _ hl h2 V2 hs
  |refl=>
   intro gs g W sl t q ρ h0 hL hP hR;obtain ⟨M,hM⟩:∃M,sumTo gs.size q<=M:=⟨_,lR _⟩;induction M using Nat.strongRecOn generalizing gs W sl t q with
   |_ M ih=>
    have hr:=hR.go.status.2;obtain ⟨i,x,d,sl',hi,hx,hst⟩:=crowd_pick (P:=P) (w:=W) (sl:=sl) (awk gs g t q h0 hr hL) ⟨0,g,h0,hr⟩;rcases Nat.eq_zero_or_pos i with rfl|hpos
    ·obtain rfl:x=g:=by rw [h0] at hi;exact (Option.some.inj hi).symm
     have S:br ρ (V.on W.tape d) (W.at d):=⟨hR.sim.obj,hR.sim.fix,hR.sim.chan,hR.sim.os,hR.sim.pin⟩;have hin:Base ([trap P.alt],Y) h.frame x.callers:=fun e=>hNB (hR.go.callers.tail e)
     have sf:=il hZ hR.ext hN hR.gid true hR.go hin S (fun i=>rfl);obtain ⟨h',V',hls⟩:=hgo W.tape d;have hcalm:=hR.calm;rcases sf.rel with ⟨-,hlo⟩|⟨halt,hst2⟩|⟨f,ρ',a,a',fr,fr',cs,cs',u,u',es,es',A⟩
     ·cases hls with
      |go e hr2 hd2=>
       have hlo:Lost (stepG P.alt true h (V.on W.tape d)):=hlo;rw [e] at hlo;obtain ⟨⟨_,_,e2,-⟩,-⟩:=hlo;rw [hd2] at e2;cases e2
      |comm e _=>
       have hlo:Lost (stepG P.alt true h (V.on W.tape d)):=hlo;rw [e] at hlo;exact hlo.elim
     ·have halt:stepG P.alt true h (V.on W.tape d)=stepG P true h (V.on W.tape d):=halt;have hls0:=hls;cases hls with
      | @go _ _ es e hr2 hd2=>
       rw [halt] at e;have hst2:cJ P ρ ([trap P.alt],Y) (V.on W.tape d) (W.at d) (stepG P true h (V.on W.tape d)) (stepG P true x (W.at d)):=hst2;rw [e] at hst2;generalize hy:stepG P true x (W.at d)=y at hst2;cases hst2 with
       | @go _ g' _ W' _ es' ρ' R hg he=>
        obtain ⟨gs',ops,e1,e2,e3,e4,-,e6⟩:=oF hL hi (.inl rfl) hst (show stepG P (0==0) x (W.at d)=_ from hy);subst e2;have hP':=(hP.mono (show W.heap.size<=W'.heap.size from R.keep.size)).own (fn:=x.frame.fn) (pos:=x.frame.place) (fun e k=>i8 R.sim (he e k));exact Fin.next e1 (ihD W.tape d _ _ hls0 _ _ (.refl _ _) gs' g' W' sl' _ q ρ' e4 e6 hP' ⟨hg,R.sim,hR.gid.mono R.le,by rw [R.le.F];exact hR.ext,by rw [R.le.F];exact hcalm,R.le.F.trans hR.same,⟨R.le.loose.trans hR.firm.1,R.le.wide.trans hR.firm.2⟩,Quiet.reach (w:=V.on W.tape d) hR.quiet hcalm R,Kp.reach (w':=W.at d) hR.out R⟩)
      | @comm h1 c sh V1 es _ _ e hc=>
       rw [halt] at e;have hst2:cJ P ρ ([trap P.alt],Y) (V.on W.tape d) (W.at d) (stepG P true h (V.on W.tape d)) (stepG P true x (W.at d)):=hst2;rw [e] at hst2;generalize hy:stepG P true x (W.at d)=y at hst2;cases hst2 with
       | @comm _ g' _ c' hC _ hsh hrun _ W1 _ es' ρ' R hg hcc he _=>
        have hsend:c.send=none:=by
         cases hx:c.send with
         |none=>rfl
         |some v=>rw [hC.1 (by rw [hx];rfl)] at hcalm;cases hcalm
        have hsend':c'.send=none:=by
         rcases hcc.send with ⟨-,k⟩|⟨v,_,k,-⟩
         ·exact k
         ·rw [hsend] at k;cases k
        have hcalm':ρ'.F ft=false:=by rw [R.le.F];exact hcalm
        have hquiet:Quiet ρ' V1:=Quiet.reach (w:=V.on W.tape d) hR.quiet hcalm R;have hfirm':ρ'.loose=false/\ρ'.wide=false:=⟨R.le.loose.trans hR.firm.1,R.le.wide.trans hR.firm.2⟩;have hP1:=(hP.mono (show W.heap.size<=W1.heap.size from R.keep.size)).own (fn:=x.frame.fn) (pos:=x.frame.place) (fun e k=>i8 R.sim (he e k));have hmark:∀op∈MemOp.ofEvents 0 x.frame.fn x.frame.place es',op.act≠.mark .disable/\op.act≠.mark .enable:=fun op hop=>by
         obtain ⟨e,k,rfl⟩:=Conc.mem_ofEvents hop;have k:=he e k;obtain ⟨loc,wr,sy⟩:=e;cases loc with
         |mark m=>cases (show RMk m from k)<;>exact ⟨by simp [MemAct.ofEvent],by simp [MemAct.ofEvent]⟩
         |goroutines=>exact k.elim
         |_=>cases wr<;>cases sy<;>exact ⟨by simp [MemAct.ofEvent],by simp [MemAct.ofEvent]⟩
        have hsz0:0<gs.size:=(eS h0).1;have end_:∀ (g2:Goroutine) (W2:World) (u:Trace),runT P (crowd gs (W.at d) sl') 0=(.next (crowd (gs.setIfInBounds 0 g2) W2 sl'),MemOp.ofEvents 0 x.frame.fn x.frame.place es'++u)->(∀op∈u,op.g=0/\cK W1.heap.size op.act)->W2.heap.size=W1.heap.size->Rel P U G Y ρ' _ g2 _ W2->Fin P Post gs W sl t:=fun g2 W2 u hrt hu hsz hR2=>by
         refine Fin.next (hst.trans hrt) (ihD W.tape d _ _ hls0 _ _ (.refl _ _) (gs.setIfInBounds 0 g2) g2 W2 sl' _ q ρ' (by simp [hsz0]) ?_ ?_ hR2)
         ·refine hL.put (fun op hop=>?_) (by simp) (fun j hj _=>by rw [sN (by omega)]);rcases Array.mem_append.1 hop with k|k
          ·exact hmark op k
          ·exact (hu op k).2.still
         ·rw [<-Array.append_assoc,hsz];exact xF hP1 hu
        cases hc with
        |send k1 k2 k3 k4=>rw [hsend] at k2;cases k2
        |dead k1 k2 k3=>rw [hsend] at k2;cases k2
        | @recv r cap sent rcvd buf cl tm k1 k2 k3 k4=>
         exfalso;obtain ⟨r',cap',buf',cl',s',q',m1,m2,m3,m4,m5,m6⟩:=oG R.sim hcc k1 k3;obtain ⟨n,s0,q0,tm0,e0⟩:=hquiet.2 r r' _ m2 k3 rfl;cases e0;simp at k4
        | @shut r cap sent rcvd tm k1 k2 k3=>
         obtain ⟨r',cap',buf',cl',s',q',m1,m2,m3,m4,m5,m6⟩:=oG R.sim hcc k1 k3;have m4:RVs ρ' #[] buf':=m4.resolve_left (by rw [hfirm'.1];exact fun h=>by cases h);obtain rfl:=m5.resolve_left (by rw [hfirm'.2];exact fun h=>by cases h);obtain rfl:buf'=#[]:=Array.eq_empty_of_size_eq_zero (by rw [<-m4.size];rfl);have hc':=tM m1 hsend';have hlt:=(R.sim.lt m2).2;rw [hc'] at hy;refine end_ _ _ _ (Conc.crowd_recv_closed (i:=0) hi (show stepG P (0==0) x (W.at d)=_ from hy) m3 (hL.alone r' true)) (fun op hop=>?_) rfl ⟨?_,R.sim,hR.gid.mono R.le,by rw [R.le.F];exact hR.ext,hcalm',R.le.F.trans hR.same,hfirm',hquiet,Kp.reach (w':=W.at d) hR.out R⟩
         ·simp at hop;subst hop;exact ⟨rfl,hlt⟩
         ·rw [<-hc'];exact dg hg hcc sh hsh hcc.zero false
     ·have hls0:=hls;have ho:stepG P.alt true h (V.on W.tape d)=_:=A.other;cases hls with
      |comm e _=>rw [ho] at e;cases e
      |go e hr2 hd2=>
       rw [ho] at e;cases e;have hth:stepG P true x (W.at d)=_:=A.there;obtain ⟨gs',ops,e1,e2,e3,e4,-,e6⟩:=oF hL hi (.inl rfl) hst (show stepG P (0==0) x (W.at d)=_ from hth);subst e2;have hP':=(hP.mono (show W.heap.size<=u'.heap.size from A.reach.keep.size)).own (fn:=x.frame.fn) (pos:=x.frame.place) (fun e k=>i8 A.reach.sim (A.ev e k));have hle:=A.reach.le;refine Fin.next e1 (hap f a a' fr fr' cs cs' _ u' ρ' (by rw [hle.F];exact A.mark) A.args ⟨⟨A.frame,A.callers,A.kind,⟨rfl,rfl⟩,⟨rfl,rfl⟩,rfl,rfl⟩,A.reach.sim,hR.gid.mono hle,by rw [hle.F];exact hR.ext,by rw [hle.F];exact hcalm,hle.F.trans hR.same,⟨hle.loose.trans hR.firm.1,hle.wide.trans hR.firm.2⟩,Quiet.reach (w:=V.on W.tape d) hR.quiet hcalm A.reach,Kp.reach (w':=W.at d) hR.out A.reach⟩ (hn _ _ _ _ hls0) (fun h2 V2 hs=>ihD _ _ _ _ hls0 h2 V2 hs) gs' sl' _ q e4 e6 hP')
    ·obtain ⟨gs',q',ops,e1,e2,e3,e4,e5,e6,-⟩:=slip hL hP (ja W.heap.size) hi hx hpos (fun k=>k) (firm gs g _ h0 hr) hst;exact Fin.next e1 (ih _ (by omega) gs' (W.at d) sl' (t++ops) q' ((e3 0 (.inl rfl)).trans h0) e4 e5 ⟨hR.go,⟨hR.sim.obj,hR.sim.fix,hR.sim.chan,hR.sim.os,hR.sim.pin⟩,hR.gid,hR.ext,hR.calm,hR.same,hR.firm,hR.quiet,hR.out⟩ (lR _))
end
end
section
open Go
open Go.Conc (crowd Past EvL Deaf QuitsD woken awake crowd_pick runT_crowd_go rcase scase parked ph Knows Before touchAt touch_of touchAt_of getElem?_append_cases getElem?_append_old knows_own noRace_append lt_size_of_getElem?)
def Tk (ρ:Ren)(a:Touch):Prop:=
 match a.loc with
 | .cell ad=>∃x,ρ x ad.block/\(a.write=true->¬ρ.old x)/\¬ρ.ch x
 | .obj r=>∃x,ρ x r/\(a.write=true->¬ρ.old x)/\(a.kind≠.atomic->¬ρ.ch x)
 |_=>True
theorem Tk.mono {ρ ρ':Ren}(l:ρ.le ρ'){a:Touch}(h:Tk ρ a):Tk ρ' a:=by
 obtain ⟨loc,wr,kd⟩:=a;cases loc with
 |cell ad=>obtain ⟨x,h1,h2,h3⟩:=h;exact ⟨x,l _ _ h1,by rw [l.old];exact h2,by rw [l.ch];exact h3⟩
 |obj r=>obtain ⟨x,h1,h2,h3⟩:=h;exact ⟨x,l _ _ h1,by rw [l.old];exact h2,by rw [l.ch];exact h3⟩
 |_=>trivial
theorem Ei {ρ:Ren}{e:Event}(h:ie ρ e){a:Touch}(ht:(MemAct.ofEvent e).touch?=some a):Tk ρ a:=by
 obtain ⟨loc,wr,sy⟩:=e;cases loc with
 |cell ad=>
  simp only [MemAct.ofEvent,MemAct.touch?,oI] at ht;subst ht;exact h
 |obj r=>
  obtain ⟨x,h1,h2,h3⟩:=h;cases wr<;>cases sy<;>simp only [MemAct.ofEvent,MemAct.touch?,oI] at ht<;>first|cases ht;done|(subst ht;exact ⟨x,h1,h2,fun k=>h3 (by first|rfl|exact absurd rfl k)⟩)
 |mark m=>
  have h:RMk m:=h;cases h<;>simp [MemAct.ofEvent,MemAct.touch?] at ht
 |output=>
  simp only [MemAct.ofEvent,MemAct.touch?,oI] at ht;subst ht;trivial
 |goroutines=>exact h.elim
def Far (ρ ρ':Ren):Prop:=∀b x y,ρ x b->ρ' y b->(ρ.old x/\ρ'.old y)\/(ρ.ch x/\ρ'.ch y)
theorem Far.symm {ρ ρ':Ren}(h:Far ρ ρ'):Far ρ' ρ:=fun b x y h1 h2=>(h b y x h2 h1).imp (fun k=>⟨k.2,k.1⟩) (fun k=>⟨k.2,k.1⟩)
theorem Far.no {ρ ρ':Ren}(h:Far ρ ρ'){a b:Touch}(ha:Tk ρ a)(hb:Tk ρ' b)(said:Bool):¬a.conflicts said b:=by
 obtain ⟨la,wa,ka⟩:=a;obtain ⟨lb,wb,kb⟩:=b;rintro ⟨h1,h2,h3,h4⟩;simp only at h1 h2 h3 h4;subst h1;cases la with
 |cell ad=>
  obtain ⟨x,x1,x2,x3⟩:=ha;obtain ⟨y,y1,y2,y3⟩:=hb;rcases h _ x y x1 y1 with ⟨k1,k2⟩|⟨k1,-⟩
  ·rcases h3 with h3|h3
   ·exact x2 h3 k1
   ·exact y2 h3 k2
  ·exact x3 k1
 |obj r=>
  obtain ⟨x,x1,x2,x3⟩:=ha;obtain ⟨y,y1,y2,y3⟩:=hb;rcases h _ x y x1 y1 with ⟨k1,k2⟩|⟨k1,k2⟩
  ·rcases h3 with h3|h3
   ·exact x2 h3 k1
   ·exact y2 h3 k2
  ·have e1:ka=.atomic:=Classical.byContradiction fun k=>x3 k k1
   have e2:kb=.atomic:=Classical.byContradiction fun k=>y3 k k2
   subst e1;subst e2;rcases h4 with h|h|⟨_,h,_⟩<;>cases h
 |_=>simp [Loc.isMemory] at h2
structure PhT (p q:Nat)(ρ ρ':Ren)(B:Nat)(t:Trace):Prop where
 ne:p≠q
 clean:∀said,¬Race said t
 kp:∀i a,touchAt t i=some a->a.loc.isMemory=true->Knows t p i\/(t.g? i=some q/\Tk ρ' a)
 kq:∀i a,touchAt t i=some a->a.loc.isMemory=true->Knows t q i\/(t.g? i=some p/\Tk ρ a)
 hp:Deaf t p=0
 hq:Deaf t q=0
 seen:∀op∈t,op.act.low B
section
variable {p q:Nat} {ρ ρ' ρ1:Ren} {B B':Nat} {t u:Trace}
theorem PhT.symm (h:PhT p q ρ ρ' B t):PhT q p ρ' ρ B t:=⟨h.ne.symm,h.clean,h.kq,h.kp,h.hq,h.hp,h.seen⟩
theorem g?_old {i g:Nat}(h:t.g? i=some g):(t++u).g? i=some g:=by
 unfold Trace.g? at h ⊢;obtain ⟨x,hx,hg⟩:=Option.map_eq_some_iff.1 h;rw [getElem?_append_old (lt_size_of_getElem? hx),hx];exact congrArg some hg
theorem PhT.app (h:PhT p q ρ ρ' B t)(l:ρ.le ρ1)(hF:Far ρ1 ρ')(hB:B<=B')(hu:∀op∈u,op.g=p/\op.act.low B'/\(op.act≠.mark .disable/\op.act≠.mark .enable)/\∀a,op.act.touch?=some a->Tk ρ1 a):PhT p q ρ1 ρ' B' (t++u):=by
 refine ⟨h.ne,fun said=>noRace_append (h.clean said) (fun op hop=>(hu op hop).1) (fun i a ha op hop b hb hc=>?_),fun i a ha hm=>?_,fun i a ha hm=>?_,?_,?_,fun op hop=>?_⟩
 ·rcases h.kp i a ha hc.2.1 with k|⟨-,k⟩
  ·exact k
  ·exact absurd hc (hF.symm.no k ((hu op hop).2.2.2 b hb) said)
 ·obtain ⟨x,hx,hxa⟩:=touch_of ha;rcases getElem?_append_cases hx with ⟨_,hx'⟩|⟨_,hxu⟩
  ·exact (h.kp i a (by rw [touchAt_of hx'];exact hxa) hm).imp (·.app u) (fun k=>⟨g?_old k.1,k.2⟩)
  ·have:=knows_own hx;rw [(hu x hxu).1] at this;exact .inl this
 ·obtain ⟨x,hx,hxa⟩:=touch_of ha;rcases getElem?_append_cases hx with ⟨_,hx'⟩|⟨_,hxu⟩
  ·exact (h.kq i a (by rw [touchAt_of hx'];exact hxa) hm).imp (·.app u) (fun k=>⟨g?_old k.1,k.2.mono l⟩)
  ·exact .inr ⟨by simp [Trace.g?,hx,(hu x hxu).1],(hu x hxu).2.2.2 a hxa⟩
 ·rw [bm t p u (fun op hop=>(hu op hop).2.2.1)];exact h.hp
 ·rw [bm t q u (fun op hop=>(hu op hop).2.2.1)];exact h.hq
 ·rcases Array.mem_append.1 hop with k|k
  ·exact MemAct.low_mono hB (h.seen op k)
  ·exact (hu op k).2.1
theorem vq {e:Event}(h:ie ρ e):MemAct.ofEvent e≠.mark .disable/\MemAct.ofEvent e≠.mark .enable:=by
 obtain ⟨loc,wr,sy⟩:=e;cases loc with
 |mark m=>cases (show RMk m from h)<;>exact ⟨by simp [MemAct.ofEvent],by simp [MemAct.ofEvent]⟩
 |goroutines=>exact h.elim
 |_=>cases wr<;>cases sy<;>exact ⟨by simp [MemAct.ofEvent],by simp [MemAct.ofEvent]⟩
theorem jb {V W:World}(S:br ρ V W){es:Array Event}(hes:∀e∈es,ie ρ e)(g:Nat)(fn:FuncId)(pos:String):∀op∈MemOp.ofEvents g fn pos es,op.g=g/\op.act.low W.heap.size/\(op.act≠.mark .disable/\op.act≠.mark .enable)/\∀a,op.act.touch?=some a->Tk ρ a:=fun op hop=>by
 obtain ⟨e,he,rfl⟩:=Conc.mem_ofEvents hop;exact ⟨rfl,(i8 S (hes e he)).2.2.2,vq (hes e he),fun a ha=>Ei (hes e he) ha⟩
theorem sj {op:MemOp}(h:cK B op.act):op.act.low B/\(op.act≠.mark .disable/\op.act≠.mark .enable)/\∀a,op.act.touch?=some a->Tk ρ a:=⟨h.low,h.still,fun a ha=>by rw [h.none] at ha;cases ha⟩
theorem PhT.mute (h:PhT p q ρ ρ' B t){g:Nat}(h1:g≠p)(h2:g≠q){fn:FuncId}{pos:String}{es:Array Event}(hm:∀e∈es,e.mute=true):PhT p q ρ ρ' B (t++MemOp.ofEvents g fn pos es):=by
 have hu:∀op∈MemOp.ofEvents g fn pos es,op.g=g/\op.act.touch?=none/\op.act.low B:=fun op hop=>by
  obtain ⟨e,he,rfl⟩:=Conc.mem_ofEvents hop;exact ⟨rfl,Conc.touch_mute (hm e he),Conc.low_mute (hm e he) B⟩
 generalize MemOp.ofEvents g fn pos es=u at hu;refine ⟨h.ne,fun said=>noRace_append (h.clean said) (fun op hop=>(hu op hop).1) (fun i a ha op hop b hb hc=>by rw [(hu op hop).2.1] at hb;cases hb),fun i a ha hm=>?_,fun i a ha hm=>?_,?_,?_,fun op hop=>?_⟩
 ·obtain ⟨x,hx,hxa⟩:=touch_of ha;rcases getElem?_append_cases hx with ⟨_,hx'⟩|⟨_,hxu⟩
  ·exact (h.kp i a (by rw [touchAt_of hx'];exact hxa) hm).imp (·.app u) (fun k=>⟨g?_old k.1,k.2⟩)
  ·rw [(hu x hxu).2.1] at hxa;cases hxa
 ·obtain ⟨x,hx,hxa⟩:=touch_of ha;rcases getElem?_append_cases hx with ⟨_,hx'⟩|⟨_,hxu⟩
  ·exact (h.kq i a (by rw [touchAt_of hx'];exact hxa) hm).imp (·.app u) (fun k=>⟨g?_old k.1,k.2⟩)
  ·rw [(hu x hxu).2.1] at hxa;cases hxa
 ·rw [Conc.Deaf_other t h1 u (fun op hop=>(hu op hop).1)];exact h.hp
 ·rw [Conc.Deaf_other t h2 u (fun op hop=>(hu op hop).1)];exact h.hq
 ·rcases Array.mem_append.1 hop with k|k
  ·exact h.seen op k
  ·exact (hu op k).2.2
theorem PhT.start (h:Past gq B t){k:Nat}(hk:k≠0)(hd:Deaf t k=0){x y:MemOp}(hx:x.g=0/\x.act=.go k)(hy:y.g=k/\y.act=.start):PhT 0 k ρ ρ' B (t++#[x,y]):=by
 have hn:∀op∈(#[x,y]:Trace),op.act.touch?=none/\op.act.low B/\(op.act≠.mark .disable/\op.act≠.mark .enable):=fun op hop=>by
  simp at hop;rcases hop with rfl|rfl
  ·rw [hx.2];exact ⟨rfl,trivial,by simp,by simp⟩
  ·rw [hy.2];exact ⟨rfl,trivial,by simp,by simp⟩
 have e:t++#[x,y]=(t++#[x])++#[y]:=by apply Array.ext';simp
 have old:∀i a,touchAt (t++#[x,y]) i=some a->touchAt t i=some a:=fun i a ha=>by
  obtain ⟨z,hz,hza⟩:=touch_of ha;rcases getElem?_append_cases hz with ⟨_,hz'⟩|⟨_,hzu⟩
  ·rw [touchAt_of hz'];exact hza
  ·rw [(hn z hzu).1] at hza;cases hza
 have known:∀i a,touchAt t i=some a->a.loc.isMemory=true->Knows t 0 i:=fun i a ha hm=>(h.known i a ha hm).resolve_right (fun k=>k.1)
 refine ⟨hk.symm,fun said=>?_,fun i a ha hm=>.inl ((known i a (old i a ha) hm).app _),fun i a ha hm=>.inl (ConcN.fork_knows hx hy h.hears hd (known i a (old i a ha) hm)),?_,?_,fun op hop=>?_⟩
 ·rw [e];refine noRace_append (g:=k) (noRace_append (g:=0) (h.clean said) (fun op hop=>by simp at hop;subst hop;exact hx.1) (fun i a _ op hop b hb _=>?_)) (fun op hop=>by simp at hop;subst hop;exact hy.1) (fun i a _ op hop b hb _=>?_)
  ·simp at hop;subst hop;rw [hx.2] at hb;cases hb
  ·simp at hop;subst hop;rw [hy.2] at hb;cases hb
 ·rw [bm t 0 _ (fun op hop=>(hn op hop).2.2)];exact h.hears
 ·rw [bm t k _ (fun op hop=>(hn op hop).2.2)];exact hd
 ·rcases Array.mem_append.1 hop with k|k
  ·exact h.seen op k
  ·exact (hn op k).2.1
structure PhC (c pc:Nat)(ρ':Ren)(B:Nat)(t:Trace):Prop where
 clean:∀said,¬Race said t
 k0:∀i a,touchAt t i=some a->a.loc.isMemory=true->Knows t 0 i\/(Before t i pc/\Tk ρ' a)
 act:t.act? pc=some (.close c)
 heard:t.heard pc
 h0:Deaf t 0=0
 seen:∀op∈t,op.act.low B
variable {c pc:Nat}
theorem mm {i:Nat}(h:t.heard i):(t++u).heard i:=by
 obtain ⟨g,h1,h2⟩:=h;have hi:i<t.size:=by
  unfold Trace.g? at h1;obtain ⟨x,hx,_⟩:=Option.map_eq_some_iff.1 h1;exact lt_size_of_getElem? hx
 exact ⟨g,g?_old h1,by rw [Conc.deaf_old (by omega)];exact h2⟩
theorem act?_keep {i:Nat}{a:MemAct}(h:t.act? i=some a):(t++u).act? i=some a:=by rw [Conc.act?_old (Conc.lt_of_act? h)];exact h
theorem PhT.close (h:PhT 0 q ρ ρ' B t){y:MemOp}(hy:y.g=q/\y.act=.close c)(hc:c<B):PhC c t.size ρ' B (t++#[y]):=by
 have hlast:(t++#[y])[t.size]?=some y:=by rw [Array.getElem?_append_right (lR _)];simp
 refine ⟨fun said=>noRace_append (g:=q) (h.clean said) (fun op hop=>by simp at hop;subst hop;exact hy.1) (fun i a _ op hop b hb _=>by simp at hop;subst hop;rw [hy.2] at hb;cases hb),fun i a ha hm=>?_,by rw [Conc.act?_of hlast,hy.2],⟨q,by simp [Trace.g?,hy.1],by rw [Conc.deaf_old (lR _)];exact h.hq⟩,?_,fun op hop=>?_⟩
 ·obtain ⟨x,hx,hxa⟩:=touch_of ha;rcases getElem?_append_cases hx with ⟨hi,hx'⟩|⟨_,hxu⟩
  ·rcases h.kp i a (by rw [touchAt_of hx'];exact hxa) hm with k|⟨k1,k2⟩
   ·exact .inl (k.app _)
   ·refine .inr ⟨.inr (Conc.hb_po hi hx hlast ?_),k2⟩;have:x.g=q:=by simpa [Trace.g?,hx'] using k1
    rw [this,hy.1]
  ·simp at hxu;subst hxu;rw [hy.2] at hxa;cases hxa
 ·rw [bm t 0 _ (fun op hop=>by simp at hop;subst hop;rw [hy.2];exact ⟨by simp,by simp⟩)];exact h.hp
 ·rcases Array.mem_append.1 hop with k|k
  ·exact h.seen op k
  ·simp at k;subst k;rw [hy.2];exact hc
theorem PhC.app (h:PhC c pc ρ' B t)(hF:Far ρ1 ρ')(hB:B<=B')(hu:∀op∈u,op.g=0/\op.act.low B'/\(op.act≠.mark .disable/\op.act≠.mark .enable)/\∀a,op.act.touch?=some a->Tk ρ1 a):PhC c pc ρ' B' (t++u):=by
 refine ⟨fun said=>noRace_append (h.clean said) (fun op hop=>(hu op hop).1) (fun i a ha op hop b hb hc=>?_),fun i a ha hm=>?_,act?_keep h.act,mm h.heard,?_,fun op hop=>?_⟩
 ·rcases h.k0 i a ha hc.2.1 with k|⟨-,k⟩
  ·exact k
  ·exact absurd hc (hF.symm.no k ((hu op hop).2.2.2 b hb) said)
 ·obtain ⟨x,hx,hxa⟩:=touch_of ha;rcases getElem?_append_cases hx with ⟨_,hx'⟩|⟨_,hxu⟩
  ·exact (h.k0 i a (by rw [touchAt_of hx'];exact hxa) hm).imp (·.app u) (fun k=>⟨k.1.app u,k.2⟩)
  ·have:=knows_own hx;rw [(hu x hxu).1] at this;exact .inl this
 ·rw [bm t 0 u (fun op hop=>(hu op hop).2.2.1)];exact h.h0
 ·rcases Array.mem_append.1 hop with k|k
  ·exact MemAct.low_mono hB (h.seen op k)
  ·exact (hu op k).2.1
theorem PhC.mute (h:PhC c pc ρ' B t){g:Nat}(h1:g≠0){fn:FuncId}{pos:String}{es:Array Event}(hm:∀e∈es,e.mute=true):PhC c pc ρ' B (t++MemOp.ofEvents g fn pos es):=by
 have hu:∀op∈MemOp.ofEvents g fn pos es,op.g=g/\op.act.touch?=none/\op.act.low B:=fun op hop=>by
  obtain ⟨e,he,rfl⟩:=Conc.mem_ofEvents hop;exact ⟨rfl,Conc.touch_mute (hm e he),Conc.low_mute (hm e he) B⟩
 generalize MemOp.ofEvents g fn pos es=u at hu;refine ⟨fun said=>noRace_append (h.clean said) (fun op hop=>(hu op hop).1) (fun i a ha op hop b hb hc=>by rw [(hu op hop).2.1] at hb;cases hb),fun i a ha hm=>?_,act?_keep h.act,mm h.heard,?_,fun op hop=>?_⟩
 ·obtain ⟨x,hx,hxa⟩:=touch_of ha;rcases getElem?_append_cases hx with ⟨_,hx'⟩|⟨_,hxu⟩
  ·exact (h.k0 i a (by rw [touchAt_of hx'];exact hxa) hm).imp (·.app u) (fun k=>⟨k.1.app u,k.2⟩)
  ·rw [(hu x hxu).2.1] at hxa;cases hxa
 ·rw [Conc.Deaf_other t h1 u (fun op hop=>(hu op hop).1)];exact h.h0
 ·rcases Array.mem_append.1 hop with k|k
  ·exact h.seen op k
  ·exact (hu op k).2.2
theorem PhC.done (h:PhC c pc ρ' B t){y:MemOp}(hy:y.g=0/\y.act=.recvClosed c)(hc:c<B):Past gq B (t++#[y]):=by
 have hlast:(t++#[y])[t.size]?=some y:=by rw [Array.getElem?_append_right (lR _)];simp
 have hh:(t++#[y]).heard t.size:=⟨0,by simp [Trace.g?,hy.1],by rw [Conc.deaf_old (lR _)];exact h.h0⟩;have edge:HappensBefore (t++#[y]) pc t.size:=.single (.inr ⟨.closed (act?_keep h.act) (by rw [Conc.act?_of hlast,hy.2]),mm h.heard,hh⟩);have known:∀i a,touchAt (t++#[y]) i=some a->a.loc.isMemory=true->Knows (t++#[y]) 0 i:=fun i a ha hm=>by
  obtain ⟨x,hx,hxa⟩:=touch_of ha;rcases getElem?_append_cases hx with ⟨_,hx'⟩|⟨_,hxu⟩
  ·rcases h.k0 i a (by rw [touchAt_of hx'];exact hxa) hm with k|⟨k,-⟩
   ·exact k.app _
   ·exact ⟨t.size,y,hlast,hy.1,(k.app _).trans (.inr edge)⟩
  ·simp at hxu;subst hxu;rw [hy.2] at hxa;cases hxa
 refine ⟨fun said=>noRace_append (g:=0) (h.clean said) (fun op hop=>by simp at hop;subst hop;exact hy.1) (fun i a _ op hop b hb _=>by simp at hop;subst hop;rw [hy.2] at hb;cases hb),fun i a ha hm=>.inl (known i a ha hm),fun i g hg hne hcn=>?_,?_,fun op hop=>?_⟩
 ·obtain ⟨a,ha,hm,-⟩:=hcn;obtain ⟨j,z,hz,hzg,hb⟩:=known i a ha hm;refine ⟨j,by unfold Trace.g?;rw [hz];exact congrArg some hzg,?_⟩;rcases hb with rfl|hb
  ·rw [Trace.g?,hz] at hg;exact absurd (by simpa [hzg] using hg.symm) hne
  ·exact hb
 ·rw [bm t 0 _ (fun op hop=>by simp at hop;subst hop;rw [hy.2];exact ⟨by simp,by simp⟩)];exact h.h0
 ·rcases Array.mem_append.1 hop with k|k
  ·exact h.seen op k
  ·simp at k;subst k;rw [hy.2];exact hc
end
end
section
open Go
open Go.Conc (crowd Past EvL Deaf QuitsD woken awake crowd_pick runT_crowd_go rcase scase parked ph)
theorem vr (p:Program)(g:Goroutine)(h:g.callers≠[])(w:World):stepG p true g w=stepG p false g w:=by
 obtain ⟨fr,cs,st,dy,of⟩:=g;cases cs with
 |nil=>exact absurd rfl h
 |cons c cs=>
  have e1:∀ (d:Option Dying) (v:Value) (u:World),doReturn p true fr (c::cs) d v u=doReturn p false fr (c::cs) d v u:=fun d v u=>rfl
  have e2:∀ (d:Option Dying),unwind p true fr (c::cs) d w=unwind p false fr (c::cs) d w:=fun d=>by
   unfold unwind;simp only [e1]
  have e3:∀ (d:Option Dying),stepG.exec p true true fr (c::cs) d w=stepG.exec p false true fr (c::cs) d w:=fun d=>by
   unfold stepG.exec;simp only [e1]
  simp only [stepG,e2,e3]
def Flat (v:Value):Prop:=∀ρ,RV ρ v v/\∀v',RV ρ v v'->v'=v
structure Side (P:Program) [Two P](X:List Frame×List Frame)(ρ:Ren)(h g:Goroutine)(V W:World)(cV c:Nat)(L:List Value):Prop where
 go:RGo P ρ X h g
 sim:br ρ V W
 gid:GId P ρ
 ext:fh P ρ.F
 calm:ρ.F ft=false/\ρ.F j8=false
 loose:ρ.loose=true/\ρ.wide=true
 ch:ρ.ch cV
 pair:ρ cV c
 row:∃n b s q tm,V.heap[cV]?=some (.chan n b true s q tm)/\b.toList=L
structure Snd (P:Program) [Two P](X:List Frame×List Frame)(ρ:Ren)(h g:Goroutine)(V W:World)(cs c:Nat)(L:List Value):Prop where
 go:RGo P ρ X h g
 sim:br ρ V W
 gid:GId P ρ
 ext:fh P ρ.F
 calm:ρ.F Dq=false/\ρ.F j8=false
 unmk:∀f,¬Mk ρ.F f=true
 loose:ρ.loose=true/\ρ.wide=false
 ch:∀x,ρ.ch x↔x=cs
 pair:ρ cs c
 row:∃n b s q tm,V.heap[cs]?=some (.chan n b false s q tm)/\b.toList=L
 only:∀ (a n:Nat) b s q tm,V.heap[a]?=some (.chan n b false s q tm)->a=cs
section
variable {P:Program} [Two P] {X:List Frame×List Frame} {ρ:Ren} {h g h':Goroutine} {V V' W:World} {cV c:Nat} {L:List Value}
omit [Two P] in
theorem RFs.len1 {ρ:Ren}{X:List Frame×List Frame}{l l':List Frame}(h:RFs P ρ X l l'):X.1.length<=l.length:=by
 induction h with
 |base=>exact lR _
 |cons _ _ _ ih=>simp only [lC];omega
theorem mn (hZ:bB P)(hN:bH P)(m:Bool)(hgo:RGo P ρ X h g)(hb:Base X h.frame g.callers)(S:br ρ V W)(hI:GId P ρ)(hE:fh P ρ.F)(d:Nat)(hm:stepG P.alt m h (V.on W.tape d)=stepG P.alt true h (V.on W.tape d))(hl:LS P.alt h (V.on W.tape d) h' V')(hmk:∀f a' fr' cs' u' es',Mk ρ.F f=true->stepG P m g (W.at d)=.go {frame:=Frame.enter P f a' .normal,callers:=fr'::cs',status:=.running,dying:=none} u' es'->False):
  stepG P m h (V.on W.tape d)=stepG P.alt true h (V.on W.tape d)/\cJ P ρ X (V.on W.tape d) (W.at d) (stepG P.alt true h (V.on W.tape d)) (stepG P m g (W.at d)):=by
 have S':br ρ (V.on W.tape d) (W.at d):=⟨S.obj,S.fix,S.chan,S.os,S.pin⟩;have sf:=il hZ hE hN hI m hgo hb S' (fun i=>rfl);rcases sf.rel with ⟨-,hlo⟩|⟨halt,hst⟩|⟨f,_,_,_,_,_,_,_,_,_,_,_,A⟩
 ·exfalso;have hlo:Lost (stepG P.alt m h (V.on W.tape d)):=hlo;rw [hm] at hlo;cases hl with
  |go e hr2 hd2=>
   rw [e] at hlo;obtain ⟨⟨_,_,e2,-⟩,-⟩:=hlo;rw [hd2] at e2;cases e2
  |comm e _=>rw [e] at hlo;exact hlo.elim
 ·have halt:stepG P.alt m h (V.on W.tape d)=stepG P m h (V.on W.tape d):=halt;have hst:cJ P ρ X (V.on W.tape d) (W.at d) (stepG P m h (V.on W.tape d)) (stepG P m g (W.at d)):=hst;rw [<-halt,hm] at hst;exact ⟨halt.symm.trans hm,hst⟩
 ·exact (hmk f _ _ _ _ _ A.mark A.there).elim
theorem ln (hZ:bB P)(hN:bH P)(m:Bool)(hgo:RGo P ρ X h g)(hb:Base X h.frame g.callers)(S:br ρ V W)(hI:GId P ρ)(hE:fh P ρ.F)(hmk:∀f,¬Mk ρ.F f=true)(d:Nat)(hm:stepG P.alt m h (V.on W.tape d)=stepG P.alt true h (V.on W.tape d))(hl:LS P.alt h (V.on W.tape d) h' V'):
  stepG P m h (V.on W.tape d)=stepG P.alt true h (V.on W.tape d)/\cJ P ρ X (V.on W.tape d) (W.at d) (stepG P.alt true h (V.on W.tape d)) (stepG P m g (W.at d)):=
 mn hZ hN m hgo hb S hI hE d hm hl (fun f _ _ _ _ _ h _=>hmk f h)
omit [Two P] in
theorem br.other (S:br ρ V W){W':World}{x0 b0:Nat}(h0:ρ x0 b0)(hos:W'.os=W.os)(hs:∀x b,ρ x b->b≠b0->W'.heap[b]?=W.heap[b]?)(hc:∀o o',V.heap[x0]?=some o->W.heap[b0]?=some o'->RO ρ o o'->∃o2,W'.heap[b0]?=some o2/\RO ρ o o2)(hnc:∀c e z,V.heap[x0]?≠some (.cells c e z)):br ρ V W':=by
 refine ⟨fun a b hab=>?_,S.fix,S.chan,hos.trans S.os,fun hb a c0 hp=>?_⟩
 rotate_left
 ·obtain ⟨b,hab,hP⟩:=S.pin hb a c0 hp;refine ⟨b,hab,hP.same rfl (hs a b hab (fun e=>?_))⟩;subst e;obtain rfl:=ρ.inj _ _ _ hab h0;obtain ⟨c,t,z,_,_,k1,-⟩:=hP;exact hnc c t z k1
 obtain ⟨o,o',h1,h2,h3⟩:=S.obj a b hab;by_cases hb:b=b0
 ·subst hb;obtain rfl:=ρ.inj _ _ _ hab h0;obtain ⟨o2,k1,k2⟩:=hc o o' h1 h2 h3;exact ⟨o,o2,h1,k1,k2⟩
 ·exact ⟨o,o',h1,by rw [hs a b hab hb];exact h2,h3⟩
def jv (W:World)(c:Nat)(n:Nat)(b:List Value)(cl:Bool)(s q:Nat)(tm:Bool):Prop:=∃a,W.heap[c]?=some (.chan n a cl s q tm)/\a.toList=b
theorem Side.rowW (S:Side P X ρ h g V W cV c L):∃n b cl s q tm,jv W c n b cl s q tm:=by
 obtain ⟨n,b,s,q,tm,h1,h2⟩:=S.row;obtain ⟨o,o',k1,k2,k3⟩:=S.sim.obj _ _ S.pair;rw [h1] at k1;cases k1;cases k3 with
 |chan=>exact ⟨_,_,_,_,_,_,_,k2,rfl⟩
theorem Side.other (S:Side P X ρ h g V W cV c L){W':World}(hos:W'.os=W.os)(hs:∀x b,ρ x b->b≠c->W'.heap[b]?=W.heap[b]?){n n':Nat}{b b':List Value}{cl cl':Bool}{s q s' q':Nat}{tm:Bool}(h1:jv W c n b cl s q tm)(h2:jv W' c n' b' cl' s' q' tm):Side P X ρ h g V W' cV c L:=by
 obtain ⟨a,h1,-⟩:=h1;obtain ⟨a',h2,-⟩:=h2;refine ⟨S.go,S.sim.other S.pair hos hs (fun o o' k1 k2 k3=>?_) (fun _ _ _ k=>by obtain ⟨_,_,_,_,_,k2,-⟩:=S.row;rw [k2] at k;cases k),S.gid,S.ext,S.calm,S.loose,S.ch,S.pair,S.row⟩;rw [h1] at k2;cases k2;refine ⟨_,h2,?_⟩;cases k3 with
 |chan=>exact .chan _ _ _ _ _ _ _ _ _ (.inl S.loose.1) (.inl S.loose.2)
 |dead=>obtain ⟨_,_,_,_,_,k,-⟩:=S.row;rw [k] at k1;cases k1
theorem Snd.rowW {cs:Nat}(S:Snd P X ρ h g V W cs c L):∃n b s q tm,jv W c n b false s q tm:=by
 obtain ⟨n,b,s,q,tm,h1,h2⟩:=S.row;obtain ⟨o,o',k1,k2,k3⟩:=S.sim.obj _ _ S.pair;rw [h1] at k1;cases k1;cases k3 with
 |chan _ _ _ cl' _ _ _ _ _ hb hc=>
  obtain rfl:=hc.resolve_left (by rw [S.loose.2];exact fun h=>by cases h);exact ⟨_,_,_,_,_,_,k2,rfl⟩
theorem Snd.other {cs:Nat}(S:Snd P X ρ h g V W cs c L){W':World}(hos:W'.os=W.os)(hs:∀x b,ρ x b->b≠c->W'.heap[b]?=W.heap[b]?){n n':Nat}{b b':List Value}{s q s' q':Nat}{tm:Bool}(h1:jv W c n b false s q tm)(h2:jv W' c n' b' false s' q' tm):Snd P X ρ h g V W' cs c L:=by
 obtain ⟨a,h1,-⟩:=h1;obtain ⟨a',h2,-⟩:=h2;refine ⟨S.go,S.sim.other S.pair hos hs (fun o o' k1 k2 k3=>?_) (fun _ _ _ k=>by obtain ⟨_,_,_,_,_,k2,-⟩:=S.row;rw [k2] at k;cases k),S.gid,S.ext,S.calm,S.unmk,S.loose,S.ch,S.pair,S.row,S.only⟩;rw [h1] at k2;cases k2;refine ⟨_,h2,?_⟩;cases k3 with
 |chan _ _ _ _ _ _ _ _ _ hb hc=>exact .chan _ _ _ _ _ _ _ _ _ (.inl S.loose.1) hc
 |dead=>obtain ⟨_,_,_,_,_,k,-⟩:=S.row;rw [k] at k1;cases k1
theorem Side.stays (S:Side P X ρ h g V W cV c L){W':World}(hos:W'.os=W.os)(hs:∀x b,ρ x b->b≠c->W'.heap[b]?=W.heap[b]?)(hc:W'.heap[c]?=W.heap[c]?):Side P X ρ h g V W' cV c L:=by
 obtain ⟨n,b,cl,s,q,tm,a,h1,h2⟩:=S.rowW;exact S.other hos hs ⟨a,h1,h2⟩ ⟨a,hc.trans h1,h2⟩
theorem Snd.stays {cs:Nat}(S:Snd P X ρ h g V W cs c L){W':World}(hos:W'.os=W.os)(hs:∀x b,ρ x b->b≠c->W'.heap[b]?=W.heap[b]?)(hc:W'.heap[c]?=W.heap[c]?):Snd P X ρ h g V W' cs c L:=by
 obtain ⟨n,b,s,q,tm,a,h1,h2⟩:=S.rowW;exact S.other hos hs ⟨a,h1,h2⟩ ⟨a,hc.trans h1,h2⟩
end
end
